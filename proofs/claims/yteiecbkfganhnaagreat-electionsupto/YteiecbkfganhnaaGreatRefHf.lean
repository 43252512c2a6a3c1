/- The document's node: stepAppend of a term that is no less. -/
import Derived.Test.YteiecbkfganhnaaGreatKGStep
import Derived.Test.YteiecbkfganhnaaGreatKTake

namespace Go.Proofs.YteiecbkfganhnaaGreat

open Go.RowKit Go.MuLone

set_option maxRecDepth 100000 in
set_option maxHeartbeats 8000000 in
theorem refStepAppend_far (rb : Nat) (s : Nd) (v : RV) (m : Msg) (w : World) (h : RB w rb s v []) (hok : Ok s) (hm : SoundM m s.id s.n) (eo : Option Addr) (ec : Nat) (he : EntsIn w (.slice eo m.ents.length ec) m.ents) (hec : m.ents.length ≤ ec) (hap : ∀ a, eo = some a → m.ents ≠ [] → ¬ v.has rb a.block) (h1 : ¬ m.term < s.term) (h2 : ¬ (m.term = s.term ∧ s.role = 3)) (hfar : (s.last : Int) < m.index ∨ s.termOf m.index.toNat ≠ m.logTerm) :
    Calls Tryz.prog 76 #[.pointer (some ⟨rb, 0, none⟩), magg m (.slice eo m.ents.length ec)] w fun e w' => e = .returned (.tuple #[]) ∧ RDid rb v [] w (s.stepAppend m) w' := by
  have hi0 := hm.i0
  have hi1 := hm.i1
  have hl3 := hm.len
  have hc0 := hm.c0
  have hc1 := hm.c1
  obtain ⟨mk, mf, mt, mT, mi, ml, mc, me, mg⟩ := m
  simp only at h1 h2 he hi0 hi1 hl3 hc0 hc1 hec hap hfar
  have HB := hide (below_alloc w (mbox mk mf mt mT mi ml mc (.slice eo me.length ec) mg))
  have HM := hide (heap_alloc_new w (mbox mk mf mt mT mi ml mc (.slice eo me.length ec) mg))
  have H := hide (h.below (unhide HB))
  have hlt := h.lt
  have hne : ¬ rb = w.heap.size := by omega
  have hne2 : ¬ w.heap.size = rb := by omega
  have c2 := h.c2
  have c6 := h.c6
  have d1 : decide (mT < s.term) = false := decide_eq_false h1
  have HE := hide (ents_below he (unhide HB))
  have HEB : Hid (∀ w3 : World, Er rb v v w w3 → EntsIn w3 (.slice eo me.length ec) me) := fun w3 hE3 => by
    obtain ⟨ao, cap, hv, hc, hcell⟩ := he
    simp only [Value.slice.injEq, true_and] at hv
    obtain ⟨rfl, rfl⟩ := hv
    refine ⟨eo, ec, rfl, hc, fun k x hk => ?_⟩
    obtain ⟨b, off, rfl, a1, a2⟩ := hcell k x hk
    have hb := hE3.block b (block_lt_of_cell a1) (hap _ rfl (fun e => by rw [e] at hk; simp at hk))
    exact ⟨b, off, rfl, (World.cell?_of_block (a := ⟨b, _, none⟩) hb).trans a1, (World.cell?_of_block (a := ⟨b, _, none⟩) hb).trans a2⟩
  have HMB : Hid (¬ v.has rb w.heap.size) := by
    show ¬ _
    rintro (hx | hx | hx | hx | hx | hx | hx)
    · omega
    · have := owns_lt h.log _ hx; omega
    · have := owns_lt h.gr _ hx; omega
    · have := owns_lt h.nx _ hx; omega
    · have := owns_lt h.mt _ hx; omega
    · have := owns_lt h.hd _ hx; omega
    · have := owns_lt h.row _ hx; omega
  have hs60 := hok.len
  have hcom := hok.com
  have HS : Hid (s.stepAppend ⟨mk, mf, mt, mT, mi, ml, mc, me, mg⟩ = if (s.last : Int) < mi ∨ s.termOf mi.toNat ≠ ml then (s.appS ⟨mk, mf, mt, mT, mi, ml, mc, me, mg⟩, [(s.appS ⟨mk, mf, mt, mT, mi, ml, mc, me, mg⟩).reply 5 mf (s.appS ⟨mk, mf, mt, mT, mi, ml, mc, me, mg⟩).term (min (s.last : Int) (max 0 (mi - 1))) false]) else if 60 < mi.toNat + me.length ∨ Nd.keeps s.log s.commit mi.toNat me = false then (s.appS ⟨mk, mf, mt, mT, mi, ml, mc, me, mg⟩, []) else ({ s.appS ⟨mk, mf, mt, mT, mi, ml, mc, me, mg⟩ with log := Nd.takes s.log mi.toNat me, commit := max s.commit (min mc.toNat (mi.toNat + me.length)) }, [(s.appS ⟨mk, mf, mt, mT, mi, ml, mc, me, mg⟩).reply 5 mf (s.appS ⟨mk, mf, mt, mT, mi, ml, mc, me, mg⟩).term ((mi.toNat + me.length : Nat) : Int) true])) := by
    show _ = _
    unfold Nd.stepAppend
    rw [if_neg h1, if_neg h2]
  have HFO : Hid (s.appS ⟨mk, mf, mt, mT, mi, ml, mc, me, mg⟩ = { s.follow mT mf with elapsed := 0 }) := rfl
  have H2 := hide h2
  obtain ⟨idx, hidx⟩ : ∃ idx : Nat, mi = (idx : Int) := ⟨mi.toNat, by omega⟩
  subst hidx
  have htn : ((idx : Int)).toNat = idx := by omega
  rw [htn] at HS hfar
  have HFAR := hide hfar
  clear hfar
  have HTN := hide htn
  clear htn
  clear h hok hm h1 h2 he hap
  go_enter Tryz.func76, Tryz.ntmps76
  go_wp2
  go_quiet (fail)
  revert nq
  intro n1
  go_upto_region 3 with fail
  go_cut [41] (fun u wx => u = .bool false ∧ ∃ q, wx = (w.alloc (mbox mk mf mt mT (idx : Int) ml mc (.slice eo me.length ec) mg)).drewN q)
  case first =>
    by_cases hx : mT = s.term
    · have d2 : (mT == s.term) = true := by simpa using hx
      have hr : ¬ s.role = 3 := fun hr => unhide H2 ⟨hx, hr⟩
      have d3 : (s.role == 3) = false := by simpa using hr
      clear hx hr
      go_quiet (fail)
      go_wp2_with fail
      go_meet
      exact ⟨rfl, n1 + nq, World.drewN_drewN _ _ _⟩
    · have d2 : (mT == s.term) = false := by simpa using hx
      clear hx
      go_quiet (fail)
      go_wp2_with fail
      go_meet
      exact ⟨rfl, n1 + nq, World.drewN_drewN _ _ _⟩
  case rest =>
    obtain ⟨rfl, q, hwc⟩ := hcut
    have HRc : Hid (RB wc rb s v []) := by show RB _ _ _ _ _; rw [hwc]; exact RB.drewN (unhide H) q
    have HEc : Hid (Er rb v v w wc) := by show Er _ _ _ _ _; rw [hwc]; exact (Er.ofBelow (unhide HB)).drewN q
    have HMc : Hid (wc.heap[w.heap.size]? = some (.cells #[.int .i64 mk, .int .i64 mf, .int .i64 mt, .int .i64 mT, .int .i64 (idx : Int), .int .i64 ml, .int .i64 mc, .slice eo me.length ec, .bool mg] 30 (0, 0))) := by show _ = _; rw [hwc]; exact unhide HM
    have HEEc : Hid (EntsIn wc (.slice eo me.length ec) me) := by show EntsIn _ _ _; rw [hwc]; exact ents_below (unhide HE) ⟨rfl, rfl, rfl, Nat.le_refl _, fun _ _ => rfl⟩
    clear hwc c2 c6 d1 H HM HE
    have x1 : wc.cell? ⟨w.heap.size, 1, none⟩ = some (.int .i64 mf) := cell_of_row wc _ 1 _ _ _ (unhide HMc)
    have x3 : wc.cell? ⟨w.heap.size, 3, none⟩ = some (.int .i64 mT) := cell_of_row wc _ 3 _ _ _ (unhide HMc)
    go_wp2_with (first | (go_at_call 60; fail))
    refine (refFollow_any rb s v [] mT mf wc (unhide HRc)).mono ?_
    rintro e w3 ⟨rfl, hR3, hE3⟩
    have HE3 := hide ((unhide HEc).trans hE3)
    have hM3 := (hE3.block w.heap.size (Array.getElem?_eq_some_iff.1 (unhide HMc)).1 (unhide HMB)).trans (unhide HMc)
    have k8 := hR3.c8
    have f8 := hR3.free 8
    have HR4 : Hid (RB (w3.setCell ⟨rb, 8, none⟩ (.int .i64 0)) rb (s.appS ⟨mk, mf, mt, mT, (idx : Int), ml, mc, me, mg⟩) v []) := hR3.putElapsed 0
    have HE4 : Hid (Er rb v v w (w3.setCell ⟨rb, 8, none⟩ (.int .i64 0))) := (unhide HE3).set (.inl (v.self rb)) 8 (.int .i64 0)
    have HM4 : Hid ((w3.setCell ⟨rb, 8, none⟩ (.int .i64 0)).heap[w.heap.size]? = some (.cells #[.int .i64 mk, .int .i64 mf, .int .i64 mt, .int .i64 mT, .int .i64 (idx : Int), .int .i64 ml, .int .i64 mc, .slice eo me.length ec, .bool mg] 30 (0, 0))) := (Below.heap_setCell _ _ _ _ (fun e => hne2 (by simpa using e))).trans hM3
    clear hR3 hE3 hM3 x1 x3
    go_upto_region 6 with fail
    generalize w3.setCell ⟨rb, 8, none⟩ (.int .i64 0) = W4 at *
    clear k8 f8 HEc HRc HMc HEEc HE3
    obtain ⟨sA, hsA⟩ : ∃ sA, s.appS ⟨mk, mf, mt, mT, (idx : Int), ml, mc, me, mg⟩ = sA := ⟨_, rfl⟩
    have eL : sA.log = s.log := by rw [← hsA]; show (s.follow mT mf).log = s.log; unfold Nd.follow; split <;> rfl
    have eC : sA.commit = s.commit := by rw [← hsA]; show (s.follow mT mf).commit = s.commit; unfold Nd.follow; split <;> rfl
    have eI : sA.id = s.id := by rw [← hsA]; show (s.follow mT mf).id = s.id; unfold Nd.follow; split <;> rfl
    have eLast : sA.last = s.last := by unfold Nd.last; rw [eL]
    have eT : ∀ k, sA.termOf k = s.termOf k := fun k => by unfold Nd.termOf; rw [eL]
    rw [hsA] at HR4
    simp only [hsA] at HS
    have HsA := hide hsA
    have EL := hide eL
    have EC := hide eC
    have EI := hide eI
    have ELast := hide eLast
    have ET := hide eT
    clear hsA eL eC eI eLast eT HFO
    obtain ⟨lo, lc, hlv⟩ := owns_form (unhide HR4).log
    have hllen : sA.log.length = s.log.length := by rw [unhide EL]
    rw [hllen] at hlv
    have HLV := hide hlv
    have k4 : W4.cell? ⟨rb, 4, none⟩ = some (.slice lo s.log.length lc) := by rw [(unhide HR4).c4, hlv]
    clear hllen hlv
    go_cut [67] (fun u wx => u = .bool (decide ((s.log.length : Int) < (idx : Int) ∨ s.termOf idx ≠ ml)) ∧ ∃ q, wx = W4.drewN q)
    case first =>
      have x4 : W4.cell? ⟨w.heap.size, 4, none⟩ = some (.int .i64 (idx : Int)) := cell_of_row W4 _ 4 _ _ _ (unhide HM4)
      have x5 : W4.cell? ⟨w.heap.size, 5, none⟩ = some (.int .i64 ml) := cell_of_row W4 _ 5 _ _ _ (unhide HM4)
      by_cases hgt : (s.log.length : Int) < (idx : Int)
      · have hB : decide ((s.log.length : Int) < (idx : Int) ∨ s.termOf idx ≠ ml) = true := decide_eq_true (.inl hgt)
        have HBB := hide hB
        clear hB
        go_quiet (fail)
        go_wp2_with fail
        go_meet
        exact ⟨by rw [unhide HBB], _, rfl⟩
      · have hile : idx ≤ s.log.length := by omega
        have hB : decide ((s.log.length : Int) < (idx : Int) ∨ s.termOf idx ≠ ml) = (s.termOf idx != ml) := by
          by_cases h9 : s.termOf idx = ml
          · rw [h9]; simp; omega
          · simp [h9]
        have HBB := hide hB
        have HIL : Hid (idx ≤ sA.last) := by show _ ≤ _; rw [unhide ELast]; exact hile
        have H60 : Hid (sA.last ≤ 60) := by show _ ≤ _; rw [unhide ELast]; exact hs60
        clear hB
        go_quiet ((go_at_call 105; exact Calls.quiet_of_same (refTermOf_at rb sA v [] idx _ _ (by exact RB.drewN (unhide HR4) _) (unhide HIL) (unhide H60) (unhide ET idx))))
        go_wp2_with fail
        go_meet
        exact ⟨by rw [unhide HBB], _, rfl⟩
    case rest =>
      obtain ⟨hu, q5, hwc⟩ := hcut
      have hbc : Below W4.heap.size W4 wc := by rw [hwc]; exact ⟨rfl, rfl, rfl, Nat.le_refl _, fun _ _ => rfl⟩
      clear hwc
      have HR5 := hide ((unhide HR4).below hbc)
      have HE5 := hide ((unhide HE4).trans (Er.ofBelow hbc))
      have HM5 := hide ((hbc.block w.heap.size (Array.getElem?_eq_some_iff.1 (unhide HM4)).1).trans (unhide HM4))
      have k5 := (hbc.cell (block_lt_of_cell k4)).trans k4
      clear hbc k4 HR4 HE4 HM4
      generalize wc = W6 at *
      by_cases hB : (s.log.length : Int) < (idx : Int) ∨ s.termOf idx ≠ ml
      · -- refused
        rw [decide_eq_true hB] at hu
        subst hu
        have HRES : Hid (s.stepAppend ⟨mk, mf, mt, mT, (idx : Int), ml, mc, me, mg⟩ = (sA, [sA.reply 5 mf sA.term (min (s.log.length : Int) (max 0 ((idx : Int) - 1))) false])) := by
          show _ = _
          rw [unhide HS]
          exact if_pos hB
        have x1 : W6.cell? ⟨w.heap.size, 1, none⟩ = some (.int .i64 mf) := cell_of_row W6 _ 1 _ _ _ (unhide HM5)
        have x4 : W6.cell? ⟨w.heap.size, 4, none⟩ = some (.int .i64 (idx : Int)) := cell_of_row W6 _ 4 _ _ _ (unhide HM5)
        have k2 := (unhide HR5).c2
        clear hB
        by_cases g1 : (s.log.length : Int) < (idx : Int) - 1
        · have hh : (min (s.log.length : Int) (max 0 ((idx : Int) - 1))) = (s.log.length : Int) := by omega
          rw [hh] at HRES
          have g2 : ¬ (s.log.length : Int) < 0 := by omega
          clear hh
          go_upto_region 12 with fail
          go_region_law (first | (go_simp; go_at_call 104; refine (refSend_any rb sA v [] { kind := 5, src := 0, dst := mf, term := sA.term, index := (s.log.length : Int), logTerm := 0, commit := 0, ents := [], granted := false } _ _ (RB.drew (unhide HR5)) (by simp) (nil_ents _) (fun y _ hy => by simp [Value.ownBlock] at hy)).mono ?_; rintro e w9 ⟨rfl, hS9⟩; replace hS9 := hide hS9))
          all_goals go_wp2
          all_goals (refine bodyPost_ret (v := .tuple #[]) (results_none rfl _ _ _) rfl ⟨rfl, ?_⟩; rw [unhide HRES]; exact rsent_did (unhide HE5).drew (unhide hS9))
        · by_cases g2 : (idx : Int) - 1 < 0
          · have hh : (min (s.log.length : Int) (max 0 ((idx : Int) - 1))) = 0 := by omega
            rw [hh] at HRES
            clear hh
            go_upto_region 12 with fail
            go_region_law (first | (go_simp; go_at_call 104; refine (refSend_any rb sA v [] { kind := 5, src := 0, dst := mf, term := sA.term, index := 0, logTerm := 0, commit := 0, ents := [], granted := false } _ _ (RB.drew (unhide HR5)) (by simp) (nil_ents _) (fun y _ hy => by simp [Value.ownBlock] at hy)).mono ?_; rintro e w9 ⟨rfl, hS9⟩; replace hS9 := hide hS9))
            all_goals go_wp2
            all_goals (refine bodyPost_ret (v := .tuple #[]) (results_none rfl _ _ _) rfl ⟨rfl, ?_⟩; rw [unhide HRES]; exact rsent_did (unhide HE5).drew (unhide hS9))
          · have hh : (min (s.log.length : Int) (max 0 ((idx : Int) - 1))) = (idx : Int) - 1 := by omega
            rw [hh] at HRES
            clear hh
            go_upto_region 12 with fail
            go_region_law (first | (go_simp; go_at_call 104; refine (refSend_any rb sA v [] { kind := 5, src := 0, dst := mf, term := sA.term, index := (idx : Int) - 1, logTerm := 0, commit := 0, ents := [], granted := false } _ _ (RB.drew (unhide HR5)) (by simp) (nil_ents _) (fun y _ hy => by simp [Value.ownBlock] at hy)).mono ?_; rintro e w9 ⟨rfl, hS9⟩; replace hS9 := hide hS9))
            all_goals go_wp2
            all_goals (refine bodyPost_ret (v := .tuple #[]) (results_none rfl _ _ _) rfl ⟨rfl, ?_⟩; rw [unhide HRES]; exact rsent_did (unhide HE5).drew (unhide hS9))
      · exact absurd (unhide HFAR) hB

end Go.Proofs.YteiecbkfganhnaaGreat
