/- The document's node: stepAppendReply at a leader: granted. -/
import Derived.Test.YteiecbkfganhnaaGreatKRefI
import Derived.Test.YteiecbkfganhnaaGreatKGStep
import Derived.Test.YteiecbkfganhnaaGreatKInvC

namespace Go.Proofs.YteiecbkfganhnaaGreat

open Go.RowKit Go.MuLone

set_option maxRecDepth 100000 in
set_option maxHeartbeats 2000000 in
theorem refStepAppendReply_on (rb f k : Nat) (s : Nd) (v : RV) (m : Msg) (ev : Value) (w : World) (h : RB w rb s v []) (hok : Ok s) (hev : ∃ ao n c, ev = .slice ao n c) (hg : m.granted = true) (hf : m.src = (f : Int)) (hfn : f < s.n) (hk : m.index = (k : Int)) (hk1 : k ≤ 1000000) (hr : s.role = 3) (hx : m.term = s.term) :
    Calls Tryz.prog 77 #[.pointer (some ⟨rb, 0, none⟩), magg m ev] w fun e w' => e = .returned (.tuple #[]) ∧ RDid rb v [] w (s.stepAppendReply m) w' := by
  obtain ⟨eo, en, ec, rfl⟩ := hev
  obtain ⟨mk, mf, mt, mT, mi, ml, mc, me, mg⟩ := m
  simp only at hg hx hf hk
  subst hg hf hx hk
  have HB := hide (below_alloc w (mbox mk (f : Int) mt s.term (k : Int) ml mc (.slice eo en ec) true))
  have HM := hide (heap_alloc_new w (mbox mk (f : Int) mt s.term (k : Int) ml mc (.slice eo en ec) true))
  have H := hide (h.below (unhide HB))
  have hlt := h.lt
  have hne : ¬ rb = w.heap.size := by omega
  have c2 := h.c2
  have c6 := h.c6
  rw [hr] at c6
  have HL := hide (hok.lead hr)
  have l60 := hok.len
  have hn7 := hok.n7
  have HOK := hide hok
  have HR0 := hide hr
  have HA : Hid (s.stepAppendReply ⟨mk, (f : Int), mt, s.term, (k : Int), ml, mc, me, true⟩ = if k ≤ s.last ∧ s.mt f < k then ((s.hears f).matched f k, if k + 1 ≤ s.last then [((s.hears f).matched f k).appendTo f] else []) else (s.hears f, [])) := by
    show _ = _
    simp only [Nd.stepAppendReply]
    rw [if_neg (by omega), if_pos ⟨hr, trivial⟩, if_pos trivial]
    rfl
  have i1 : (0 : Int) ≤ (f : Int) := by omega
  have i2 : (f : Int) < (s.n : Int) := by omega
  clear h hok hr
  go_enter Tryz.func77, Tryz.ntmps77
  go_wp2
  go_quiet (fail)
  go_wp2
  revert nq
  intro n1
  go_quiet (fail)
  go_upto_region 4 with fail
  have hR1 := RB.drewN (RB.drewN (unhide H) n1) nq
  have hE1 := hide ((Er.ofBelow (rb := rb) (v := v) (unhide HB)).drewN n1 |>.drewN nq)
  have hM1 : (((w.alloc (mbox mk (f : Int) mt s.term (k : Int) ml mc (.slice eo en ec) true)).drewN n1).drewN nq).heap[w.heap.size]? = _ := unhide HM
  generalize ((w.alloc (mbox mk (f : Int) mt s.term (k : Int) ml mc (.slice eo en ec) true)).drewN n1).drewN nq = W at *
  have x1 : W.cell? ⟨w.heap.size, 1, none⟩ = some (.int .i64 (f : Int)) := cell_of_row W _ 1 _ _ _ hM1
  have x4 : W.cell? ⟨w.heap.size, 4, none⟩ = some (.int .i64 (k : Int)) := cell_of_row W _ 4 _ _ _ hM1
  have x8 : W.cell? ⟨w.heap.size, 8, none⟩ = some (.bool true) := cell_of_row W _ 8 _ _ _ hM1
  have k13 := hR1.c13
  obtain ⟨hg, hc, hhv, hfz, hcl, hglt, hgrb⟩ := hR1.hdAt hfn
  rw [hhv] at k13
  have hgm : ¬ hg = w.heap.size := fun e => by
    have h3 : (Value.slice (some ⟨hg, 0, none⟩) s.n hc).ownBlock = some hg := rfl
    exact owns_apart hR1.hd (by rw [hM1]) (by decide) (by rw [hhv, h3, e])
  have hgm2 : ¬ w.heap.size = hg := fun e => hgm e.symm
  have hgr2 : ¬ rb = hg := fun e => hgrb e.symm
  have HR2 : Hid (RB (W.setCell ⟨hg, f, none⟩ (.bool true)) rb (s.hears f) v []) := hR1.putHd (i := f) hhv true
  have HE2 := hide ((unhide hE1).set (.inl (show v.has rb hg from .inr (.inr (.inr (.inr (.inr (.inl (by rw [hhv]; rfl)))))))) f (.bool true))
  have HM2 : Hid ((W.setCell ⟨hg, f, none⟩ (.bool true)).heap[w.heap.size]? = some (mbox mk (f : Int) mt s.term (k : Int) ml mc (.slice eo en ec) true)) := (Below.heap_setCell _ _ _ _ (fun e => hgm2 (by simpa using e))).trans hM1
  have HHV := hide hhv
  clear hR1 hM1 hhv c2 c6
  go_upto_region 6 with fail
  generalize W.setCell ⟨hg, f, none⟩ (.bool true) = W2 at *
  clear x1 x4 x8 k13 hfz hcl hglt hgrb hgm hgm2 hgr2
  have x4 : W2.cell? ⟨w.heap.size, 4, none⟩ = some (.int .i64 (k : Int)) := cell_of_row W2 _ 4 _ _ _ (unhide HM2)
  have x8 : W2.cell? ⟨w.heap.size, 8, none⟩ = some (.bool true) := cell_of_row W2 _ 8 _ _ _ (unhide HM2)
  obtain ⟨ng, nc, hnv, nz, ncl, nlt, nrb⟩ := (unhide HR2).nxAt hfn
  obtain ⟨mg, mc2, hmv, mz, mcl, mlt, mrb⟩ := (unhide HR2).mtAt hfn
  have k11 := (unhide HR2).c11
  rw [hnv] at k11
  have k12 := (unhide HR2).c12
  rw [hmv] at k12
  have eN : (s.hears f).nx f = s.nx f := rfl
  have eM : (s.hears f).mt f = s.mt f := rfl
  have en : (s.hears f).n = s.n := rfl
  rw [eN] at ncl
  rw [eM] at mcl
  rw [en] at k11 k12
  have HNV := hide hnv
  have HMV := hide hmv
  clear eN eM en hnv hmv
  obtain ⟨lo, lc, hlv⟩ := owns_form (unhide HR2).log
  have hll : (s.hears f).log = s.log := rfl
  rw [hll] at hlv
  have k4 := (unhide HR2).c4
  rw [hlv] at k4
  have HLV := hide hlv
  have hmm := (unhide HL).mm f hfn
  have hlast : s.last = s.log.length := rfl
  rw [hlast] at hmm l60 HA
  clear hll hlv hlast
  by_cases g1 : (k : Int) ≤ (s.log.length : Int)
  · have e1 : decide (k ≤ s.log.length) = true := decide_eq_true (by omega)
    have d1 : decide ((k : Int) ≤ (s.log.length : Int)) = true := decide_eq_true g1
    by_cases g2 : (s.mt f : Int) < (k : Int)
    · have e2 : decide (s.mt f < k) = true := decide_eq_true (by omega)
      have d2 : decide ((s.mt f : Int) < (k : Int)) = true := decide_eq_true g2
      have HA2 : Hid (s.stepAppendReply ⟨mk, (f : Int), mt, s.term, (k : Int), ml, mc, me, true⟩ = ((s.hears f).matched f k, if k + 1 ≤ s.log.length then [((s.hears f).matched f k).appendTo f] else [])) := by show _ = _; rw [unhide HA]; exact if_pos ⟨by omega, by omega⟩
      have hnm : ¬ ng = mg := fun e => (unhide HR2).nm ng (by rw [unhide HNV]; rfl) (by rw [unhide HMV, e]; rfl)
      have hnm2 : ¬ mg = ng := fun e => hnm e.symm
      have hnw : ¬ ng = w.heap.size := fun e => owns_apart (unhide HR2).nx (by rw [unhide HM2]) (by decide) (by rw [unhide HNV, e]; rfl)
      have hmw : ¬ mg = w.heap.size := fun e => owns_apart (unhide HR2).mt (by rw [unhide HM2]) (by decide) (by rw [unhide HMV, e]; rfl)
      have hk60 : k ≤ 60 := by omega
      have HKL : Hid (k ≤ s.log.length) := by show _ ≤ _; omega
      clear g1 g2
      go_upto_region 14 with fail
      go_quiet (fail)
      go_upto_region 15 with fail
      have HR3 : Hid (RB (W2.drewN nq) rb (s.hears f) v []) := RB.drewN (unhide HR2) nq
      have HE3 : Hid (Er rb v v w (W2.drewN nq)) := (unhide HE2).drewN nq
      have HM3 : Hid ((W2.drewN nq).heap[w.heap.size]? = some (mbox mk (f : Int) mt s.term (k : Int) ml mc (.slice eo en ec) true)) := unhide HM2
      have y4 : (W2.drewN nq).cell? ⟨w.heap.size, 4, none⟩ = some (.int .i64 (k : Int)) := x4
      have y12 : (W2.drewN nq).cell? ⟨rb, 12, none⟩ = _ := k12
      have ymz : (W2.drewN nq).frozen? ⟨mg, f, none⟩ = false := mz
      have ymc : (W2.drewN nq).cell? ⟨mg, f, none⟩ = _ := mcl
      generalize W2.drewN nq = W3 at *
      clear x4 k12 mz mcl k11 nz ncl x8 k4 HR2 HE2 HM2 d1 d2 e1 e2
      have HR4 : Hid (RB (W3.setCell ⟨mg, f, none⟩ (.int .i64 (k : Int))).drew rb { s.hears f with mt := upd (s.hears f).mt f k } v []) := RB.drew ((unhide HR3).putMt (i := f) (unhide HMV) k)
      have HE4 : Hid (Er rb v v w (W3.setCell ⟨mg, f, none⟩ (.int .i64 (k : Int))).drew) := ((unhide HE3).set (.inl (show v.has rb mg from .inr (.inr (.inr (.inr (.inl (by rw [unhide HMV]; rfl))))))) f (.int .i64 (k : Int))).drew
      have HM4 : Hid ((W3.setCell ⟨mg, f, none⟩ (.int .i64 (k : Int))).drew.heap[w.heap.size]? = some (mbox mk (f : Int) mt s.term (k : Int) ml mc (.slice eo en ec) true)) := (Below.heap_setCell W3 _ _ _ (fun e => hmw (by simpa using e.symm))).trans (unhide HM3)
      go_region
      go_upto_region 16 with fail
      generalize (W3.setCell ⟨mg, f, none⟩ (.int .i64 (k : Int))).drew = W4 at *
      clear y4 y12 ymz ymc HR3 HE3 HM3
      have y4 : W4.cell? ⟨w.heap.size, 4, none⟩ = some (.int .i64 (k : Int)) := cell_of_row W4 _ 4 _ _ _ (unhide HM4)
      have y11 := (unhide HR4).c11
      rw [unhide HNV] at y11
      obtain ⟨g5, nc5, hnv5, nz5, ncl5, nlt5, nrb5⟩ := (unhide HR4).nxAt (i := f) hfn
      have hge : g5 = ng := by
        rw [unhide HNV] at hnv5
        simp at hnv5
        exact hnv5.1.symm
      subst hge
      have ncl6 : W4.cell? ⟨g5, f, none⟩ = some (.int .i64 (s.nx f : Int)) := ncl5
      have y11' : W4.cell? ⟨rb, 11, none⟩ = some (.slice (some ⟨g5, 0, none⟩) s.n nc) := y11
      have HR5 : Hid (RB (W4.setCell ⟨g5, f, none⟩ (.int .i64 ((k : Int) + 1))).drew rb { s.hears f with mt := upd (s.hears f).mt f k, nx := upd (s.hears f).nx f (k + 1) } v []) := by
        have := RB.drew ((unhide HR4).putNx (i := f) (unhide HNV) (k + 1))
        rw [show ((k + 1 : Nat) : Int) = (k : Int) + 1 by omega] at this
        exact this
      have HE5 : Hid (Er rb v v w (W4.setCell ⟨g5, f, none⟩ (.int .i64 ((k : Int) + 1))).drew) := ((unhide HE4).set (.inl (show v.has rb g5 from .inr (.inr (.inr (.inl (by rw [unhide HNV]; rfl)))))) f (.int .i64 ((k : Int) + 1))).drew
      have HOM : Hid (Ok ((s.hears f).matched f k)) := Ok.matched ((unhide HOK).hears hfn) f k (by show k ≤ s.log.length; have := unhide HKL; omega)
      clear ncl5 y11 hnv5 nrb5 nlt5
      go_region
      go_wp2_with (go_at_call 83; refine (refCounts_any rb _ v [] _ (unhide HR5) hn7 l60).mono ?_; rintro e w6 ⟨rfl, hR6, hE6⟩; have hR6' : RB w6 rb ((s.hears f).matched f k) v [] := hR6; clear hR6; have hE7 := hide ((unhide HE5).trans hE6); clear hE6; replace hR6' := hide hR6')
      have z4 : w6.cell? ⟨rb, 4, none⟩ = some (.slice lo s.log.length lc) := by rw [(unhide hR6').c4, unhide HLV]
      obtain ⟨g6, nc6, hnv6, nz6, ncl6, nlt6, nrb6⟩ := (unhide hR6').nxAt (i := f) hfn
      have z11 : w6.cell? ⟨rb, 11, none⟩ = some (.slice (some ⟨g6, 0, none⟩) s.n nc6) := by rw [(unhide hR6').c11, hnv6]; rfl
      have hnk : ((s.hears f).matched f k).nx f = k + 1 := by show upd s.nx f (k + 1) f = k + 1; simp [upd]
      rw [hnk] at ncl6
      have ncl7 : w6.cell? ⟨g6, f, none⟩ = some (.int .i64 ((k : Int) + 1)) := by rw [ncl6]; rfl
      clear ncl6 hnk hnv6
      by_cases g3 : (k : Int) + 1 ≤ (s.log.length : Int)
      · have HA3 : Hid (s.stepAppendReply ⟨mk, (f : Int), mt, s.term, (k : Int), ml, mc, me, true⟩ = ((s.hears f).matched f k, [((s.hears f).matched f k).appendTo f])) := by show _ = _; rw [unhide HA2, if_pos (by omega)]
        have HL3 : Hid (Leads ((s.hears f).matched f k)) := (unhide HOM).lead (unhide HR0)
        go_quiet (fail)
        go_wp2_with (go_at_call 106; refine (refAppendTo_any rb ((s.hears f).matched f k) v [] f _ (RB.drewN (unhide hR6') _) (unhide HL3) hfn (by simp)).mono ?_; rintro e w8 ⟨rfl, ev8, v8, hR8, hE8, _⟩; replace hR8 := hide hR8; replace hE8 := hide hE8)
        go_end0
        rw [unhide HA3]
        exact ⟨rfl, [(((s.hears f).matched f k).appendTo f, ev8)], rfl, v8, unhide hR8, ((unhide hE7).drewN _).trans (unhide hE8)⟩
      · have HA3 : Hid (s.stepAppendReply ⟨mk, (f : Int), mt, s.term, (k : Int), ml, mc, me, true⟩ = ((s.hears f).matched f k, [])) := by show _ = _; rw [unhide HA2, if_neg (by omega)]
        go_quiet (fail)
        go_wp2
        go_end0
        rw [unhide HA3]
        exact ⟨rfl, [], rfl, v, RB.drewN (unhide hR6') _, (unhide hE7).drewN _⟩
    · have e2 : decide (s.mt f < k) = false := decide_eq_false (by omega)
      have d2 : decide ((s.mt f : Int) < (k : Int)) = false := decide_eq_false g2
      have HA2 : Hid (s.stepAppendReply ⟨mk, (f : Int), mt, s.term, (k : Int), ml, mc, me, true⟩ = (s.hears f, [])) := by show _ = _; rw [unhide HA]; exact if_neg fun hx => g2 (by have := hx.2; omega)
      clear g1 g2
      go_upto_region 14 with fail
      go_quiet (fail)
      go_wp2
      go_end0
      rw [unhide HA2]
      exact ⟨rfl, [], rfl, v, RB.drewN (unhide HR2) _, (unhide HE2).drewN _⟩
  · have e1 : decide (k ≤ s.log.length) = false := decide_eq_false (by omega)
    have d1 : decide ((k : Int) ≤ (s.log.length : Int)) = false := decide_eq_false g1
    have HA2 : Hid (s.stepAppendReply ⟨mk, (f : Int), mt, s.term, (k : Int), ml, mc, me, true⟩ = (s.hears f, [])) := by show _ = _; rw [unhide HA]; exact if_neg fun hx => g1 (by have := hx.1; omega)
    clear g1
    go_upto_region 14 with fail
    go_quiet (fail)
    go_wp2
    go_end0
    rw [unhide HA2]
    exact ⟨rfl, [], rfl, v, RB.drewN (unhide HR2) _, (unhide HE2).drewN _⟩

end Go.Proofs.YteiecbkfganhnaaGreat
