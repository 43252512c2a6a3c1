/- The document's node: stepVote. -/
import Derived.Test.YteiecbkfganhnaaGreatRefD

namespace Go.Proofs.YteiecbkfganhnaaGreat

open Go.RowKit Go.MuLone

theorem rsent_turned {rb : Nat} {s : Nd} {v : RV} {m : Msg} {w w1 w' : World} (h : Er rb v v w w1) (hs : RSent rb s v ([] ++ [(m, .slice none 0 0)]) w1 w') : RDid rb v [] w (s, [m]) w' := rsent_did h hs

theorem asGood_follow (s : Nd) (m : Msg) (t l : Int) : (s.follow t l).asGood m = s.asGood m := by
  have h1 : (s.follow t l).log = s.log := by unfold Nd.follow; split <;> rfl
  unfold Nd.asGood Nd.termOf Nd.last
  rw [h1]

set_option maxRecDepth 100000 in
set_option maxHeartbeats 8000000 in
theorem refStepVote_any (rb : Nat) (s : Nd) (v : RV) (m : Msg) (ev : Value) (w : World) (h : RB w rb s v []) (hok : Ok s) (hev : ∃ ao n c, ev = .slice ao n c) :
    Calls Tryz.prog 74 #[.pointer (some ⟨rb, 0, none⟩), magg m ev] w fun e w' => e = .returned (.tuple #[]) ∧ RDid rb v [] w (s.stepVote m) w' := by
  obtain ⟨eo, en, ec, rfl⟩ := hev
  obtain ⟨mk, mf, mt, mT, mi, ml, mc, me, mg⟩ := m
  have HB := hide (below_alloc w (.cells #[.int .i64 mk, .int .i64 mf, .int .i64 mt, .int .i64 mT, .int .i64 mi, .int .i64 ml, .int .i64 mc, .slice eo en ec, .bool mg] 30))
  have HM := hide (heap_alloc_new w (.cells #[.int .i64 mk, .int .i64 mf, .int .i64 mt, .int .i64 mT, .int .i64 mi, .int .i64 ml, .int .i64 mc, .slice eo en ec, .bool mg] 30))
  have H := hide (h.below (unhide HB))
  have hlt := h.lt
  have hne : ¬ rb = w.heap.size := by omega
  have hne2 : ¬ w.heap.size = rb := by omega
  have hl0 := hok.l0
  have hs60 := hok.len
  have c2 := h.c2
  have HMB : Hid (¬ v.has rb w.heap.size) := by
    show ¬ _
    rintro (hx | hx | hx | hx | hx | hx | hx)
    · omega
    · have := owns_lt h.log _ hx; omega
    · have := owns_lt h.gr _ hx; omega
    · have := owns_lt h.nx _ hx; omega
    · have := owns_lt h.mt _ hx; omega
    · have := owns_lt h.hd _ hx; omega
    · have := owns_lt h.row _ hx; omega
  clear h hok
  by_cases h1 : s.term < mT
  · have d1 : decide (s.term < mT) = true := decide_eq_true h1
    cases hk : s.knows with
    | true =>
      have HA : Hid (s.stepVote ⟨mk, mf, mt, mT, mi, ml, mc, me, mg⟩ = (s, [])) := by show _ = _; unfold Nd.stepVote; rw [if_pos ⟨h1, hk⟩]
      have HK := hide hk
      clear hk
      go_enter Tryz.func74, Tryz.ntmps74
      go_wp2
      go_quiet (fail)
      go_wp2_with (go_at_call 120; refine (refKnows_any rb s v [] _ (RB.drewN (unhide H) _) hl0).mono ?_; rw [unhide HK]; rintro e w2 ⟨rfl, n2, hw2⟩; have hR2 : Hid (RB w2 rb s v []) := (by rw [hw2]; exact RB.drewN (RB.drewN (unhide H) _) n2); have hE2 : Hid (Er rb v v w w2) := (by rw [hw2]; exact ((Er.ofBelow (unhide HB)).drewN _).drewN n2); clear hw2)
      refine bodyPost_ret (v := .tuple #[]) (results_none rfl _ _ _) rfl ⟨rfl, ?_⟩
      rw [unhide HA]
      exact ⟨[], rfl, v, unhide hR2, unhide hE2⟩
    | false =>
      have HK := hide hk
      have HV : Hid (s.voteS ⟨mk, mf, mt, mT, mi, ml, mc, me, mg⟩ = s.follow mT (-1)) := by show _ = _; unfold Nd.voteS; rw [if_pos h1]
      have HFL : Hid (s.follow mT (-1) = { s with role := 0, leads := -1, term := mT, vote := -1 }) := by show _ = _; unfold Nd.follow; rw [if_pos h1]
      have HF60 : Hid ((s.follow mT (-1)).last ≤ 60) := by show _ ≤ _; rw [unhide HFL]; exact hs60
      have hk' : ¬ (s.term < (⟨mk, mf, mt, mT, mi, ml, mc, me, mg⟩ : Msg).term ∧ s.knows = true) := fun hx => by rw [hk] at hx; exact Bool.noConfusion hx.2
      cases hg : s.asGood ⟨mk, mf, mt, mT, mi, ml, mc, me, mg⟩ with
      | true =>
        have HA : Hid (s.stepVote ⟨mk, mf, mt, mT, mi, ml, mc, me, mg⟩ = ({ ({ s with role := 0, leads := -1, term := mT, vote := -1 } : Nd) with vote := mf, elapsed := 0 }, [({ s with role := 0, leads := -1, term := mT, vote := -1 } : Nd).reply 3 mf mT 0 true])) := by
          show _ = _
          have q1 : (s.voteS ⟨mk, mf, mt, mT, mi, ml, mc, me, mg⟩).votes ⟨mk, mf, mt, mT, mi, ml, mc, me, mg⟩ = true := by
            rw [unhide HV]
            unfold Nd.votes
            rw [asGood_follow, hg, unhide HFL]
            simp
          unfold Nd.stepVote
          rw [if_neg hk', q1, if_pos rfl, unhide HV, unhide HFL]
        have HG : Hid ((s.follow mT (-1)).asGood ⟨mk, mf, mt, mT, mi, ml, mc, me, mg⟩ = true) := (asGood_follow _ _ _ _).trans hg
        clear hg hk hk'
        go_enter Tryz.func74, Tryz.ntmps74
        go_wp2
        go_quiet (fail)
        go_wp2_with (first | (go_at_call 120; refine (refKnows_any rb s v [] _ (RB.drewN (unhide H) _) hl0).mono ?_; rw [unhide HK]; rintro e w2 ⟨rfl, n2, hw2⟩; have hR2 : Hid (RB w2 rb s v []) := (by rw [hw2]; exact RB.drewN (RB.drewN (unhide H) _) n2); have hE2 : Hid (Er rb v v w w2) := (by rw [hw2]; exact ((Er.ofBelow (unhide HB)).drewN _).drewN n2); have hM2 : Hid (w2.heap[w.heap.size]? = some (.cells #[.int .i64 mk, .int .i64 mf, .int .i64 mt, .int .i64 mT, .int .i64 mi, .int .i64 ml, .int .i64 mc, .slice eo en ec, .bool mg] 30 (0, 0))) := (by rw [hw2]; exact unhide HM); have x3 : w2.cell? ⟨w.heap.size, 3, none⟩ = some (.int .i64 mT) := cell_of_row w2 w.heap.size 3 _ _ _ (unhide hM2); clear hw2) | (go_at_call 60; refine (refFollow_any rb s v [] mT (-1) _ (unhide hR2)).mono ?_; rintro e w3 ⟨rfl, hR3, hE3⟩; have hM3 : Hid (w3.heap[w.heap.size]? = some (.cells #[.int .i64 mk, .int .i64 mf, .int .i64 mt, .int .i64 mT, .int .i64 mi, .int .i64 ml, .int .i64 mc, .slice eo en ec, .bool mg] 30 (0, 0))) := ((hE3.block w.heap.size (Array.getElem?_eq_some_iff.1 (unhide hM2)).1 (unhide HMB)).trans (unhide hM2)); have hE4 := hide ((unhide hE2).trans hE3); have k2 : w3.cell? ⟨rb, 2, none⟩ = some (.int .i64 mT) := (by have q := hR3.c2; rw [unhide HFL] at q; exact q); have x3' : w3.cell? ⟨w.heap.size, 3, none⟩ = some (.int .i64 mT) := cell_of_row w3 w.heap.size 3 _ _ _ (unhide hM3); replace hR3 := hide hR3; clear hE3))
        go_quiet (fail)
        have HR5 : Hid (RB (w3.drewN nq) rb (s.follow mT (-1)) v []) := RB.drewN (unhide hR3) nq
        have HE5 := hide ((unhide hE4).drewN nq)
        have HM5 : Hid ((w3.drewN nq).heap[w.heap.size]? = some (.cells #[.int .i64 mk, .int .i64 mf, .int .i64 mt, .int .i64 mT, .int .i64 mi, .int .i64 ml, .int .i64 mc, .slice eo en ec, .bool mg] 30 (0, 0))) := unhide hM3
        clear k2 x3' x3
        generalize w3.drewN nq = W5 at *
        have n0 : W5.cell? ⟨w.heap.size, 0, none⟩ = some (.int .i64 mk) := cell_of_row W5 w.heap.size 0 _ _ _ (unhide HM5)
        have n1 : W5.cell? ⟨w.heap.size, 1, none⟩ = some (.int .i64 mf) := cell_of_row W5 w.heap.size 1 _ _ _ (unhide HM5)
        have n2 : W5.cell? ⟨w.heap.size, 2, none⟩ = some (.int .i64 mt) := cell_of_row W5 w.heap.size 2 _ _ _ (unhide HM5)
        have n3 : W5.cell? ⟨w.heap.size, 3, none⟩ = some (.int .i64 mT) := cell_of_row W5 w.heap.size 3 _ _ _ (unhide HM5)
        have n4 : W5.cell? ⟨w.heap.size, 4, none⟩ = some (.int .i64 mi) := cell_of_row W5 w.heap.size 4 _ _ _ (unhide HM5)
        have n5 : W5.cell? ⟨w.heap.size, 5, none⟩ = some (.int .i64 ml) := cell_of_row W5 w.heap.size 5 _ _ _ (unhide HM5)
        have n6 : W5.cell? ⟨w.heap.size, 6, none⟩ = some (.int .i64 mc) := cell_of_row W5 w.heap.size 6 _ _ _ (unhide HM5)
        have n7 : W5.cell? ⟨w.heap.size, 7, none⟩ = some (.slice eo en ec) := cell_of_row W5 w.heap.size 7 _ _ _ (unhide HM5)
        have n8 : W5.cell? ⟨w.heap.size, 8, none⟩ = some (.bool mg) := cell_of_row W5 w.heap.size 8 _ _ _ (unhide HM5)
        go_wp2_with (first | (go_at_call 119; refine (refGood_any rb (s.follow mT (-1)) v [] ⟨mk, mf, mt, mT, mi, ml, mc, me, mg⟩ _ _ (unhide HR5) (unhide HF60) ⟨_, _, _, rfl⟩).mono ?_; rw [unhide HG]; rintro e w6 ⟨rfl, hb6⟩; have hR6 := ((unhide HR5).below hb6); have hM6 := hide ((hb6.block w.heap.size (Array.getElem?_eq_some_iff.1 (unhide HM5)).1).trans (unhide HM5)); have hE6 := hide ((unhide HE5).trans (Er.ofBelow hb6)); rw [unhide HFL] at hR6; have k3 := hR6.c3; have k6 := hR6.c6; have k1 : w6.cell? ⟨w.heap.size, 1, none⟩ = some (.int .i64 mf) := cell_of_row w6 w.heap.size 1 _ _ _ (unhide hM6); replace hR6 := hide hR6; clear hb6))
        go_quiet (fail)
        have HR7 : Hid (RB (w6.drewN nq) rb ({ s with role := 0, leads := -1, term := mT, vote := -1 } : Nd) v []) := RB.drewN (unhide hR6) nq
        have HE7 := hide ((unhide hE6).drewN nq)
        have HM7 : Hid ((w6.drewN nq).heap[w.heap.size]? = some (.cells #[.int .i64 mk, .int .i64 mf, .int .i64 mt, .int .i64 mT, .int .i64 mi, .int .i64 ml, .int .i64 mc, .slice eo en ec, .bool mg] 30 (0, 0))) := unhide hM6
        clear k1 k3 k6
        generalize w6.drewN nq = W7 at *
        have m1 : W7.cell? ⟨w.heap.size, 1, none⟩ = some (.int .i64 mf) := cell_of_row W7 w.heap.size 1 _ _ _ (unhide HM7)
        have m2 : W7.cell? ⟨rb, 2, none⟩ = some (.int .i64 mT) := (unhide HR7).c2
        have m3 := (unhide HR7).c3
        have m8 := (unhide HR7).c8
        have g3 := (unhide HR7).free 3
        have g8 := (unhide HR7).free 8
        have HR8 := hide (((unhide HR7).putVote mf).putElapsed 0)
        have HE8 := hide (((unhide HE7).set (.inl (v.self rb)) 3 (.int .i64 mf)).set (.inl (v.self rb)) 8 (.int .i64 0))
        go_wp2_with fail
        go_region_law (first | (go_simp; go_at_call 104; refine (refSend_any rb _ v [] { kind := 3, src := 0, dst := mf, term := mT, index := 0, logTerm := 0, commit := 0, ents := [], granted := true } _ _ (RB.drew (unhide HR8)) (by simp) (nil_ents _) (fun y _ hy => by simp [Value.ownBlock] at hy)).mono ?_; rintro e w9 ⟨rfl, hS9⟩; replace hS9 := hide hS9))
        all_goals go_end0
        all_goals (rw [unhide HA]; exact ⟨rfl, rsent_turned (unhide HE8).drew (unhide hS9)⟩)
      | false =>
        have HA : Hid (s.stepVote ⟨mk, mf, mt, mT, mi, ml, mc, me, mg⟩ = (({ s with role := 0, leads := -1, term := mT, vote := -1 } : Nd), [({ s with role := 0, leads := -1, term := mT, vote := -1 } : Nd).reply 3 mf mT 0 false])) := by
          show _ = _
          have q1 : (s.voteS ⟨mk, mf, mt, mT, mi, ml, mc, me, mg⟩).votes ⟨mk, mf, mt, mT, mi, ml, mc, me, mg⟩ = false := by
            rw [unhide HV]
            unfold Nd.votes
            rw [asGood_follow, hg, unhide HFL]
            simp
          unfold Nd.stepVote
          rw [if_neg hk', q1, if_neg (by decide), unhide HV, unhide HFL]
        have HG : Hid ((s.follow mT (-1)).asGood ⟨mk, mf, mt, mT, mi, ml, mc, me, mg⟩ = false) := (asGood_follow _ _ _ _).trans hg
        clear hg hk hk'
        go_enter Tryz.func74, Tryz.ntmps74
        go_wp2
        go_quiet (fail)
        go_wp2_with (first | (go_at_call 120; refine (refKnows_any rb s v [] _ (RB.drewN (unhide H) _) hl0).mono ?_; rw [unhide HK]; rintro e w2 ⟨rfl, n2, hw2⟩; have hR2 : Hid (RB w2 rb s v []) := (by rw [hw2]; exact RB.drewN (RB.drewN (unhide H) _) n2); have hE2 : Hid (Er rb v v w w2) := (by rw [hw2]; exact ((Er.ofBelow (unhide HB)).drewN _).drewN n2); have hM2 : Hid (w2.heap[w.heap.size]? = some (.cells #[.int .i64 mk, .int .i64 mf, .int .i64 mt, .int .i64 mT, .int .i64 mi, .int .i64 ml, .int .i64 mc, .slice eo en ec, .bool mg] 30 (0, 0))) := (by rw [hw2]; exact unhide HM); have x3 : w2.cell? ⟨w.heap.size, 3, none⟩ = some (.int .i64 mT) := cell_of_row w2 w.heap.size 3 _ _ _ (unhide hM2); clear hw2) | (go_at_call 60; refine (refFollow_any rb s v [] mT (-1) _ (unhide hR2)).mono ?_; rintro e w3 ⟨rfl, hR3, hE3⟩; have hM3 : Hid (w3.heap[w.heap.size]? = some (.cells #[.int .i64 mk, .int .i64 mf, .int .i64 mt, .int .i64 mT, .int .i64 mi, .int .i64 ml, .int .i64 mc, .slice eo en ec, .bool mg] 30 (0, 0))) := ((hE3.block w.heap.size (Array.getElem?_eq_some_iff.1 (unhide hM2)).1 (unhide HMB)).trans (unhide hM2)); have hE4 := hide ((unhide hE2).trans hE3); have k2 : w3.cell? ⟨rb, 2, none⟩ = some (.int .i64 mT) := (by have q := hR3.c2; rw [unhide HFL] at q; exact q); have x3' : w3.cell? ⟨w.heap.size, 3, none⟩ = some (.int .i64 mT) := cell_of_row w3 w.heap.size 3 _ _ _ (unhide hM3); replace hR3 := hide hR3; clear hE3))
        go_quiet (fail)
        have HR5 : Hid (RB (w3.drewN nq) rb (s.follow mT (-1)) v []) := RB.drewN (unhide hR3) nq
        have HE5 := hide ((unhide hE4).drewN nq)
        have HM5 : Hid ((w3.drewN nq).heap[w.heap.size]? = some (.cells #[.int .i64 mk, .int .i64 mf, .int .i64 mt, .int .i64 mT, .int .i64 mi, .int .i64 ml, .int .i64 mc, .slice eo en ec, .bool mg] 30 (0, 0))) := unhide hM3
        clear k2 x3' x3
        generalize w3.drewN nq = W5 at *
        have n0 : W5.cell? ⟨w.heap.size, 0, none⟩ = some (.int .i64 mk) := cell_of_row W5 w.heap.size 0 _ _ _ (unhide HM5)
        have n1 : W5.cell? ⟨w.heap.size, 1, none⟩ = some (.int .i64 mf) := cell_of_row W5 w.heap.size 1 _ _ _ (unhide HM5)
        have n2 : W5.cell? ⟨w.heap.size, 2, none⟩ = some (.int .i64 mt) := cell_of_row W5 w.heap.size 2 _ _ _ (unhide HM5)
        have n3 : W5.cell? ⟨w.heap.size, 3, none⟩ = some (.int .i64 mT) := cell_of_row W5 w.heap.size 3 _ _ _ (unhide HM5)
        have n4 : W5.cell? ⟨w.heap.size, 4, none⟩ = some (.int .i64 mi) := cell_of_row W5 w.heap.size 4 _ _ _ (unhide HM5)
        have n5 : W5.cell? ⟨w.heap.size, 5, none⟩ = some (.int .i64 ml) := cell_of_row W5 w.heap.size 5 _ _ _ (unhide HM5)
        have n6 : W5.cell? ⟨w.heap.size, 6, none⟩ = some (.int .i64 mc) := cell_of_row W5 w.heap.size 6 _ _ _ (unhide HM5)
        have n7 : W5.cell? ⟨w.heap.size, 7, none⟩ = some (.slice eo en ec) := cell_of_row W5 w.heap.size 7 _ _ _ (unhide HM5)
        have n8 : W5.cell? ⟨w.heap.size, 8, none⟩ = some (.bool mg) := cell_of_row W5 w.heap.size 8 _ _ _ (unhide HM5)
        go_wp2_with (first | (go_at_call 119; refine (refGood_any rb (s.follow mT (-1)) v [] ⟨mk, mf, mt, mT, mi, ml, mc, me, mg⟩ _ _ (unhide HR5) (unhide HF60) ⟨_, _, _, rfl⟩).mono ?_; rw [unhide HG]; rintro e w6 ⟨rfl, hb6⟩; have hR6 := ((unhide HR5).below hb6); have hM6 := hide ((hb6.block w.heap.size (Array.getElem?_eq_some_iff.1 (unhide HM5)).1).trans (unhide HM5)); have hE6 := hide ((unhide HE5).trans (Er.ofBelow hb6)); rw [unhide HFL] at hR6; have k3 := hR6.c3; have k6 := hR6.c6; have k1 : w6.cell? ⟨w.heap.size, 1, none⟩ = some (.int .i64 mf) := cell_of_row w6 w.heap.size 1 _ _ _ (unhide hM6); replace hR6 := hide hR6; clear hb6))
        go_quiet (fail)
        have HR7 : Hid (RB (w6.drewN nq) rb ({ s with role := 0, leads := -1, term := mT, vote := -1 } : Nd) v []) := RB.drewN (unhide hR6) nq
        have HE7 := hide ((unhide hE6).drewN nq)
        have HM7 : Hid ((w6.drewN nq).heap[w.heap.size]? = some (.cells #[.int .i64 mk, .int .i64 mf, .int .i64 mt, .int .i64 mT, .int .i64 mi, .int .i64 ml, .int .i64 mc, .slice eo en ec, .bool mg] 30 (0, 0))) := unhide hM6
        clear k1 k3 k6
        generalize w6.drewN nq = W7 at *
        have m1 : W7.cell? ⟨w.heap.size, 1, none⟩ = some (.int .i64 mf) := cell_of_row W7 w.heap.size 1 _ _ _ (unhide HM7)
        have m2 : W7.cell? ⟨rb, 2, none⟩ = some (.int .i64 mT) := (unhide HR7).c2
        go_wp2_with fail
        go_region_law (first | (go_simp; go_at_call 104; refine (refSend_any rb _ v [] { kind := 3, src := 0, dst := mf, term := mT, index := 0, logTerm := 0, commit := 0, ents := [], granted := false } _ _ (RB.drew (unhide HR7)) (by simp) (nil_ents _) (fun y _ hy => by simp [Value.ownBlock] at hy)).mono ?_; rintro e w9 ⟨rfl, hS9⟩; replace hS9 := hide hS9))
        all_goals go_end0
        all_goals (rw [unhide HA]; exact ⟨rfl, rsent_turned (unhide HE7).drew (unhide hS9)⟩)
  · have d1 : decide (s.term < mT) = false := decide_eq_false h1
    have hk' : ¬ (s.term < (⟨mk, mf, mt, mT, mi, ml, mc, me, mg⟩ : Msg).term ∧ s.knows = true) := fun hx => h1 hx.1
    have hV : s.voteS ⟨mk, mf, mt, mT, mi, ml, mc, me, mg⟩ = s := by unfold Nd.voteS; rw [if_neg h1]
    by_cases h2 : mT = s.term
    · subst h2
      cases hg : s.asGood ⟨mk, mf, mt, s.term, mi, ml, mc, me, mg⟩ with
      | true =>
        by_cases hrl : s.role = 0
        · by_cases hv1 : s.vote = -1
          · by_cases hv2 : s.vote = mf
            · have HA : Hid (s.stepVote ⟨mk, mf, mt, s.term, mi, ml, mc, me, mg⟩ = ({ s with vote := mf, elapsed := 0 }, [s.reply 3 mf s.term 0 true])) := by
                show _ = _
                have q1 : s.votes ⟨mk, mf, mt, s.term, mi, ml, mc, me, mg⟩ = true := by
                  unfold Nd.votes
                  rw [hg]
                  first | (simp; done) | (simp [hrl]; done) | (simp [hv1, hrl]; done) | (simp [hv2, hrl]; done) | simp [hv1, hv2]
                unfold Nd.stepVote
                rw [if_neg hk', hV, q1, if_pos rfl]
              have e1 : (s.vote == -1) = true := by simp [hv1]
              have e2 : (s.vote == mf) = true := by simp [hv2]
              have e3 : (s.role == 0) = true := by simp [hrl]
              have HG := hide hg
              clear hg hv1 hv2 hrl hV hk'
              go_enter Tryz.func74, Tryz.ntmps74
              go_wp2
              go_quiet (fail)
              revert nq
              intro n1
              go_wp2_with fail
              go_quiet (fail)
              have HR5 : Hid (RB (((w.alloc (.cells #[.int .i64 mk, .int .i64 mf, .int .i64 mt, .int .i64 s.term, .int .i64 mi, .int .i64 ml, .int .i64 mc, .slice eo en ec, .bool mg] 30)).drewN n1).drewN nq) rb s v []) := RB.drewN (RB.drewN (unhide H) n1) nq
              have HE5 : Hid (Er rb v v w (((w.alloc (.cells #[.int .i64 mk, .int .i64 mf, .int .i64 mt, .int .i64 s.term, .int .i64 mi, .int .i64 ml, .int .i64 mc, .slice eo en ec, .bool mg] 30)).drewN n1).drewN nq)) := ((Er.ofBelow (unhide HB)).drewN n1).drewN nq
              have HM5 : Hid ((((w.alloc (.cells #[.int .i64 mk, .int .i64 mf, .int .i64 mt, .int .i64 s.term, .int .i64 mi, .int .i64 ml, .int .i64 mc, .slice eo en ec, .bool mg] 30)).drewN n1).drewN nq).heap[w.heap.size]? = some (.cells #[.int .i64 mk, .int .i64 mf, .int .i64 mt, .int .i64 s.term, .int .i64 mi, .int .i64 ml, .int .i64 mc, .slice eo en ec, .bool mg] 30 (0, 0))) := unhide HM
              generalize ((w.alloc (.cells #[.int .i64 mk, .int .i64 mf, .int .i64 mt, .int .i64 s.term, .int .i64 mi, .int .i64 ml, .int .i64 mc, .slice eo en ec, .bool mg] 30)).drewN n1).drewN nq = W5 at *
              have n0 : W5.cell? ⟨w.heap.size, 0, none⟩ = some (.int .i64 mk) := cell_of_row W5 w.heap.size 0 _ _ _ (unhide HM5)
              have n1 : W5.cell? ⟨w.heap.size, 1, none⟩ = some (.int .i64 mf) := cell_of_row W5 w.heap.size 1 _ _ _ (unhide HM5)
              have n2 : W5.cell? ⟨w.heap.size, 2, none⟩ = some (.int .i64 mt) := cell_of_row W5 w.heap.size 2 _ _ _ (unhide HM5)
              have n3 : W5.cell? ⟨w.heap.size, 3, none⟩ = some (.int .i64 s.term) := cell_of_row W5 w.heap.size 3 _ _ _ (unhide HM5)
              have n4 : W5.cell? ⟨w.heap.size, 4, none⟩ = some (.int .i64 mi) := cell_of_row W5 w.heap.size 4 _ _ _ (unhide HM5)
              have n5 : W5.cell? ⟨w.heap.size, 5, none⟩ = some (.int .i64 ml) := cell_of_row W5 w.heap.size 5 _ _ _ (unhide HM5)
              have n6 : W5.cell? ⟨w.heap.size, 6, none⟩ = some (.int .i64 mc) := cell_of_row W5 w.heap.size 6 _ _ _ (unhide HM5)
              have n7 : W5.cell? ⟨w.heap.size, 7, none⟩ = some (.slice eo en ec) := cell_of_row W5 w.heap.size 7 _ _ _ (unhide HM5)
              have n8 : W5.cell? ⟨w.heap.size, 8, none⟩ = some (.bool mg) := cell_of_row W5 w.heap.size 8 _ _ _ (unhide HM5)
              go_wp2_with (first | (go_at_call 119; refine (refGood_any rb s v [] ⟨mk, mf, mt, s.term, mi, ml, mc, me, mg⟩ _ _ (unhide HR5) hs60 ⟨_, _, _, rfl⟩).mono ?_; rw [unhide HG]; rintro e w6 ⟨rfl, hb6⟩; have hR6 := ((unhide HR5).below hb6); have hM6 := hide ((hb6.block w.heap.size (Array.getElem?_eq_some_iff.1 (unhide HM5)).1).trans (unhide HM5)); have hE6 := hide ((unhide HE5).trans (Er.ofBelow hb6)); have k3 := hR6.c3; have k6 := hR6.c6; have k1 : w6.cell? ⟨w.heap.size, 1, none⟩ = some (.int .i64 mf) := cell_of_row w6 w.heap.size 1 _ _ _ (unhide hM6); replace hR6 := hide hR6; clear hb6))
              go_quiet (fail)
              have HR7 : Hid (RB (w6.drewN nq) rb s v []) := RB.drewN (unhide hR6) nq
              have HE7 := hide ((unhide hE6).drewN nq)
              have HM7 : Hid ((w6.drewN nq).heap[w.heap.size]? = some (.cells #[.int .i64 mk, .int .i64 mf, .int .i64 mt, .int .i64 s.term, .int .i64 mi, .int .i64 ml, .int .i64 mc, .slice eo en ec, .bool mg] 30 (0, 0))) := unhide hM6
              clear k1 k3 k6
              generalize w6.drewN nq = W7 at *
              have m1 : W7.cell? ⟨w.heap.size, 1, none⟩ = some (.int .i64 mf) := cell_of_row W7 w.heap.size 1 _ _ _ (unhide HM7)
              have m2 : W7.cell? ⟨rb, 2, none⟩ = some (.int .i64 s.term) := (unhide HR7).c2
              have m3 := (unhide HR7).c3
              have m8 := (unhide HR7).c8
              have g3 := (unhide HR7).free 3
              have g8 := (unhide HR7).free 8
              have HR8 := hide (((unhide HR7).putVote mf).putElapsed 0)
              have HE8 := hide (((unhide HE7).set (.inl (v.self rb)) 3 (.int .i64 mf)).set (.inl (v.self rb)) 8 (.int .i64 0))
              go_wp2_with fail
              go_region_law (first | (go_simp; go_at_call 104; refine (refSend_any rb _ v [] { kind := 3, src := 0, dst := mf, term := s.term, index := 0, logTerm := 0, commit := 0, ents := [], granted := true } _ _ (RB.drew (unhide HR8)) (by simp) (nil_ents _) (fun y _ hy => by simp [Value.ownBlock] at hy)).mono ?_; rintro e w9 ⟨rfl, hS9⟩; replace hS9 := hide hS9))
              all_goals go_end0
              all_goals (rw [unhide HA]; exact ⟨rfl, rsent_turned (unhide HE8).drew (unhide hS9)⟩)
            · have HA : Hid (s.stepVote ⟨mk, mf, mt, s.term, mi, ml, mc, me, mg⟩ = ({ s with vote := mf, elapsed := 0 }, [s.reply 3 mf s.term 0 true])) := by
                show _ = _
                have q1 : s.votes ⟨mk, mf, mt, s.term, mi, ml, mc, me, mg⟩ = true := by
                  unfold Nd.votes
                  rw [hg]
                  first | (simp; done) | (simp [hrl]; done) | (simp [hv1, hrl]; done) | (simp [hv2, hrl]; done) | simp [hv1, hv2]
                unfold Nd.stepVote
                rw [if_neg hk', hV, q1, if_pos rfl]
              have e1 : (s.vote == -1) = true := by simp [hv1]
              have e2 : (s.vote == mf) = false := by simp [hv2]
              have e3 : (s.role == 0) = true := by simp [hrl]
              have HG := hide hg
              clear hg hv1 hv2 hrl hV hk'
              go_enter Tryz.func74, Tryz.ntmps74
              go_wp2
              go_quiet (fail)
              revert nq
              intro n1
              go_wp2_with fail
              go_quiet (fail)
              have HR5 : Hid (RB (((w.alloc (.cells #[.int .i64 mk, .int .i64 mf, .int .i64 mt, .int .i64 s.term, .int .i64 mi, .int .i64 ml, .int .i64 mc, .slice eo en ec, .bool mg] 30)).drewN n1).drewN nq) rb s v []) := RB.drewN (RB.drewN (unhide H) n1) nq
              have HE5 : Hid (Er rb v v w (((w.alloc (.cells #[.int .i64 mk, .int .i64 mf, .int .i64 mt, .int .i64 s.term, .int .i64 mi, .int .i64 ml, .int .i64 mc, .slice eo en ec, .bool mg] 30)).drewN n1).drewN nq)) := ((Er.ofBelow (unhide HB)).drewN n1).drewN nq
              have HM5 : Hid ((((w.alloc (.cells #[.int .i64 mk, .int .i64 mf, .int .i64 mt, .int .i64 s.term, .int .i64 mi, .int .i64 ml, .int .i64 mc, .slice eo en ec, .bool mg] 30)).drewN n1).drewN nq).heap[w.heap.size]? = some (.cells #[.int .i64 mk, .int .i64 mf, .int .i64 mt, .int .i64 s.term, .int .i64 mi, .int .i64 ml, .int .i64 mc, .slice eo en ec, .bool mg] 30 (0, 0))) := unhide HM
              generalize ((w.alloc (.cells #[.int .i64 mk, .int .i64 mf, .int .i64 mt, .int .i64 s.term, .int .i64 mi, .int .i64 ml, .int .i64 mc, .slice eo en ec, .bool mg] 30)).drewN n1).drewN nq = W5 at *
              have n0 : W5.cell? ⟨w.heap.size, 0, none⟩ = some (.int .i64 mk) := cell_of_row W5 w.heap.size 0 _ _ _ (unhide HM5)
              have n1 : W5.cell? ⟨w.heap.size, 1, none⟩ = some (.int .i64 mf) := cell_of_row W5 w.heap.size 1 _ _ _ (unhide HM5)
              have n2 : W5.cell? ⟨w.heap.size, 2, none⟩ = some (.int .i64 mt) := cell_of_row W5 w.heap.size 2 _ _ _ (unhide HM5)
              have n3 : W5.cell? ⟨w.heap.size, 3, none⟩ = some (.int .i64 s.term) := cell_of_row W5 w.heap.size 3 _ _ _ (unhide HM5)
              have n4 : W5.cell? ⟨w.heap.size, 4, none⟩ = some (.int .i64 mi) := cell_of_row W5 w.heap.size 4 _ _ _ (unhide HM5)
              have n5 : W5.cell? ⟨w.heap.size, 5, none⟩ = some (.int .i64 ml) := cell_of_row W5 w.heap.size 5 _ _ _ (unhide HM5)
              have n6 : W5.cell? ⟨w.heap.size, 6, none⟩ = some (.int .i64 mc) := cell_of_row W5 w.heap.size 6 _ _ _ (unhide HM5)
              have n7 : W5.cell? ⟨w.heap.size, 7, none⟩ = some (.slice eo en ec) := cell_of_row W5 w.heap.size 7 _ _ _ (unhide HM5)
              have n8 : W5.cell? ⟨w.heap.size, 8, none⟩ = some (.bool mg) := cell_of_row W5 w.heap.size 8 _ _ _ (unhide HM5)
              go_wp2_with (first | (go_at_call 119; refine (refGood_any rb s v [] ⟨mk, mf, mt, s.term, mi, ml, mc, me, mg⟩ _ _ (unhide HR5) hs60 ⟨_, _, _, rfl⟩).mono ?_; rw [unhide HG]; rintro e w6 ⟨rfl, hb6⟩; have hR6 := ((unhide HR5).below hb6); have hM6 := hide ((hb6.block w.heap.size (Array.getElem?_eq_some_iff.1 (unhide HM5)).1).trans (unhide HM5)); have hE6 := hide ((unhide HE5).trans (Er.ofBelow hb6)); have k3 := hR6.c3; have k6 := hR6.c6; have k1 : w6.cell? ⟨w.heap.size, 1, none⟩ = some (.int .i64 mf) := cell_of_row w6 w.heap.size 1 _ _ _ (unhide hM6); replace hR6 := hide hR6; clear hb6))
              go_quiet (fail)
              have HR7 : Hid (RB (w6.drewN nq) rb s v []) := RB.drewN (unhide hR6) nq
              have HE7 := hide ((unhide hE6).drewN nq)
              have HM7 : Hid ((w6.drewN nq).heap[w.heap.size]? = some (.cells #[.int .i64 mk, .int .i64 mf, .int .i64 mt, .int .i64 s.term, .int .i64 mi, .int .i64 ml, .int .i64 mc, .slice eo en ec, .bool mg] 30 (0, 0))) := unhide hM6
              clear k1 k3 k6
              generalize w6.drewN nq = W7 at *
              have m1 : W7.cell? ⟨w.heap.size, 1, none⟩ = some (.int .i64 mf) := cell_of_row W7 w.heap.size 1 _ _ _ (unhide HM7)
              have m2 : W7.cell? ⟨rb, 2, none⟩ = some (.int .i64 s.term) := (unhide HR7).c2
              have m3 := (unhide HR7).c3
              have m8 := (unhide HR7).c8
              have g3 := (unhide HR7).free 3
              have g8 := (unhide HR7).free 8
              have HR8 := hide (((unhide HR7).putVote mf).putElapsed 0)
              have HE8 := hide (((unhide HE7).set (.inl (v.self rb)) 3 (.int .i64 mf)).set (.inl (v.self rb)) 8 (.int .i64 0))
              go_wp2_with fail
              go_region_law (first | (go_simp; go_at_call 104; refine (refSend_any rb _ v [] { kind := 3, src := 0, dst := mf, term := s.term, index := 0, logTerm := 0, commit := 0, ents := [], granted := true } _ _ (RB.drew (unhide HR8)) (by simp) (nil_ents _) (fun y _ hy => by simp [Value.ownBlock] at hy)).mono ?_; rintro e w9 ⟨rfl, hS9⟩; replace hS9 := hide hS9))
              all_goals go_end0
              all_goals (rw [unhide HA]; exact ⟨rfl, rsent_turned (unhide HE8).drew (unhide hS9)⟩)
          · by_cases hv2 : s.vote = mf
            · have HA : Hid (s.stepVote ⟨mk, mf, mt, s.term, mi, ml, mc, me, mg⟩ = ({ s with vote := mf, elapsed := 0 }, [s.reply 3 mf s.term 0 true])) := by
                show _ = _
                have q1 : s.votes ⟨mk, mf, mt, s.term, mi, ml, mc, me, mg⟩ = true := by
                  unfold Nd.votes
                  rw [hg]
                  first | (simp; done) | (simp [hrl]; done) | (simp [hv1, hrl]; done) | (simp [hv2, hrl]; done) | simp [hv1, hv2]
                unfold Nd.stepVote
                rw [if_neg hk', hV, q1, if_pos rfl]
              have e1 : (s.vote == -1) = false := by simp [hv1]
              have e2 : (s.vote == mf) = true := by simp [hv2]
              have e3 : (s.role == 0) = true := by simp [hrl]
              have HG := hide hg
              clear hg hv1 hv2 hrl hV hk'
              go_enter Tryz.func74, Tryz.ntmps74
              go_wp2
              go_quiet (fail)
              revert nq
              intro n1
              go_wp2_with fail
              go_quiet (fail)
              have HR5 : Hid (RB (((w.alloc (.cells #[.int .i64 mk, .int .i64 mf, .int .i64 mt, .int .i64 s.term, .int .i64 mi, .int .i64 ml, .int .i64 mc, .slice eo en ec, .bool mg] 30)).drewN n1).drewN nq) rb s v []) := RB.drewN (RB.drewN (unhide H) n1) nq
              have HE5 : Hid (Er rb v v w (((w.alloc (.cells #[.int .i64 mk, .int .i64 mf, .int .i64 mt, .int .i64 s.term, .int .i64 mi, .int .i64 ml, .int .i64 mc, .slice eo en ec, .bool mg] 30)).drewN n1).drewN nq)) := ((Er.ofBelow (unhide HB)).drewN n1).drewN nq
              have HM5 : Hid ((((w.alloc (.cells #[.int .i64 mk, .int .i64 mf, .int .i64 mt, .int .i64 s.term, .int .i64 mi, .int .i64 ml, .int .i64 mc, .slice eo en ec, .bool mg] 30)).drewN n1).drewN nq).heap[w.heap.size]? = some (.cells #[.int .i64 mk, .int .i64 mf, .int .i64 mt, .int .i64 s.term, .int .i64 mi, .int .i64 ml, .int .i64 mc, .slice eo en ec, .bool mg] 30 (0, 0))) := unhide HM
              generalize ((w.alloc (.cells #[.int .i64 mk, .int .i64 mf, .int .i64 mt, .int .i64 s.term, .int .i64 mi, .int .i64 ml, .int .i64 mc, .slice eo en ec, .bool mg] 30)).drewN n1).drewN nq = W5 at *
              have n0 : W5.cell? ⟨w.heap.size, 0, none⟩ = some (.int .i64 mk) := cell_of_row W5 w.heap.size 0 _ _ _ (unhide HM5)
              have n1 : W5.cell? ⟨w.heap.size, 1, none⟩ = some (.int .i64 mf) := cell_of_row W5 w.heap.size 1 _ _ _ (unhide HM5)
              have n2 : W5.cell? ⟨w.heap.size, 2, none⟩ = some (.int .i64 mt) := cell_of_row W5 w.heap.size 2 _ _ _ (unhide HM5)
              have n3 : W5.cell? ⟨w.heap.size, 3, none⟩ = some (.int .i64 s.term) := cell_of_row W5 w.heap.size 3 _ _ _ (unhide HM5)
              have n4 : W5.cell? ⟨w.heap.size, 4, none⟩ = some (.int .i64 mi) := cell_of_row W5 w.heap.size 4 _ _ _ (unhide HM5)
              have n5 : W5.cell? ⟨w.heap.size, 5, none⟩ = some (.int .i64 ml) := cell_of_row W5 w.heap.size 5 _ _ _ (unhide HM5)
              have n6 : W5.cell? ⟨w.heap.size, 6, none⟩ = some (.int .i64 mc) := cell_of_row W5 w.heap.size 6 _ _ _ (unhide HM5)
              have n7 : W5.cell? ⟨w.heap.size, 7, none⟩ = some (.slice eo en ec) := cell_of_row W5 w.heap.size 7 _ _ _ (unhide HM5)
              have n8 : W5.cell? ⟨w.heap.size, 8, none⟩ = some (.bool mg) := cell_of_row W5 w.heap.size 8 _ _ _ (unhide HM5)
              go_wp2_with (first | (go_at_call 119; refine (refGood_any rb s v [] ⟨mk, mf, mt, s.term, mi, ml, mc, me, mg⟩ _ _ (unhide HR5) hs60 ⟨_, _, _, rfl⟩).mono ?_; rw [unhide HG]; rintro e w6 ⟨rfl, hb6⟩; have hR6 := ((unhide HR5).below hb6); have hM6 := hide ((hb6.block w.heap.size (Array.getElem?_eq_some_iff.1 (unhide HM5)).1).trans (unhide HM5)); have hE6 := hide ((unhide HE5).trans (Er.ofBelow hb6)); have k3 := hR6.c3; have k6 := hR6.c6; have k1 : w6.cell? ⟨w.heap.size, 1, none⟩ = some (.int .i64 mf) := cell_of_row w6 w.heap.size 1 _ _ _ (unhide hM6); replace hR6 := hide hR6; clear hb6))
              go_quiet (fail)
              have HR7 : Hid (RB (w6.drewN nq) rb s v []) := RB.drewN (unhide hR6) nq
              have HE7 := hide ((unhide hE6).drewN nq)
              have HM7 : Hid ((w6.drewN nq).heap[w.heap.size]? = some (.cells #[.int .i64 mk, .int .i64 mf, .int .i64 mt, .int .i64 s.term, .int .i64 mi, .int .i64 ml, .int .i64 mc, .slice eo en ec, .bool mg] 30 (0, 0))) := unhide hM6
              clear k1 k3 k6
              generalize w6.drewN nq = W7 at *
              have m1 : W7.cell? ⟨w.heap.size, 1, none⟩ = some (.int .i64 mf) := cell_of_row W7 w.heap.size 1 _ _ _ (unhide HM7)
              have m2 : W7.cell? ⟨rb, 2, none⟩ = some (.int .i64 s.term) := (unhide HR7).c2
              have m3 := (unhide HR7).c3
              have m8 := (unhide HR7).c8
              have g3 := (unhide HR7).free 3
              have g8 := (unhide HR7).free 8
              have HR8 := hide (((unhide HR7).putVote mf).putElapsed 0)
              have HE8 := hide (((unhide HE7).set (.inl (v.self rb)) 3 (.int .i64 mf)).set (.inl (v.self rb)) 8 (.int .i64 0))
              go_wp2_with fail
              go_region_law (first | (go_simp; go_at_call 104; refine (refSend_any rb _ v [] { kind := 3, src := 0, dst := mf, term := s.term, index := 0, logTerm := 0, commit := 0, ents := [], granted := true } _ _ (RB.drew (unhide HR8)) (by simp) (nil_ents _) (fun y _ hy => by simp [Value.ownBlock] at hy)).mono ?_; rintro e w9 ⟨rfl, hS9⟩; replace hS9 := hide hS9))
              all_goals go_end0
              all_goals (rw [unhide HA]; exact ⟨rfl, rsent_turned (unhide HE8).drew (unhide hS9)⟩)
            · have HA : Hid (s.stepVote ⟨mk, mf, mt, s.term, mi, ml, mc, me, mg⟩ = (s, [s.reply 3 mf s.term 0 false])) := by
                show _ = _
                have q1 : s.votes ⟨mk, mf, mt, s.term, mi, ml, mc, me, mg⟩ = false := by
                  unfold Nd.votes
                  rw [hg]
                  first | (simp; done) | (simp [hrl]; done) | (simp [hv1, hrl]; done) | (simp [hv2, hrl]; done) | simp [hv1, hv2]
                unfold Nd.stepVote
                rw [if_neg hk', hV, q1, if_neg (by decide)]
              have e1 : (s.vote == -1) = false := by simp [hv1]
              have e2 : (s.vote == mf) = false := by simp [hv2]
              have e3 : (s.role == 0) = true := by simp [hrl]
              have HG := hide hg
              clear hg hv1 hv2 hrl hV hk'
              go_enter Tryz.func74, Tryz.ntmps74
              go_wp2
              go_quiet (fail)
              revert nq
              intro n1
              go_wp2_with fail
              go_quiet (fail)
              have HR5 : Hid (RB (((w.alloc (.cells #[.int .i64 mk, .int .i64 mf, .int .i64 mt, .int .i64 s.term, .int .i64 mi, .int .i64 ml, .int .i64 mc, .slice eo en ec, .bool mg] 30)).drewN n1).drewN nq) rb s v []) := RB.drewN (RB.drewN (unhide H) n1) nq
              have HE5 : Hid (Er rb v v w (((w.alloc (.cells #[.int .i64 mk, .int .i64 mf, .int .i64 mt, .int .i64 s.term, .int .i64 mi, .int .i64 ml, .int .i64 mc, .slice eo en ec, .bool mg] 30)).drewN n1).drewN nq)) := ((Er.ofBelow (unhide HB)).drewN n1).drewN nq
              have HM5 : Hid ((((w.alloc (.cells #[.int .i64 mk, .int .i64 mf, .int .i64 mt, .int .i64 s.term, .int .i64 mi, .int .i64 ml, .int .i64 mc, .slice eo en ec, .bool mg] 30)).drewN n1).drewN nq).heap[w.heap.size]? = some (.cells #[.int .i64 mk, .int .i64 mf, .int .i64 mt, .int .i64 s.term, .int .i64 mi, .int .i64 ml, .int .i64 mc, .slice eo en ec, .bool mg] 30 (0, 0))) := unhide HM
              generalize ((w.alloc (.cells #[.int .i64 mk, .int .i64 mf, .int .i64 mt, .int .i64 s.term, .int .i64 mi, .int .i64 ml, .int .i64 mc, .slice eo en ec, .bool mg] 30)).drewN n1).drewN nq = W5 at *
              have n0 : W5.cell? ⟨w.heap.size, 0, none⟩ = some (.int .i64 mk) := cell_of_row W5 w.heap.size 0 _ _ _ (unhide HM5)
              have n1 : W5.cell? ⟨w.heap.size, 1, none⟩ = some (.int .i64 mf) := cell_of_row W5 w.heap.size 1 _ _ _ (unhide HM5)
              have n2 : W5.cell? ⟨w.heap.size, 2, none⟩ = some (.int .i64 mt) := cell_of_row W5 w.heap.size 2 _ _ _ (unhide HM5)
              have n3 : W5.cell? ⟨w.heap.size, 3, none⟩ = some (.int .i64 s.term) := cell_of_row W5 w.heap.size 3 _ _ _ (unhide HM5)
              have n4 : W5.cell? ⟨w.heap.size, 4, none⟩ = some (.int .i64 mi) := cell_of_row W5 w.heap.size 4 _ _ _ (unhide HM5)
              have n5 : W5.cell? ⟨w.heap.size, 5, none⟩ = some (.int .i64 ml) := cell_of_row W5 w.heap.size 5 _ _ _ (unhide HM5)
              have n6 : W5.cell? ⟨w.heap.size, 6, none⟩ = some (.int .i64 mc) := cell_of_row W5 w.heap.size 6 _ _ _ (unhide HM5)
              have n7 : W5.cell? ⟨w.heap.size, 7, none⟩ = some (.slice eo en ec) := cell_of_row W5 w.heap.size 7 _ _ _ (unhide HM5)
              have n8 : W5.cell? ⟨w.heap.size, 8, none⟩ = some (.bool mg) := cell_of_row W5 w.heap.size 8 _ _ _ (unhide HM5)
              go_wp2_with (first | (go_at_call 119; refine (refGood_any rb s v [] ⟨mk, mf, mt, s.term, mi, ml, mc, me, mg⟩ _ _ (unhide HR5) hs60 ⟨_, _, _, rfl⟩).mono ?_; rw [unhide HG]; rintro e w6 ⟨rfl, hb6⟩; have hR6 := ((unhide HR5).below hb6); have hM6 := hide ((hb6.block w.heap.size (Array.getElem?_eq_some_iff.1 (unhide HM5)).1).trans (unhide HM5)); have hE6 := hide ((unhide HE5).trans (Er.ofBelow hb6)); have k3 := hR6.c3; have k6 := hR6.c6; have k1 : w6.cell? ⟨w.heap.size, 1, none⟩ = some (.int .i64 mf) := cell_of_row w6 w.heap.size 1 _ _ _ (unhide hM6); replace hR6 := hide hR6; clear hb6))
              go_quiet (fail)
              have HR7 : Hid (RB (w6.drewN nq) rb s v []) := RB.drewN (unhide hR6) nq
              have HE7 := hide ((unhide hE6).drewN nq)
              have HM7 : Hid ((w6.drewN nq).heap[w.heap.size]? = some (.cells #[.int .i64 mk, .int .i64 mf, .int .i64 mt, .int .i64 s.term, .int .i64 mi, .int .i64 ml, .int .i64 mc, .slice eo en ec, .bool mg] 30 (0, 0))) := unhide hM6
              clear k1 k3 k6
              generalize w6.drewN nq = W7 at *
              have m1 : W7.cell? ⟨w.heap.size, 1, none⟩ = some (.int .i64 mf) := cell_of_row W7 w.heap.size 1 _ _ _ (unhide HM7)
              have m2 : W7.cell? ⟨rb, 2, none⟩ = some (.int .i64 s.term) := (unhide HR7).c2
              go_wp2_with fail
              go_region_law (first | (go_simp; go_at_call 104; refine (refSend_any rb _ v [] { kind := 3, src := 0, dst := mf, term := s.term, index := 0, logTerm := 0, commit := 0, ents := [], granted := false } _ _ (RB.drew (unhide HR7)) (by simp) (nil_ents _) (fun y _ hy => by simp [Value.ownBlock] at hy)).mono ?_; rintro e w9 ⟨rfl, hS9⟩; replace hS9 := hide hS9))
              all_goals go_end0
              all_goals (rw [unhide HA]; exact ⟨rfl, rsent_turned (unhide HE7).drew (unhide hS9)⟩)
        · by_cases hv1 : s.vote = -1
          · by_cases hv2 : s.vote = mf
            · have HA : Hid (s.stepVote ⟨mk, mf, mt, s.term, mi, ml, mc, me, mg⟩ = (s, [s.reply 3 mf s.term 0 false])) := by
                show _ = _
                have q1 : s.votes ⟨mk, mf, mt, s.term, mi, ml, mc, me, mg⟩ = false := by
                  unfold Nd.votes
                  rw [hg]
                  first | (simp; done) | (simp [hrl]; done) | (simp [hv1, hrl]; done) | (simp [hv2, hrl]; done) | simp [hv1, hv2]
                unfold Nd.stepVote
                rw [if_neg hk', hV, q1, if_neg (by decide)]
              have e1 : (s.vote == -1) = true := by simp [hv1]
              have e2 : (s.vote == mf) = true := by simp [hv2]
              have e3 : (s.role == 0) = false := by simp [hrl]
              have HG := hide hg
              clear hg hv1 hv2 hrl hV hk'
              go_enter Tryz.func74, Tryz.ntmps74
              go_wp2
              go_quiet (fail)
              revert nq
              intro n1
              go_wp2_with fail
              go_quiet (fail)
              have HR5 : Hid (RB (((w.alloc (.cells #[.int .i64 mk, .int .i64 mf, .int .i64 mt, .int .i64 s.term, .int .i64 mi, .int .i64 ml, .int .i64 mc, .slice eo en ec, .bool mg] 30)).drewN n1).drewN nq) rb s v []) := RB.drewN (RB.drewN (unhide H) n1) nq
              have HE5 : Hid (Er rb v v w (((w.alloc (.cells #[.int .i64 mk, .int .i64 mf, .int .i64 mt, .int .i64 s.term, .int .i64 mi, .int .i64 ml, .int .i64 mc, .slice eo en ec, .bool mg] 30)).drewN n1).drewN nq)) := ((Er.ofBelow (unhide HB)).drewN n1).drewN nq
              have HM5 : Hid ((((w.alloc (.cells #[.int .i64 mk, .int .i64 mf, .int .i64 mt, .int .i64 s.term, .int .i64 mi, .int .i64 ml, .int .i64 mc, .slice eo en ec, .bool mg] 30)).drewN n1).drewN nq).heap[w.heap.size]? = some (.cells #[.int .i64 mk, .int .i64 mf, .int .i64 mt, .int .i64 s.term, .int .i64 mi, .int .i64 ml, .int .i64 mc, .slice eo en ec, .bool mg] 30 (0, 0))) := unhide HM
              generalize ((w.alloc (.cells #[.int .i64 mk, .int .i64 mf, .int .i64 mt, .int .i64 s.term, .int .i64 mi, .int .i64 ml, .int .i64 mc, .slice eo en ec, .bool mg] 30)).drewN n1).drewN nq = W5 at *
              have n0 : W5.cell? ⟨w.heap.size, 0, none⟩ = some (.int .i64 mk) := cell_of_row W5 w.heap.size 0 _ _ _ (unhide HM5)
              have n1 : W5.cell? ⟨w.heap.size, 1, none⟩ = some (.int .i64 mf) := cell_of_row W5 w.heap.size 1 _ _ _ (unhide HM5)
              have n2 : W5.cell? ⟨w.heap.size, 2, none⟩ = some (.int .i64 mt) := cell_of_row W5 w.heap.size 2 _ _ _ (unhide HM5)
              have n3 : W5.cell? ⟨w.heap.size, 3, none⟩ = some (.int .i64 s.term) := cell_of_row W5 w.heap.size 3 _ _ _ (unhide HM5)
              have n4 : W5.cell? ⟨w.heap.size, 4, none⟩ = some (.int .i64 mi) := cell_of_row W5 w.heap.size 4 _ _ _ (unhide HM5)
              have n5 : W5.cell? ⟨w.heap.size, 5, none⟩ = some (.int .i64 ml) := cell_of_row W5 w.heap.size 5 _ _ _ (unhide HM5)
              have n6 : W5.cell? ⟨w.heap.size, 6, none⟩ = some (.int .i64 mc) := cell_of_row W5 w.heap.size 6 _ _ _ (unhide HM5)
              have n7 : W5.cell? ⟨w.heap.size, 7, none⟩ = some (.slice eo en ec) := cell_of_row W5 w.heap.size 7 _ _ _ (unhide HM5)
              have n8 : W5.cell? ⟨w.heap.size, 8, none⟩ = some (.bool mg) := cell_of_row W5 w.heap.size 8 _ _ _ (unhide HM5)
              go_wp2_with (first | (go_at_call 119; refine (refGood_any rb s v [] ⟨mk, mf, mt, s.term, mi, ml, mc, me, mg⟩ _ _ (unhide HR5) hs60 ⟨_, _, _, rfl⟩).mono ?_; rw [unhide HG]; rintro e w6 ⟨rfl, hb6⟩; have hR6 := ((unhide HR5).below hb6); have hM6 := hide ((hb6.block w.heap.size (Array.getElem?_eq_some_iff.1 (unhide HM5)).1).trans (unhide HM5)); have hE6 := hide ((unhide HE5).trans (Er.ofBelow hb6)); have k3 := hR6.c3; have k6 := hR6.c6; have k1 : w6.cell? ⟨w.heap.size, 1, none⟩ = some (.int .i64 mf) := cell_of_row w6 w.heap.size 1 _ _ _ (unhide hM6); replace hR6 := hide hR6; clear hb6))
              go_quiet (fail)
              have HR7 : Hid (RB (w6.drewN nq) rb s v []) := RB.drewN (unhide hR6) nq
              have HE7 := hide ((unhide hE6).drewN nq)
              have HM7 : Hid ((w6.drewN nq).heap[w.heap.size]? = some (.cells #[.int .i64 mk, .int .i64 mf, .int .i64 mt, .int .i64 s.term, .int .i64 mi, .int .i64 ml, .int .i64 mc, .slice eo en ec, .bool mg] 30 (0, 0))) := unhide hM6
              clear k1 k3 k6
              generalize w6.drewN nq = W7 at *
              have m1 : W7.cell? ⟨w.heap.size, 1, none⟩ = some (.int .i64 mf) := cell_of_row W7 w.heap.size 1 _ _ _ (unhide HM7)
              have m2 : W7.cell? ⟨rb, 2, none⟩ = some (.int .i64 s.term) := (unhide HR7).c2
              go_wp2_with fail
              go_region_law (first | (go_simp; go_at_call 104; refine (refSend_any rb _ v [] { kind := 3, src := 0, dst := mf, term := s.term, index := 0, logTerm := 0, commit := 0, ents := [], granted := false } _ _ (RB.drew (unhide HR7)) (by simp) (nil_ents _) (fun y _ hy => by simp [Value.ownBlock] at hy)).mono ?_; rintro e w9 ⟨rfl, hS9⟩; replace hS9 := hide hS9))
              all_goals go_end0
              all_goals (rw [unhide HA]; exact ⟨rfl, rsent_turned (unhide HE7).drew (unhide hS9)⟩)
            · have HA : Hid (s.stepVote ⟨mk, mf, mt, s.term, mi, ml, mc, me, mg⟩ = (s, [s.reply 3 mf s.term 0 false])) := by
                show _ = _
                have q1 : s.votes ⟨mk, mf, mt, s.term, mi, ml, mc, me, mg⟩ = false := by
                  unfold Nd.votes
                  rw [hg]
                  first | (simp; done) | (simp [hrl]; done) | (simp [hv1, hrl]; done) | (simp [hv2, hrl]; done) | simp [hv1, hv2]
                unfold Nd.stepVote
                rw [if_neg hk', hV, q1, if_neg (by decide)]
              have e1 : (s.vote == -1) = true := by simp [hv1]
              have e2 : (s.vote == mf) = false := by simp [hv2]
              have e3 : (s.role == 0) = false := by simp [hrl]
              have HG := hide hg
              clear hg hv1 hv2 hrl hV hk'
              go_enter Tryz.func74, Tryz.ntmps74
              go_wp2
              go_quiet (fail)
              revert nq
              intro n1
              go_wp2_with fail
              go_quiet (fail)
              have HR5 : Hid (RB (((w.alloc (.cells #[.int .i64 mk, .int .i64 mf, .int .i64 mt, .int .i64 s.term, .int .i64 mi, .int .i64 ml, .int .i64 mc, .slice eo en ec, .bool mg] 30)).drewN n1).drewN nq) rb s v []) := RB.drewN (RB.drewN (unhide H) n1) nq
              have HE5 : Hid (Er rb v v w (((w.alloc (.cells #[.int .i64 mk, .int .i64 mf, .int .i64 mt, .int .i64 s.term, .int .i64 mi, .int .i64 ml, .int .i64 mc, .slice eo en ec, .bool mg] 30)).drewN n1).drewN nq)) := ((Er.ofBelow (unhide HB)).drewN n1).drewN nq
              have HM5 : Hid ((((w.alloc (.cells #[.int .i64 mk, .int .i64 mf, .int .i64 mt, .int .i64 s.term, .int .i64 mi, .int .i64 ml, .int .i64 mc, .slice eo en ec, .bool mg] 30)).drewN n1).drewN nq).heap[w.heap.size]? = some (.cells #[.int .i64 mk, .int .i64 mf, .int .i64 mt, .int .i64 s.term, .int .i64 mi, .int .i64 ml, .int .i64 mc, .slice eo en ec, .bool mg] 30 (0, 0))) := unhide HM
              generalize ((w.alloc (.cells #[.int .i64 mk, .int .i64 mf, .int .i64 mt, .int .i64 s.term, .int .i64 mi, .int .i64 ml, .int .i64 mc, .slice eo en ec, .bool mg] 30)).drewN n1).drewN nq = W5 at *
              have n0 : W5.cell? ⟨w.heap.size, 0, none⟩ = some (.int .i64 mk) := cell_of_row W5 w.heap.size 0 _ _ _ (unhide HM5)
              have n1 : W5.cell? ⟨w.heap.size, 1, none⟩ = some (.int .i64 mf) := cell_of_row W5 w.heap.size 1 _ _ _ (unhide HM5)
              have n2 : W5.cell? ⟨w.heap.size, 2, none⟩ = some (.int .i64 mt) := cell_of_row W5 w.heap.size 2 _ _ _ (unhide HM5)
              have n3 : W5.cell? ⟨w.heap.size, 3, none⟩ = some (.int .i64 s.term) := cell_of_row W5 w.heap.size 3 _ _ _ (unhide HM5)
              have n4 : W5.cell? ⟨w.heap.size, 4, none⟩ = some (.int .i64 mi) := cell_of_row W5 w.heap.size 4 _ _ _ (unhide HM5)
              have n5 : W5.cell? ⟨w.heap.size, 5, none⟩ = some (.int .i64 ml) := cell_of_row W5 w.heap.size 5 _ _ _ (unhide HM5)
              have n6 : W5.cell? ⟨w.heap.size, 6, none⟩ = some (.int .i64 mc) := cell_of_row W5 w.heap.size 6 _ _ _ (unhide HM5)
              have n7 : W5.cell? ⟨w.heap.size, 7, none⟩ = some (.slice eo en ec) := cell_of_row W5 w.heap.size 7 _ _ _ (unhide HM5)
              have n8 : W5.cell? ⟨w.heap.size, 8, none⟩ = some (.bool mg) := cell_of_row W5 w.heap.size 8 _ _ _ (unhide HM5)
              go_wp2_with (first | (go_at_call 119; refine (refGood_any rb s v [] ⟨mk, mf, mt, s.term, mi, ml, mc, me, mg⟩ _ _ (unhide HR5) hs60 ⟨_, _, _, rfl⟩).mono ?_; rw [unhide HG]; rintro e w6 ⟨rfl, hb6⟩; have hR6 := ((unhide HR5).below hb6); have hM6 := hide ((hb6.block w.heap.size (Array.getElem?_eq_some_iff.1 (unhide HM5)).1).trans (unhide HM5)); have hE6 := hide ((unhide HE5).trans (Er.ofBelow hb6)); have k3 := hR6.c3; have k6 := hR6.c6; have k1 : w6.cell? ⟨w.heap.size, 1, none⟩ = some (.int .i64 mf) := cell_of_row w6 w.heap.size 1 _ _ _ (unhide hM6); replace hR6 := hide hR6; clear hb6))
              go_quiet (fail)
              have HR7 : Hid (RB (w6.drewN nq) rb s v []) := RB.drewN (unhide hR6) nq
              have HE7 := hide ((unhide hE6).drewN nq)
              have HM7 : Hid ((w6.drewN nq).heap[w.heap.size]? = some (.cells #[.int .i64 mk, .int .i64 mf, .int .i64 mt, .int .i64 s.term, .int .i64 mi, .int .i64 ml, .int .i64 mc, .slice eo en ec, .bool mg] 30 (0, 0))) := unhide hM6
              clear k1 k3 k6
              generalize w6.drewN nq = W7 at *
              have m1 : W7.cell? ⟨w.heap.size, 1, none⟩ = some (.int .i64 mf) := cell_of_row W7 w.heap.size 1 _ _ _ (unhide HM7)
              have m2 : W7.cell? ⟨rb, 2, none⟩ = some (.int .i64 s.term) := (unhide HR7).c2
              go_wp2_with fail
              go_region_law (first | (go_simp; go_at_call 104; refine (refSend_any rb _ v [] { kind := 3, src := 0, dst := mf, term := s.term, index := 0, logTerm := 0, commit := 0, ents := [], granted := false } _ _ (RB.drew (unhide HR7)) (by simp) (nil_ents _) (fun y _ hy => by simp [Value.ownBlock] at hy)).mono ?_; rintro e w9 ⟨rfl, hS9⟩; replace hS9 := hide hS9))
              all_goals go_end0
              all_goals (rw [unhide HA]; exact ⟨rfl, rsent_turned (unhide HE7).drew (unhide hS9)⟩)
          · by_cases hv2 : s.vote = mf
            · have HA : Hid (s.stepVote ⟨mk, mf, mt, s.term, mi, ml, mc, me, mg⟩ = (s, [s.reply 3 mf s.term 0 false])) := by
                show _ = _
                have q1 : s.votes ⟨mk, mf, mt, s.term, mi, ml, mc, me, mg⟩ = false := by
                  unfold Nd.votes
                  rw [hg]
                  first | (simp; done) | (simp [hrl]; done) | (simp [hv1, hrl]; done) | (simp [hv2, hrl]; done) | simp [hv1, hv2]
                unfold Nd.stepVote
                rw [if_neg hk', hV, q1, if_neg (by decide)]
              have e1 : (s.vote == -1) = false := by simp [hv1]
              have e2 : (s.vote == mf) = true := by simp [hv2]
              have e3 : (s.role == 0) = false := by simp [hrl]
              have HG := hide hg
              clear hg hv1 hv2 hrl hV hk'
              go_enter Tryz.func74, Tryz.ntmps74
              go_wp2
              go_quiet (fail)
              revert nq
              intro n1
              go_wp2_with fail
              go_quiet (fail)
              have HR5 : Hid (RB (((w.alloc (.cells #[.int .i64 mk, .int .i64 mf, .int .i64 mt, .int .i64 s.term, .int .i64 mi, .int .i64 ml, .int .i64 mc, .slice eo en ec, .bool mg] 30)).drewN n1).drewN nq) rb s v []) := RB.drewN (RB.drewN (unhide H) n1) nq
              have HE5 : Hid (Er rb v v w (((w.alloc (.cells #[.int .i64 mk, .int .i64 mf, .int .i64 mt, .int .i64 s.term, .int .i64 mi, .int .i64 ml, .int .i64 mc, .slice eo en ec, .bool mg] 30)).drewN n1).drewN nq)) := ((Er.ofBelow (unhide HB)).drewN n1).drewN nq
              have HM5 : Hid ((((w.alloc (.cells #[.int .i64 mk, .int .i64 mf, .int .i64 mt, .int .i64 s.term, .int .i64 mi, .int .i64 ml, .int .i64 mc, .slice eo en ec, .bool mg] 30)).drewN n1).drewN nq).heap[w.heap.size]? = some (.cells #[.int .i64 mk, .int .i64 mf, .int .i64 mt, .int .i64 s.term, .int .i64 mi, .int .i64 ml, .int .i64 mc, .slice eo en ec, .bool mg] 30 (0, 0))) := unhide HM
              generalize ((w.alloc (.cells #[.int .i64 mk, .int .i64 mf, .int .i64 mt, .int .i64 s.term, .int .i64 mi, .int .i64 ml, .int .i64 mc, .slice eo en ec, .bool mg] 30)).drewN n1).drewN nq = W5 at *
              have n0 : W5.cell? ⟨w.heap.size, 0, none⟩ = some (.int .i64 mk) := cell_of_row W5 w.heap.size 0 _ _ _ (unhide HM5)
              have n1 : W5.cell? ⟨w.heap.size, 1, none⟩ = some (.int .i64 mf) := cell_of_row W5 w.heap.size 1 _ _ _ (unhide HM5)
              have n2 : W5.cell? ⟨w.heap.size, 2, none⟩ = some (.int .i64 mt) := cell_of_row W5 w.heap.size 2 _ _ _ (unhide HM5)
              have n3 : W5.cell? ⟨w.heap.size, 3, none⟩ = some (.int .i64 s.term) := cell_of_row W5 w.heap.size 3 _ _ _ (unhide HM5)
              have n4 : W5.cell? ⟨w.heap.size, 4, none⟩ = some (.int .i64 mi) := cell_of_row W5 w.heap.size 4 _ _ _ (unhide HM5)
              have n5 : W5.cell? ⟨w.heap.size, 5, none⟩ = some (.int .i64 ml) := cell_of_row W5 w.heap.size 5 _ _ _ (unhide HM5)
              have n6 : W5.cell? ⟨w.heap.size, 6, none⟩ = some (.int .i64 mc) := cell_of_row W5 w.heap.size 6 _ _ _ (unhide HM5)
              have n7 : W5.cell? ⟨w.heap.size, 7, none⟩ = some (.slice eo en ec) := cell_of_row W5 w.heap.size 7 _ _ _ (unhide HM5)
              have n8 : W5.cell? ⟨w.heap.size, 8, none⟩ = some (.bool mg) := cell_of_row W5 w.heap.size 8 _ _ _ (unhide HM5)
              go_wp2_with (first | (go_at_call 119; refine (refGood_any rb s v [] ⟨mk, mf, mt, s.term, mi, ml, mc, me, mg⟩ _ _ (unhide HR5) hs60 ⟨_, _, _, rfl⟩).mono ?_; rw [unhide HG]; rintro e w6 ⟨rfl, hb6⟩; have hR6 := ((unhide HR5).below hb6); have hM6 := hide ((hb6.block w.heap.size (Array.getElem?_eq_some_iff.1 (unhide HM5)).1).trans (unhide HM5)); have hE6 := hide ((unhide HE5).trans (Er.ofBelow hb6)); have k3 := hR6.c3; have k6 := hR6.c6; have k1 : w6.cell? ⟨w.heap.size, 1, none⟩ = some (.int .i64 mf) := cell_of_row w6 w.heap.size 1 _ _ _ (unhide hM6); replace hR6 := hide hR6; clear hb6))
              go_quiet (fail)
              have HR7 : Hid (RB (w6.drewN nq) rb s v []) := RB.drewN (unhide hR6) nq
              have HE7 := hide ((unhide hE6).drewN nq)
              have HM7 : Hid ((w6.drewN nq).heap[w.heap.size]? = some (.cells #[.int .i64 mk, .int .i64 mf, .int .i64 mt, .int .i64 s.term, .int .i64 mi, .int .i64 ml, .int .i64 mc, .slice eo en ec, .bool mg] 30 (0, 0))) := unhide hM6
              clear k1 k3 k6
              generalize w6.drewN nq = W7 at *
              have m1 : W7.cell? ⟨w.heap.size, 1, none⟩ = some (.int .i64 mf) := cell_of_row W7 w.heap.size 1 _ _ _ (unhide HM7)
              have m2 : W7.cell? ⟨rb, 2, none⟩ = some (.int .i64 s.term) := (unhide HR7).c2
              go_wp2_with fail
              go_region_law (first | (go_simp; go_at_call 104; refine (refSend_any rb _ v [] { kind := 3, src := 0, dst := mf, term := s.term, index := 0, logTerm := 0, commit := 0, ents := [], granted := false } _ _ (RB.drew (unhide HR7)) (by simp) (nil_ents _) (fun y _ hy => by simp [Value.ownBlock] at hy)).mono ?_; rintro e w9 ⟨rfl, hS9⟩; replace hS9 := hide hS9))
              all_goals go_end0
              all_goals (rw [unhide HA]; exact ⟨rfl, rsent_turned (unhide HE7).drew (unhide hS9)⟩)
            · have HA : Hid (s.stepVote ⟨mk, mf, mt, s.term, mi, ml, mc, me, mg⟩ = (s, [s.reply 3 mf s.term 0 false])) := by
                show _ = _
                have q1 : s.votes ⟨mk, mf, mt, s.term, mi, ml, mc, me, mg⟩ = false := by
                  unfold Nd.votes
                  rw [hg]
                  first | (simp; done) | (simp [hrl]; done) | (simp [hv1, hrl]; done) | (simp [hv2, hrl]; done) | simp [hv1, hv2]
                unfold Nd.stepVote
                rw [if_neg hk', hV, q1, if_neg (by decide)]
              have e1 : (s.vote == -1) = false := by simp [hv1]
              have e2 : (s.vote == mf) = false := by simp [hv2]
              have e3 : (s.role == 0) = false := by simp [hrl]
              have HG := hide hg
              clear hg hv1 hv2 hrl hV hk'
              go_enter Tryz.func74, Tryz.ntmps74
              go_wp2
              go_quiet (fail)
              revert nq
              intro n1
              go_wp2_with fail
              go_quiet (fail)
              have HR5 : Hid (RB (((w.alloc (.cells #[.int .i64 mk, .int .i64 mf, .int .i64 mt, .int .i64 s.term, .int .i64 mi, .int .i64 ml, .int .i64 mc, .slice eo en ec, .bool mg] 30)).drewN n1).drewN nq) rb s v []) := RB.drewN (RB.drewN (unhide H) n1) nq
              have HE5 : Hid (Er rb v v w (((w.alloc (.cells #[.int .i64 mk, .int .i64 mf, .int .i64 mt, .int .i64 s.term, .int .i64 mi, .int .i64 ml, .int .i64 mc, .slice eo en ec, .bool mg] 30)).drewN n1).drewN nq)) := ((Er.ofBelow (unhide HB)).drewN n1).drewN nq
              have HM5 : Hid ((((w.alloc (.cells #[.int .i64 mk, .int .i64 mf, .int .i64 mt, .int .i64 s.term, .int .i64 mi, .int .i64 ml, .int .i64 mc, .slice eo en ec, .bool mg] 30)).drewN n1).drewN nq).heap[w.heap.size]? = some (.cells #[.int .i64 mk, .int .i64 mf, .int .i64 mt, .int .i64 s.term, .int .i64 mi, .int .i64 ml, .int .i64 mc, .slice eo en ec, .bool mg] 30 (0, 0))) := unhide HM
              generalize ((w.alloc (.cells #[.int .i64 mk, .int .i64 mf, .int .i64 mt, .int .i64 s.term, .int .i64 mi, .int .i64 ml, .int .i64 mc, .slice eo en ec, .bool mg] 30)).drewN n1).drewN nq = W5 at *
              have n0 : W5.cell? ⟨w.heap.size, 0, none⟩ = some (.int .i64 mk) := cell_of_row W5 w.heap.size 0 _ _ _ (unhide HM5)
              have n1 : W5.cell? ⟨w.heap.size, 1, none⟩ = some (.int .i64 mf) := cell_of_row W5 w.heap.size 1 _ _ _ (unhide HM5)
              have n2 : W5.cell? ⟨w.heap.size, 2, none⟩ = some (.int .i64 mt) := cell_of_row W5 w.heap.size 2 _ _ _ (unhide HM5)
              have n3 : W5.cell? ⟨w.heap.size, 3, none⟩ = some (.int .i64 s.term) := cell_of_row W5 w.heap.size 3 _ _ _ (unhide HM5)
              have n4 : W5.cell? ⟨w.heap.size, 4, none⟩ = some (.int .i64 mi) := cell_of_row W5 w.heap.size 4 _ _ _ (unhide HM5)
              have n5 : W5.cell? ⟨w.heap.size, 5, none⟩ = some (.int .i64 ml) := cell_of_row W5 w.heap.size 5 _ _ _ (unhide HM5)
              have n6 : W5.cell? ⟨w.heap.size, 6, none⟩ = some (.int .i64 mc) := cell_of_row W5 w.heap.size 6 _ _ _ (unhide HM5)
              have n7 : W5.cell? ⟨w.heap.size, 7, none⟩ = some (.slice eo en ec) := cell_of_row W5 w.heap.size 7 _ _ _ (unhide HM5)
              have n8 : W5.cell? ⟨w.heap.size, 8, none⟩ = some (.bool mg) := cell_of_row W5 w.heap.size 8 _ _ _ (unhide HM5)
              go_wp2_with (first | (go_at_call 119; refine (refGood_any rb s v [] ⟨mk, mf, mt, s.term, mi, ml, mc, me, mg⟩ _ _ (unhide HR5) hs60 ⟨_, _, _, rfl⟩).mono ?_; rw [unhide HG]; rintro e w6 ⟨rfl, hb6⟩; have hR6 := ((unhide HR5).below hb6); have hM6 := hide ((hb6.block w.heap.size (Array.getElem?_eq_some_iff.1 (unhide HM5)).1).trans (unhide HM5)); have hE6 := hide ((unhide HE5).trans (Er.ofBelow hb6)); have k3 := hR6.c3; have k6 := hR6.c6; have k1 : w6.cell? ⟨w.heap.size, 1, none⟩ = some (.int .i64 mf) := cell_of_row w6 w.heap.size 1 _ _ _ (unhide hM6); replace hR6 := hide hR6; clear hb6))
              go_quiet (fail)
              have HR7 : Hid (RB (w6.drewN nq) rb s v []) := RB.drewN (unhide hR6) nq
              have HE7 := hide ((unhide hE6).drewN nq)
              have HM7 : Hid ((w6.drewN nq).heap[w.heap.size]? = some (.cells #[.int .i64 mk, .int .i64 mf, .int .i64 mt, .int .i64 s.term, .int .i64 mi, .int .i64 ml, .int .i64 mc, .slice eo en ec, .bool mg] 30 (0, 0))) := unhide hM6
              clear k1 k3 k6
              generalize w6.drewN nq = W7 at *
              have m1 : W7.cell? ⟨w.heap.size, 1, none⟩ = some (.int .i64 mf) := cell_of_row W7 w.heap.size 1 _ _ _ (unhide HM7)
              have m2 : W7.cell? ⟨rb, 2, none⟩ = some (.int .i64 s.term) := (unhide HR7).c2
              go_wp2_with fail
              go_region_law (first | (go_simp; go_at_call 104; refine (refSend_any rb _ v [] { kind := 3, src := 0, dst := mf, term := s.term, index := 0, logTerm := 0, commit := 0, ents := [], granted := false } _ _ (RB.drew (unhide HR7)) (by simp) (nil_ents _) (fun y _ hy => by simp [Value.ownBlock] at hy)).mono ?_; rintro e w9 ⟨rfl, hS9⟩; replace hS9 := hide hS9))
              all_goals go_end0
              all_goals (rw [unhide HA]; exact ⟨rfl, rsent_turned (unhide HE7).drew (unhide hS9)⟩)
      | false =>
        by_cases hrl : s.role = 0
        · by_cases hv1 : s.vote = -1
          · by_cases hv2 : s.vote = mf
            · have HA : Hid (s.stepVote ⟨mk, mf, mt, s.term, mi, ml, mc, me, mg⟩ = (s, [s.reply 3 mf s.term 0 false])) := by
                show _ = _
                have q1 : s.votes ⟨mk, mf, mt, s.term, mi, ml, mc, me, mg⟩ = false := by
                  unfold Nd.votes
                  rw [hg]
                  first | (simp; done) | (simp [hrl]; done) | (simp [hv1, hrl]; done) | (simp [hv2, hrl]; done) | simp [hv1, hv2]
                unfold Nd.stepVote
                rw [if_neg hk', hV, q1, if_neg (by decide)]
              have e1 : (s.vote == -1) = true := by simp [hv1]
              have e2 : (s.vote == mf) = true := by simp [hv2]
              have e3 : (s.role == 0) = true := by simp [hrl]
              have HG := hide hg
              clear hg hv1 hv2 hrl hV hk'
              go_enter Tryz.func74, Tryz.ntmps74
              go_wp2
              go_quiet (fail)
              revert nq
              intro n1
              go_wp2_with fail
              go_quiet (fail)
              have HR5 : Hid (RB (((w.alloc (.cells #[.int .i64 mk, .int .i64 mf, .int .i64 mt, .int .i64 s.term, .int .i64 mi, .int .i64 ml, .int .i64 mc, .slice eo en ec, .bool mg] 30)).drewN n1).drewN nq) rb s v []) := RB.drewN (RB.drewN (unhide H) n1) nq
              have HE5 : Hid (Er rb v v w (((w.alloc (.cells #[.int .i64 mk, .int .i64 mf, .int .i64 mt, .int .i64 s.term, .int .i64 mi, .int .i64 ml, .int .i64 mc, .slice eo en ec, .bool mg] 30)).drewN n1).drewN nq)) := ((Er.ofBelow (unhide HB)).drewN n1).drewN nq
              have HM5 : Hid ((((w.alloc (.cells #[.int .i64 mk, .int .i64 mf, .int .i64 mt, .int .i64 s.term, .int .i64 mi, .int .i64 ml, .int .i64 mc, .slice eo en ec, .bool mg] 30)).drewN n1).drewN nq).heap[w.heap.size]? = some (.cells #[.int .i64 mk, .int .i64 mf, .int .i64 mt, .int .i64 s.term, .int .i64 mi, .int .i64 ml, .int .i64 mc, .slice eo en ec, .bool mg] 30 (0, 0))) := unhide HM
              generalize ((w.alloc (.cells #[.int .i64 mk, .int .i64 mf, .int .i64 mt, .int .i64 s.term, .int .i64 mi, .int .i64 ml, .int .i64 mc, .slice eo en ec, .bool mg] 30)).drewN n1).drewN nq = W5 at *
              have n0 : W5.cell? ⟨w.heap.size, 0, none⟩ = some (.int .i64 mk) := cell_of_row W5 w.heap.size 0 _ _ _ (unhide HM5)
              have n1 : W5.cell? ⟨w.heap.size, 1, none⟩ = some (.int .i64 mf) := cell_of_row W5 w.heap.size 1 _ _ _ (unhide HM5)
              have n2 : W5.cell? ⟨w.heap.size, 2, none⟩ = some (.int .i64 mt) := cell_of_row W5 w.heap.size 2 _ _ _ (unhide HM5)
              have n3 : W5.cell? ⟨w.heap.size, 3, none⟩ = some (.int .i64 s.term) := cell_of_row W5 w.heap.size 3 _ _ _ (unhide HM5)
              have n4 : W5.cell? ⟨w.heap.size, 4, none⟩ = some (.int .i64 mi) := cell_of_row W5 w.heap.size 4 _ _ _ (unhide HM5)
              have n5 : W5.cell? ⟨w.heap.size, 5, none⟩ = some (.int .i64 ml) := cell_of_row W5 w.heap.size 5 _ _ _ (unhide HM5)
              have n6 : W5.cell? ⟨w.heap.size, 6, none⟩ = some (.int .i64 mc) := cell_of_row W5 w.heap.size 6 _ _ _ (unhide HM5)
              have n7 : W5.cell? ⟨w.heap.size, 7, none⟩ = some (.slice eo en ec) := cell_of_row W5 w.heap.size 7 _ _ _ (unhide HM5)
              have n8 : W5.cell? ⟨w.heap.size, 8, none⟩ = some (.bool mg) := cell_of_row W5 w.heap.size 8 _ _ _ (unhide HM5)
              go_wp2_with (first | (go_at_call 119; refine (refGood_any rb s v [] ⟨mk, mf, mt, s.term, mi, ml, mc, me, mg⟩ _ _ (unhide HR5) hs60 ⟨_, _, _, rfl⟩).mono ?_; rw [unhide HG]; rintro e w6 ⟨rfl, hb6⟩; have hR6 := ((unhide HR5).below hb6); have hM6 := hide ((hb6.block w.heap.size (Array.getElem?_eq_some_iff.1 (unhide HM5)).1).trans (unhide HM5)); have hE6 := hide ((unhide HE5).trans (Er.ofBelow hb6)); have k3 := hR6.c3; have k6 := hR6.c6; have k1 : w6.cell? ⟨w.heap.size, 1, none⟩ = some (.int .i64 mf) := cell_of_row w6 w.heap.size 1 _ _ _ (unhide hM6); replace hR6 := hide hR6; clear hb6))
              go_quiet (fail)
              have HR7 : Hid (RB (w6.drewN nq) rb s v []) := RB.drewN (unhide hR6) nq
              have HE7 := hide ((unhide hE6).drewN nq)
              have HM7 : Hid ((w6.drewN nq).heap[w.heap.size]? = some (.cells #[.int .i64 mk, .int .i64 mf, .int .i64 mt, .int .i64 s.term, .int .i64 mi, .int .i64 ml, .int .i64 mc, .slice eo en ec, .bool mg] 30 (0, 0))) := unhide hM6
              clear k1 k3 k6
              generalize w6.drewN nq = W7 at *
              have m1 : W7.cell? ⟨w.heap.size, 1, none⟩ = some (.int .i64 mf) := cell_of_row W7 w.heap.size 1 _ _ _ (unhide HM7)
              have m2 : W7.cell? ⟨rb, 2, none⟩ = some (.int .i64 s.term) := (unhide HR7).c2
              go_wp2_with fail
              go_region_law (first | (go_simp; go_at_call 104; refine (refSend_any rb _ v [] { kind := 3, src := 0, dst := mf, term := s.term, index := 0, logTerm := 0, commit := 0, ents := [], granted := false } _ _ (RB.drew (unhide HR7)) (by simp) (nil_ents _) (fun y _ hy => by simp [Value.ownBlock] at hy)).mono ?_; rintro e w9 ⟨rfl, hS9⟩; replace hS9 := hide hS9))
              all_goals go_end0
              all_goals (rw [unhide HA]; exact ⟨rfl, rsent_turned (unhide HE7).drew (unhide hS9)⟩)
            · have HA : Hid (s.stepVote ⟨mk, mf, mt, s.term, mi, ml, mc, me, mg⟩ = (s, [s.reply 3 mf s.term 0 false])) := by
                show _ = _
                have q1 : s.votes ⟨mk, mf, mt, s.term, mi, ml, mc, me, mg⟩ = false := by
                  unfold Nd.votes
                  rw [hg]
                  first | (simp; done) | (simp [hrl]; done) | (simp [hv1, hrl]; done) | (simp [hv2, hrl]; done) | simp [hv1, hv2]
                unfold Nd.stepVote
                rw [if_neg hk', hV, q1, if_neg (by decide)]
              have e1 : (s.vote == -1) = true := by simp [hv1]
              have e2 : (s.vote == mf) = false := by simp [hv2]
              have e3 : (s.role == 0) = true := by simp [hrl]
              have HG := hide hg
              clear hg hv1 hv2 hrl hV hk'
              go_enter Tryz.func74, Tryz.ntmps74
              go_wp2
              go_quiet (fail)
              revert nq
              intro n1
              go_wp2_with fail
              go_quiet (fail)
              have HR5 : Hid (RB (((w.alloc (.cells #[.int .i64 mk, .int .i64 mf, .int .i64 mt, .int .i64 s.term, .int .i64 mi, .int .i64 ml, .int .i64 mc, .slice eo en ec, .bool mg] 30)).drewN n1).drewN nq) rb s v []) := RB.drewN (RB.drewN (unhide H) n1) nq
              have HE5 : Hid (Er rb v v w (((w.alloc (.cells #[.int .i64 mk, .int .i64 mf, .int .i64 mt, .int .i64 s.term, .int .i64 mi, .int .i64 ml, .int .i64 mc, .slice eo en ec, .bool mg] 30)).drewN n1).drewN nq)) := ((Er.ofBelow (unhide HB)).drewN n1).drewN nq
              have HM5 : Hid ((((w.alloc (.cells #[.int .i64 mk, .int .i64 mf, .int .i64 mt, .int .i64 s.term, .int .i64 mi, .int .i64 ml, .int .i64 mc, .slice eo en ec, .bool mg] 30)).drewN n1).drewN nq).heap[w.heap.size]? = some (.cells #[.int .i64 mk, .int .i64 mf, .int .i64 mt, .int .i64 s.term, .int .i64 mi, .int .i64 ml, .int .i64 mc, .slice eo en ec, .bool mg] 30 (0, 0))) := unhide HM
              generalize ((w.alloc (.cells #[.int .i64 mk, .int .i64 mf, .int .i64 mt, .int .i64 s.term, .int .i64 mi, .int .i64 ml, .int .i64 mc, .slice eo en ec, .bool mg] 30)).drewN n1).drewN nq = W5 at *
              have n0 : W5.cell? ⟨w.heap.size, 0, none⟩ = some (.int .i64 mk) := cell_of_row W5 w.heap.size 0 _ _ _ (unhide HM5)
              have n1 : W5.cell? ⟨w.heap.size, 1, none⟩ = some (.int .i64 mf) := cell_of_row W5 w.heap.size 1 _ _ _ (unhide HM5)
              have n2 : W5.cell? ⟨w.heap.size, 2, none⟩ = some (.int .i64 mt) := cell_of_row W5 w.heap.size 2 _ _ _ (unhide HM5)
              have n3 : W5.cell? ⟨w.heap.size, 3, none⟩ = some (.int .i64 s.term) := cell_of_row W5 w.heap.size 3 _ _ _ (unhide HM5)
              have n4 : W5.cell? ⟨w.heap.size, 4, none⟩ = some (.int .i64 mi) := cell_of_row W5 w.heap.size 4 _ _ _ (unhide HM5)
              have n5 : W5.cell? ⟨w.heap.size, 5, none⟩ = some (.int .i64 ml) := cell_of_row W5 w.heap.size 5 _ _ _ (unhide HM5)
              have n6 : W5.cell? ⟨w.heap.size, 6, none⟩ = some (.int .i64 mc) := cell_of_row W5 w.heap.size 6 _ _ _ (unhide HM5)
              have n7 : W5.cell? ⟨w.heap.size, 7, none⟩ = some (.slice eo en ec) := cell_of_row W5 w.heap.size 7 _ _ _ (unhide HM5)
              have n8 : W5.cell? ⟨w.heap.size, 8, none⟩ = some (.bool mg) := cell_of_row W5 w.heap.size 8 _ _ _ (unhide HM5)
              go_wp2_with (first | (go_at_call 119; refine (refGood_any rb s v [] ⟨mk, mf, mt, s.term, mi, ml, mc, me, mg⟩ _ _ (unhide HR5) hs60 ⟨_, _, _, rfl⟩).mono ?_; rw [unhide HG]; rintro e w6 ⟨rfl, hb6⟩; have hR6 := ((unhide HR5).below hb6); have hM6 := hide ((hb6.block w.heap.size (Array.getElem?_eq_some_iff.1 (unhide HM5)).1).trans (unhide HM5)); have hE6 := hide ((unhide HE5).trans (Er.ofBelow hb6)); have k3 := hR6.c3; have k6 := hR6.c6; have k1 : w6.cell? ⟨w.heap.size, 1, none⟩ = some (.int .i64 mf) := cell_of_row w6 w.heap.size 1 _ _ _ (unhide hM6); replace hR6 := hide hR6; clear hb6))
              go_quiet (fail)
              have HR7 : Hid (RB (w6.drewN nq) rb s v []) := RB.drewN (unhide hR6) nq
              have HE7 := hide ((unhide hE6).drewN nq)
              have HM7 : Hid ((w6.drewN nq).heap[w.heap.size]? = some (.cells #[.int .i64 mk, .int .i64 mf, .int .i64 mt, .int .i64 s.term, .int .i64 mi, .int .i64 ml, .int .i64 mc, .slice eo en ec, .bool mg] 30 (0, 0))) := unhide hM6
              clear k1 k3 k6
              generalize w6.drewN nq = W7 at *
              have m1 : W7.cell? ⟨w.heap.size, 1, none⟩ = some (.int .i64 mf) := cell_of_row W7 w.heap.size 1 _ _ _ (unhide HM7)
              have m2 : W7.cell? ⟨rb, 2, none⟩ = some (.int .i64 s.term) := (unhide HR7).c2
              go_wp2_with fail
              go_region_law (first | (go_simp; go_at_call 104; refine (refSend_any rb _ v [] { kind := 3, src := 0, dst := mf, term := s.term, index := 0, logTerm := 0, commit := 0, ents := [], granted := false } _ _ (RB.drew (unhide HR7)) (by simp) (nil_ents _) (fun y _ hy => by simp [Value.ownBlock] at hy)).mono ?_; rintro e w9 ⟨rfl, hS9⟩; replace hS9 := hide hS9))
              all_goals go_end0
              all_goals (rw [unhide HA]; exact ⟨rfl, rsent_turned (unhide HE7).drew (unhide hS9)⟩)
          · by_cases hv2 : s.vote = mf
            · have HA : Hid (s.stepVote ⟨mk, mf, mt, s.term, mi, ml, mc, me, mg⟩ = (s, [s.reply 3 mf s.term 0 false])) := by
                show _ = _
                have q1 : s.votes ⟨mk, mf, mt, s.term, mi, ml, mc, me, mg⟩ = false := by
                  unfold Nd.votes
                  rw [hg]
                  first | (simp; done) | (simp [hrl]; done) | (simp [hv1, hrl]; done) | (simp [hv2, hrl]; done) | simp [hv1, hv2]
                unfold Nd.stepVote
                rw [if_neg hk', hV, q1, if_neg (by decide)]
              have e1 : (s.vote == -1) = false := by simp [hv1]
              have e2 : (s.vote == mf) = true := by simp [hv2]
              have e3 : (s.role == 0) = true := by simp [hrl]
              have HG := hide hg
              clear hg hv1 hv2 hrl hV hk'
              go_enter Tryz.func74, Tryz.ntmps74
              go_wp2
              go_quiet (fail)
              revert nq
              intro n1
              go_wp2_with fail
              go_quiet (fail)
              have HR5 : Hid (RB (((w.alloc (.cells #[.int .i64 mk, .int .i64 mf, .int .i64 mt, .int .i64 s.term, .int .i64 mi, .int .i64 ml, .int .i64 mc, .slice eo en ec, .bool mg] 30)).drewN n1).drewN nq) rb s v []) := RB.drewN (RB.drewN (unhide H) n1) nq
              have HE5 : Hid (Er rb v v w (((w.alloc (.cells #[.int .i64 mk, .int .i64 mf, .int .i64 mt, .int .i64 s.term, .int .i64 mi, .int .i64 ml, .int .i64 mc, .slice eo en ec, .bool mg] 30)).drewN n1).drewN nq)) := ((Er.ofBelow (unhide HB)).drewN n1).drewN nq
              have HM5 : Hid ((((w.alloc (.cells #[.int .i64 mk, .int .i64 mf, .int .i64 mt, .int .i64 s.term, .int .i64 mi, .int .i64 ml, .int .i64 mc, .slice eo en ec, .bool mg] 30)).drewN n1).drewN nq).heap[w.heap.size]? = some (.cells #[.int .i64 mk, .int .i64 mf, .int .i64 mt, .int .i64 s.term, .int .i64 mi, .int .i64 ml, .int .i64 mc, .slice eo en ec, .bool mg] 30 (0, 0))) := unhide HM
              generalize ((w.alloc (.cells #[.int .i64 mk, .int .i64 mf, .int .i64 mt, .int .i64 s.term, .int .i64 mi, .int .i64 ml, .int .i64 mc, .slice eo en ec, .bool mg] 30)).drewN n1).drewN nq = W5 at *
              have n0 : W5.cell? ⟨w.heap.size, 0, none⟩ = some (.int .i64 mk) := cell_of_row W5 w.heap.size 0 _ _ _ (unhide HM5)
              have n1 : W5.cell? ⟨w.heap.size, 1, none⟩ = some (.int .i64 mf) := cell_of_row W5 w.heap.size 1 _ _ _ (unhide HM5)
              have n2 : W5.cell? ⟨w.heap.size, 2, none⟩ = some (.int .i64 mt) := cell_of_row W5 w.heap.size 2 _ _ _ (unhide HM5)
              have n3 : W5.cell? ⟨w.heap.size, 3, none⟩ = some (.int .i64 s.term) := cell_of_row W5 w.heap.size 3 _ _ _ (unhide HM5)
              have n4 : W5.cell? ⟨w.heap.size, 4, none⟩ = some (.int .i64 mi) := cell_of_row W5 w.heap.size 4 _ _ _ (unhide HM5)
              have n5 : W5.cell? ⟨w.heap.size, 5, none⟩ = some (.int .i64 ml) := cell_of_row W5 w.heap.size 5 _ _ _ (unhide HM5)
              have n6 : W5.cell? ⟨w.heap.size, 6, none⟩ = some (.int .i64 mc) := cell_of_row W5 w.heap.size 6 _ _ _ (unhide HM5)
              have n7 : W5.cell? ⟨w.heap.size, 7, none⟩ = some (.slice eo en ec) := cell_of_row W5 w.heap.size 7 _ _ _ (unhide HM5)
              have n8 : W5.cell? ⟨w.heap.size, 8, none⟩ = some (.bool mg) := cell_of_row W5 w.heap.size 8 _ _ _ (unhide HM5)
              go_wp2_with (first | (go_at_call 119; refine (refGood_any rb s v [] ⟨mk, mf, mt, s.term, mi, ml, mc, me, mg⟩ _ _ (unhide HR5) hs60 ⟨_, _, _, rfl⟩).mono ?_; rw [unhide HG]; rintro e w6 ⟨rfl, hb6⟩; have hR6 := ((unhide HR5).below hb6); have hM6 := hide ((hb6.block w.heap.size (Array.getElem?_eq_some_iff.1 (unhide HM5)).1).trans (unhide HM5)); have hE6 := hide ((unhide HE5).trans (Er.ofBelow hb6)); have k3 := hR6.c3; have k6 := hR6.c6; have k1 : w6.cell? ⟨w.heap.size, 1, none⟩ = some (.int .i64 mf) := cell_of_row w6 w.heap.size 1 _ _ _ (unhide hM6); replace hR6 := hide hR6; clear hb6))
              go_quiet (fail)
              have HR7 : Hid (RB (w6.drewN nq) rb s v []) := RB.drewN (unhide hR6) nq
              have HE7 := hide ((unhide hE6).drewN nq)
              have HM7 : Hid ((w6.drewN nq).heap[w.heap.size]? = some (.cells #[.int .i64 mk, .int .i64 mf, .int .i64 mt, .int .i64 s.term, .int .i64 mi, .int .i64 ml, .int .i64 mc, .slice eo en ec, .bool mg] 30 (0, 0))) := unhide hM6
              clear k1 k3 k6
              generalize w6.drewN nq = W7 at *
              have m1 : W7.cell? ⟨w.heap.size, 1, none⟩ = some (.int .i64 mf) := cell_of_row W7 w.heap.size 1 _ _ _ (unhide HM7)
              have m2 : W7.cell? ⟨rb, 2, none⟩ = some (.int .i64 s.term) := (unhide HR7).c2
              go_wp2_with fail
              go_region_law (first | (go_simp; go_at_call 104; refine (refSend_any rb _ v [] { kind := 3, src := 0, dst := mf, term := s.term, index := 0, logTerm := 0, commit := 0, ents := [], granted := false } _ _ (RB.drew (unhide HR7)) (by simp) (nil_ents _) (fun y _ hy => by simp [Value.ownBlock] at hy)).mono ?_; rintro e w9 ⟨rfl, hS9⟩; replace hS9 := hide hS9))
              all_goals go_end0
              all_goals (rw [unhide HA]; exact ⟨rfl, rsent_turned (unhide HE7).drew (unhide hS9)⟩)
            · have HA : Hid (s.stepVote ⟨mk, mf, mt, s.term, mi, ml, mc, me, mg⟩ = (s, [s.reply 3 mf s.term 0 false])) := by
                show _ = _
                have q1 : s.votes ⟨mk, mf, mt, s.term, mi, ml, mc, me, mg⟩ = false := by
                  unfold Nd.votes
                  rw [hg]
                  first | (simp; done) | (simp [hrl]; done) | (simp [hv1, hrl]; done) | (simp [hv2, hrl]; done) | simp [hv1, hv2]
                unfold Nd.stepVote
                rw [if_neg hk', hV, q1, if_neg (by decide)]
              have e1 : (s.vote == -1) = false := by simp [hv1]
              have e2 : (s.vote == mf) = false := by simp [hv2]
              have e3 : (s.role == 0) = true := by simp [hrl]
              have HG := hide hg
              clear hg hv1 hv2 hrl hV hk'
              go_enter Tryz.func74, Tryz.ntmps74
              go_wp2
              go_quiet (fail)
              revert nq
              intro n1
              go_wp2_with fail
              go_quiet (fail)
              have HR5 : Hid (RB (((w.alloc (.cells #[.int .i64 mk, .int .i64 mf, .int .i64 mt, .int .i64 s.term, .int .i64 mi, .int .i64 ml, .int .i64 mc, .slice eo en ec, .bool mg] 30)).drewN n1).drewN nq) rb s v []) := RB.drewN (RB.drewN (unhide H) n1) nq
              have HE5 : Hid (Er rb v v w (((w.alloc (.cells #[.int .i64 mk, .int .i64 mf, .int .i64 mt, .int .i64 s.term, .int .i64 mi, .int .i64 ml, .int .i64 mc, .slice eo en ec, .bool mg] 30)).drewN n1).drewN nq)) := ((Er.ofBelow (unhide HB)).drewN n1).drewN nq
              have HM5 : Hid ((((w.alloc (.cells #[.int .i64 mk, .int .i64 mf, .int .i64 mt, .int .i64 s.term, .int .i64 mi, .int .i64 ml, .int .i64 mc, .slice eo en ec, .bool mg] 30)).drewN n1).drewN nq).heap[w.heap.size]? = some (.cells #[.int .i64 mk, .int .i64 mf, .int .i64 mt, .int .i64 s.term, .int .i64 mi, .int .i64 ml, .int .i64 mc, .slice eo en ec, .bool mg] 30 (0, 0))) := unhide HM
              generalize ((w.alloc (.cells #[.int .i64 mk, .int .i64 mf, .int .i64 mt, .int .i64 s.term, .int .i64 mi, .int .i64 ml, .int .i64 mc, .slice eo en ec, .bool mg] 30)).drewN n1).drewN nq = W5 at *
              have n0 : W5.cell? ⟨w.heap.size, 0, none⟩ = some (.int .i64 mk) := cell_of_row W5 w.heap.size 0 _ _ _ (unhide HM5)
              have n1 : W5.cell? ⟨w.heap.size, 1, none⟩ = some (.int .i64 mf) := cell_of_row W5 w.heap.size 1 _ _ _ (unhide HM5)
              have n2 : W5.cell? ⟨w.heap.size, 2, none⟩ = some (.int .i64 mt) := cell_of_row W5 w.heap.size 2 _ _ _ (unhide HM5)
              have n3 : W5.cell? ⟨w.heap.size, 3, none⟩ = some (.int .i64 s.term) := cell_of_row W5 w.heap.size 3 _ _ _ (unhide HM5)
              have n4 : W5.cell? ⟨w.heap.size, 4, none⟩ = some (.int .i64 mi) := cell_of_row W5 w.heap.size 4 _ _ _ (unhide HM5)
              have n5 : W5.cell? ⟨w.heap.size, 5, none⟩ = some (.int .i64 ml) := cell_of_row W5 w.heap.size 5 _ _ _ (unhide HM5)
              have n6 : W5.cell? ⟨w.heap.size, 6, none⟩ = some (.int .i64 mc) := cell_of_row W5 w.heap.size 6 _ _ _ (unhide HM5)
              have n7 : W5.cell? ⟨w.heap.size, 7, none⟩ = some (.slice eo en ec) := cell_of_row W5 w.heap.size 7 _ _ _ (unhide HM5)
              have n8 : W5.cell? ⟨w.heap.size, 8, none⟩ = some (.bool mg) := cell_of_row W5 w.heap.size 8 _ _ _ (unhide HM5)
              go_wp2_with (first | (go_at_call 119; refine (refGood_any rb s v [] ⟨mk, mf, mt, s.term, mi, ml, mc, me, mg⟩ _ _ (unhide HR5) hs60 ⟨_, _, _, rfl⟩).mono ?_; rw [unhide HG]; rintro e w6 ⟨rfl, hb6⟩; have hR6 := ((unhide HR5).below hb6); have hM6 := hide ((hb6.block w.heap.size (Array.getElem?_eq_some_iff.1 (unhide HM5)).1).trans (unhide HM5)); have hE6 := hide ((unhide HE5).trans (Er.ofBelow hb6)); have k3 := hR6.c3; have k6 := hR6.c6; have k1 : w6.cell? ⟨w.heap.size, 1, none⟩ = some (.int .i64 mf) := cell_of_row w6 w.heap.size 1 _ _ _ (unhide hM6); replace hR6 := hide hR6; clear hb6))
              go_quiet (fail)
              have HR7 : Hid (RB (w6.drewN nq) rb s v []) := RB.drewN (unhide hR6) nq
              have HE7 := hide ((unhide hE6).drewN nq)
              have HM7 : Hid ((w6.drewN nq).heap[w.heap.size]? = some (.cells #[.int .i64 mk, .int .i64 mf, .int .i64 mt, .int .i64 s.term, .int .i64 mi, .int .i64 ml, .int .i64 mc, .slice eo en ec, .bool mg] 30 (0, 0))) := unhide hM6
              clear k1 k3 k6
              generalize w6.drewN nq = W7 at *
              have m1 : W7.cell? ⟨w.heap.size, 1, none⟩ = some (.int .i64 mf) := cell_of_row W7 w.heap.size 1 _ _ _ (unhide HM7)
              have m2 : W7.cell? ⟨rb, 2, none⟩ = some (.int .i64 s.term) := (unhide HR7).c2
              go_wp2_with fail
              go_region_law (first | (go_simp; go_at_call 104; refine (refSend_any rb _ v [] { kind := 3, src := 0, dst := mf, term := s.term, index := 0, logTerm := 0, commit := 0, ents := [], granted := false } _ _ (RB.drew (unhide HR7)) (by simp) (nil_ents _) (fun y _ hy => by simp [Value.ownBlock] at hy)).mono ?_; rintro e w9 ⟨rfl, hS9⟩; replace hS9 := hide hS9))
              all_goals go_end0
              all_goals (rw [unhide HA]; exact ⟨rfl, rsent_turned (unhide HE7).drew (unhide hS9)⟩)
        · by_cases hv1 : s.vote = -1
          · by_cases hv2 : s.vote = mf
            · have HA : Hid (s.stepVote ⟨mk, mf, mt, s.term, mi, ml, mc, me, mg⟩ = (s, [s.reply 3 mf s.term 0 false])) := by
                show _ = _
                have q1 : s.votes ⟨mk, mf, mt, s.term, mi, ml, mc, me, mg⟩ = false := by
                  unfold Nd.votes
                  rw [hg]
                  first | (simp; done) | (simp [hrl]; done) | (simp [hv1, hrl]; done) | (simp [hv2, hrl]; done) | simp [hv1, hv2]
                unfold Nd.stepVote
                rw [if_neg hk', hV, q1, if_neg (by decide)]
              have e1 : (s.vote == -1) = true := by simp [hv1]
              have e2 : (s.vote == mf) = true := by simp [hv2]
              have e3 : (s.role == 0) = false := by simp [hrl]
              have HG := hide hg
              clear hg hv1 hv2 hrl hV hk'
              go_enter Tryz.func74, Tryz.ntmps74
              go_wp2
              go_quiet (fail)
              revert nq
              intro n1
              go_wp2_with fail
              go_quiet (fail)
              have HR5 : Hid (RB (((w.alloc (.cells #[.int .i64 mk, .int .i64 mf, .int .i64 mt, .int .i64 s.term, .int .i64 mi, .int .i64 ml, .int .i64 mc, .slice eo en ec, .bool mg] 30)).drewN n1).drewN nq) rb s v []) := RB.drewN (RB.drewN (unhide H) n1) nq
              have HE5 : Hid (Er rb v v w (((w.alloc (.cells #[.int .i64 mk, .int .i64 mf, .int .i64 mt, .int .i64 s.term, .int .i64 mi, .int .i64 ml, .int .i64 mc, .slice eo en ec, .bool mg] 30)).drewN n1).drewN nq)) := ((Er.ofBelow (unhide HB)).drewN n1).drewN nq
              have HM5 : Hid ((((w.alloc (.cells #[.int .i64 mk, .int .i64 mf, .int .i64 mt, .int .i64 s.term, .int .i64 mi, .int .i64 ml, .int .i64 mc, .slice eo en ec, .bool mg] 30)).drewN n1).drewN nq).heap[w.heap.size]? = some (.cells #[.int .i64 mk, .int .i64 mf, .int .i64 mt, .int .i64 s.term, .int .i64 mi, .int .i64 ml, .int .i64 mc, .slice eo en ec, .bool mg] 30 (0, 0))) := unhide HM
              generalize ((w.alloc (.cells #[.int .i64 mk, .int .i64 mf, .int .i64 mt, .int .i64 s.term, .int .i64 mi, .int .i64 ml, .int .i64 mc, .slice eo en ec, .bool mg] 30)).drewN n1).drewN nq = W5 at *
              have n0 : W5.cell? ⟨w.heap.size, 0, none⟩ = some (.int .i64 mk) := cell_of_row W5 w.heap.size 0 _ _ _ (unhide HM5)
              have n1 : W5.cell? ⟨w.heap.size, 1, none⟩ = some (.int .i64 mf) := cell_of_row W5 w.heap.size 1 _ _ _ (unhide HM5)
              have n2 : W5.cell? ⟨w.heap.size, 2, none⟩ = some (.int .i64 mt) := cell_of_row W5 w.heap.size 2 _ _ _ (unhide HM5)
              have n3 : W5.cell? ⟨w.heap.size, 3, none⟩ = some (.int .i64 s.term) := cell_of_row W5 w.heap.size 3 _ _ _ (unhide HM5)
              have n4 : W5.cell? ⟨w.heap.size, 4, none⟩ = some (.int .i64 mi) := cell_of_row W5 w.heap.size 4 _ _ _ (unhide HM5)
              have n5 : W5.cell? ⟨w.heap.size, 5, none⟩ = some (.int .i64 ml) := cell_of_row W5 w.heap.size 5 _ _ _ (unhide HM5)
              have n6 : W5.cell? ⟨w.heap.size, 6, none⟩ = some (.int .i64 mc) := cell_of_row W5 w.heap.size 6 _ _ _ (unhide HM5)
              have n7 : W5.cell? ⟨w.heap.size, 7, none⟩ = some (.slice eo en ec) := cell_of_row W5 w.heap.size 7 _ _ _ (unhide HM5)
              have n8 : W5.cell? ⟨w.heap.size, 8, none⟩ = some (.bool mg) := cell_of_row W5 w.heap.size 8 _ _ _ (unhide HM5)
              go_wp2_with (first | (go_at_call 119; refine (refGood_any rb s v [] ⟨mk, mf, mt, s.term, mi, ml, mc, me, mg⟩ _ _ (unhide HR5) hs60 ⟨_, _, _, rfl⟩).mono ?_; rw [unhide HG]; rintro e w6 ⟨rfl, hb6⟩; have hR6 := ((unhide HR5).below hb6); have hM6 := hide ((hb6.block w.heap.size (Array.getElem?_eq_some_iff.1 (unhide HM5)).1).trans (unhide HM5)); have hE6 := hide ((unhide HE5).trans (Er.ofBelow hb6)); have k3 := hR6.c3; have k6 := hR6.c6; have k1 : w6.cell? ⟨w.heap.size, 1, none⟩ = some (.int .i64 mf) := cell_of_row w6 w.heap.size 1 _ _ _ (unhide hM6); replace hR6 := hide hR6; clear hb6))
              go_quiet (fail)
              have HR7 : Hid (RB (w6.drewN nq) rb s v []) := RB.drewN (unhide hR6) nq
              have HE7 := hide ((unhide hE6).drewN nq)
              have HM7 : Hid ((w6.drewN nq).heap[w.heap.size]? = some (.cells #[.int .i64 mk, .int .i64 mf, .int .i64 mt, .int .i64 s.term, .int .i64 mi, .int .i64 ml, .int .i64 mc, .slice eo en ec, .bool mg] 30 (0, 0))) := unhide hM6
              clear k1 k3 k6
              generalize w6.drewN nq = W7 at *
              have m1 : W7.cell? ⟨w.heap.size, 1, none⟩ = some (.int .i64 mf) := cell_of_row W7 w.heap.size 1 _ _ _ (unhide HM7)
              have m2 : W7.cell? ⟨rb, 2, none⟩ = some (.int .i64 s.term) := (unhide HR7).c2
              go_wp2_with fail
              go_region_law (first | (go_simp; go_at_call 104; refine (refSend_any rb _ v [] { kind := 3, src := 0, dst := mf, term := s.term, index := 0, logTerm := 0, commit := 0, ents := [], granted := false } _ _ (RB.drew (unhide HR7)) (by simp) (nil_ents _) (fun y _ hy => by simp [Value.ownBlock] at hy)).mono ?_; rintro e w9 ⟨rfl, hS9⟩; replace hS9 := hide hS9))
              all_goals go_end0
              all_goals (rw [unhide HA]; exact ⟨rfl, rsent_turned (unhide HE7).drew (unhide hS9)⟩)
            · have HA : Hid (s.stepVote ⟨mk, mf, mt, s.term, mi, ml, mc, me, mg⟩ = (s, [s.reply 3 mf s.term 0 false])) := by
                show _ = _
                have q1 : s.votes ⟨mk, mf, mt, s.term, mi, ml, mc, me, mg⟩ = false := by
                  unfold Nd.votes
                  rw [hg]
                  first | (simp; done) | (simp [hrl]; done) | (simp [hv1, hrl]; done) | (simp [hv2, hrl]; done) | simp [hv1, hv2]
                unfold Nd.stepVote
                rw [if_neg hk', hV, q1, if_neg (by decide)]
              have e1 : (s.vote == -1) = true := by simp [hv1]
              have e2 : (s.vote == mf) = false := by simp [hv2]
              have e3 : (s.role == 0) = false := by simp [hrl]
              have HG := hide hg
              clear hg hv1 hv2 hrl hV hk'
              go_enter Tryz.func74, Tryz.ntmps74
              go_wp2
              go_quiet (fail)
              revert nq
              intro n1
              go_wp2_with fail
              go_quiet (fail)
              have HR5 : Hid (RB (((w.alloc (.cells #[.int .i64 mk, .int .i64 mf, .int .i64 mt, .int .i64 s.term, .int .i64 mi, .int .i64 ml, .int .i64 mc, .slice eo en ec, .bool mg] 30)).drewN n1).drewN nq) rb s v []) := RB.drewN (RB.drewN (unhide H) n1) nq
              have HE5 : Hid (Er rb v v w (((w.alloc (.cells #[.int .i64 mk, .int .i64 mf, .int .i64 mt, .int .i64 s.term, .int .i64 mi, .int .i64 ml, .int .i64 mc, .slice eo en ec, .bool mg] 30)).drewN n1).drewN nq)) := ((Er.ofBelow (unhide HB)).drewN n1).drewN nq
              have HM5 : Hid ((((w.alloc (.cells #[.int .i64 mk, .int .i64 mf, .int .i64 mt, .int .i64 s.term, .int .i64 mi, .int .i64 ml, .int .i64 mc, .slice eo en ec, .bool mg] 30)).drewN n1).drewN nq).heap[w.heap.size]? = some (.cells #[.int .i64 mk, .int .i64 mf, .int .i64 mt, .int .i64 s.term, .int .i64 mi, .int .i64 ml, .int .i64 mc, .slice eo en ec, .bool mg] 30 (0, 0))) := unhide HM
              generalize ((w.alloc (.cells #[.int .i64 mk, .int .i64 mf, .int .i64 mt, .int .i64 s.term, .int .i64 mi, .int .i64 ml, .int .i64 mc, .slice eo en ec, .bool mg] 30)).drewN n1).drewN nq = W5 at *
              have n0 : W5.cell? ⟨w.heap.size, 0, none⟩ = some (.int .i64 mk) := cell_of_row W5 w.heap.size 0 _ _ _ (unhide HM5)
              have n1 : W5.cell? ⟨w.heap.size, 1, none⟩ = some (.int .i64 mf) := cell_of_row W5 w.heap.size 1 _ _ _ (unhide HM5)
              have n2 : W5.cell? ⟨w.heap.size, 2, none⟩ = some (.int .i64 mt) := cell_of_row W5 w.heap.size 2 _ _ _ (unhide HM5)
              have n3 : W5.cell? ⟨w.heap.size, 3, none⟩ = some (.int .i64 s.term) := cell_of_row W5 w.heap.size 3 _ _ _ (unhide HM5)
              have n4 : W5.cell? ⟨w.heap.size, 4, none⟩ = some (.int .i64 mi) := cell_of_row W5 w.heap.size 4 _ _ _ (unhide HM5)
              have n5 : W5.cell? ⟨w.heap.size, 5, none⟩ = some (.int .i64 ml) := cell_of_row W5 w.heap.size 5 _ _ _ (unhide HM5)
              have n6 : W5.cell? ⟨w.heap.size, 6, none⟩ = some (.int .i64 mc) := cell_of_row W5 w.heap.size 6 _ _ _ (unhide HM5)
              have n7 : W5.cell? ⟨w.heap.size, 7, none⟩ = some (.slice eo en ec) := cell_of_row W5 w.heap.size 7 _ _ _ (unhide HM5)
              have n8 : W5.cell? ⟨w.heap.size, 8, none⟩ = some (.bool mg) := cell_of_row W5 w.heap.size 8 _ _ _ (unhide HM5)
              go_wp2_with (first | (go_at_call 119; refine (refGood_any rb s v [] ⟨mk, mf, mt, s.term, mi, ml, mc, me, mg⟩ _ _ (unhide HR5) hs60 ⟨_, _, _, rfl⟩).mono ?_; rw [unhide HG]; rintro e w6 ⟨rfl, hb6⟩; have hR6 := ((unhide HR5).below hb6); have hM6 := hide ((hb6.block w.heap.size (Array.getElem?_eq_some_iff.1 (unhide HM5)).1).trans (unhide HM5)); have hE6 := hide ((unhide HE5).trans (Er.ofBelow hb6)); have k3 := hR6.c3; have k6 := hR6.c6; have k1 : w6.cell? ⟨w.heap.size, 1, none⟩ = some (.int .i64 mf) := cell_of_row w6 w.heap.size 1 _ _ _ (unhide hM6); replace hR6 := hide hR6; clear hb6))
              go_quiet (fail)
              have HR7 : Hid (RB (w6.drewN nq) rb s v []) := RB.drewN (unhide hR6) nq
              have HE7 := hide ((unhide hE6).drewN nq)
              have HM7 : Hid ((w6.drewN nq).heap[w.heap.size]? = some (.cells #[.int .i64 mk, .int .i64 mf, .int .i64 mt, .int .i64 s.term, .int .i64 mi, .int .i64 ml, .int .i64 mc, .slice eo en ec, .bool mg] 30 (0, 0))) := unhide hM6
              clear k1 k3 k6
              generalize w6.drewN nq = W7 at *
              have m1 : W7.cell? ⟨w.heap.size, 1, none⟩ = some (.int .i64 mf) := cell_of_row W7 w.heap.size 1 _ _ _ (unhide HM7)
              have m2 : W7.cell? ⟨rb, 2, none⟩ = some (.int .i64 s.term) := (unhide HR7).c2
              go_wp2_with fail
              go_region_law (first | (go_simp; go_at_call 104; refine (refSend_any rb _ v [] { kind := 3, src := 0, dst := mf, term := s.term, index := 0, logTerm := 0, commit := 0, ents := [], granted := false } _ _ (RB.drew (unhide HR7)) (by simp) (nil_ents _) (fun y _ hy => by simp [Value.ownBlock] at hy)).mono ?_; rintro e w9 ⟨rfl, hS9⟩; replace hS9 := hide hS9))
              all_goals go_end0
              all_goals (rw [unhide HA]; exact ⟨rfl, rsent_turned (unhide HE7).drew (unhide hS9)⟩)
          · by_cases hv2 : s.vote = mf
            · have HA : Hid (s.stepVote ⟨mk, mf, mt, s.term, mi, ml, mc, me, mg⟩ = (s, [s.reply 3 mf s.term 0 false])) := by
                show _ = _
                have q1 : s.votes ⟨mk, mf, mt, s.term, mi, ml, mc, me, mg⟩ = false := by
                  unfold Nd.votes
                  rw [hg]
                  first | (simp; done) | (simp [hrl]; done) | (simp [hv1, hrl]; done) | (simp [hv2, hrl]; done) | simp [hv1, hv2]
                unfold Nd.stepVote
                rw [if_neg hk', hV, q1, if_neg (by decide)]
              have e1 : (s.vote == -1) = false := by simp [hv1]
              have e2 : (s.vote == mf) = true := by simp [hv2]
              have e3 : (s.role == 0) = false := by simp [hrl]
              have HG := hide hg
              clear hg hv1 hv2 hrl hV hk'
              go_enter Tryz.func74, Tryz.ntmps74
              go_wp2
              go_quiet (fail)
              revert nq
              intro n1
              go_wp2_with fail
              go_quiet (fail)
              have HR5 : Hid (RB (((w.alloc (.cells #[.int .i64 mk, .int .i64 mf, .int .i64 mt, .int .i64 s.term, .int .i64 mi, .int .i64 ml, .int .i64 mc, .slice eo en ec, .bool mg] 30)).drewN n1).drewN nq) rb s v []) := RB.drewN (RB.drewN (unhide H) n1) nq
              have HE5 : Hid (Er rb v v w (((w.alloc (.cells #[.int .i64 mk, .int .i64 mf, .int .i64 mt, .int .i64 s.term, .int .i64 mi, .int .i64 ml, .int .i64 mc, .slice eo en ec, .bool mg] 30)).drewN n1).drewN nq)) := ((Er.ofBelow (unhide HB)).drewN n1).drewN nq
              have HM5 : Hid ((((w.alloc (.cells #[.int .i64 mk, .int .i64 mf, .int .i64 mt, .int .i64 s.term, .int .i64 mi, .int .i64 ml, .int .i64 mc, .slice eo en ec, .bool mg] 30)).drewN n1).drewN nq).heap[w.heap.size]? = some (.cells #[.int .i64 mk, .int .i64 mf, .int .i64 mt, .int .i64 s.term, .int .i64 mi, .int .i64 ml, .int .i64 mc, .slice eo en ec, .bool mg] 30 (0, 0))) := unhide HM
              generalize ((w.alloc (.cells #[.int .i64 mk, .int .i64 mf, .int .i64 mt, .int .i64 s.term, .int .i64 mi, .int .i64 ml, .int .i64 mc, .slice eo en ec, .bool mg] 30)).drewN n1).drewN nq = W5 at *
              have n0 : W5.cell? ⟨w.heap.size, 0, none⟩ = some (.int .i64 mk) := cell_of_row W5 w.heap.size 0 _ _ _ (unhide HM5)
              have n1 : W5.cell? ⟨w.heap.size, 1, none⟩ = some (.int .i64 mf) := cell_of_row W5 w.heap.size 1 _ _ _ (unhide HM5)
              have n2 : W5.cell? ⟨w.heap.size, 2, none⟩ = some (.int .i64 mt) := cell_of_row W5 w.heap.size 2 _ _ _ (unhide HM5)
              have n3 : W5.cell? ⟨w.heap.size, 3, none⟩ = some (.int .i64 s.term) := cell_of_row W5 w.heap.size 3 _ _ _ (unhide HM5)
              have n4 : W5.cell? ⟨w.heap.size, 4, none⟩ = some (.int .i64 mi) := cell_of_row W5 w.heap.size 4 _ _ _ (unhide HM5)
              have n5 : W5.cell? ⟨w.heap.size, 5, none⟩ = some (.int .i64 ml) := cell_of_row W5 w.heap.size 5 _ _ _ (unhide HM5)
              have n6 : W5.cell? ⟨w.heap.size, 6, none⟩ = some (.int .i64 mc) := cell_of_row W5 w.heap.size 6 _ _ _ (unhide HM5)
              have n7 : W5.cell? ⟨w.heap.size, 7, none⟩ = some (.slice eo en ec) := cell_of_row W5 w.heap.size 7 _ _ _ (unhide HM5)
              have n8 : W5.cell? ⟨w.heap.size, 8, none⟩ = some (.bool mg) := cell_of_row W5 w.heap.size 8 _ _ _ (unhide HM5)
              go_wp2_with (first | (go_at_call 119; refine (refGood_any rb s v [] ⟨mk, mf, mt, s.term, mi, ml, mc, me, mg⟩ _ _ (unhide HR5) hs60 ⟨_, _, _, rfl⟩).mono ?_; rw [unhide HG]; rintro e w6 ⟨rfl, hb6⟩; have hR6 := ((unhide HR5).below hb6); have hM6 := hide ((hb6.block w.heap.size (Array.getElem?_eq_some_iff.1 (unhide HM5)).1).trans (unhide HM5)); have hE6 := hide ((unhide HE5).trans (Er.ofBelow hb6)); have k3 := hR6.c3; have k6 := hR6.c6; have k1 : w6.cell? ⟨w.heap.size, 1, none⟩ = some (.int .i64 mf) := cell_of_row w6 w.heap.size 1 _ _ _ (unhide hM6); replace hR6 := hide hR6; clear hb6))
              go_quiet (fail)
              have HR7 : Hid (RB (w6.drewN nq) rb s v []) := RB.drewN (unhide hR6) nq
              have HE7 := hide ((unhide hE6).drewN nq)
              have HM7 : Hid ((w6.drewN nq).heap[w.heap.size]? = some (.cells #[.int .i64 mk, .int .i64 mf, .int .i64 mt, .int .i64 s.term, .int .i64 mi, .int .i64 ml, .int .i64 mc, .slice eo en ec, .bool mg] 30 (0, 0))) := unhide hM6
              clear k1 k3 k6
              generalize w6.drewN nq = W7 at *
              have m1 : W7.cell? ⟨w.heap.size, 1, none⟩ = some (.int .i64 mf) := cell_of_row W7 w.heap.size 1 _ _ _ (unhide HM7)
              have m2 : W7.cell? ⟨rb, 2, none⟩ = some (.int .i64 s.term) := (unhide HR7).c2
              go_wp2_with fail
              go_region_law (first | (go_simp; go_at_call 104; refine (refSend_any rb _ v [] { kind := 3, src := 0, dst := mf, term := s.term, index := 0, logTerm := 0, commit := 0, ents := [], granted := false } _ _ (RB.drew (unhide HR7)) (by simp) (nil_ents _) (fun y _ hy => by simp [Value.ownBlock] at hy)).mono ?_; rintro e w9 ⟨rfl, hS9⟩; replace hS9 := hide hS9))
              all_goals go_end0
              all_goals (rw [unhide HA]; exact ⟨rfl, rsent_turned (unhide HE7).drew (unhide hS9)⟩)
            · have HA : Hid (s.stepVote ⟨mk, mf, mt, s.term, mi, ml, mc, me, mg⟩ = (s, [s.reply 3 mf s.term 0 false])) := by
                show _ = _
                have q1 : s.votes ⟨mk, mf, mt, s.term, mi, ml, mc, me, mg⟩ = false := by
                  unfold Nd.votes
                  rw [hg]
                  first | (simp; done) | (simp [hrl]; done) | (simp [hv1, hrl]; done) | (simp [hv2, hrl]; done) | simp [hv1, hv2]
                unfold Nd.stepVote
                rw [if_neg hk', hV, q1, if_neg (by decide)]
              have e1 : (s.vote == -1) = false := by simp [hv1]
              have e2 : (s.vote == mf) = false := by simp [hv2]
              have e3 : (s.role == 0) = false := by simp [hrl]
              have HG := hide hg
              clear hg hv1 hv2 hrl hV hk'
              go_enter Tryz.func74, Tryz.ntmps74
              go_wp2
              go_quiet (fail)
              revert nq
              intro n1
              go_wp2_with fail
              go_quiet (fail)
              have HR5 : Hid (RB (((w.alloc (.cells #[.int .i64 mk, .int .i64 mf, .int .i64 mt, .int .i64 s.term, .int .i64 mi, .int .i64 ml, .int .i64 mc, .slice eo en ec, .bool mg] 30)).drewN n1).drewN nq) rb s v []) := RB.drewN (RB.drewN (unhide H) n1) nq
              have HE5 : Hid (Er rb v v w (((w.alloc (.cells #[.int .i64 mk, .int .i64 mf, .int .i64 mt, .int .i64 s.term, .int .i64 mi, .int .i64 ml, .int .i64 mc, .slice eo en ec, .bool mg] 30)).drewN n1).drewN nq)) := ((Er.ofBelow (unhide HB)).drewN n1).drewN nq
              have HM5 : Hid ((((w.alloc (.cells #[.int .i64 mk, .int .i64 mf, .int .i64 mt, .int .i64 s.term, .int .i64 mi, .int .i64 ml, .int .i64 mc, .slice eo en ec, .bool mg] 30)).drewN n1).drewN nq).heap[w.heap.size]? = some (.cells #[.int .i64 mk, .int .i64 mf, .int .i64 mt, .int .i64 s.term, .int .i64 mi, .int .i64 ml, .int .i64 mc, .slice eo en ec, .bool mg] 30 (0, 0))) := unhide HM
              generalize ((w.alloc (.cells #[.int .i64 mk, .int .i64 mf, .int .i64 mt, .int .i64 s.term, .int .i64 mi, .int .i64 ml, .int .i64 mc, .slice eo en ec, .bool mg] 30)).drewN n1).drewN nq = W5 at *
              have n0 : W5.cell? ⟨w.heap.size, 0, none⟩ = some (.int .i64 mk) := cell_of_row W5 w.heap.size 0 _ _ _ (unhide HM5)
              have n1 : W5.cell? ⟨w.heap.size, 1, none⟩ = some (.int .i64 mf) := cell_of_row W5 w.heap.size 1 _ _ _ (unhide HM5)
              have n2 : W5.cell? ⟨w.heap.size, 2, none⟩ = some (.int .i64 mt) := cell_of_row W5 w.heap.size 2 _ _ _ (unhide HM5)
              have n3 : W5.cell? ⟨w.heap.size, 3, none⟩ = some (.int .i64 s.term) := cell_of_row W5 w.heap.size 3 _ _ _ (unhide HM5)
              have n4 : W5.cell? ⟨w.heap.size, 4, none⟩ = some (.int .i64 mi) := cell_of_row W5 w.heap.size 4 _ _ _ (unhide HM5)
              have n5 : W5.cell? ⟨w.heap.size, 5, none⟩ = some (.int .i64 ml) := cell_of_row W5 w.heap.size 5 _ _ _ (unhide HM5)
              have n6 : W5.cell? ⟨w.heap.size, 6, none⟩ = some (.int .i64 mc) := cell_of_row W5 w.heap.size 6 _ _ _ (unhide HM5)
              have n7 : W5.cell? ⟨w.heap.size, 7, none⟩ = some (.slice eo en ec) := cell_of_row W5 w.heap.size 7 _ _ _ (unhide HM5)
              have n8 : W5.cell? ⟨w.heap.size, 8, none⟩ = some (.bool mg) := cell_of_row W5 w.heap.size 8 _ _ _ (unhide HM5)
              go_wp2_with (first | (go_at_call 119; refine (refGood_any rb s v [] ⟨mk, mf, mt, s.term, mi, ml, mc, me, mg⟩ _ _ (unhide HR5) hs60 ⟨_, _, _, rfl⟩).mono ?_; rw [unhide HG]; rintro e w6 ⟨rfl, hb6⟩; have hR6 := ((unhide HR5).below hb6); have hM6 := hide ((hb6.block w.heap.size (Array.getElem?_eq_some_iff.1 (unhide HM5)).1).trans (unhide HM5)); have hE6 := hide ((unhide HE5).trans (Er.ofBelow hb6)); have k3 := hR6.c3; have k6 := hR6.c6; have k1 : w6.cell? ⟨w.heap.size, 1, none⟩ = some (.int .i64 mf) := cell_of_row w6 w.heap.size 1 _ _ _ (unhide hM6); replace hR6 := hide hR6; clear hb6))
              go_quiet (fail)
              have HR7 : Hid (RB (w6.drewN nq) rb s v []) := RB.drewN (unhide hR6) nq
              have HE7 := hide ((unhide hE6).drewN nq)
              have HM7 : Hid ((w6.drewN nq).heap[w.heap.size]? = some (.cells #[.int .i64 mk, .int .i64 mf, .int .i64 mt, .int .i64 s.term, .int .i64 mi, .int .i64 ml, .int .i64 mc, .slice eo en ec, .bool mg] 30 (0, 0))) := unhide hM6
              clear k1 k3 k6
              generalize w6.drewN nq = W7 at *
              have m1 : W7.cell? ⟨w.heap.size, 1, none⟩ = some (.int .i64 mf) := cell_of_row W7 w.heap.size 1 _ _ _ (unhide HM7)
              have m2 : W7.cell? ⟨rb, 2, none⟩ = some (.int .i64 s.term) := (unhide HR7).c2
              go_wp2_with fail
              go_region_law (first | (go_simp; go_at_call 104; refine (refSend_any rb _ v [] { kind := 3, src := 0, dst := mf, term := s.term, index := 0, logTerm := 0, commit := 0, ents := [], granted := false } _ _ (RB.drew (unhide HR7)) (by simp) (nil_ents _) (fun y _ hy => by simp [Value.ownBlock] at hy)).mono ?_; rintro e w9 ⟨rfl, hS9⟩; replace hS9 := hide hS9))
              all_goals go_end0
              all_goals (rw [unhide HA]; exact ⟨rfl, rsent_turned (unhide HE7).drew (unhide hS9)⟩)
    · have HA : Hid (s.stepVote ⟨mk, mf, mt, mT, mi, ml, mc, me, mg⟩ = (s, [s.reply 3 mf s.term 0 false])) := by
        show _ = _
        have q1 : s.votes ⟨mk, mf, mt, mT, mi, ml, mc, me, mg⟩ = false := by
          unfold Nd.votes
          simp [h2]
        unfold Nd.stepVote
        rw [if_neg hk', hV, q1, if_neg (by decide)]
      have e1 : (mT == s.term) = false := by simp [h2]
      clear h2 hV hk'
      go_enter Tryz.func74, Tryz.ntmps74
      go_wp2
      go_quiet (fail)
      revert nq
      intro n1
      go_wp2_with fail
      go_quiet (fail)
      have HR7 : Hid (RB (((w.alloc (.cells #[.int .i64 mk, .int .i64 mf, .int .i64 mt, .int .i64 mT, .int .i64 mi, .int .i64 ml, .int .i64 mc, .slice eo en ec, .bool mg] 30)).drewN n1).drewN nq) rb s v []) := RB.drewN (RB.drewN (unhide H) n1) nq
      have HE7 : Hid (Er rb v v w (((w.alloc (.cells #[.int .i64 mk, .int .i64 mf, .int .i64 mt, .int .i64 mT, .int .i64 mi, .int .i64 ml, .int .i64 mc, .slice eo en ec, .bool mg] 30)).drewN n1).drewN nq)) := ((Er.ofBelow (unhide HB)).drewN n1).drewN nq
      have HM7 : Hid ((((w.alloc (.cells #[.int .i64 mk, .int .i64 mf, .int .i64 mt, .int .i64 mT, .int .i64 mi, .int .i64 ml, .int .i64 mc, .slice eo en ec, .bool mg] 30)).drewN n1).drewN nq).heap[w.heap.size]? = some (.cells #[.int .i64 mk, .int .i64 mf, .int .i64 mt, .int .i64 mT, .int .i64 mi, .int .i64 ml, .int .i64 mc, .slice eo en ec, .bool mg] 30 (0, 0))) := unhide HM
      generalize ((w.alloc (.cells #[.int .i64 mk, .int .i64 mf, .int .i64 mt, .int .i64 mT, .int .i64 mi, .int .i64 ml, .int .i64 mc, .slice eo en ec, .bool mg] 30)).drewN n1).drewN nq = W7 at *
      have m1 : W7.cell? ⟨w.heap.size, 1, none⟩ = some (.int .i64 mf) := cell_of_row W7 w.heap.size 1 _ _ _ (unhide HM7)
      have m2 : W7.cell? ⟨rb, 2, none⟩ = some (.int .i64 s.term) := (unhide HR7).c2
      go_wp2_with fail
      go_region_law (first | (go_simp; go_at_call 104; refine (refSend_any rb _ v [] { kind := 3, src := 0, dst := mf, term := s.term, index := 0, logTerm := 0, commit := 0, ents := [], granted := false } _ _ (RB.drew (unhide HR7)) (by simp) (nil_ents _) (fun y _ hy => by simp [Value.ownBlock] at hy)).mono ?_; rintro e w9 ⟨rfl, hS9⟩; replace hS9 := hide hS9))
      all_goals go_end0
      all_goals (rw [unhide HA]; exact ⟨rfl, rsent_turned (unhide HE7).drew (unhide hS9)⟩)

end Go.Proofs.YteiecbkfganhnaaGreat
