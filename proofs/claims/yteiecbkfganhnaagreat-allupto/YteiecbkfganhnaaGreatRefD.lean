/- The document's node: stepAsk. -/
import Derived.Test.YteiecbkfganhnaaGreatKInvC

namespace Go.Proofs.YteiecbkfganhnaaGreat

open Go.RowKit Go.MuLone

theorem nil_ents (w : World) : w.ownsRow 0 66 2 (.slice none 0 0) ([] : List Ent).length (eC []) := World.ownsRow_nil w 0 66 2

theorem rsent_did {rb : Nat} {s : Nd} {v : RV} {m : Msg} {w w1 w' : World} (h : Er rb v v w w1) (hs : RSent rb s v ([] ++ [(m, .slice none 0 0)]) w1 w') : RDid rb v [] w (s, [m]) w' := by
  obtain ⟨u, hR, hE⟩ := hs
  exact ⟨[(m, .slice none 0 0)], rfl, _, hR, h.trans hE⟩

set_option maxRecDepth 100000 in
set_option maxHeartbeats 1000000 in
theorem refStepAsk_any (rb : Nat) (s : Nd) (v : RV) (m : Msg) (ev : Value) (w : World) (h : RB w rb s v []) (hok : Ok s) (hev : ∃ ao n c, ev = .slice ao n c) (hmt : 1 ≤ m.term) :
    Calls Tryz.prog 72 #[.pointer (some ⟨rb, 0, none⟩), magg m ev] w fun e w' => e = .returned (.tuple #[]) ∧ RDid rb v [] w (s.stepAsk m) w' := by
  obtain ⟨eo, en, ec, rfl⟩ := hev
  obtain ⟨mk, mf, mt, mT, mi, ml, mc, me, mg⟩ := m
  simp only at hmt
  have HB := hide (below_alloc w (.cells #[.int .i64 mk, .int .i64 mf, .int .i64 mt, .int .i64 mT, .int .i64 mi, .int .i64 ml, .int .i64 mc, .slice eo en ec, .bool mg] 30))
  have HM := hide (heap_alloc_new w (.cells #[.int .i64 mk, .int .i64 mf, .int .i64 mt, .int .i64 mT, .int .i64 mi, .int .i64 ml, .int .i64 mc, .slice eo en ec, .bool mg] 30))
  have H := hide (h.below (unhide HB))
  have hlt := h.lt
  have hne : ¬ rb = w.heap.size := by omega
  have hl0 := hok.l0
  have hs60 := hok.len
  have t0 := hok.t0
  clear h hok
  by_cases h1 : s.term < mT
  · cases hg : s.asGood ⟨mk, mf, mt, mT, mi, ml, mc, me, mg⟩ with
    | true =>
      cases hk : s.knows with
      | true =>
        by_cases hz : s.term = 0
        · have HA : Hid (s.stepAsk ⟨mk, mf, mt, mT, mi, ml, mc, me, mg⟩ = (s, [])) := by show _ = _; unfold Nd.stepAsk; rw [if_neg (fun hx => by rw [hk] at hx; exact Bool.noConfusion hx.2.2), if_pos hz]
          have HG := hide hg
          have HK := hide hk
          have d1 : decide (s.term < mT) = true := decide_eq_true h1
          have d3 : ¬ 0 < s.term := by omega
          clear hg hk hz
          go_enter Tryz.func72, Tryz.ntmps72
          go_wp2_with (first | (go_at_call 119; refine (refGood_any rb s v [] ⟨mk, mf, mt, mT, mi, ml, mc, me, mg⟩ _ _ (unhide H) hs60 ⟨_, _, _, rfl⟩).mono ?_; rw [unhide HG]; rintro e w1 ⟨rfl, hb1⟩; have hR1 := hide ((unhide H).below hb1); have hM1 := hide ((hb1.block w.heap.size (Array.getElem?_eq_some_iff.1 (unhide HM)).1).trans (unhide HM)); replace hb1 := hide hb1) | (go_at_call 120; refine (refKnows_any rb s v [] _ (unhide hR1) hl0).mono ?_; rw [unhide HK]; rintro e w2 ⟨rfl, n2, hw2⟩; have hR2 : Hid (RB w2 rb s v []) := (by rw [hw2]; exact RB.drewN (unhide hR1) n2); have hM2 : Hid (w2.heap[w.heap.size]? = some (.cells #[.int .i64 mk, .int .i64 mf, .int .i64 mt, .int .i64 mT, .int .i64 mi, .int .i64 ml, .int .i64 mc, .slice eo en ec, .bool mg] 30 (0, 0))) := (by rw [hw2]; exact unhide hM1); have hE2 : Hid (Er rb v v w w2) := (by rw [hw2]; exact ((Er.ofBelow (unhide HB)).trans (Er.ofBelow (unhide hb1))).drewN n2); have x1 : w2.cell? ⟨w.heap.size, 1, none⟩ = some (.int .i64 mf) := cell_of_row w2 w.heap.size 1 _ _ _ (unhide hM2); have x3 : w2.cell? ⟨w.heap.size, 3, none⟩ = some (.int .i64 mT) := cell_of_row w2 w.heap.size 3 _ _ _ (unhide hM2); have c2 := (unhide hR2).c2; clear hw2))
          go_quiet (fail)
          have y1 : (w2.drewN nq).cell? ⟨w.heap.size, 1, none⟩ = some (.int .i64 mf) := x1
          have y3 : (w2.drewN nq).cell? ⟨w.heap.size, 3, none⟩ = some (.int .i64 mT) := x3
          have y2 : (w2.drewN nq).cell? ⟨rb, 2, none⟩ = some (.int .i64 s.term) := c2
          have HR3 : Hid (RB (w2.drewN nq) rb s v []) := RB.drewN (unhide hR2) nq
          have HE3 := hide ((unhide hE2).drewN nq)
          clear x1 x3 c2
          generalize w2.drewN nq = W3 at *
          go_wp2
          go_end0
          rw [unhide HA]
          exact ⟨rfl, [], rfl, v, unhide HR3, unhide HE3⟩
        · have HA : Hid (s.stepAsk ⟨mk, mf, mt, mT, mi, ml, mc, me, mg⟩ = (s, [s.reply 1 mf s.term 0 false])) := by show _ = _; unfold Nd.stepAsk; rw [if_neg (fun hx => by rw [hk] at hx; exact Bool.noConfusion hx.2.2), if_neg hz]
          have HG := hide hg
          have HK := hide hk
          have d1 : decide (s.term < mT) = true := decide_eq_true h1
          have d3 : 0 < s.term := by omega
          clear hg hk hz
          go_enter Tryz.func72, Tryz.ntmps72
          go_wp2_with (first | (go_at_call 119; refine (refGood_any rb s v [] ⟨mk, mf, mt, mT, mi, ml, mc, me, mg⟩ _ _ (unhide H) hs60 ⟨_, _, _, rfl⟩).mono ?_; rw [unhide HG]; rintro e w1 ⟨rfl, hb1⟩; have hR1 := hide ((unhide H).below hb1); have hM1 := hide ((hb1.block w.heap.size (Array.getElem?_eq_some_iff.1 (unhide HM)).1).trans (unhide HM)); replace hb1 := hide hb1) | (go_at_call 120; refine (refKnows_any rb s v [] _ (unhide hR1) hl0).mono ?_; rw [unhide HK]; rintro e w2 ⟨rfl, n2, hw2⟩; have hR2 : Hid (RB w2 rb s v []) := (by rw [hw2]; exact RB.drewN (unhide hR1) n2); have hM2 : Hid (w2.heap[w.heap.size]? = some (.cells #[.int .i64 mk, .int .i64 mf, .int .i64 mt, .int .i64 mT, .int .i64 mi, .int .i64 ml, .int .i64 mc, .slice eo en ec, .bool mg] 30 (0, 0))) := (by rw [hw2]; exact unhide hM1); have hE2 : Hid (Er rb v v w w2) := (by rw [hw2]; exact ((Er.ofBelow (unhide HB)).trans (Er.ofBelow (unhide hb1))).drewN n2); have x1 : w2.cell? ⟨w.heap.size, 1, none⟩ = some (.int .i64 mf) := cell_of_row w2 w.heap.size 1 _ _ _ (unhide hM2); have x3 : w2.cell? ⟨w.heap.size, 3, none⟩ = some (.int .i64 mT) := cell_of_row w2 w.heap.size 3 _ _ _ (unhide hM2); have c2 := (unhide hR2).c2; clear hw2))
          go_quiet (fail)
          have y1 : (w2.drewN nq).cell? ⟨w.heap.size, 1, none⟩ = some (.int .i64 mf) := x1
          have y3 : (w2.drewN nq).cell? ⟨w.heap.size, 3, none⟩ = some (.int .i64 mT) := x3
          have y2 : (w2.drewN nq).cell? ⟨rb, 2, none⟩ = some (.int .i64 s.term) := c2
          have HR3 : Hid (RB (w2.drewN nq) rb s v []) := RB.drewN (unhide hR2) nq
          have HE3 := hide ((unhide hE2).drewN nq)
          clear x1 x3 c2
          generalize w2.drewN nq = W3 at *
          go_wp2_with (go_at_call 104; refine (refSend_any rb s v [] { kind := 1, src := 0, dst := mf, term := s.term, index := 0, logTerm := 0, commit := 0, ents := [], granted := false } _ _ (unhide HR3) (by simp) (nil_ents _) (fun y _ hy => by simp [Value.ownBlock] at hy)).mono ?_; rintro e w5 ⟨rfl, hS5⟩; replace hS5 := hide hS5)
          go_end0
          rw [unhide HA]
          exact ⟨rfl, rsent_did (unhide HE3) (unhide hS5)⟩
      | false =>
        have HA : Hid (s.stepAsk ⟨mk, mf, mt, mT, mi, ml, mc, me, mg⟩ = (s, [s.reply 1 mf mT 0 true])) := by show _ = _; unfold Nd.stepAsk; rw [if_pos ⟨h1, hg, hk⟩]
        have HG := hide hg
        have HK := hide hk
        have d1 : decide (s.term < mT) = true := decide_eq_true h1
        have d3 : 0 < mT := by omega
        clear hg hk
        go_enter Tryz.func72, Tryz.ntmps72
        go_wp2_with (first | (go_at_call 119; refine (refGood_any rb s v [] ⟨mk, mf, mt, mT, mi, ml, mc, me, mg⟩ _ _ (unhide H) hs60 ⟨_, _, _, rfl⟩).mono ?_; rw [unhide HG]; rintro e w1 ⟨rfl, hb1⟩; have hR1 := hide ((unhide H).below hb1); have hM1 := hide ((hb1.block w.heap.size (Array.getElem?_eq_some_iff.1 (unhide HM)).1).trans (unhide HM)); replace hb1 := hide hb1) | (go_at_call 120; refine (refKnows_any rb s v [] _ (unhide hR1) hl0).mono ?_; rw [unhide HK]; rintro e w2 ⟨rfl, n2, hw2⟩; have hR2 : Hid (RB w2 rb s v []) := (by rw [hw2]; exact RB.drewN (unhide hR1) n2); have hM2 : Hid (w2.heap[w.heap.size]? = some (.cells #[.int .i64 mk, .int .i64 mf, .int .i64 mt, .int .i64 mT, .int .i64 mi, .int .i64 ml, .int .i64 mc, .slice eo en ec, .bool mg] 30 (0, 0))) := (by rw [hw2]; exact unhide hM1); have hE2 : Hid (Er rb v v w w2) := (by rw [hw2]; exact ((Er.ofBelow (unhide HB)).trans (Er.ofBelow (unhide hb1))).drewN n2); have x1 : w2.cell? ⟨w.heap.size, 1, none⟩ = some (.int .i64 mf) := cell_of_row w2 w.heap.size 1 _ _ _ (unhide hM2); have x3 : w2.cell? ⟨w.heap.size, 3, none⟩ = some (.int .i64 mT) := cell_of_row w2 w.heap.size 3 _ _ _ (unhide hM2); have c2 := (unhide hR2).c2; clear hw2))
        go_quiet (fail)
        have y1 : (w2.drewN nq).cell? ⟨w.heap.size, 1, none⟩ = some (.int .i64 mf) := x1
        have y3 : (w2.drewN nq).cell? ⟨w.heap.size, 3, none⟩ = some (.int .i64 mT) := x3
        have y2 : (w2.drewN nq).cell? ⟨rb, 2, none⟩ = some (.int .i64 s.term) := c2
        have HR3 : Hid (RB (w2.drewN nq) rb s v []) := RB.drewN (unhide hR2) nq
        have HE3 := hide ((unhide hE2).drewN nq)
        clear x1 x3 c2
        generalize w2.drewN nq = W3 at *
        go_wp2_with (go_at_call 104; refine (refSend_any rb s v [] { kind := 1, src := 0, dst := mf, term := mT, index := 0, logTerm := 0, commit := 0, ents := [], granted := true } _ _ (unhide HR3) (by simp) (nil_ents _) (fun y _ hy => by simp [Value.ownBlock] at hy)).mono ?_; rintro e w5 ⟨rfl, hS5⟩; replace hS5 := hide hS5)
        go_end0
        rw [unhide HA]
        exact ⟨rfl, rsent_did (unhide HE3) (unhide hS5)⟩
    | false =>
      cases hk : s.knows with
      | true =>
        by_cases hz : s.term = 0
        · have HA : Hid (s.stepAsk ⟨mk, mf, mt, mT, mi, ml, mc, me, mg⟩ = (s, [])) := by show _ = _; unfold Nd.stepAsk; rw [if_neg (fun hx => by rw [hg] at hx; exact Bool.noConfusion hx.2.1), if_pos hz]
          have HG := hide hg
          have HK := hide hk
          have d1 : decide (s.term < mT) = true := decide_eq_true h1
          have d3 : ¬ 0 < s.term := by omega
          clear hg hk hz
          go_enter Tryz.func72, Tryz.ntmps72
          go_wp2_with (first | (go_at_call 119; refine (refGood_any rb s v [] ⟨mk, mf, mt, mT, mi, ml, mc, me, mg⟩ _ _ (unhide H) hs60 ⟨_, _, _, rfl⟩).mono ?_; rw [unhide HG]; rintro e w1 ⟨rfl, hb1⟩; have hR1 := hide ((unhide H).below hb1); have hM1 := hide ((hb1.block w.heap.size (Array.getElem?_eq_some_iff.1 (unhide HM)).1).trans (unhide HM)); replace hb1 := hide hb1) | (go_at_call 120; refine (refKnows_any rb s v [] _ (unhide hR1) hl0).mono ?_; rw [unhide HK]; rintro e w2 ⟨rfl, n2, hw2⟩; have hR2 : Hid (RB w2 rb s v []) := (by rw [hw2]; exact RB.drewN (unhide hR1) n2); have hM2 : Hid (w2.heap[w.heap.size]? = some (.cells #[.int .i64 mk, .int .i64 mf, .int .i64 mt, .int .i64 mT, .int .i64 mi, .int .i64 ml, .int .i64 mc, .slice eo en ec, .bool mg] 30 (0, 0))) := (by rw [hw2]; exact unhide hM1); have hE2 : Hid (Er rb v v w w2) := (by rw [hw2]; exact ((Er.ofBelow (unhide HB)).trans (Er.ofBelow (unhide hb1))).drewN n2); have x1 : w2.cell? ⟨w.heap.size, 1, none⟩ = some (.int .i64 mf) := cell_of_row w2 w.heap.size 1 _ _ _ (unhide hM2); have x3 : w2.cell? ⟨w.heap.size, 3, none⟩ = some (.int .i64 mT) := cell_of_row w2 w.heap.size 3 _ _ _ (unhide hM2); have c2 := (unhide hR2).c2; clear hw2))
          go_quiet (fail)
          have y1 : (w2.drewN nq).cell? ⟨w.heap.size, 1, none⟩ = some (.int .i64 mf) := x1
          have y3 : (w2.drewN nq).cell? ⟨w.heap.size, 3, none⟩ = some (.int .i64 mT) := x3
          have y2 : (w2.drewN nq).cell? ⟨rb, 2, none⟩ = some (.int .i64 s.term) := c2
          have HR3 : Hid (RB (w2.drewN nq) rb s v []) := RB.drewN (unhide hR2) nq
          have HE3 := hide ((unhide hE2).drewN nq)
          clear x1 x3 c2
          generalize w2.drewN nq = W3 at *
          go_wp2
          go_end0
          rw [unhide HA]
          exact ⟨rfl, [], rfl, v, unhide HR3, unhide HE3⟩
        · have HA : Hid (s.stepAsk ⟨mk, mf, mt, mT, mi, ml, mc, me, mg⟩ = (s, [s.reply 1 mf s.term 0 false])) := by show _ = _; unfold Nd.stepAsk; rw [if_neg (fun hx => by rw [hg] at hx; exact Bool.noConfusion hx.2.1), if_neg hz]
          have HG := hide hg
          have HK := hide hk
          have d1 : decide (s.term < mT) = true := decide_eq_true h1
          have d3 : 0 < s.term := by omega
          clear hg hk hz
          go_enter Tryz.func72, Tryz.ntmps72
          go_wp2_with (first | (go_at_call 119; refine (refGood_any rb s v [] ⟨mk, mf, mt, mT, mi, ml, mc, me, mg⟩ _ _ (unhide H) hs60 ⟨_, _, _, rfl⟩).mono ?_; rw [unhide HG]; rintro e w1 ⟨rfl, hb1⟩; have hR1 := hide ((unhide H).below hb1); have hM1 := hide ((hb1.block w.heap.size (Array.getElem?_eq_some_iff.1 (unhide HM)).1).trans (unhide HM)); replace hb1 := hide hb1) | (go_at_call 120; refine (refKnows_any rb s v [] _ (unhide hR1) hl0).mono ?_; rw [unhide HK]; rintro e w2 ⟨rfl, n2, hw2⟩; have hR2 : Hid (RB w2 rb s v []) := (by rw [hw2]; exact RB.drewN (unhide hR1) n2); have hM2 : Hid (w2.heap[w.heap.size]? = some (.cells #[.int .i64 mk, .int .i64 mf, .int .i64 mt, .int .i64 mT, .int .i64 mi, .int .i64 ml, .int .i64 mc, .slice eo en ec, .bool mg] 30 (0, 0))) := (by rw [hw2]; exact unhide hM1); have hE2 : Hid (Er rb v v w w2) := (by rw [hw2]; exact ((Er.ofBelow (unhide HB)).trans (Er.ofBelow (unhide hb1))).drewN n2); have x1 : w2.cell? ⟨w.heap.size, 1, none⟩ = some (.int .i64 mf) := cell_of_row w2 w.heap.size 1 _ _ _ (unhide hM2); have x3 : w2.cell? ⟨w.heap.size, 3, none⟩ = some (.int .i64 mT) := cell_of_row w2 w.heap.size 3 _ _ _ (unhide hM2); have c2 := (unhide hR2).c2; clear hw2))
          go_quiet (fail)
          have y1 : (w2.drewN nq).cell? ⟨w.heap.size, 1, none⟩ = some (.int .i64 mf) := x1
          have y3 : (w2.drewN nq).cell? ⟨w.heap.size, 3, none⟩ = some (.int .i64 mT) := x3
          have y2 : (w2.drewN nq).cell? ⟨rb, 2, none⟩ = some (.int .i64 s.term) := c2
          have HR3 : Hid (RB (w2.drewN nq) rb s v []) := RB.drewN (unhide hR2) nq
          have HE3 := hide ((unhide hE2).drewN nq)
          clear x1 x3 c2
          generalize w2.drewN nq = W3 at *
          go_wp2_with (go_at_call 104; refine (refSend_any rb s v [] { kind := 1, src := 0, dst := mf, term := s.term, index := 0, logTerm := 0, commit := 0, ents := [], granted := false } _ _ (unhide HR3) (by simp) (nil_ents _) (fun y _ hy => by simp [Value.ownBlock] at hy)).mono ?_; rintro e w5 ⟨rfl, hS5⟩; replace hS5 := hide hS5)
          go_end0
          rw [unhide HA]
          exact ⟨rfl, rsent_did (unhide HE3) (unhide hS5)⟩
      | false =>
        by_cases hz : s.term = 0
        · have HA : Hid (s.stepAsk ⟨mk, mf, mt, mT, mi, ml, mc, me, mg⟩ = (s, [])) := by show _ = _; unfold Nd.stepAsk; rw [if_neg (fun hx => by rw [hg] at hx; exact Bool.noConfusion hx.2.1), if_pos hz]
          have HG := hide hg
          have HK := hide hk
          have d1 : decide (s.term < mT) = true := decide_eq_true h1
          have d3 : ¬ 0 < s.term := by omega
          clear hg hk hz
          go_enter Tryz.func72, Tryz.ntmps72
          go_wp2_with (first | (go_at_call 119; refine (refGood_any rb s v [] ⟨mk, mf, mt, mT, mi, ml, mc, me, mg⟩ _ _ (unhide H) hs60 ⟨_, _, _, rfl⟩).mono ?_; rw [unhide HG]; rintro e w1 ⟨rfl, hb1⟩; have hR1 := hide ((unhide H).below hb1); have hM1 := hide ((hb1.block w.heap.size (Array.getElem?_eq_some_iff.1 (unhide HM)).1).trans (unhide HM)); replace hb1 := hide hb1) | (go_at_call 120; refine (refKnows_any rb s v [] _ (unhide hR1) hl0).mono ?_; rw [unhide HK]; rintro e w2 ⟨rfl, n2, hw2⟩; have hR2 : Hid (RB w2 rb s v []) := (by rw [hw2]; exact RB.drewN (unhide hR1) n2); have hM2 : Hid (w2.heap[w.heap.size]? = some (.cells #[.int .i64 mk, .int .i64 mf, .int .i64 mt, .int .i64 mT, .int .i64 mi, .int .i64 ml, .int .i64 mc, .slice eo en ec, .bool mg] 30 (0, 0))) := (by rw [hw2]; exact unhide hM1); have hE2 : Hid (Er rb v v w w2) := (by rw [hw2]; exact ((Er.ofBelow (unhide HB)).trans (Er.ofBelow (unhide hb1))).drewN n2); have x1 : w2.cell? ⟨w.heap.size, 1, none⟩ = some (.int .i64 mf) := cell_of_row w2 w.heap.size 1 _ _ _ (unhide hM2); have x3 : w2.cell? ⟨w.heap.size, 3, none⟩ = some (.int .i64 mT) := cell_of_row w2 w.heap.size 3 _ _ _ (unhide hM2); have c2 := (unhide hR2).c2; clear hw2))
          go_quiet (fail)
          have y1 : (w2.drewN nq).cell? ⟨w.heap.size, 1, none⟩ = some (.int .i64 mf) := x1
          have y3 : (w2.drewN nq).cell? ⟨w.heap.size, 3, none⟩ = some (.int .i64 mT) := x3
          have y2 : (w2.drewN nq).cell? ⟨rb, 2, none⟩ = some (.int .i64 s.term) := c2
          have HR3 : Hid (RB (w2.drewN nq) rb s v []) := RB.drewN (unhide hR2) nq
          have HE3 := hide ((unhide hE2).drewN nq)
          clear x1 x3 c2
          generalize w2.drewN nq = W3 at *
          go_wp2
          go_end0
          rw [unhide HA]
          exact ⟨rfl, [], rfl, v, unhide HR3, unhide HE3⟩
        · have HA : Hid (s.stepAsk ⟨mk, mf, mt, mT, mi, ml, mc, me, mg⟩ = (s, [s.reply 1 mf s.term 0 false])) := by show _ = _; unfold Nd.stepAsk; rw [if_neg (fun hx => by rw [hg] at hx; exact Bool.noConfusion hx.2.1), if_neg hz]
          have HG := hide hg
          have HK := hide hk
          have d1 : decide (s.term < mT) = true := decide_eq_true h1
          have d3 : 0 < s.term := by omega
          clear hg hk hz
          go_enter Tryz.func72, Tryz.ntmps72
          go_wp2_with (first | (go_at_call 119; refine (refGood_any rb s v [] ⟨mk, mf, mt, mT, mi, ml, mc, me, mg⟩ _ _ (unhide H) hs60 ⟨_, _, _, rfl⟩).mono ?_; rw [unhide HG]; rintro e w1 ⟨rfl, hb1⟩; have hR1 := hide ((unhide H).below hb1); have hM1 := hide ((hb1.block w.heap.size (Array.getElem?_eq_some_iff.1 (unhide HM)).1).trans (unhide HM)); replace hb1 := hide hb1) | (go_at_call 120; refine (refKnows_any rb s v [] _ (unhide hR1) hl0).mono ?_; rw [unhide HK]; rintro e w2 ⟨rfl, n2, hw2⟩; have hR2 : Hid (RB w2 rb s v []) := (by rw [hw2]; exact RB.drewN (unhide hR1) n2); have hM2 : Hid (w2.heap[w.heap.size]? = some (.cells #[.int .i64 mk, .int .i64 mf, .int .i64 mt, .int .i64 mT, .int .i64 mi, .int .i64 ml, .int .i64 mc, .slice eo en ec, .bool mg] 30 (0, 0))) := (by rw [hw2]; exact unhide hM1); have hE2 : Hid (Er rb v v w w2) := (by rw [hw2]; exact ((Er.ofBelow (unhide HB)).trans (Er.ofBelow (unhide hb1))).drewN n2); have x1 : w2.cell? ⟨w.heap.size, 1, none⟩ = some (.int .i64 mf) := cell_of_row w2 w.heap.size 1 _ _ _ (unhide hM2); have x3 : w2.cell? ⟨w.heap.size, 3, none⟩ = some (.int .i64 mT) := cell_of_row w2 w.heap.size 3 _ _ _ (unhide hM2); have c2 := (unhide hR2).c2; clear hw2))
          go_quiet (fail)
          have y1 : (w2.drewN nq).cell? ⟨w.heap.size, 1, none⟩ = some (.int .i64 mf) := x1
          have y3 : (w2.drewN nq).cell? ⟨w.heap.size, 3, none⟩ = some (.int .i64 mT) := x3
          have y2 : (w2.drewN nq).cell? ⟨rb, 2, none⟩ = some (.int .i64 s.term) := c2
          have HR3 : Hid (RB (w2.drewN nq) rb s v []) := RB.drewN (unhide hR2) nq
          have HE3 := hide ((unhide hE2).drewN nq)
          clear x1 x3 c2
          generalize w2.drewN nq = W3 at *
          go_wp2_with (go_at_call 104; refine (refSend_any rb s v [] { kind := 1, src := 0, dst := mf, term := s.term, index := 0, logTerm := 0, commit := 0, ents := [], granted := false } _ _ (unhide HR3) (by simp) (nil_ents _) (fun y _ hy => by simp [Value.ownBlock] at hy)).mono ?_; rintro e w5 ⟨rfl, hS5⟩; replace hS5 := hide hS5)
          go_end0
          rw [unhide HA]
          exact ⟨rfl, rsent_did (unhide HE3) (unhide hS5)⟩
  · cases hg : s.asGood ⟨mk, mf, mt, mT, mi, ml, mc, me, mg⟩ with
    | true =>
      cases hk : s.knows with
      | true =>
        have hz : ¬ s.term = 0 := by omega
        have HA : Hid (s.stepAsk ⟨mk, mf, mt, mT, mi, ml, mc, me, mg⟩ = (s, [s.reply 1 mf s.term 0 false])) := by show _ = _; unfold Nd.stepAsk; rw [if_neg (fun hx => h1 hx.1), if_neg hz]
        have HG := hide hg
        have HK := hide hk
        have d1 : decide (s.term < mT) = false := decide_eq_false h1
        have d3 : 0 < s.term := by omega
        clear hg hk hz
        go_enter Tryz.func72, Tryz.ntmps72
        go_wp2_with (first | (go_at_call 119; refine (refGood_any rb s v [] ⟨mk, mf, mt, mT, mi, ml, mc, me, mg⟩ _ _ (unhide H) hs60 ⟨_, _, _, rfl⟩).mono ?_; rw [unhide HG]; rintro e w1 ⟨rfl, hb1⟩; have hR1 := hide ((unhide H).below hb1); have hM1 := hide ((hb1.block w.heap.size (Array.getElem?_eq_some_iff.1 (unhide HM)).1).trans (unhide HM)); replace hb1 := hide hb1) | (go_at_call 120; refine (refKnows_any rb s v [] _ (unhide hR1) hl0).mono ?_; rw [unhide HK]; rintro e w2 ⟨rfl, n2, hw2⟩; have hR2 : Hid (RB w2 rb s v []) := (by rw [hw2]; exact RB.drewN (unhide hR1) n2); have hM2 : Hid (w2.heap[w.heap.size]? = some (.cells #[.int .i64 mk, .int .i64 mf, .int .i64 mt, .int .i64 mT, .int .i64 mi, .int .i64 ml, .int .i64 mc, .slice eo en ec, .bool mg] 30 (0, 0))) := (by rw [hw2]; exact unhide hM1); have hE2 : Hid (Er rb v v w w2) := (by rw [hw2]; exact ((Er.ofBelow (unhide HB)).trans (Er.ofBelow (unhide hb1))).drewN n2); have x1 : w2.cell? ⟨w.heap.size, 1, none⟩ = some (.int .i64 mf) := cell_of_row w2 w.heap.size 1 _ _ _ (unhide hM2); have x3 : w2.cell? ⟨w.heap.size, 3, none⟩ = some (.int .i64 mT) := cell_of_row w2 w.heap.size 3 _ _ _ (unhide hM2); have c2 := (unhide hR2).c2; clear hw2))
        go_quiet (fail)
        have y1 : (w2.drewN nq).cell? ⟨w.heap.size, 1, none⟩ = some (.int .i64 mf) := x1
        have y3 : (w2.drewN nq).cell? ⟨w.heap.size, 3, none⟩ = some (.int .i64 mT) := x3
        have y2 : (w2.drewN nq).cell? ⟨rb, 2, none⟩ = some (.int .i64 s.term) := c2
        have HR3 : Hid (RB (w2.drewN nq) rb s v []) := RB.drewN (unhide hR2) nq
        have HE3 := hide ((unhide hE2).drewN nq)
        clear x1 x3 c2
        generalize w2.drewN nq = W3 at *
        go_wp2_with (go_at_call 104; refine (refSend_any rb s v [] { kind := 1, src := 0, dst := mf, term := s.term, index := 0, logTerm := 0, commit := 0, ents := [], granted := false } _ _ (unhide HR3) (by simp) (nil_ents _) (fun y _ hy => by simp [Value.ownBlock] at hy)).mono ?_; rintro e w5 ⟨rfl, hS5⟩; replace hS5 := hide hS5)
        go_end0
        rw [unhide HA]
        exact ⟨rfl, rsent_did (unhide HE3) (unhide hS5)⟩
      | false =>
        have hz : ¬ s.term = 0 := by omega
        have HA : Hid (s.stepAsk ⟨mk, mf, mt, mT, mi, ml, mc, me, mg⟩ = (s, [s.reply 1 mf s.term 0 false])) := by show _ = _; unfold Nd.stepAsk; rw [if_neg (fun hx => h1 hx.1), if_neg hz]
        have HG := hide hg
        have HK := hide hk
        have d1 : decide (s.term < mT) = false := decide_eq_false h1
        have d3 : 0 < s.term := by omega
        clear hg hk hz
        go_enter Tryz.func72, Tryz.ntmps72
        go_wp2_with (first | (go_at_call 119; refine (refGood_any rb s v [] ⟨mk, mf, mt, mT, mi, ml, mc, me, mg⟩ _ _ (unhide H) hs60 ⟨_, _, _, rfl⟩).mono ?_; rw [unhide HG]; rintro e w1 ⟨rfl, hb1⟩; have hR1 := hide ((unhide H).below hb1); have hM1 := hide ((hb1.block w.heap.size (Array.getElem?_eq_some_iff.1 (unhide HM)).1).trans (unhide HM)); replace hb1 := hide hb1) | (go_at_call 120; refine (refKnows_any rb s v [] _ (unhide hR1) hl0).mono ?_; rw [unhide HK]; rintro e w2 ⟨rfl, n2, hw2⟩; have hR2 : Hid (RB w2 rb s v []) := (by rw [hw2]; exact RB.drewN (unhide hR1) n2); have hM2 : Hid (w2.heap[w.heap.size]? = some (.cells #[.int .i64 mk, .int .i64 mf, .int .i64 mt, .int .i64 mT, .int .i64 mi, .int .i64 ml, .int .i64 mc, .slice eo en ec, .bool mg] 30 (0, 0))) := (by rw [hw2]; exact unhide hM1); have hE2 : Hid (Er rb v v w w2) := (by rw [hw2]; exact ((Er.ofBelow (unhide HB)).trans (Er.ofBelow (unhide hb1))).drewN n2); have x1 : w2.cell? ⟨w.heap.size, 1, none⟩ = some (.int .i64 mf) := cell_of_row w2 w.heap.size 1 _ _ _ (unhide hM2); have x3 : w2.cell? ⟨w.heap.size, 3, none⟩ = some (.int .i64 mT) := cell_of_row w2 w.heap.size 3 _ _ _ (unhide hM2); have c2 := (unhide hR2).c2; clear hw2))
        go_quiet (fail)
        have y1 : (w2.drewN nq).cell? ⟨w.heap.size, 1, none⟩ = some (.int .i64 mf) := x1
        have y3 : (w2.drewN nq).cell? ⟨w.heap.size, 3, none⟩ = some (.int .i64 mT) := x3
        have y2 : (w2.drewN nq).cell? ⟨rb, 2, none⟩ = some (.int .i64 s.term) := c2
        have HR3 : Hid (RB (w2.drewN nq) rb s v []) := RB.drewN (unhide hR2) nq
        have HE3 := hide ((unhide hE2).drewN nq)
        clear x1 x3 c2
        generalize w2.drewN nq = W3 at *
        go_wp2_with (go_at_call 104; refine (refSend_any rb s v [] { kind := 1, src := 0, dst := mf, term := s.term, index := 0, logTerm := 0, commit := 0, ents := [], granted := false } _ _ (unhide HR3) (by simp) (nil_ents _) (fun y _ hy => by simp [Value.ownBlock] at hy)).mono ?_; rintro e w5 ⟨rfl, hS5⟩; replace hS5 := hide hS5)
        go_end0
        rw [unhide HA]
        exact ⟨rfl, rsent_did (unhide HE3) (unhide hS5)⟩
    | false =>
      cases hk : s.knows with
      | true =>
        have hz : ¬ s.term = 0 := by omega
        have HA : Hid (s.stepAsk ⟨mk, mf, mt, mT, mi, ml, mc, me, mg⟩ = (s, [s.reply 1 mf s.term 0 false])) := by show _ = _; unfold Nd.stepAsk; rw [if_neg (fun hx => h1 hx.1), if_neg hz]
        have HG := hide hg
        have HK := hide hk
        have d1 : decide (s.term < mT) = false := decide_eq_false h1
        have d3 : 0 < s.term := by omega
        clear hg hk hz
        go_enter Tryz.func72, Tryz.ntmps72
        go_wp2_with (first | (go_at_call 119; refine (refGood_any rb s v [] ⟨mk, mf, mt, mT, mi, ml, mc, me, mg⟩ _ _ (unhide H) hs60 ⟨_, _, _, rfl⟩).mono ?_; rw [unhide HG]; rintro e w1 ⟨rfl, hb1⟩; have hR1 := hide ((unhide H).below hb1); have hM1 := hide ((hb1.block w.heap.size (Array.getElem?_eq_some_iff.1 (unhide HM)).1).trans (unhide HM)); replace hb1 := hide hb1) | (go_at_call 120; refine (refKnows_any rb s v [] _ (unhide hR1) hl0).mono ?_; rw [unhide HK]; rintro e w2 ⟨rfl, n2, hw2⟩; have hR2 : Hid (RB w2 rb s v []) := (by rw [hw2]; exact RB.drewN (unhide hR1) n2); have hM2 : Hid (w2.heap[w.heap.size]? = some (.cells #[.int .i64 mk, .int .i64 mf, .int .i64 mt, .int .i64 mT, .int .i64 mi, .int .i64 ml, .int .i64 mc, .slice eo en ec, .bool mg] 30 (0, 0))) := (by rw [hw2]; exact unhide hM1); have hE2 : Hid (Er rb v v w w2) := (by rw [hw2]; exact ((Er.ofBelow (unhide HB)).trans (Er.ofBelow (unhide hb1))).drewN n2); have x1 : w2.cell? ⟨w.heap.size, 1, none⟩ = some (.int .i64 mf) := cell_of_row w2 w.heap.size 1 _ _ _ (unhide hM2); have x3 : w2.cell? ⟨w.heap.size, 3, none⟩ = some (.int .i64 mT) := cell_of_row w2 w.heap.size 3 _ _ _ (unhide hM2); have c2 := (unhide hR2).c2; clear hw2))
        go_quiet (fail)
        have y1 : (w2.drewN nq).cell? ⟨w.heap.size, 1, none⟩ = some (.int .i64 mf) := x1
        have y3 : (w2.drewN nq).cell? ⟨w.heap.size, 3, none⟩ = some (.int .i64 mT) := x3
        have y2 : (w2.drewN nq).cell? ⟨rb, 2, none⟩ = some (.int .i64 s.term) := c2
        have HR3 : Hid (RB (w2.drewN nq) rb s v []) := RB.drewN (unhide hR2) nq
        have HE3 := hide ((unhide hE2).drewN nq)
        clear x1 x3 c2
        generalize w2.drewN nq = W3 at *
        go_wp2_with (go_at_call 104; refine (refSend_any rb s v [] { kind := 1, src := 0, dst := mf, term := s.term, index := 0, logTerm := 0, commit := 0, ents := [], granted := false } _ _ (unhide HR3) (by simp) (nil_ents _) (fun y _ hy => by simp [Value.ownBlock] at hy)).mono ?_; rintro e w5 ⟨rfl, hS5⟩; replace hS5 := hide hS5)
        go_end0
        rw [unhide HA]
        exact ⟨rfl, rsent_did (unhide HE3) (unhide hS5)⟩
      | false =>
        have hz : ¬ s.term = 0 := by omega
        have HA : Hid (s.stepAsk ⟨mk, mf, mt, mT, mi, ml, mc, me, mg⟩ = (s, [s.reply 1 mf s.term 0 false])) := by show _ = _; unfold Nd.stepAsk; rw [if_neg (fun hx => h1 hx.1), if_neg hz]
        have HG := hide hg
        have HK := hide hk
        have d1 : decide (s.term < mT) = false := decide_eq_false h1
        have d3 : 0 < s.term := by omega
        clear hg hk hz
        go_enter Tryz.func72, Tryz.ntmps72
        go_wp2_with (first | (go_at_call 119; refine (refGood_any rb s v [] ⟨mk, mf, mt, mT, mi, ml, mc, me, mg⟩ _ _ (unhide H) hs60 ⟨_, _, _, rfl⟩).mono ?_; rw [unhide HG]; rintro e w1 ⟨rfl, hb1⟩; have hR1 := hide ((unhide H).below hb1); have hM1 := hide ((hb1.block w.heap.size (Array.getElem?_eq_some_iff.1 (unhide HM)).1).trans (unhide HM)); replace hb1 := hide hb1) | (go_at_call 120; refine (refKnows_any rb s v [] _ (unhide hR1) hl0).mono ?_; rw [unhide HK]; rintro e w2 ⟨rfl, n2, hw2⟩; have hR2 : Hid (RB w2 rb s v []) := (by rw [hw2]; exact RB.drewN (unhide hR1) n2); have hM2 : Hid (w2.heap[w.heap.size]? = some (.cells #[.int .i64 mk, .int .i64 mf, .int .i64 mt, .int .i64 mT, .int .i64 mi, .int .i64 ml, .int .i64 mc, .slice eo en ec, .bool mg] 30 (0, 0))) := (by rw [hw2]; exact unhide hM1); have hE2 : Hid (Er rb v v w w2) := (by rw [hw2]; exact ((Er.ofBelow (unhide HB)).trans (Er.ofBelow (unhide hb1))).drewN n2); have x1 : w2.cell? ⟨w.heap.size, 1, none⟩ = some (.int .i64 mf) := cell_of_row w2 w.heap.size 1 _ _ _ (unhide hM2); have x3 : w2.cell? ⟨w.heap.size, 3, none⟩ = some (.int .i64 mT) := cell_of_row w2 w.heap.size 3 _ _ _ (unhide hM2); have c2 := (unhide hR2).c2; clear hw2))
        go_quiet (fail)
        have y1 : (w2.drewN nq).cell? ⟨w.heap.size, 1, none⟩ = some (.int .i64 mf) := x1
        have y3 : (w2.drewN nq).cell? ⟨w.heap.size, 3, none⟩ = some (.int .i64 mT) := x3
        have y2 : (w2.drewN nq).cell? ⟨rb, 2, none⟩ = some (.int .i64 s.term) := c2
        have HR3 : Hid (RB (w2.drewN nq) rb s v []) := RB.drewN (unhide hR2) nq
        have HE3 := hide ((unhide hE2).drewN nq)
        clear x1 x3 c2
        generalize w2.drewN nq = W3 at *
        go_wp2_with (go_at_call 104; refine (refSend_any rb s v [] { kind := 1, src := 0, dst := mf, term := s.term, index := 0, logTerm := 0, commit := 0, ents := [], granted := false } _ _ (unhide HR3) (by simp) (nil_ents _) (fun y _ hy => by simp [Value.ownBlock] at hy)).mono ?_; rintro e w5 ⟨rfl, hS5⟩; replace hS5 := hide hS5)
        go_end0
        rw [unhide HA]
        exact ⟨rfl, rsent_did (unhide HE3) (unhide hS5)⟩

end Go.Proofs.YteiecbkfganhnaaGreat
