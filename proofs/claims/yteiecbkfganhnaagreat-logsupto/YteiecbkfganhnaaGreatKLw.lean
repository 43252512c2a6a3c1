/- The document's node: Step, one kind at a time; The document's node: every kind of message; A game's step: Step of a message; A game's step: Step of a message whose list of no entries is nil; The law's plays, over any script; The law's elections: which steps of a script are told; The law's Elections, Logs, All: contracts. -/
import Derived.Test.YteiecbkfganhnaaGreatRefE
import Derived.Test.YteiecbkfganhnaaGreatKGStep
import Derived.Test.YteiecbkfganhnaaGreatKInvC
import Derived.Test.YteiecbkfganhnaaGreatRefD
import Derived.Test.YteiecbkfganhnaaGreatRefF
import Derived.Test.YteiecbkfganhnaaGreatRefH
import Derived.Test.YteiecbkfganhnaaGreatRefJ
import Derived.Test.YteiecbkfganhnaaGreatRefK
import Derived.Test.YteiecbkfganhnaaGreatKTake
import Derived.Test.YteiecbkfganhnaaGreatKGl
import Derived.Test.YteiecbkfganhnaaGreatStep
import Derived.Test.YteiecbkfganhnaaGreatKRefI

namespace Go.Proofs.YteiecbkfganhnaaGreat

open Go.RowKit Go.MuLone

theorem row_nine {W : World} {b : Nat} {mk mf mt mT mi ml mc : Int} {ev : Value} {mg : Bool} (h : W.heap[b]? = some (mbox mk mf mt mT mi ml mc ev mg)) :
    W.cell? ⟨b, 0, none⟩ = some (.int .i64 mk) ∧ W.cell? ⟨b, 1, none⟩ = some (.int .i64 mf) ∧ W.cell? ⟨b, 2, none⟩ = some (.int .i64 mt) ∧ W.cell? ⟨b, 3, none⟩ = some (.int .i64 mT) ∧ W.cell? ⟨b, 4, none⟩ = some (.int .i64 mi) ∧ W.cell? ⟨b, 5, none⟩ = some (.int .i64 ml) ∧ W.cell? ⟨b, 6, none⟩ = some (.int .i64 mc) ∧ W.cell? ⟨b, 7, none⟩ = some ev ∧ W.cell? ⟨b, 8, none⟩ = some (.bool mg) :=
  ⟨cell_of_row W b 0 _ _ _ h, cell_of_row W b 1 _ _ _ h, cell_of_row W b 2 _ _ _ h, cell_of_row W b 3 _ _ _ h, cell_of_row W b 4 _ _ _ h, cell_of_row W b 5 _ _ _ h, cell_of_row W b 6 _ _ _ h, cell_of_row W b 7 _ _ _ h, cell_of_row W b 8 _ _ _ h⟩

set_option maxRecDepth 100000 in
set_option maxHeartbeats 1000000 in
theorem refStep_bad (rb : Nat) (s : Nd) (v : RV) (m : Msg) (w : World) (h : RB w rb s v []) (hb : soundM m s.id s.n = false) (hlen : m.ents.length < 4611686018427387904) (eo : Option Addr) (ec : Nat) (he : EntsIn w (.slice eo m.ents.length ec) m.ents) :
    Calls Tryz.prog 32 #[.pointer (some ⟨rb, 0, none⟩), magg m (.slice eo m.ents.length ec)] w fun e w' => RAns rb v w (s, []) e w' := by
  obtain ⟨mk, mf, mt, mT, mi, ml, mc, me, mg⟩ := m
  simp only at hlen he 
  have HB := hide (below_alloc w (mbox mk mf mt mT mi ml mc (.slice eo me.length ec) mg))
  have HM := hide (heap_alloc_new w (mbox mk mf mt mT mi ml mc (.slice eo me.length ec) mg))
  have H := hide (h.below (unhide HB))
  have HE := hide (ents_below he (unhide HB))
  have hlt := h.lt
  have hne : ¬ rb = w.heap.size := by omega
  have HS := hide (refSound_any rb s v ⟨mk, mf, mt, mT, mi, ml, mc, me, mg⟩ _ (unhide H) hlen eo ec (unhide HE))
  have HSB := hide hb
  have H0 := hide h
  clear h he hb
  go_enter Tryz.func32, Tryz.ntmps32
  go_wp2_with (go_at_call 71; refine (unhide HS).mono ?_; rw [unhide HSB]; rintro e w2 ⟨rfl, hb2⟩; replace hb2 := hide hb2)
  go_ret
  have hB2 := (unhide HB).trans ((unhide hb2).mono (by simp))
  exact ⟨[], _, v, rfl, rfl, (unhide H0).below hB2, World.ownsRow_nil _ _ _ _, (fun x hx => by simp at hx), Er.ofBelow hB2⟩

set_option maxRecDepth 100000 in
set_option maxHeartbeats 1000000 in
theorem refStep_0 (rb : Nat) (s : Nd) (v : RV) (m : Msg) (w : World) (h : RB w rb s v []) (hk : m.kind = 0) (hb : soundM m s.id s.n = true) (hlen : m.ents.length < 4611686018427387904) (eo : Option Addr) (ec : Nat) (he : EntsIn w (.slice eo m.ents.length ec) m.ents)
    (hC : ∀ W : World, RB W rb s v [] → EntsIn W (.slice eo m.ents.length ec) m.ents → Calls Tryz.prog 72 #[.pointer (some ⟨rb, 0, none⟩), magg m (.slice eo m.ents.length ec)] W fun e w' => e = .returned (.tuple #[]) ∧ RDid rb v [] W (s.stepAsk m) w') :
    Calls Tryz.prog 32 #[.pointer (some ⟨rb, 0, none⟩), magg m (.slice eo m.ents.length ec)] w fun e w' => RAns rb v w (s.stepAsk m) e w' := by
  obtain ⟨mk, mf, mt, mT, mi, ml, mc, me, mg⟩ := m
  simp only at hlen he hk hC
  have HB := hide (below_alloc w (mbox mk mf mt mT mi ml mc (.slice eo me.length ec) mg))
  have HM := hide (heap_alloc_new w (mbox mk mf mt mT mi ml mc (.slice eo me.length ec) mg))
  have H := hide (h.below (unhide HB))
  have HE := hide (ents_below he (unhide HB))
  have hlt := h.lt
  have hne : ¬ rb = w.heap.size := by omega
  subst hk
  obtain ⟨r, hr⟩ : ∃ r, s.stepAsk ⟨0, mf, mt, mT, mi, ml, mc, me, mg⟩ = r := ⟨_, rfl⟩
  rw [hr]
  simp only [hr] at hC
  have HS := hide (refSound_any rb s v ⟨0, mf, mt, mT, mi, ml, mc, me, mg⟩ _ (unhide H) hlen eo ec (unhide HE))
  have HSB := hide hb
  have HC := hide hC
  clear h he hb hC hr
  go_enter Tryz.func32, Tryz.ntmps32
  go_wp2_with (first | (go_at_call 71; refine (unhide HS).mono ?_; rw [unhide HSB]; rintro e w2 ⟨rfl, hb2⟩; obtain ⟨n0, n1, n2, n3, n4, n5, n6, n7, n8⟩ := row_nine ((hb2.block w.heap.size (by simp)).trans (unhide HM)); replace hb2 := hide hb2) | (go_at_call 72; refine (unhide HC w2 ((unhide H).below (unhide hb2)) (ents_below (unhide HE) (unhide hb2))).mono ?_; rintro e w3 ⟨rfl, l, hl, v3, hR3, hE3⟩; replace hl := hide hl; replace hR3 := hide hR3; replace hE3 := hide hE3) | (go_at_call 59; refine (refSent_any rb r.1 v3 ([] ++ l) w3 (unhide hR3)).mono ?_; intro e w4 h4; have he4 := h4.1; subst he4; replace h4 := hide h4))
  go_ret
  have hB2 := (unhide HB).trans ((unhide hb2).mono (by simp))
  exact RAns.of ((Er.ofBelow hB2).trans (unhide hE3)) (unhide hl) (unhide h4)

set_option maxRecDepth 100000 in
set_option maxHeartbeats 1000000 in
theorem refStep_1 (rb : Nat) (s : Nd) (v : RV) (m : Msg) (w : World) (h : RB w rb s v []) (hk : m.kind = 1) (hb : soundM m s.id s.n = true) (hlen : m.ents.length < 4611686018427387904) (eo : Option Addr) (ec : Nat) (he : EntsIn w (.slice eo m.ents.length ec) m.ents)
    (hC : ∀ W : World, RB W rb s v [] → EntsIn W (.slice eo m.ents.length ec) m.ents → Calls Tryz.prog 73 #[.pointer (some ⟨rb, 0, none⟩), magg m (.slice eo m.ents.length ec)] W fun e w' => e = .returned (.tuple #[]) ∧ RDid rb v [] W (s.stepAskReply m) w') :
    Calls Tryz.prog 32 #[.pointer (some ⟨rb, 0, none⟩), magg m (.slice eo m.ents.length ec)] w fun e w' => RAns rb v w (s.stepAskReply m) e w' := by
  obtain ⟨mk, mf, mt, mT, mi, ml, mc, me, mg⟩ := m
  simp only at hlen he hk hC
  have HB := hide (below_alloc w (mbox mk mf mt mT mi ml mc (.slice eo me.length ec) mg))
  have HM := hide (heap_alloc_new w (mbox mk mf mt mT mi ml mc (.slice eo me.length ec) mg))
  have H := hide (h.below (unhide HB))
  have HE := hide (ents_below he (unhide HB))
  have hlt := h.lt
  have hne : ¬ rb = w.heap.size := by omega
  subst hk
  obtain ⟨r, hr⟩ : ∃ r, s.stepAskReply ⟨1, mf, mt, mT, mi, ml, mc, me, mg⟩ = r := ⟨_, rfl⟩
  rw [hr]
  simp only [hr] at hC
  have HS := hide (refSound_any rb s v ⟨1, mf, mt, mT, mi, ml, mc, me, mg⟩ _ (unhide H) hlen eo ec (unhide HE))
  have HSB := hide hb
  have HC := hide hC
  clear h he hb hC hr
  go_enter Tryz.func32, Tryz.ntmps32
  go_wp2_with (first | (go_at_call 71; refine (unhide HS).mono ?_; rw [unhide HSB]; rintro e w2 ⟨rfl, hb2⟩; obtain ⟨n0, n1, n2, n3, n4, n5, n6, n7, n8⟩ := row_nine ((hb2.block w.heap.size (by simp)).trans (unhide HM)); replace hb2 := hide hb2) | (go_at_call 73; refine (unhide HC w2 ((unhide H).below (unhide hb2)) (ents_below (unhide HE) (unhide hb2))).mono ?_; rintro e w3 ⟨rfl, l, hl, v3, hR3, hE3⟩; replace hl := hide hl; replace hR3 := hide hR3; replace hE3 := hide hE3) | (go_at_call 59; refine (refSent_any rb r.1 v3 ([] ++ l) w3 (unhide hR3)).mono ?_; intro e w4 h4; have he4 := h4.1; subst he4; replace h4 := hide h4))
  go_ret
  have hB2 := (unhide HB).trans ((unhide hb2).mono (by simp))
  exact RAns.of ((Er.ofBelow hB2).trans (unhide hE3)) (unhide hl) (unhide h4)

set_option maxRecDepth 100000 in
set_option maxHeartbeats 1000000 in
theorem refStep_2 (rb : Nat) (s : Nd) (v : RV) (m : Msg) (w : World) (h : RB w rb s v []) (hk : m.kind = 2) (hb : soundM m s.id s.n = true) (hlen : m.ents.length < 4611686018427387904) (eo : Option Addr) (ec : Nat) (he : EntsIn w (.slice eo m.ents.length ec) m.ents)
    (hC : ∀ W : World, RB W rb s v [] → EntsIn W (.slice eo m.ents.length ec) m.ents → Calls Tryz.prog 74 #[.pointer (some ⟨rb, 0, none⟩), magg m (.slice eo m.ents.length ec)] W fun e w' => e = .returned (.tuple #[]) ∧ RDid rb v [] W (s.stepVote m) w') :
    Calls Tryz.prog 32 #[.pointer (some ⟨rb, 0, none⟩), magg m (.slice eo m.ents.length ec)] w fun e w' => RAns rb v w (s.stepVote m) e w' := by
  obtain ⟨mk, mf, mt, mT, mi, ml, mc, me, mg⟩ := m
  simp only at hlen he hk hC
  have HB := hide (below_alloc w (mbox mk mf mt mT mi ml mc (.slice eo me.length ec) mg))
  have HM := hide (heap_alloc_new w (mbox mk mf mt mT mi ml mc (.slice eo me.length ec) mg))
  have H := hide (h.below (unhide HB))
  have HE := hide (ents_below he (unhide HB))
  have hlt := h.lt
  have hne : ¬ rb = w.heap.size := by omega
  subst hk
  obtain ⟨r, hr⟩ : ∃ r, s.stepVote ⟨2, mf, mt, mT, mi, ml, mc, me, mg⟩ = r := ⟨_, rfl⟩
  rw [hr]
  simp only [hr] at hC
  have HS := hide (refSound_any rb s v ⟨2, mf, mt, mT, mi, ml, mc, me, mg⟩ _ (unhide H) hlen eo ec (unhide HE))
  have HSB := hide hb
  have HC := hide hC
  clear h he hb hC hr
  go_enter Tryz.func32, Tryz.ntmps32
  go_wp2_with (first | (go_at_call 71; refine (unhide HS).mono ?_; rw [unhide HSB]; rintro e w2 ⟨rfl, hb2⟩; obtain ⟨n0, n1, n2, n3, n4, n5, n6, n7, n8⟩ := row_nine ((hb2.block w.heap.size (by simp)).trans (unhide HM)); replace hb2 := hide hb2) | (go_at_call 74; refine (unhide HC w2 ((unhide H).below (unhide hb2)) (ents_below (unhide HE) (unhide hb2))).mono ?_; rintro e w3 ⟨rfl, l, hl, v3, hR3, hE3⟩; replace hl := hide hl; replace hR3 := hide hR3; replace hE3 := hide hE3) | (go_at_call 59; refine (refSent_any rb r.1 v3 ([] ++ l) w3 (unhide hR3)).mono ?_; intro e w4 h4; have he4 := h4.1; subst he4; replace h4 := hide h4))
  go_ret
  have hB2 := (unhide HB).trans ((unhide hb2).mono (by simp))
  exact RAns.of ((Er.ofBelow hB2).trans (unhide hE3)) (unhide hl) (unhide h4)

set_option maxRecDepth 100000 in
set_option maxHeartbeats 1000000 in
theorem refStep_3 (rb : Nat) (s : Nd) (v : RV) (m : Msg) (w : World) (h : RB w rb s v []) (hk : m.kind = 3) (hb : soundM m s.id s.n = true) (hlen : m.ents.length < 4611686018427387904) (eo : Option Addr) (ec : Nat) (he : EntsIn w (.slice eo m.ents.length ec) m.ents)
    (hC : ∀ W : World, RB W rb s v [] → EntsIn W (.slice eo m.ents.length ec) m.ents → Calls Tryz.prog 75 #[.pointer (some ⟨rb, 0, none⟩), magg m (.slice eo m.ents.length ec)] W fun e w' => e = .returned (.tuple #[]) ∧ RDid rb v [] W (s.stepVoteReply m) w') :
    Calls Tryz.prog 32 #[.pointer (some ⟨rb, 0, none⟩), magg m (.slice eo m.ents.length ec)] w fun e w' => RAns rb v w (s.stepVoteReply m) e w' := by
  obtain ⟨mk, mf, mt, mT, mi, ml, mc, me, mg⟩ := m
  simp only at hlen he hk hC
  have HB := hide (below_alloc w (mbox mk mf mt mT mi ml mc (.slice eo me.length ec) mg))
  have HM := hide (heap_alloc_new w (mbox mk mf mt mT mi ml mc (.slice eo me.length ec) mg))
  have H := hide (h.below (unhide HB))
  have HE := hide (ents_below he (unhide HB))
  have hlt := h.lt
  have hne : ¬ rb = w.heap.size := by omega
  subst hk
  obtain ⟨r, hr⟩ : ∃ r, s.stepVoteReply ⟨3, mf, mt, mT, mi, ml, mc, me, mg⟩ = r := ⟨_, rfl⟩
  rw [hr]
  simp only [hr] at hC
  have HS := hide (refSound_any rb s v ⟨3, mf, mt, mT, mi, ml, mc, me, mg⟩ _ (unhide H) hlen eo ec (unhide HE))
  have HSB := hide hb
  have HC := hide hC
  clear h he hb hC hr
  go_enter Tryz.func32, Tryz.ntmps32
  go_wp2_with (first | (go_at_call 71; refine (unhide HS).mono ?_; rw [unhide HSB]; rintro e w2 ⟨rfl, hb2⟩; obtain ⟨n0, n1, n2, n3, n4, n5, n6, n7, n8⟩ := row_nine ((hb2.block w.heap.size (by simp)).trans (unhide HM)); replace hb2 := hide hb2) | (go_at_call 75; refine (unhide HC w2 ((unhide H).below (unhide hb2)) (ents_below (unhide HE) (unhide hb2))).mono ?_; rintro e w3 ⟨rfl, l, hl, v3, hR3, hE3⟩; replace hl := hide hl; replace hR3 := hide hR3; replace hE3 := hide hE3) | (go_at_call 59; refine (refSent_any rb r.1 v3 ([] ++ l) w3 (unhide hR3)).mono ?_; intro e w4 h4; have he4 := h4.1; subst he4; replace h4 := hide h4))
  go_ret
  have hB2 := (unhide HB).trans ((unhide hb2).mono (by simp))
  exact RAns.of ((Er.ofBelow hB2).trans (unhide hE3)) (unhide hl) (unhide h4)

set_option maxRecDepth 100000 in
set_option maxHeartbeats 1000000 in
theorem refStep_4 (rb : Nat) (s : Nd) (v : RV) (m : Msg) (w : World) (h : RB w rb s v []) (hk : m.kind = 4) (hb : soundM m s.id s.n = true) (hlen : m.ents.length < 4611686018427387904) (eo : Option Addr) (ec : Nat) (he : EntsIn w (.slice eo m.ents.length ec) m.ents)
    (hC : ∀ W : World, RB W rb s v [] → EntsIn W (.slice eo m.ents.length ec) m.ents → Calls Tryz.prog 76 #[.pointer (some ⟨rb, 0, none⟩), magg m (.slice eo m.ents.length ec)] W fun e w' => e = .returned (.tuple #[]) ∧ RDid rb v [] W (s.stepAppend m) w') :
    Calls Tryz.prog 32 #[.pointer (some ⟨rb, 0, none⟩), magg m (.slice eo m.ents.length ec)] w fun e w' => RAns rb v w (s.stepAppend m) e w' := by
  obtain ⟨mk, mf, mt, mT, mi, ml, mc, me, mg⟩ := m
  simp only at hlen he hk hC
  have HB := hide (below_alloc w (mbox mk mf mt mT mi ml mc (.slice eo me.length ec) mg))
  have HM := hide (heap_alloc_new w (mbox mk mf mt mT mi ml mc (.slice eo me.length ec) mg))
  have H := hide (h.below (unhide HB))
  have HE := hide (ents_below he (unhide HB))
  have hlt := h.lt
  have hne : ¬ rb = w.heap.size := by omega
  subst hk
  obtain ⟨r, hr⟩ : ∃ r, s.stepAppend ⟨4, mf, mt, mT, mi, ml, mc, me, mg⟩ = r := ⟨_, rfl⟩
  rw [hr]
  simp only [hr] at hC
  have HS := hide (refSound_any rb s v ⟨4, mf, mt, mT, mi, ml, mc, me, mg⟩ _ (unhide H) hlen eo ec (unhide HE))
  have HSB := hide hb
  have HC := hide hC
  clear h he hb hC hr
  go_enter Tryz.func32, Tryz.ntmps32
  go_wp2_with (first | (go_at_call 71; refine (unhide HS).mono ?_; rw [unhide HSB]; rintro e w2 ⟨rfl, hb2⟩; obtain ⟨n0, n1, n2, n3, n4, n5, n6, n7, n8⟩ := row_nine ((hb2.block w.heap.size (by simp)).trans (unhide HM)); replace hb2 := hide hb2) | (go_at_call 76; refine (unhide HC w2 ((unhide H).below (unhide hb2)) (ents_below (unhide HE) (unhide hb2))).mono ?_; rintro e w3 ⟨rfl, l, hl, v3, hR3, hE3⟩; replace hl := hide hl; replace hR3 := hide hR3; replace hE3 := hide hE3) | (go_at_call 59; refine (refSent_any rb r.1 v3 ([] ++ l) w3 (unhide hR3)).mono ?_; intro e w4 h4; have he4 := h4.1; subst he4; replace h4 := hide h4))
  go_ret
  have hB2 := (unhide HB).trans ((unhide hb2).mono (by simp))
  exact RAns.of ((Er.ofBelow hB2).trans (unhide hE3)) (unhide hl) (unhide h4)

set_option maxRecDepth 100000 in
set_option maxHeartbeats 1000000 in
theorem refStep_5 (rb : Nat) (s : Nd) (v : RV) (m : Msg) (w : World) (h : RB w rb s v []) (hk : m.kind = 5) (hb : soundM m s.id s.n = true) (hlen : m.ents.length < 4611686018427387904) (eo : Option Addr) (ec : Nat) (he : EntsIn w (.slice eo m.ents.length ec) m.ents)
    (hC : ∀ W : World, RB W rb s v [] → EntsIn W (.slice eo m.ents.length ec) m.ents → Calls Tryz.prog 77 #[.pointer (some ⟨rb, 0, none⟩), magg m (.slice eo m.ents.length ec)] W fun e w' => e = .returned (.tuple #[]) ∧ RDid rb v [] W (s.stepAppendReply m) w') :
    Calls Tryz.prog 32 #[.pointer (some ⟨rb, 0, none⟩), magg m (.slice eo m.ents.length ec)] w fun e w' => RAns rb v w (s.stepAppendReply m) e w' := by
  obtain ⟨mk, mf, mt, mT, mi, ml, mc, me, mg⟩ := m
  simp only at hlen he hk hC
  have HB := hide (below_alloc w (mbox mk mf mt mT mi ml mc (.slice eo me.length ec) mg))
  have HM := hide (heap_alloc_new w (mbox mk mf mt mT mi ml mc (.slice eo me.length ec) mg))
  have H := hide (h.below (unhide HB))
  have HE := hide (ents_below he (unhide HB))
  have hlt := h.lt
  have hne : ¬ rb = w.heap.size := by omega
  subst hk
  obtain ⟨r, hr⟩ : ∃ r, s.stepAppendReply ⟨5, mf, mt, mT, mi, ml, mc, me, mg⟩ = r := ⟨_, rfl⟩
  rw [hr]
  simp only [hr] at hC
  have HS := hide (refSound_any rb s v ⟨5, mf, mt, mT, mi, ml, mc, me, mg⟩ _ (unhide H) hlen eo ec (unhide HE))
  have HSB := hide hb
  have HC := hide hC
  clear h he hb hC hr
  go_enter Tryz.func32, Tryz.ntmps32
  go_wp2_with (first | (go_at_call 71; refine (unhide HS).mono ?_; rw [unhide HSB]; rintro e w2 ⟨rfl, hb2⟩; obtain ⟨n0, n1, n2, n3, n4, n5, n6, n7, n8⟩ := row_nine ((hb2.block w.heap.size (by simp)).trans (unhide HM)); replace hb2 := hide hb2) | (go_at_call 77; refine (unhide HC w2 ((unhide H).below (unhide hb2)) (ents_below (unhide HE) (unhide hb2))).mono ?_; rintro e w3 ⟨rfl, l, hl, v3, hR3, hE3⟩; replace hl := hide hl; replace hR3 := hide hR3; replace hE3 := hide hE3) | (go_at_call 59; refine (refSent_any rb r.1 v3 ([] ++ l) w3 (unhide hR3)).mono ?_; intro e w4 h4; have he4 := h4.1; subst he4; replace h4 := hide h4))
  go_ret
  have hB2 := (unhide HB).trans ((unhide hb2).mono (by simp))
  exact RAns.of ((Er.ofBelow hB2).trans (unhide hE3)) (unhide hl) (unhide h4)

end Go.Proofs.YteiecbkfganhnaaGreat

namespace Go.Proofs.YteiecbkfganhnaaGreat

open Go.RowKit Go.MuLone

theorem refAskReply_all (rb : Nat) (s : Nd) (v : RV) (m : Msg) (ev : Value) (w : World) (h : RB w rb s v []) (hok : Ok s) (hm : SoundM m s.id s.n) (hev : ∃ ao n c, ev = .slice ao n c) :
    Calls Tryz.prog 73 #[.pointer (some ⟨rb, 0, none⟩), magg m ev] w fun e w' => e = .returned (.tuple #[]) ∧ RDid rb v [] w (s.stepAskReply m) w' := by
  cases hg : m.granted with
  | false => exact refStepAskReply_no rb s v m ev w h hev hg
  | true =>
    have ht := hok.t0
    have ht1 := hok.t1
    by_cases hx : s.role = 1 ∧ m.term = s.term + 1
    · exact refStepAskReply_asks rb m.src.toNat s v m ev w h hok hev hg (by have := hm.s0; omega) (by have := hm.s0; have := hm.s1; omega) hok.g7 hx.1 hx.2 ht (by have := hm.t1; have := hx.2; omega)
    · exact refStepAskReply_past rb s v m ev w h hev hg hx ht ht1

theorem refVoteReply_all (rb : Nat) (s : Nd) (v : RV) (m : Msg) (ev : Value) (w : World) (h : RB w rb s v []) (hok : Ok s) (hm : SoundM m s.id s.n) (hev : ∃ ao n c, ev = .slice ao n c) :
    Calls Tryz.prog 75 #[.pointer (some ⟨rb, 0, none⟩), magg m ev] w fun e w' => e = .returned (.tuple #[]) ∧ RDid rb v [] w (s.stepVoteReply m) w' := by
  by_cases h1 : s.term < m.term
  · exact refStepVoteReply_later rb s v m ev w h hev h1
  · by_cases hx : m.granted = true ∧ s.role = 2 ∧ m.term = s.term
    · exact refStepVoteReply_votes rb m.src.toNat s v m ev w h hok hev hx.1 (by have := hm.s0; omega) (by have := hm.s0; have := hm.s1; omega) hok.g7 hx.2.1 hx.2.2 (by have := hm.t0; have := hx.2.2; omega)
    · exact refStepVoteReply_past rb s v m ev w h hev h1 hx

theorem refAppendReply_all (rb : Nat) (s : Nd) (v : RV) (m : Msg) (ev : Value) (w : World) (h : RB w rb s v []) (hok : Ok s) (hm : SoundM m s.id s.n) (hev : ∃ ao n c, ev = .slice ao n c) :
    Calls Tryz.prog 77 #[.pointer (some ⟨rb, 0, none⟩), magg m ev] w fun e w' => e = .returned (.tuple #[]) ∧ RDid rb v [] w (s.stepAppendReply m) w' := by
  have hs0 := hm.s0
  have hs1 := hm.s1
  have hi0 := hm.i0
  have hi1 := hm.i1
  by_cases h1 : s.term < m.term
  · exact refStepAppendReply_later rb s v m ev w h hev h1
  · by_cases hx : s.role = 3 ∧ m.term = s.term
    · cases hg : m.granted with
      | false => exact refStepAppendReply_back rb m.src.toNat m.index.toNat s v m ev w h hok hev hg (by omega) (by omega) (by omega) (by omega) hx.1 hx.2
      | true => exact refStepAppendReply_on rb m.src.toNat m.index.toNat s v m ev w h hok hev hg (by omega) (by omega) (by omega) (by omega) hx.1 hx.2
    · exact refStepAppendReply_past rb s v m ev w h hev h1 hx

theorem refAppend_all (rb : Nat) (s : Nd) (v : RV) (m : Msg) (w : World) (h : RB w rb s v []) (hok : Ok s) (hm : SoundM m s.id s.n) (eo : Option Addr) (ec : Nat) (he : EntsIn w (.slice eo m.ents.length ec) m.ents) (hec : m.ents.length ≤ ec) (hap : ∀ a, eo = some a → m.ents ≠ [] → ¬ v.has rb a.block) :
    Calls Tryz.prog 76 #[.pointer (some ⟨rb, 0, none⟩), magg m (.slice eo m.ents.length ec)] w fun e w' => e = .returned (.tuple #[]) ∧ RDid rb v [] w (s.stepAppend m) w' := by
  by_cases h1 : m.term < s.term
  · exact refStepAppend_old rb s v m _ w h ⟨_, _, _, rfl⟩ h1
  · by_cases h2 : m.term = s.term ∧ s.role = 3
    · exact refStepAppend_leads rb s v m _ w h ⟨_, _, _, rfl⟩ h2.1 h2.2
    · exact refStepAppend_rest rb s v m w h hok hm eo ec he hec hap h1 h2

theorem refStep_all (rb : Nat) (s : Nd) (v : RV) (m : Msg) (w : World) (h : RB w rb s v []) (hok : Ok s) (hlen : m.ents.length < 4611686018427387904) (eo : Option Addr) (ec : Nat) (he : EntsIn w (.slice eo m.ents.length ec) m.ents) (hec : m.ents.length ≤ ec) (hap : ∀ a, eo = some a → m.ents ≠ [] → ¬ v.has rb a.block) :
    Calls Tryz.prog 32 #[.pointer (some ⟨rb, 0, none⟩), magg m (.slice eo m.ents.length ec)] w fun e w' => RAns rb v w (s.step m) e w' := by
  cases hb : soundM m s.id s.n with
  | false =>
    have e : s.step m = (s, []) := by unfold Nd.step; rw [hb]; rfl
    rw [e]
    exact refStep_bad rb s v m w h hb hlen eo ec he
  | true =>
    have hm := soundM_of hb
    have hs : ∃ ao n c, (Value.slice eo m.ents.length ec) = .slice ao n c := ⟨_, _, _, rfl⟩
    have k0 := hm.k0
    have k1 := hm.k1
    have hk : m.kind = 0 ∨ m.kind = 1 ∨ m.kind = 2 ∨ m.kind = 3 ∨ m.kind = 4 ∨ m.kind = 5 := by omega
    rcases hk with hk | hk | hk | hk | hk | hk
    · have e : s.step m = s.stepAsk m := by unfold Nd.step; rw [hb, hk]; rfl
      rw [e]
      exact refStep_0 rb s v m w h hk hb hlen eo ec he fun W hW _ => refStepAsk_any rb s v m _ W hW hok hs hm.t0
    · have e : s.step m = s.stepAskReply m := by unfold Nd.step; rw [hb, hk]; rfl
      rw [e]
      exact refStep_1 rb s v m w h hk hb hlen eo ec he fun W hW _ => refAskReply_all rb s v m _ W hW hok hm hs
    · have e : s.step m = s.stepVote m := by unfold Nd.step; rw [hb, hk]; rfl
      rw [e]
      exact refStep_2 rb s v m w h hk hb hlen eo ec he fun W hW _ => refStepVote_any rb s v m _ W hW hok hs
    · have e : s.step m = s.stepVoteReply m := by unfold Nd.step; rw [hb, hk]; rfl
      rw [e]
      exact refStep_3 rb s v m w h hk hb hlen eo ec he fun W hW _ => refVoteReply_all rb s v m _ W hW hok hm hs
    · have e : s.step m = s.stepAppend m := by unfold Nd.step; rw [hb, hk]; rfl
      rw [e]
      exact refStep_4 rb s v m w h hk hb hlen eo ec he fun W hW hE => refAppend_all rb s v m W hW hok hm eo ec hE hec hap
    · have e : s.step m = s.stepAppendReply m := by unfold Nd.step; rw [hb, hk]; rfl
      rw [e]
      exact refStep_5 rb s v m w h hk hb hlen eo ec he fun W hW _ => refAppendReply_all rb s v m _ W hW hok hm hs

end Go.Proofs.YteiecbkfganhnaaGreat

namespace Go.Proofs.YteiecbkfganhnaaGreat

open Go.RowKit Go.MuLone

theorem untouched_at (g : Nat) (lv : Value) (es : List Ent) (w : World) (hn : es.length * 24 ≤ 140737488351232) (hl : EntsIn w lv es) (hlt : ∀ a n c, lv = .slice (some a) n c → es ≠ [] → a.block < g) (hg : g < w.heap.size) (hR : RowE w g (es.length + 8) (es ++ List.replicate 8 spareE)) :
    Calls Tryz.prog 16 #[.slice (some ⟨g, 0, none⟩) es.length (es.length + 8), lv] w fun e w' => e = .returned (.bool true) ∧ w.grownBy w' (some g) := by
  have hsz : (w.heap.extract 0 g).size = g := by simp; omega
  have hget : ∀ k, k < g → w.heap[k]? = (w.heap.extract 0 g)[k]? := fun k hk => by
    rw [Array.getElem?_extract]
    simp
    omega
  refine untouched_any g lv es { w with heap := w.heap.extract 0 g } w hn ?_ ⟨rfl, rfl, rfl, by show (w.heap.extract 0 g).size ≤ _; omega, fun k hk => hget k (by rw [← hsz]; exact hk)⟩ (by show (w.heap.extract 0 g).size ≤ g; omega) hR
  obtain ⟨ao, cap, rfl, hc, hcell⟩ := hl
  refine ⟨ao, cap, rfl, hc, fun k e hk => ?_⟩
  obtain ⟨b, off, rfl, h0, h1⟩ := hcell k e hk
  have hb : b < g := hlt ⟨b, off, none⟩ _ _ rfl (fun e => by rw [e] at hk; simp at hk)
  have hgb := (hget b hb).symm
  exact ⟨b, off, rfl, (World.cell?_of_block (w' := { w with heap := w.heap.extract 0 g }) (a := ⟨b, _, none⟩) hgb).trans h0, (World.cell?_of_block (w' := { w with heap := w.heap.extract 0 g }) (a := ⟨b, _, none⟩) hgb).trans h1⟩

theorem game_01 (i : Nat) : ¬ Agame i (0, 1) := by
  rintro (⟨v1, v2⟩ | v)
  · simp at v1
  · simp at v; omega

theorem Pair.step {id n : Nat} {s t : Nd} (h : Pair id n s t) (m : Msg) : Pair id n (s.step m).1 (t.step m).1 := ⟨(twin_step h.tw m).1, h.ok.step m, h.okt.step m, by rw [step_id]; exact h.eid, by rw [step_n]; exact h.en⟩

section

variable (i gb nb rb : Nat) (w : World) (tg : Tags) (id n : Nat) (s t : Nd) (lv : Value) (v : RV) (b : BV) (l : List (List Ent)) (lm : List (List Msg)) (l2 : List (List ByteArray)) (ne nm nt K : Nat)

set_option maxRecDepth 100000 in
set_option maxHeartbeats 4000000 in
theorem gstep_row (a q x : Int) (m : Msg) (eo : Option Addr) (ec : Nat) (c : ByteArray) (E : Int) (h : Gx i gb nb rb w tg id n s t lv v b l lm l2 ne nm nt) (hi : i ≤ 1) (hp : Pair id n s t) (hb : (l.length ≤ 7 ∧ lm.length ≤ 7 ∧ l2.length ≤ 7) ∧ ne ≤ K ∧ nm ≤ K ∧ nt ≤ K) (hE : s.elapsed ≤ E)
    (he : EntsIn w (.slice eo m.ents.length ec) m.ents) (hec : m.ents.length ≤ ec) (hlen : m.ents.length ≤ 1048576) (htg : ∀ a, eo = some a → m.ents ≠ [] → tg a.block = (0, 0)) (hodd : ((m.ents.length : Int) == 0) = false ∨ (a.tmod 2 != 0) = false) :
    Calls Tryz.prog 18 #[.pointer (some ⟨gb, 0, none⟩), stepA 4 a q m (.slice eo m.ents.length ec) c x] w fun e w' => e = .returned (.bool true) ∧ GDone i gb w tg id n K E w' := by
  have hst : StnOk w tg ⟨4, a, q, m, .slice eo m.ents.length ec, c, x⟩ := ⟨eo, ec, rfl, hec, he, hlen, htg⟩
  have HST := hide hst
  have HMM : Hid (∀ w' tg', StnOk w' tg' ⟨4, a, q, m, .slice eo m.ents.length ec, c, x⟩ → EntsIn w' (.slice eo m.ents.length ec) m.ents ∧ ∀ a, eo = some a → m.ents ≠ [] → tg' a.block = (0, 0)) := fun w' tg' h => by
    obtain ⟨eo', ec', h1, h2, h3, h4, h5⟩ := h
    simp only [Value.slice.injEq, true_and] at h1 h2 h3 h4 h5
    obtain ⟨rfl, rfl⟩ := h1
    exact ⟨h3, h5⟩
  have HLT : Hid (∀ a n c, Value.slice eo m.ents.length ec = .slice (some a) n c → m.ents ≠ [] → a.block < w.heap.size) := fun a n c h1 hne => by
    simp only [Value.slice.injEq] at h1
    obtain ⟨ao, cap, hv, _, hcell⟩ := he
    obtain ⟨e, es, hes⟩ := List.exists_cons_of_ne_nil hne
    obtain ⟨b', off', hb', h0', _⟩ := hcell 0 e (by rw [hes]; rfl)
    simp only [Value.slice.injEq] at hv
    rw [← hv.1, h1.1] at hb'
    simp at hb'
    subst hb'
    exact block_lt_of_cell h0'
  clear hst
  obtain ⟨mk, mf, mt, mT, mi, ml, mc, me, mg⟩ := m
  simp only at he hec hlen htg hodd
  have hW1 := heap_alloc_new w (stepB 4 a q ⟨mk, mf, mt, mT, mi, ml, mc, me, mg⟩ (.slice eo me.length ec) c x)
  have hB1 := below_alloc w (stepB 4 a q ⟨mk, mf, mt, mT, mi, ml, mc, me, mg⟩ (.slice eo me.length ec) c x)
  have hZ1 := size_alloc1 w (stepB 4 a q ⟨mk, mf, mt, mT, mi, ml, mc, me, mg⟩ (.slice eo me.length ec) c x)
  have hW2s := heap_under hW1 (mbox mk mf mt mT mi ml mc (.slice eo me.length ec) mg)
  have hW2h := heap_alloc_new (w.alloc (stepB 4 a q ⟨mk, mf, mt, mT, mi, ml, mc, me, mg⟩ (.slice eo me.length ec) c x)) (mbox mk mf mt mT mi ml mc (.slice eo me.length ec) mg)
  have hB2 := below_trans hB1 (below_alloc (w.alloc (stepB 4 a q ⟨mk, mf, mt, mT, mi, ml, mc, me, mg⟩ (.slice eo me.length ec) c x)) (mbox mk mf mt mT mi ml mc (.slice eo me.length ec) mg))
  have hZ2 := size_alloc1 (w.alloc (stepB 4 a q ⟨mk, mf, mt, mT, mi, ml, mc, me, mg⟩ (.slice eo me.length ec) c x)) (mbox mk mf mt mT mi ml mc (.slice eo me.length ec) mg)
  rw [hZ1] at hW2h hZ2
  have HW2s := hide hW2s
  have HW2h := hide hW2h
  have HB2 := hide hB2
  have HZ2 := hide hZ2
  have HE2 := hide (ents_below he hB2)
  have HG := hide h
  have HP := hide hp
  have HB := hide hb
  have HEC := hide hec
  clear h hp hb he htg hW1 hB1 hZ1 hW2s hW2h hB2 hZ2 hec
  have hq1 := eql_slice_nil
  have hq2 := eql_nil_nil
  go_enter Tryz.func18, Tryz.ntmps18
  go_wp2_with (go_at_call 14; fail)
  generalize (w.alloc (stepB 4 a q ⟨mk, mf, mt, mT, mi, ml, mc, me, mg⟩ (.slice eo me.length ec) c x)).alloc (mbox mk mf mt mT mi ml mc (.slice eo me.length ec) mg) = W2 at *
  refine (handed_any _ me W2 (by omega) (unhide HE2)).mono ?_
  rw [unhide HZ2]
  rintro e w3 ⟨rfl, hR3, hb3⟩
  have hb3' : Below W2.heap.size W2 w3 := by rw [unhide HZ2]; exact hb3
  have hS3 := (hb3'.block w.heap.size (Array.getElem?_eq_some_iff.1 (unhide HW2s)).1).trans (unhide HW2s)
  have hH3 := (hb3'.block (w.heap.size + 1) (Array.getElem?_eq_some_iff.1 (unhide HW2h)).1).trans (unhide HW2h)
  have hB3 := below_trans (unhide HB2) hb3'
  have k7 : w3.cell? ⟨w.heap.size + 1, 7, none⟩ = some (.slice eo me.length ec) := cell_of_row w3 _ 7 _ _ _ hH3
  have f7 := frozen_of_row w3 (w.heap.size + 1) 7 _ _ hH3
  have hH4 : (w3.setCell ⟨w.heap.size + 1, 7, none⟩ (.slice (some ⟨w.heap.size + 1 + 1, 0, none⟩) me.length (me.length + 8))).heap[w.heap.size + 1]? = some (mbox mk mf mt mT mi ml mc (.slice (some ⟨w.heap.size + 1 + 1, 0, none⟩) me.length (me.length + 8)) mg) := heap_setCell_same _ _ 7 _ _ _ hH3
  have hS4 : (w3.setCell ⟨w.heap.size + 1, 7, none⟩ (.slice (some ⟨w.heap.size + 1 + 1, 0, none⟩) me.length (me.length + 8))).heap[w.heap.size]? = _ := (Below.heap_setCell _ _ _ _ (by simp)).trans hS3
  have hR4 : RowE (w3.setCell ⟨w.heap.size + 1, 7, none⟩ (.slice (some ⟨w.heap.size + 1 + 1, 0, none⟩) me.length (me.length + 8))) (w.heap.size + 1 + 1) (me.length + 8) (me ++ List.replicate 8 spareE) := ⟨owns_kept hR3.1 fun y hy => by
    simp [Value.ownBlock] at hy
    subst hy
    exact Below.heap_setCell _ _ _ _ (by simp), fun _ _ => rfl⟩
  have hB4 : Below w.heap.size w (w3.setCell ⟨w.heap.size + 1, 7, none⟩ (.slice (some ⟨w.heap.size + 1 + 1, 0, none⟩) me.length (me.length + 8))) := hB3.setCell (p := ⟨w.heap.size + 1, 7, none⟩) (by simp) _
  have x10 : (w3.setCell ⟨w.heap.size + 1, 7, none⟩ (.slice (some ⟨w.heap.size + 1 + 1, 0, none⟩) me.length (me.length + 8))).cell? ⟨w.heap.size, 10, none⟩ = some (.slice eo me.length ec) := cell_of_row _ _ 10 _ _ _ hS4
  have x1 : (w3.setCell ⟨w.heap.size + 1, 7, none⟩ (.slice (some ⟨w.heap.size + 1 + 1, 0, none⟩) me.length (me.length + 8))).cell? ⟨w.heap.size, 1, none⟩ = some (.int .i64 a) := cell_of_row _ _ 1 _ _ _ hS4
  have HS4 := hide hS4
  have HH4 := hide hH4
  have HR4 := hide hR4
  have HB4 := hide hB4
  clear hR3 hb3 hb3' hS3 hH3 hB3 hS4 hH4 hR4 hB4
  go_upto_region 15 with fail
  generalize w3.setCell ⟨w.heap.size + 1, 7, none⟩ (.slice (some ⟨w.heap.size + 1 + 1, 0, none⟩) me.length (me.length + 8)) = W4 at *
  clear k7 f7
  go_cut [82] (fun u wx => u = .bool false ∧ wx = W4)
  case first =>
    by_cases hz : ((me.length : Int) == 0) = true
    · have hod : (a.tmod 2 != 0) = false := by
        rcases hodd with h | h
        · rw [h] at hz; cases hz
        · exact h
      clear hodd
      go_wp2_with fail
      go_meet
      exact ⟨rfl, rfl⟩
    · have hz' : ((me.length : Int) == 0) = false := by simpa using hz
      clear hodd hz
      go_wp2_with fail
      go_meet
      exact ⟨rfl, rfl⟩
  case rest =>
  obtain ⟨rfl, rfl⟩ := hcut
  clear x10 x1
  have S4 : Stp (fun _ => False) w tg wc (newTag w.heap.size tg (0, 1)) := Stp.ofBelow (unhide HB4) tg _
  have tS : newTag w.heap.size tg (0, 1) w.heap.size = (0, 1) := newTag_new (Nat.le_refl _)
  have tH : newTag w.heap.size tg (0, 1) (w.heap.size + 1) = (0, 1) := newTag_new (Nat.le_succ _)
  have tR2 : newTag w.heap.size tg (0, 1) (w.heap.size + 1 + 1) = (0, 1) := newTag_new (by omega)
  have G4 := (unhide HG).quiet S4
  have ST4 := hide ((unhide HST).step S4 (fun h => h))
  have c2 := G4.c2
  have LS4 : Loc wc (newTag w.heap.size tg (0, 1)) w.heap.size _ _ := ⟨unhide HS4, tS⟩
  have LH4 : Loc wc (newTag w.heap.size tg (0, 1)) (w.heap.size + 1) _ _ := ⟨unhide HH4, tH⟩
  have S4d := hide (S4.trans (Stp.drew1 _ _ _))
  have G4d := hide (G4.quiet (Stp.drew1 _ _ _))
  have LS4d := hide (LS4.step (Stp.drew1 (fun _ => False) _ _) (fun h => h))
  have LH4d := hide (LH4.step (Stp.drew1 (fun _ => False) _ _) (fun h => h))
  have ST4d := hide ((unhide ST4).step (Stp.drew1 (fun _ => False) _ _) (fun h => h))
  have TR2 := hide tR2
  have h0 : wc.cell? ⟨w.heap.size + 1, 0, none⟩ = some (.int .i64 mk) := LH4.cell 0
  have h1 : wc.cell? ⟨w.heap.size + 1, 1, none⟩ = some (.int .i64 mf) := LH4.cell 1
  have h2 : wc.cell? ⟨w.heap.size + 1, 2, none⟩ = some (.int .i64 mt) := LH4.cell 2
  have h3 : wc.cell? ⟨w.heap.size + 1, 3, none⟩ = some (.int .i64 mT) := LH4.cell 3
  have h4 : wc.cell? ⟨w.heap.size + 1, 4, none⟩ = some (.int .i64 mi) := LH4.cell 4
  have h5 : wc.cell? ⟨w.heap.size + 1, 5, none⟩ = some (.int .i64 ml) := LH4.cell 5
  have h6 : wc.cell? ⟨w.heap.size + 1, 6, none⟩ = some (.int .i64 mc) := LH4.cell 6
  have h7 : wc.cell? ⟨w.heap.size + 1, 7, none⟩ = some (.slice (some ⟨w.heap.size + 1 + 1, 0, none⟩) me.length (me.length + 8)) := LH4.cell 7
  have h8 : wc.cell? ⟨w.heap.size + 1, 8, none⟩ = some (.bool mg) := LH4.cell 8
  have HRL : Hid (w.heap.size + 1 + 1 < wc.heap.size) := owns_lt (unhide HR4).1 _ rfl
  have HEN : Hid (EntsIn wc.drew (.slice (some ⟨w.heap.size + 1 + 1, 0, none⟩) me.length (me.length + 8)) me) := rowE_ents (unhide HR4)
  clear S4 G4 LS4 LH4 tS tH tR2 HB4 HS4 HH4 ST4
  generalize newTag w.heap.size tg (0, 1) = tg4 at *
  go_upto_region 17 with fail
  go_region_held3 (fun w' => w'.cell? ⟨gb, 2, none⟩ = some (.pointer (some ⟨nb, 0, none⟩)) ∧ w'.cell? ⟨w.heap.size + 1, 0, none⟩ = some (.int .i64 mk) ∧ w'.cell? ⟨w.heap.size + 1, 1, none⟩ = some (.int .i64 mf) ∧ w'.cell? ⟨w.heap.size + 1, 2, none⟩ = some (.int .i64 mt) ∧ w'.cell? ⟨w.heap.size + 1, 3, none⟩ = some (.int .i64 mT) ∧ w'.cell? ⟨w.heap.size + 1, 4, none⟩ = some (.int .i64 mi) ∧ w'.cell? ⟨w.heap.size + 1, 5, none⟩ = some (.int .i64 ml) ∧ w'.cell? ⟨w.heap.size + 1, 6, none⟩ = some (.int .i64 mc) ∧ w'.cell? ⟨w.heap.size + 1, 7, none⟩ = some (.slice (some ⟨w.heap.size + 1 + 1, 0, none⟩) me.length (me.length + 8)) ∧ w'.cell? ⟨w.heap.size + 1, 8, none⟩ = some (.bool mg)) (first | go_keep | exact ⟨y2, z0, z1, z2, z3, z4, z5, z6, z7, z8⟩) (first | (go_at_call 31; refine (step_all nb s lv ⟨mk, mf, mt, mT, mi, ml, mc, me, mg⟩ wc.drew (unhide G4d).N (unhide G4d).L (unhide HP).ok (some ⟨w.heap.size + 1 + 1, 0, none⟩) (me.length + 8) (unhide HEN) (by simp) (by show me.length < _; omega)).mono ?_; rintro e w5 ⟨mv, mll, lv2, rfl, hN2, hL2, hM2, hE2, hA2⟩; have hf2 := hM2.fst; obtain ⟨G5, M5, S5⟩ := (unhide G4d).code (q := lm.length) hi hN2 hL2 hM2 hE2 hA2; have L5 := (unhide LH4d).step S5 (loc_n i); have LS5 := (unhide LS4d).step S5 (loc_n i); have ST5 := (unhide ST4d).step S5 (by simp; omega); have y2 := G5.c2; have z0 : w5.cell? ⟨w.heap.size + 1, 0, none⟩ = some (.int .i64 mk) := L5.cell 0; have z1 : w5.cell? ⟨w.heap.size + 1, 1, none⟩ = some (.int .i64 mf) := L5.cell 1; have z2 : w5.cell? ⟨w.heap.size + 1, 2, none⟩ = some (.int .i64 mt) := L5.cell 2; have z3 : w5.cell? ⟨w.heap.size + 1, 3, none⟩ = some (.int .i64 mT) := L5.cell 3; have z4 : w5.cell? ⟨w.heap.size + 1, 4, none⟩ = some (.int .i64 mi) := L5.cell 4; have z5 : w5.cell? ⟨w.heap.size + 1, 5, none⟩ = some (.int .i64 ml) := L5.cell 5; have z6 : w5.cell? ⟨w.heap.size + 1, 6, none⟩ = some (.int .i64 mc) := L5.cell 6; have z7 : w5.cell? ⟨w.heap.size + 1, 7, none⟩ = some (.slice (some ⟨w.heap.size + 1 + 1, 0, none⟩) me.length (me.length + 8)) := L5.cell 7; have z8 : w5.cell? ⟨w.heap.size + 1, 8, none⟩ = some (.bool mg) := L5.cell 8; have hR5k := (S5.keep (w.heap.size + 1 + 1) (unhide HRL) (by rw [unhide TR2]; exact loc_n i)); replace G5 := hide G5; replace L5 := hide L5; replace LS5 := hide LS5; replace ST5 := hide ST5; replace M5 := hide M5; replace S5 := hide S5; replace hf2 := hide hf2; replace hR5k := hide hR5k; clear hN2 hL2 hM2 hE2 hA2))
  generalize cTag i lm.length wc.drew.heap.size lv2 mv mll tg4 = tg5 at *
  have S5' := hide (((unhide S4d).mono (B := Agame i) (fun _ h => h.elim)).trans ((unhide S5).mono agame_n))
  clear G4d LS4d LH4d ST4d S4d c2 y2 h0 h1 h2 h3 h4 h5 h6 h7 h8 z0 z1 z2 z3 z4 z5 z6 z8
  have x10 : w5.cell? ⟨w.heap.size, 10, none⟩ = some (.slice eo me.length ec) := (unhide LS5).cell 10
  have HR5 : Hid (RowE w5 (w.heap.size + 1 + 1) (me.length + 8) (me ++ List.replicate 8 spareE)) := ⟨owns_kept (unhide HR4).1 fun y hy => by
    simp [Value.ownBlock] at hy
    subst hy
    exact (unhide hR5k).1, fun _ _ => rfl⟩
  have HTR5 : Hid (tg5 (w.heap.size + 1 + 1) = (0, 1)) := (unhide hR5k).2.trans (unhide TR2)
  have HE5 : Hid (EntsIn w5 (.slice eo me.length ec) me) := (unhide HMM w5 tg5 (unhide ST5)).1
  go_wp2_with (first | (go_at_call 16; refine (untouched_at (w.heap.size + 1 + 1) _ me w5 (by omega) (unhide HE5) (fun a n c h1 h2 => by have := unhide HLT a n c h1 h2; omega) (owns_lt (unhide HR5).1 _ rfl) (unhide HR5)).mono ?_; rintro e w6 ⟨rfl, hG6⟩; replace hG6 := hide hG6) | fail)
  have S6 : Stp (fun U => U = (0, 1)) w5 tg5 w6 (newTag w5.heap.size tg5 (0, 1)) := ⟨(unhide hG6).os, (unhide hG6).tape, (unhide hG6).output, (unhide hG6).size, fun k hk hn => ⟨(unhide hG6).block k hk (fun e => hn (by rw [Option.some.inj e]; exact unhide HTR5)), newTag_old hk⟩⟩
  have G6 := (unhide G5).step S6 (fun U hU h => game_01 i (by rw [← h]; exact hU)) (by simp)
  have M6 := hide ((unhide M5).step S6 (by simp) (fun j _ => by simp))
  have ST6 := hide ((unhide ST5).step S6 (by simp))
  have LS6 : Loc w6 (newTag w5.heap.size tg5 (0, 1)) w.heap.size _ _ := ⟨((unhide hG6).block w.heap.size (Array.getElem?_eq_some_iff.1 (unhide LS5).1).1 (fun e => by have := Option.some.inj e; omega)).trans (unhide LS5).1, (newTag_old (Array.getElem?_eq_some_iff.1 (unhide LS5).1).1).trans (unhide LS5).2⟩
  have S6' : Hid (Stp (Agame i) w tg w6 (newTag w5.heap.size tg5 (0, 1))) := by
    have h5 := unhide S5'
    have hg := unhide hG6
    exact ⟨hg.os.trans h5.os, hg.tape.trans h5.tape, hg.output.trans h5.output, Nat.le_trans h5.size hg.size, fun k hk hn => ⟨(hg.block k (Nat.lt_of_lt_of_le hk h5.size) (fun e => by have := Option.some.inj e; omega)).trans (h5.keep k hk hn).1, (newTag_old (Nat.lt_of_lt_of_le hk h5.size)).trans (h5.keep k hk hn).2⟩⟩
  clear S6 S5 S5' G5 M5 ST5 L5 LS5 x10 z7 hG6 HE5 HR5 HTR5 HR4
  generalize newTag w5.heap.size tg5 (0, 1) = tg6 at *
  have c3 := G6.c3
  have s0 : w6.cell? ⟨w.heap.size, 3, none⟩ = some (.int .i64 mk) := LS6.cell 3
  have s1 : w6.cell? ⟨w.heap.size, 4, none⟩ = some (.int .i64 mf) := LS6.cell 4
  have s2 : w6.cell? ⟨w.heap.size, 5, none⟩ = some (.int .i64 mt) := LS6.cell 5
  have s3 : w6.cell? ⟨w.heap.size, 6, none⟩ = some (.int .i64 mT) := LS6.cell 6
  have s4 : w6.cell? ⟨w.heap.size, 7, none⟩ = some (.int .i64 mi) := LS6.cell 7
  have s5 : w6.cell? ⟨w.heap.size, 8, none⟩ = some (.int .i64 ml) := LS6.cell 8
  have s6 : w6.cell? ⟨w.heap.size, 9, none⟩ = some (.int .i64 mc) := LS6.cell 9
  have s7 : w6.cell? ⟨w.heap.size, 10, none⟩ = some (.slice eo me.length ec) := LS6.cell 10
  have s8 : w6.cell? ⟨w.heap.size, 11, none⟩ = some (.bool mg) := LS6.cell 11
  have G6d := hide (G6.quiet (Stp.drew1 _ _ _))
  have M6d := hide ((unhide M6).step (Stp.drew1 (fun _ => False) _ _) (fun h => h) (fun _ _ h => h))
  have LS6d := hide (LS6.step (Stp.drew1 (fun _ => False) _ _) (fun h => h))
  have ST6d := hide ((unhide ST6).step (Stp.drew1 (fun _ => False) _ _) (fun h => h))
  have S6d := hide ((unhide S6').trans (Stp.drew1 _ _ _))
  clear G6 M6 LS6 ST6 S6'
  go_upto_region 19 with fail
  go_region_held3 (fun w' => w'.cell? ⟨gb, 3, none⟩ = some (.pointer (some ⟨rb, 0, none⟩)) ∧ w'.cell? ⟨w.heap.size, 3, none⟩ = some (.int .i64 mk) ∧ w'.cell? ⟨w.heap.size, 4, none⟩ = some (.int .i64 mf) ∧ w'.cell? ⟨w.heap.size, 5, none⟩ = some (.int .i64 mt) ∧ w'.cell? ⟨w.heap.size, 6, none⟩ = some (.int .i64 mT) ∧ w'.cell? ⟨w.heap.size, 7, none⟩ = some (.int .i64 mi) ∧ w'.cell? ⟨w.heap.size, 8, none⟩ = some (.int .i64 ml) ∧ w'.cell? ⟨w.heap.size, 9, none⟩ = some (.int .i64 mc) ∧ w'.cell? ⟨w.heap.size, 10, none⟩ = some (.slice eo me.length ec) ∧ w'.cell? ⟨w.heap.size, 11, none⟩ = some (.bool mg)) (first | go_keep | exact ⟨u3, r0, r1, r2, r3, r4, r5, r6, r7, r8⟩) (first | (go_at_call 32; refine (refStep_all rb t v ⟨mk, mf, mt, mT, mi, ml, mc, me, mg⟩ w6.drew (unhide G6d).R (unhide HP).okt (by show me.length < _; omega) eo ec (unhide HMM _ _ (unhide ST6d)).1 (unhide HEC) (fun a h1 h2 h3 => by have e1 := (unhide HMM _ _ (unhide ST6d)).2 a h1 h2; rw [(unhide G6d).tr _ h3] at e1; simp at e1)).mono ?_; rintro e w7 ⟨rl, u, v3, rfl, hrl, hR3, hu3, hus3, hE3⟩; obtain ⟨G7, S7⟩ := (unhide G6d).refs hi hR3 hE3; have M7 := hide ((unhide M6d).step S7 (by simp; omega) (fun j _ => by simp; omega)); have L7 := (unhide LS6d).step S7 (by simp); have R7 := hide (RAns.reads hu3 hus3); have hrl' : rl.map Prod.fst = mll.map Prod.fst := (by rw [hrl, unhide hf2]; exact (twin_step (unhide HP).tw ⟨mk, mf, mt, mT, mi, ml, mc, me, mg⟩).2); have u3 := G7.c3; have r0 : w7.cell? ⟨w.heap.size, 3, none⟩ = some (.int .i64 mk) := L7.cell 3; have r1 : w7.cell? ⟨w.heap.size, 4, none⟩ = some (.int .i64 mf) := L7.cell 4; have r2 : w7.cell? ⟨w.heap.size, 5, none⟩ = some (.int .i64 mt) := L7.cell 5; have r3 : w7.cell? ⟨w.heap.size, 6, none⟩ = some (.int .i64 mT) := L7.cell 6; have r4 : w7.cell? ⟨w.heap.size, 7, none⟩ = some (.int .i64 mi) := L7.cell 7; have r5 : w7.cell? ⟨w.heap.size, 8, none⟩ = some (.int .i64 ml) := L7.cell 8; have r6 : w7.cell? ⟨w.heap.size, 9, none⟩ = some (.int .i64 mc) := L7.cell 9; have r7 : w7.cell? ⟨w.heap.size, 10, none⟩ = some (.slice eo me.length ec) := L7.cell 10; have r8 : w7.cell? ⟨w.heap.size, 11, none⟩ = some (.bool mg) := L7.cell 11; replace hrl' := hide hrl'; replace G7 := hide G7; replace S7 := hide ((unhide S6d).trans (S7.mono agame_r)); clear hrl hR3 hu3 hus3 hE3 L7))
  clear G6d M6d LS6d ST6d S6d u3 c3 s0 s1 s2 s3 s4 s5 s6 s7 s8 r0 r1 r2 r3 r4 r5 r6 r7 r8
  generalize newTag w6.drew.heap.size tg6 (tR i) = tg7 at *
  have hml : mll.length ≤ 7 := by
    have h1 := congrArg List.length (unhide hf2)
    rw [List.length_map] at h1
    have h2 := step_few (unhide HP).ok.n1 ⟨mk, mf, mt, mT, mi, ml, mc, me, mg⟩
    have h3 := (unhide HP).ok.n7
    omega
  have HTH : Hid (Thin (mll.map Prod.fst)) := by show Thin _; rw [unhide hf2]; exact thin_step s ⟨mk, mf, mt, mT, mi, ml, mc, me, mg⟩
  go_wp2_with (go_at_call 30; fail)
  refine (gsent_any i gb nb rb w7 tg7 id n _ _ lv2 v3 b l lm l2 ne nm nt mv u mll rl (unhide G7) hi (unhide M7) (unhide R7) (unhide hrl') hml (unhide HTH) (by have := (unhide HB).1.2.1; omega)).mono ?_
  rintro e w8 ⟨rfl, b8, tg8, hG8, hS8⟩
  have S8 := hide ((unhide S7).trans (hS8.mono agame_b))
  have G8 := hide hG8
  clear hG8 hS8
  go_wp2
  go_ret
  have hB := unhide HB
  refine ⟨rfl, tg8, _, _, ⟨nb, rb, lv2, v3, b8, l, _, l2, ne, nm, nt, unhide G8, ⟨by omega, by simp; omega, by omega⟩, hB.2⟩, (unhide HP).step ⟨mk, mf, mt, mT, mi, ml, mc, me, mg⟩, ?_, unhide S8⟩
  have := step_el (unhide HP).ok.e0 ⟨mk, mf, mt, mT, mi, ml, mc, me, mg⟩
  omega

end

end Go.Proofs.YteiecbkfganhnaaGreat

namespace Go.Proofs.YteiecbkfganhnaaGreat

open Go.RowKit Go.MuLone

section

variable (i gb nb rb : Nat) (w : World) (tg : Tags) (id n : Nat) (s t : Nd) (lv : Value) (v : RV) (b : BV) (l : List (List Ent)) (lm : List (List Msg)) (l2 : List (List ByteArray)) (ne nm nt K : Nat)

set_option maxRecDepth 100000 in
set_option maxHeartbeats 4000000 in
theorem gstep_nil (a q x : Int) (m : Msg) (eo : Option Addr) (ec : Nat) (c : ByteArray) (E : Int) (h : Gx i gb nb rb w tg id n s t lv v b l lm l2 ne nm nt) (hi : i ≤ 1) (hp : Pair id n s t) (hb : (l.length ≤ 7 ∧ lm.length ≤ 7 ∧ l2.length ≤ 7) ∧ ne ≤ K ∧ nm ≤ K ∧ nt ≤ K) (hE : s.elapsed ≤ E)
    (he : EntsIn w (.slice eo m.ents.length ec) m.ents) (hec : m.ents.length ≤ ec) (hlen : m.ents.length ≤ 1048576) (htg : ∀ a, eo = some a → m.ents ≠ [] → tg a.block = (0, 0)) (hnil : m.ents = []) (hodd : (a.tmod 2 != 0) = true) :
    Calls Tryz.prog 18 #[.pointer (some ⟨gb, 0, none⟩), stepA 4 a q m (.slice eo m.ents.length ec) c x] w fun e w' => e = .returned (.bool true) ∧ GDone i gb w tg id n K E w' := by
  have hst : StnOk w tg ⟨4, a, q, m, .slice eo m.ents.length ec, c, x⟩ := ⟨eo, ec, rfl, hec, he, hlen, htg⟩
  have HST := hide hst
  have HMM : Hid (∀ w' tg', StnOk w' tg' ⟨4, a, q, m, .slice eo m.ents.length ec, c, x⟩ → EntsIn w' (.slice eo m.ents.length ec) m.ents ∧ ∀ a, eo = some a → m.ents ≠ [] → tg' a.block = (0, 0)) := fun w' tg' h => by
    obtain ⟨eo', ec', h1, h2, h3, h4, h5⟩ := h
    simp only [Value.slice.injEq, true_and] at h1 h2 h3 h4 h5
    obtain ⟨rfl, rfl⟩ := h1
    exact ⟨h3, h5⟩
  have HLT : Hid (∀ a n c, Value.slice eo m.ents.length ec = .slice (some a) n c → m.ents ≠ [] → a.block < w.heap.size) := fun a n c h1 hne => by
    simp only [Value.slice.injEq] at h1
    obtain ⟨ao, cap, hv, _, hcell⟩ := he
    obtain ⟨e, es, hes⟩ := List.exists_cons_of_ne_nil hne
    obtain ⟨b', off', hb', h0', _⟩ := hcell 0 e (by rw [hes]; rfl)
    simp only [Value.slice.injEq] at hv
    rw [← hv.1, h1.1] at hb'
    simp at hb'
    subst hb'
    exact block_lt_of_cell h0'
  clear hst
  obtain ⟨mk, mf, mt, mT, mi, ml, mc, me, mg⟩ := m
  simp only at he hec hlen htg hodd hnil
  have hW1 := heap_alloc_new w (stepB 4 a q ⟨mk, mf, mt, mT, mi, ml, mc, me, mg⟩ (.slice eo me.length ec) c x)
  have hB1 := below_alloc w (stepB 4 a q ⟨mk, mf, mt, mT, mi, ml, mc, me, mg⟩ (.slice eo me.length ec) c x)
  have hZ1 := size_alloc1 w (stepB 4 a q ⟨mk, mf, mt, mT, mi, ml, mc, me, mg⟩ (.slice eo me.length ec) c x)
  have hW2s := heap_under hW1 (mbox mk mf mt mT mi ml mc (.slice eo me.length ec) mg)
  have hW2h := heap_alloc_new (w.alloc (stepB 4 a q ⟨mk, mf, mt, mT, mi, ml, mc, me, mg⟩ (.slice eo me.length ec) c x)) (mbox mk mf mt mT mi ml mc (.slice eo me.length ec) mg)
  have hB2 := below_trans hB1 (below_alloc (w.alloc (stepB 4 a q ⟨mk, mf, mt, mT, mi, ml, mc, me, mg⟩ (.slice eo me.length ec) c x)) (mbox mk mf mt mT mi ml mc (.slice eo me.length ec) mg))
  have hZ2 := size_alloc1 (w.alloc (stepB 4 a q ⟨mk, mf, mt, mT, mi, ml, mc, me, mg⟩ (.slice eo me.length ec) c x)) (mbox mk mf mt mT mi ml mc (.slice eo me.length ec) mg)
  rw [hZ1] at hW2h hZ2
  have HW2s := hide hW2s
  have HW2h := hide hW2h
  have HB2 := hide hB2
  have HZ2 := hide hZ2
  have HE2 := hide (ents_below he hB2)
  have HG := hide h
  have HP := hide hp
  have HB := hide hb
  have HEC := hide hec
  clear h hp hb he htg hW1 hB1 hZ1 hW2s hW2h hB2 hZ2 hec
  have hq1 := eql_slice_nil
  have hq2 := eql_nil_nil
  have HNIL := hide hnil
  clear hnil
  go_enter Tryz.func18, Tryz.ntmps18
  go_wp2_with (go_at_call 14; fail)
  generalize (w.alloc (stepB 4 a q ⟨mk, mf, mt, mT, mi, ml, mc, me, mg⟩ (.slice eo me.length ec) c x)).alloc (mbox mk mf mt mT mi ml mc (.slice eo me.length ec) mg) = W2 at *
  refine (handed_any _ me W2 (by omega) (unhide HE2)).mono ?_
  rw [unhide HZ2]
  rintro e w3 ⟨rfl, hR3, hb3⟩
  have hb3' : Below W2.heap.size W2 w3 := by rw [unhide HZ2]; exact hb3
  have hS3 := (hb3'.block w.heap.size (Array.getElem?_eq_some_iff.1 (unhide HW2s)).1).trans (unhide HW2s)
  have hH3 := (hb3'.block (w.heap.size + 1) (Array.getElem?_eq_some_iff.1 (unhide HW2h)).1).trans (unhide HW2h)
  have hB3 := below_trans (unhide HB2) hb3'
  have k7 : w3.cell? ⟨w.heap.size + 1, 7, none⟩ = some (.slice eo me.length ec) := cell_of_row w3 _ 7 _ _ _ hH3
  have f7 := frozen_of_row w3 (w.heap.size + 1) 7 _ _ hH3
  have hH4 : (w3.setCell ⟨w.heap.size + 1, 7, none⟩ (.slice (some ⟨w.heap.size + 1 + 1, 0, none⟩) me.length (me.length + 8))).heap[w.heap.size + 1]? = some (mbox mk mf mt mT mi ml mc (.slice (some ⟨w.heap.size + 1 + 1, 0, none⟩) me.length (me.length + 8)) mg) := heap_setCell_same _ _ 7 _ _ _ hH3
  have hS4 : (w3.setCell ⟨w.heap.size + 1, 7, none⟩ (.slice (some ⟨w.heap.size + 1 + 1, 0, none⟩) me.length (me.length + 8))).heap[w.heap.size]? = _ := (Below.heap_setCell _ _ _ _ (by simp)).trans hS3
  have hR4 : RowE (w3.setCell ⟨w.heap.size + 1, 7, none⟩ (.slice (some ⟨w.heap.size + 1 + 1, 0, none⟩) me.length (me.length + 8))) (w.heap.size + 1 + 1) (me.length + 8) (me ++ List.replicate 8 spareE) := ⟨owns_kept hR3.1 fun y hy => by
    simp [Value.ownBlock] at hy
    subst hy
    exact Below.heap_setCell _ _ _ _ (by simp), fun _ _ => rfl⟩
  have hB4 : Below w.heap.size w (w3.setCell ⟨w.heap.size + 1, 7, none⟩ (.slice (some ⟨w.heap.size + 1 + 1, 0, none⟩) me.length (me.length + 8))) := hB3.setCell (p := ⟨w.heap.size + 1, 7, none⟩) (by simp) _
  have f7b := frozen_of_row (w3.setCell ⟨w.heap.size + 1, 7, none⟩ (.slice (some ⟨w.heap.size + 1 + 1, 0, none⟩) me.length (me.length + 8))) (w.heap.size + 1) 7 _ _ hH4
  have hH5 : ((w3.setCell ⟨w.heap.size + 1, 7, none⟩ (.slice (some ⟨w.heap.size + 1 + 1, 0, none⟩) me.length (me.length + 8))).setCell ⟨w.heap.size + 1, 7, none⟩ (.slice none 0 0)).heap[w.heap.size + 1]? = some (mbox mk mf mt mT mi ml mc (.slice none 0 0) mg) := heap_setCell_same _ _ 7 _ _ _ hH4
  have hS5 : ((w3.setCell ⟨w.heap.size + 1, 7, none⟩ (.slice (some ⟨w.heap.size + 1 + 1, 0, none⟩) me.length (me.length + 8))).setCell ⟨w.heap.size + 1, 7, none⟩ (.slice none 0 0)).heap[w.heap.size]? = _ := (Below.heap_setCell _ _ _ _ (by simp)).trans hS4
  have hB5 : Below w.heap.size w ((w3.setCell ⟨w.heap.size + 1, 7, none⟩ (.slice (some ⟨w.heap.size + 1 + 1, 0, none⟩) me.length (me.length + 8))).setCell ⟨w.heap.size + 1, 7, none⟩ (.slice none 0 0)) := hB4.setCell (p := ⟨w.heap.size + 1, 7, none⟩) (by simp) _
  have hl0 : ((me.length : Int) == 0) = true := by rw [unhide HNIL]; rfl
  have x10 : (w3.setCell ⟨w.heap.size + 1, 7, none⟩ (.slice (some ⟨w.heap.size + 1 + 1, 0, none⟩) me.length (me.length + 8))).cell? ⟨w.heap.size, 10, none⟩ = some (.slice eo me.length ec) := cell_of_row _ _ 10 _ _ _ hS4
  have x1 : (w3.setCell ⟨w.heap.size + 1, 7, none⟩ (.slice (some ⟨w.heap.size + 1 + 1, 0, none⟩) me.length (me.length + 8))).cell? ⟨w.heap.size, 1, none⟩ = some (.int .i64 a) := cell_of_row _ _ 1 _ _ _ hS4
  have HS4 := hide hS5
  have HH4 := hide hH5
  have HB4 := hide hB5
  clear hR3 hb3 hb3' hS3 hH3 hB3 hS4 hH4 hR4 hB4 hH5 hS5 hB5
  go_upto_region 17 with fail
  generalize (w3.setCell ⟨w.heap.size + 1, 7, none⟩ (.slice (some ⟨w.heap.size + 1 + 1, 0, none⟩) me.length (me.length + 8))).setCell ⟨w.heap.size + 1, 7, none⟩ (.slice none 0 0) = wc at *
  clear k7 f7 f7b x10 x1
  have S4 : Stp (fun _ => False) w tg wc (newTag w.heap.size tg (0, 1)) := Stp.ofBelow (unhide HB4) tg _
  have tS : newTag w.heap.size tg (0, 1) w.heap.size = (0, 1) := newTag_new (Nat.le_refl _)
  have tH : newTag w.heap.size tg (0, 1) (w.heap.size + 1) = (0, 1) := newTag_new (Nat.le_succ _)
  have tR2 : newTag w.heap.size tg (0, 1) (w.heap.size + 1 + 1) = (0, 1) := newTag_new (by omega)
  have G4 := (unhide HG).quiet S4
  have ST4 := hide ((unhide HST).step S4 (fun h => h))
  have c2 := G4.c2
  have LS4 : Loc wc (newTag w.heap.size tg (0, 1)) w.heap.size _ _ := ⟨unhide HS4, tS⟩
  have LH4 : Loc wc (newTag w.heap.size tg (0, 1)) (w.heap.size + 1) _ _ := ⟨unhide HH4, tH⟩
  have S4d := hide (S4.trans (Stp.drew1 _ _ _))
  have G4d := hide (G4.quiet (Stp.drew1 _ _ _))
  have LS4d := hide (LS4.step (Stp.drew1 (fun _ => False) _ _) (fun h => h))
  have LH4d := hide (LH4.step (Stp.drew1 (fun _ => False) _ _) (fun h => h))
  have ST4d := hide ((unhide ST4).step (Stp.drew1 (fun _ => False) _ _) (fun h => h))
  have TR2 := hide tR2
  have h0 : wc.cell? ⟨w.heap.size + 1, 0, none⟩ = some (.int .i64 mk) := LH4.cell 0
  have h1 : wc.cell? ⟨w.heap.size + 1, 1, none⟩ = some (.int .i64 mf) := LH4.cell 1
  have h2 : wc.cell? ⟨w.heap.size + 1, 2, none⟩ = some (.int .i64 mt) := LH4.cell 2
  have h3 : wc.cell? ⟨w.heap.size + 1, 3, none⟩ = some (.int .i64 mT) := LH4.cell 3
  have h4 : wc.cell? ⟨w.heap.size + 1, 4, none⟩ = some (.int .i64 mi) := LH4.cell 4
  have h5 : wc.cell? ⟨w.heap.size + 1, 5, none⟩ = some (.int .i64 ml) := LH4.cell 5
  have h6 : wc.cell? ⟨w.heap.size + 1, 6, none⟩ = some (.int .i64 mc) := LH4.cell 6
  have h7 : wc.cell? ⟨w.heap.size + 1, 7, none⟩ = some (.slice none 0 0) := LH4.cell 7
  have h8 : wc.cell? ⟨w.heap.size + 1, 8, none⟩ = some (.bool mg) := LH4.cell 8
  have HEN : Hid (EntsIn wc.drew (.slice none me.length 0) me) := by
    show EntsIn _ _ _
    rw [unhide HNIL]
    exact ⟨none, 0, rfl, fun _ => rfl, fun k e hk => by simp at hk⟩
  have HNL : Hid (me.length = 0) := by show me.length = 0; rw [unhide HNIL]; rfl
  clear S4 G4 LS4 LH4 tS tH tR2 HB4 HS4 HH4 ST4
  generalize newTag w.heap.size tg (0, 1) = tg4 at *
  go_upto_region 17 with fail
  go_region_held3 (fun w' => w'.cell? ⟨gb, 2, none⟩ = some (.pointer (some ⟨nb, 0, none⟩)) ∧ w'.cell? ⟨w.heap.size + 1, 0, none⟩ = some (.int .i64 mk) ∧ w'.cell? ⟨w.heap.size + 1, 1, none⟩ = some (.int .i64 mf) ∧ w'.cell? ⟨w.heap.size + 1, 2, none⟩ = some (.int .i64 mt) ∧ w'.cell? ⟨w.heap.size + 1, 3, none⟩ = some (.int .i64 mT) ∧ w'.cell? ⟨w.heap.size + 1, 4, none⟩ = some (.int .i64 mi) ∧ w'.cell? ⟨w.heap.size + 1, 5, none⟩ = some (.int .i64 ml) ∧ w'.cell? ⟨w.heap.size + 1, 6, none⟩ = some (.int .i64 mc) ∧ w'.cell? ⟨w.heap.size + 1, 7, none⟩ = some (.slice none 0 0) ∧ w'.cell? ⟨w.heap.size + 1, 8, none⟩ = some (.bool mg)) (first | go_keep | exact ⟨y2, z0, z1, z2, z3, z4, z5, z6, z7, z8⟩) (first | (go_at_call 31; have HCALL := (step_all nb s lv ⟨mk, mf, mt, mT, mi, ml, mc, me, mg⟩ wc.drew (unhide G4d).N (unhide G4d).L (unhide HP).ok none 0 (unhide HEN) (by show me.length ≤ 0; rw [unhide HNIL]; exact Nat.le_refl _) (by show me.length < _; omega)); simp only [magg, unhide HNL] at HCALL; refine HCALL.mono ?_; clear HCALL; rintro e w5 ⟨mv, mll, lv2, rfl, hN2, hL2, hM2, hE2, hA2⟩; have hf2 := hM2.fst; obtain ⟨G5, M5, S5⟩ := (unhide G4d).code (q := lm.length) hi hN2 hL2 hM2 hE2 hA2; have L5 := (unhide LH4d).step S5 (loc_n i); have LS5 := (unhide LS4d).step S5 (loc_n i); have ST5 := (unhide ST4d).step S5 (by simp; omega); have y2 := G5.c2; have z0 : w5.cell? ⟨w.heap.size + 1, 0, none⟩ = some (.int .i64 mk) := L5.cell 0; have z1 : w5.cell? ⟨w.heap.size + 1, 1, none⟩ = some (.int .i64 mf) := L5.cell 1; have z2 : w5.cell? ⟨w.heap.size + 1, 2, none⟩ = some (.int .i64 mt) := L5.cell 2; have z3 : w5.cell? ⟨w.heap.size + 1, 3, none⟩ = some (.int .i64 mT) := L5.cell 3; have z4 : w5.cell? ⟨w.heap.size + 1, 4, none⟩ = some (.int .i64 mi) := L5.cell 4; have z5 : w5.cell? ⟨w.heap.size + 1, 5, none⟩ = some (.int .i64 ml) := L5.cell 5; have z6 : w5.cell? ⟨w.heap.size + 1, 6, none⟩ = some (.int .i64 mc) := L5.cell 6; have z7 : w5.cell? ⟨w.heap.size + 1, 7, none⟩ = some (.slice none 0 0) := L5.cell 7; have z8 : w5.cell? ⟨w.heap.size + 1, 8, none⟩ = some (.bool mg) := L5.cell 8; replace G5 := hide G5; replace L5 := hide L5; replace LS5 := hide LS5; replace ST5 := hide ST5; replace M5 := hide M5; replace S5 := hide S5; replace hf2 := hide hf2; clear hN2 hL2 hM2 hE2 hA2))
  generalize cTag i lm.length wc.drew.heap.size lv2 mv mll tg4 = tg5 at *
  have S5' := hide (((unhide S4d).mono (B := Agame i) (fun _ h => h.elim)).trans ((unhide S5).mono agame_n))
  clear G4d LS4d LH4d ST4d S4d c2 y2 h0 h1 h2 h3 h4 h5 h6 h7 h8 z0 z1 z2 z3 z4 z5 z6 z8
  have x10 : w5.cell? ⟨w.heap.size, 10, none⟩ = some (.slice eo me.length ec) := (unhide LS5).cell 10
  go_upto_region 19 with fail
  have G6 := unhide G5
  have M6 := M5
  have ST6 := ST5
  have LS6 := unhide LS5
  have S6' := S5'
  clear S5 S5' G5 M5 ST5 L5 LS5 x10 z7
  generalize w5 = w6 at *
  generalize tg5 = tg6 at *
  have c3 := G6.c3
  have s0 : w6.cell? ⟨w.heap.size, 3, none⟩ = some (.int .i64 mk) := LS6.cell 3
  have s1 : w6.cell? ⟨w.heap.size, 4, none⟩ = some (.int .i64 mf) := LS6.cell 4
  have s2 : w6.cell? ⟨w.heap.size, 5, none⟩ = some (.int .i64 mt) := LS6.cell 5
  have s3 : w6.cell? ⟨w.heap.size, 6, none⟩ = some (.int .i64 mT) := LS6.cell 6
  have s4 : w6.cell? ⟨w.heap.size, 7, none⟩ = some (.int .i64 mi) := LS6.cell 7
  have s5 : w6.cell? ⟨w.heap.size, 8, none⟩ = some (.int .i64 ml) := LS6.cell 8
  have s6 : w6.cell? ⟨w.heap.size, 9, none⟩ = some (.int .i64 mc) := LS6.cell 9
  have s7 : w6.cell? ⟨w.heap.size, 10, none⟩ = some (.slice eo me.length ec) := LS6.cell 10
  have s8 : w6.cell? ⟨w.heap.size, 11, none⟩ = some (.bool mg) := LS6.cell 11
  have G6d := hide (G6.quiet (Stp.drew1 _ _ _))
  have M6d := hide ((unhide M6).step (Stp.drew1 (fun _ => False) _ _) (fun h => h) (fun _ _ h => h))
  have LS6d := hide (LS6.step (Stp.drew1 (fun _ => False) _ _) (fun h => h))
  have ST6d := hide ((unhide ST6).step (Stp.drew1 (fun _ => False) _ _) (fun h => h))
  have S6d := hide ((unhide S6').trans (Stp.drew1 _ _ _))
  clear G6 M6 LS6 ST6 S6'
  go_upto_region 19 with fail
  go_region_held3 (fun w' => w'.cell? ⟨gb, 3, none⟩ = some (.pointer (some ⟨rb, 0, none⟩)) ∧ w'.cell? ⟨w.heap.size, 3, none⟩ = some (.int .i64 mk) ∧ w'.cell? ⟨w.heap.size, 4, none⟩ = some (.int .i64 mf) ∧ w'.cell? ⟨w.heap.size, 5, none⟩ = some (.int .i64 mt) ∧ w'.cell? ⟨w.heap.size, 6, none⟩ = some (.int .i64 mT) ∧ w'.cell? ⟨w.heap.size, 7, none⟩ = some (.int .i64 mi) ∧ w'.cell? ⟨w.heap.size, 8, none⟩ = some (.int .i64 ml) ∧ w'.cell? ⟨w.heap.size, 9, none⟩ = some (.int .i64 mc) ∧ w'.cell? ⟨w.heap.size, 10, none⟩ = some (.slice eo me.length ec) ∧ w'.cell? ⟨w.heap.size, 11, none⟩ = some (.bool mg)) (first | go_keep | exact ⟨u3, r0, r1, r2, r3, r4, r5, r6, r7, r8⟩) (first | (go_at_call 32; refine (refStep_all rb t v ⟨mk, mf, mt, mT, mi, ml, mc, me, mg⟩ w6.drew (unhide G6d).R (unhide HP).okt (by show me.length < _; omega) eo ec (unhide HMM _ _ (unhide ST6d)).1 (unhide HEC) (fun a h1 h2 h3 => by have e1 := (unhide HMM _ _ (unhide ST6d)).2 a h1 h2; rw [(unhide G6d).tr _ h3] at e1; simp at e1)).mono ?_; rintro e w7 ⟨rl, u, v3, rfl, hrl, hR3, hu3, hus3, hE3⟩; obtain ⟨G7, S7⟩ := (unhide G6d).refs hi hR3 hE3; have M7 := hide ((unhide M6d).step S7 (by simp; omega) (fun j _ => by simp; omega)); have L7 := (unhide LS6d).step S7 (by simp); have R7 := hide (RAns.reads hu3 hus3); have hrl' : rl.map Prod.fst = mll.map Prod.fst := (by rw [hrl, unhide hf2]; exact (twin_step (unhide HP).tw ⟨mk, mf, mt, mT, mi, ml, mc, me, mg⟩).2); have u3 := G7.c3; have r0 : w7.cell? ⟨w.heap.size, 3, none⟩ = some (.int .i64 mk) := L7.cell 3; have r1 : w7.cell? ⟨w.heap.size, 4, none⟩ = some (.int .i64 mf) := L7.cell 4; have r2 : w7.cell? ⟨w.heap.size, 5, none⟩ = some (.int .i64 mt) := L7.cell 5; have r3 : w7.cell? ⟨w.heap.size, 6, none⟩ = some (.int .i64 mT) := L7.cell 6; have r4 : w7.cell? ⟨w.heap.size, 7, none⟩ = some (.int .i64 mi) := L7.cell 7; have r5 : w7.cell? ⟨w.heap.size, 8, none⟩ = some (.int .i64 ml) := L7.cell 8; have r6 : w7.cell? ⟨w.heap.size, 9, none⟩ = some (.int .i64 mc) := L7.cell 9; have r7 : w7.cell? ⟨w.heap.size, 10, none⟩ = some (.slice eo me.length ec) := L7.cell 10; have r8 : w7.cell? ⟨w.heap.size, 11, none⟩ = some (.bool mg) := L7.cell 11; replace hrl' := hide hrl'; replace G7 := hide G7; replace S7 := hide ((unhide S6d).trans (S7.mono agame_r)); clear hrl hR3 hu3 hus3 hE3 L7))
  clear G6d M6d LS6d ST6d S6d u3 c3 s0 s1 s2 s3 s4 s5 s6 s7 s8 r0 r1 r2 r3 r4 r5 r6 r7 r8
  generalize newTag w6.drew.heap.size tg6 (tR i) = tg7 at *
  have hml : mll.length ≤ 7 := by
    have h1 := congrArg List.length (unhide hf2)
    rw [List.length_map] at h1
    have h2 := step_few (unhide HP).ok.n1 ⟨mk, mf, mt, mT, mi, ml, mc, me, mg⟩
    have h3 := (unhide HP).ok.n7
    omega
  have HTH : Hid (Thin (mll.map Prod.fst)) := by show Thin _; rw [unhide hf2]; exact thin_step s ⟨mk, mf, mt, mT, mi, ml, mc, me, mg⟩
  go_wp2_with (go_at_call 30; fail)
  refine (gsent_any i gb nb rb w7 tg7 id n _ _ lv2 v3 b l lm l2 ne nm nt mv u mll rl (unhide G7) hi (unhide M7) (unhide R7) (unhide hrl') hml (unhide HTH) (by have := (unhide HB).1.2.1; omega)).mono ?_
  rintro e w8 ⟨rfl, b8, tg8, hG8, hS8⟩
  have S8 := hide ((unhide S7).trans (hS8.mono agame_b))
  have G8 := hide hG8
  clear hG8 hS8
  go_wp2
  go_ret
  have hB := unhide HB
  refine ⟨rfl, tg8, _, _, ⟨nb, rb, lv2, v3, b8, l, _, l2, ne, nm, nt, unhide G8, ⟨by omega, by simp; omega, by omega⟩, hB.2⟩, (unhide HP).step ⟨mk, mf, mt, mT, mi, ml, mc, me, mg⟩, ?_, unhide S8⟩
  have := step_el (unhide HP).ok.e0 ⟨mk, mf, mt, mT, mi, ml, mc, me, mg⟩
  omega

theorem gstep_msg (a q x : Int) (m : Msg) (eo : Option Addr) (ec : Nat) (c : ByteArray) (E : Int) (h : Gx i gb nb rb w tg id n s t lv v b l lm l2 ne nm nt) (hi : i ≤ 1) (hp : Pair id n s t) (hb : (l.length ≤ 7 ∧ lm.length ≤ 7 ∧ l2.length ≤ 7) ∧ ne ≤ K ∧ nm ≤ K ∧ nt ≤ K) (hE : s.elapsed ≤ E)
    (he : EntsIn w (.slice eo m.ents.length ec) m.ents) (hec : m.ents.length ≤ ec) (hlen : m.ents.length ≤ 1048576) (htg : ∀ a, eo = some a → m.ents ≠ [] → tg a.block = (0, 0)) :
    Calls Tryz.prog 18 #[.pointer (some ⟨gb, 0, none⟩), stepA 4 a q m (.slice eo m.ents.length ec) c x] w fun e w' => e = .returned (.bool true) ∧ GDone i gb w tg id n K E w' := by
  cases ho : (a.tmod 2 != 0) with
  | false => exact gstep_row i gb nb rb w tg id n s t lv v b l lm l2 ne nm nt K a q x m eo ec c E h hi hp hb hE he hec hlen htg (.inr ho)
  | true =>
    by_cases hm : m.ents = []
    · exact gstep_nil i gb nb rb w tg id n s t lv v b l lm l2 ne nm nt K a q x m eo ec c E h hi hp hb hE he hec hlen htg hm ho
    · refine gstep_row i gb nb rb w tg id n s t lv v b l lm l2 ne nm nt K a q x m eo ec c E h hi hp hb hE he hec hlen htg (.inl ?_)
      have : m.ents.length ≠ 0 := fun e => hm (List.length_eq_zero_iff.1 e)
      simp
      exact hm

end

end Go.Proofs.YteiecbkfganhnaaGreat

namespace Go.Proofs.YteiecbkfganhnaaGreat

open Go.RowKit Go.MuLone

theorem gstep_any (i gb nb rb : Nat) (w : World) (tg : Tags) (id n : Nat) (s t : Nd) (lv : Value) (v : RV) (b : BV) (l : List (List Ent)) (lm : List (List Msg)) (l2 : List (List ByteArray)) (ne nm nt K : Nat) (st : Stn) (E : Int)
    (h : Gx i gb nb rb w tg id n s t lv v b l lm l2 ne nm nt) (hi : i ≤ 1) (hp : Pair id n s t) (hb : (l.length ≤ 7 ∧ lm.length ≤ 7 ∧ l2.length ≤ 7) ∧ ne ≤ K ∧ nm ≤ K ∧ nt ≤ K) (hE : s.elapsed ≤ E) (hE2 : E < 1000000000000) (hst : StnOk w tg st) :
    Calls Tryz.prog 18 #[.pointer (some ⟨gb, 0, none⟩), .agg st.cs] w fun e w' => e = .returned (.bool true) ∧ GDone i gb w tg id n K E w' := by
  have hsl := hst.slice
  obtain ⟨k, a, q, m, ev, c, x⟩ := st
  show Calls Tryz.prog 18 #[.pointer (some ⟨gb, 0, none⟩), stepA k a q m ev c x] w _
  simp only at hsl
  by_cases h1 : k = 1
  · subst h1; exact gstep_look i gb nb rb w tg id n s t lv v b l lm l2 ne nm nt K a q x m ev c E h hi hp hb hE hsl
  by_cases h2 : k = 2
  · subst h2; exact gstep_pat i gb nb rb w tg id n s t lv v b l lm l2 ne nm nt K a q x m ev c E h hi hp hb hE hsl
  by_cases h3 : k = 3
  · subst h3; exact gstep_tick i gb nb rb w tg id n s t lv v b l lm l2 ne nm nt K a q x m ev c E h hi hp hb hE hE2 hsl
  by_cases h4 : k = 4
  · subst h4
    obtain ⟨eo, ec, he1, he2, he3, he4, he5⟩ := hst
    simp only at he1 he2 he3 he4 he5
    subst he1
    exact gstep_msg i gb nb rb w tg id n s t lv v b l lm l2 ne nm nt K a q x m eo ec c E h hi hp hb hE he3 he2 he4 he5
  by_cases h5 : k = 5
  · subst h5; exact gstep_prop i gb nb rb w tg id n s t lv v b l lm l2 ne nm nt K a q x m ev c E h hi hp hb hE hsl
  by_cases h6 : k = 6
  · subst h6; exact gstep_restart i gb nb rb w tg id n s t lv v b l lm l2 ne nm nt K a q x m ev c E h hi hp hb hE hsl
  exact gstep_none i gb nb rb w tg id n s t lv v b l lm l2 ne nm nt K k a q x m ev c E (by omega) h hp hb hE hsl

/-- A game, so many steps on. -/
def Gy (i gb : Nat) (w : World) (tg : Tags) (k : Nat) : Prop := ∃ id n s t, Gz i gb w tg id n s t 7 7 7 (65 * k) ∧ Pair id n s t ∧ s.elapsed ≤ (k : Int)

/-- A game behind a step, ahead of the look at its book. -/
def Gd (i gb : Nat) (w : World) (tg : Tags) (k : Nat) : Prop := ∃ id n s t, Gz i gb w tg id n s t 9 8 9 (65 * k) ∧ Pair id n s t ∧ s.elapsed ≤ (k : Int) + 1

theorem Gy.mono {i gb : Nat} {w : World} {tg : Tags} {k k' : Nat} (h : Gy i gb w tg k) (hk : k ≤ k') : Gy i gb w tg k' := by
  obtain ⟨id, n, s, t, ⟨nb, rb, lv, v, b, l, lm, l2, ne, nm, nt, h1, h2, h3, h4, h5⟩, hp, he⟩ := h
  exact ⟨id, n, s, t, ⟨nb, rb, lv, v, b, l, lm, l2, ne, nm, nt, h1, h2, by omega, by omega, by omega⟩, hp, by omega⟩

theorem Gy.stp {A : Nat × Nat → Prop} {i gb : Nat} {w w' : World} {tg tg' : Tags} {k : Nat} (h : Gy i gb w tg k) (hs : Stp A w tg w' tg') (hA : ∀ U, Agame i U → ¬ A U) (h0 : ¬ A (0, 0)) : Gy i gb w' tg' k := by
  obtain ⟨id, n, s, t, ⟨nb, rb, lv, v, b, l, lm, l2, ne, nm, nt, h1, h2⟩, hp, he⟩ := h
  exact ⟨id, n, s, t, ⟨nb, rb, lv, v, b, l, lm, l2, ne, nm, nt, h1.step hs hA h0, h2⟩, hp, he⟩

theorem opt_cases (p : Option Nat) : p = none ∨ ∃ gb, p = some gb := by cases p <;> simp

theorem agame_00 (j : Nat) : ¬ Agame j (0, 0) := by
  rintro (⟨v1, v2⟩ | v)
  · simp at v1
  · simp at v; omega

theorem Gy.other {i j gb : Nat} {w w' : World} {tg tg' : Tags} {k : Nat} (h : Gy i gb w tg k) (hs : Stp (Agame j) w tg w' tg') (hi : i ≤ 1) (hj : j ≤ 1) (hij : i ≠ j) : Gy i gb w' tg' k := by
  refine h.stp hs ?_ (agame_00 j)
  rintro U (⟨u1, u2⟩ | u) (⟨v1, v2⟩ | v) <;> omega

theorem gy_step (i gb k : Nat) (w : World) (tg : Tags) (st : Stn) (h : Gy i gb w tg k) (hi : i ≤ 1) (hk : k ≤ 1048578) (hst : StnOk w tg st) :
    Calls Tryz.prog 18 #[.pointer (some ⟨gb, 0, none⟩), .agg st.cs] w fun e w' => e = .returned (.bool true) ∧ ∃ tg', Gd i gb w' tg' k ∧ Stp (Agame i) w tg w' tg' := by
  obtain ⟨id, n, s, t, ⟨nb, rb, lv, v, b, l, lm, l2, ne, nm, nt, h1, h2⟩, hp, he⟩ := h
  refine (gstep_any i gb nb rb w tg id n s t lv v b l lm l2 ne nm nt (65 * k) st (k : Int) h1 hi hp h2 he (by omega) hst).mono ?_
  rintro e w' ⟨rfl, tg', s', t', hG, hP, hel, hS⟩
  exact ⟨rfl, tg', ⟨id, n, s', t', hG, hP, hel⟩, hS⟩

theorem gy_looks (i gb k : Nat) (w : World) (tg : Tags) (h : Gd i gb w tg k) (hi : i ≤ 1) (hk : k ≤ 1048578) :
    Calls Tryz.prog 19 #[.pointer (some ⟨gb, 4, none⟩)] w fun e w' => e = .returned (.bool true) ∧ ∃ tg', Gy i gb w' tg' (k + 1) ∧ Stp (Agame i) w tg w' tg' := by
  obtain ⟨id, n, s, t, ⟨nb, rb, lv, v, b, l, lm, l2, ne, nm, nt, h1, h2⟩, hp, he⟩ := h
  refine (looks_all i gb w tg _ _ _ _ b l lm l2 ne nm nt h1.B (by omega) (by omega) (by omega) (by omega) (by omega) (by omega)).mono ?_
  rintro e w' ⟨rfl, b', l', lm', l2', tg', ne', nm', nt', hB, hS, q1, q2, q3, q4, q5, q6⟩
  exact ⟨rfl, tg', ⟨id, n, s, t, ⟨nb, rb, lv, v, b', l', lm', l2', ne', nm', nt', h1.book hS (fun k => not_book i k hi) hB, ⟨q1, q2, q3⟩, by omega, by omega, by omega⟩, hp, by omega⟩, hS.mono agame_b⟩

theorem gy_ends (i gb k : Nat) (w : World) (tg : Tags) (h : Gy i gb w tg k) (hi : i ≤ 1) (hk : k ≤ 1048578) :
    Calls Tryz.prog 20 #[.pointer (some ⟨gb, 0, none⟩)] w fun e w' => e = .returned (.bool true) ∧ ∃ tg', Gy i gb w' tg' (k + 2) ∧ Stp (Agame i) w tg w' tg' := by
  obtain ⟨id, n, s, t, ⟨nb, rb, lv, v, b, l, lm, l2, ne, nm, nt, h1, h2⟩, hp, he⟩ := h
  refine (gends_any i gb nb rb w tg id n s t lv v b l lm l2 ne nm nt (65 * k) h1 hi hp h2 (by omega)).mono ?_
  rintro e w' ⟨rfl, b', tg', ne', nm', nt', hG, hc, hS⟩
  exact ⟨rfl, tg', ⟨id, n, s, t, ⟨nb, rb, lv, v, b', [], [], [], ne', nm', nt', hG, ⟨by simp, by simp, by simp⟩, by omega, by omega, by omega⟩, hp, by omega⟩, hS⟩

/-- Both games. -/
def AgmX (U : Nat × Nat) : Prop := Agame 0 U ∨ Agame 1 U

theorem agmX_of {i : Nat} (hi : i ≤ 1) : ∀ U, Agame i U → AgmX U := fun U h => by
  have : i = 0 ∨ i = 1 := by omega
  rcases this with rfl | rfl
  · exact .inl h
  · exact .inr h

theorem agmX_00 : ¬ AgmX (0, 0) := by rintro (h | h) <;> exact agame_00 _ h

/-- The games that are played: the first and the second (the same, or apart). -/
structure Sx (i0 i1 : Nat) (p0 p1 : Option Nat) (w : World) (tg : Tags) (k : Nat) : Prop where
  a : ∀ gb, p0 = some gb → Gy i0 gb w tg k
  b : ∀ gb, p1 = some gb → Gy i1 gb w tg k

/-- A game's pointer. -/
abbrev pq (p : Option Nat) : Option Addr := p.map fun gb => ⟨gb, 0, none⟩

section

variable {i0 i1 : Nat} {p0 p1 : Option Nat} {w w' : World} {tg tg' : Tags} {k k' gb : Nat}

theorem Sx.mono (h : Sx i0 i1 p0 p1 w tg k) (hk : k ≤ k') : Sx i0 i1 p0 p1 w tg k' := ⟨fun gb hg => (h.a gb hg).mono hk, fun gb hg => (h.b gb hg).mono hk⟩

theorem Sx.on0 (h : Sx i0 i1 p0 p1 w tg k) (h0 : i0 ≤ 1) (h1 : i1 ≤ 1) (heq : i0 = i1 → p0 = p1) (hp : p0 = some gb) (hs : Stp (Agame i0) w tg w' tg') (hy : Gy i0 gb w' tg' k') (hk : k ≤ k') : Sx i0 i1 p0 p1 w' tg' k' := by
  refine ⟨fun g hg => ?_, fun g hg => ?_⟩
  · rw [hp] at hg; simp at hg; subst hg; exact hy
  · by_cases e : i0 = i1
    · have := heq e
      rw [← this, hp] at hg
      simp at hg
      subst hg
      rw [← e]; exact hy
    · exact ((h.b g hg).other hs h1 h0 (fun q => e q.symm)).mono hk

theorem Sx.on1 (h : Sx i0 i1 p0 p1 w tg k) (h0 : i0 ≤ 1) (h1 : i1 ≤ 1) (heq : i0 = i1 → p0 = p1) (hp : p1 = some gb) (hs : Stp (Agame i1) w tg w' tg') (hy : Gy i1 gb w' tg' k') (hk : k ≤ k') : Sx i0 i1 p0 p1 w' tg' k' := by
  refine ⟨fun g hg => ?_, fun g hg => ?_⟩
  · by_cases e : i0 = i1
    · have := heq e
      rw [this, hp] at hg
      simp at hg
      subst hg
      rw [e]; exact hy
    · exact ((h.a g hg).other hs h0 h1 e).mono hk
  · rw [hp] at hg; simp at hg; subst hg; exact hy

end

set_option maxRecDepth 100000 in
set_option maxHeartbeats 4000000 in
theorem plays_any (i0 i1 : Nat) (p0 p1 : Option Nat) (l : List Stn) (v : Value) (last : Int) (w0 : World) (tg0 : Tags) (h0 : i0 ≤ 1) (h1 : i1 ≤ 1) (heq : i0 = i1 → p0 = p1) (hS : ScrIn w0 tg0 v l) (hX : Sx i0 i1 p0 p1 w0 tg0 0) (hl : l.length ≤ 1048576) (q0 q1 : Option Addr) (hP0 : q0 = pq p0) (hP1 : q1 = pq p1) :
    Calls Tryz.prog 9 #[.pointer q0, .pointer q1, v, .int .i64 last] w0 fun e w' => e = .returned (.bool true) ∧ ∃ tg', Stp AgmX w0 tg0 w' tg' := by
  have HS := hide hS
  have HX := hide hX
  have HEQ := hide heq
  obtain ⟨ao, cap, rfl, _⟩ := hS
  have HP0 := hide hP0
  have HP1 := hide hP1
  clear hX heq hP0 hP1
  go_enter Tryz.func9, Tryz.ntmps9
  go_wp2
  go_loopw [9] (fun ix wr => ∃ k : Nat, k ≤ l.length ∧ ix = .int .i64 k ∧ ∃ tg', Sx i0 i1 p0 p1 wr tg' k ∧ Stp AgmX w0 tg0 wr tg') (fun ix _ => l.length - (intOf ix).toNat)
  case atStart => exact ⟨0, Nat.zero_le _, rfl, tg0, unhide HX, Stp.refl _ _ _⟩
  case round =>
    obtain ⟨k, hk, rfl, tgr, hXr, hSr⟩ := hrel
    have HXR := hide hXr
    have HSR := hide hSr
    clear hXr hSr
    by_cases hlt : k < l.length
    · have hki : (k : Int) < (l.length : Int) := by omega
      have hk0 : (0 : Int) ≤ (k : Int) := by omega
      have hkb : k ≤ 1048578 := by omega
      have hke : l[k]? = some l[k] := List.getElem?_eq_getElem hlt
      obtain ⟨ao', cap', hv', hcells⟩ := (unhide HS).step (unhide HSR) agmX_00
      simp only [Value.slice.injEq, true_and] at hv'
      obtain ⟨rfl, rfl⟩ := hv'
      obtain ⟨hok, sb, off, rfl, htg, hc⟩ := hcells k _ hke
      generalize l[k] = st at *
      have HOK := hide hok
      have HTG := hide htg
      have y0 : wr.cell? ⟨sb, off + k * 14, none⟩ = some (.int .i64 st.kind) := hc 0 _ rfl
      have y1 : wr.cell? ⟨sb, off + k * 14 + 1, none⟩ = some (.int .i64 st.a) := hc 1 _ rfl
      have y2 : wr.cell? ⟨sb, off + k * 14 + 2, none⟩ = some (.int .i64 st.q) := hc 2 _ rfl
      have y3 : wr.cell? ⟨sb, off + k * 14 + 3, none⟩ = some (.int .i64 st.m.kind) := hc 3 _ rfl
      have y4 : wr.cell? ⟨sb, off + k * 14 + 4, none⟩ = some (.int .i64 st.m.src) := hc 4 _ rfl
      have y5 : wr.cell? ⟨sb, off + k * 14 + 5, none⟩ = some (.int .i64 st.m.dst) := hc 5 _ rfl
      have y6 : wr.cell? ⟨sb, off + k * 14 + 6, none⟩ = some (.int .i64 st.m.term) := hc 6 _ rfl
      have y7 : wr.cell? ⟨sb, off + k * 14 + 7, none⟩ = some (.int .i64 st.m.index) := hc 7 _ rfl
      have y8 : wr.cell? ⟨sb, off + k * 14 + 8, none⟩ = some (.int .i64 st.m.logTerm) := hc 8 _ rfl
      have y9 : wr.cell? ⟨sb, off + k * 14 + 9, none⟩ = some (.int .i64 st.m.commit) := hc 9 _ rfl
      have y10 : wr.cell? ⟨sb, off + k * 14 + 10, none⟩ = some (st.ev) := hc 10 _ rfl
      have y11 : wr.cell? ⟨sb, off + k * 14 + 11, none⟩ = some (.bool st.m.granted) := hc 11 _ rfl
      have y12 : wr.cell? ⟨sb, off + k * 14 + 12, none⟩ = some (.string st.c) := hc 12 _ rfl
      have y13 : wr.cell? ⟨sb, off + k * 14 + 13, none⟩ = some (.int .i64 st.x) := hc 13 _ rfl
      obtain ⟨eo, en, ec, hev⟩ := hok.slice
      rw [hev] at y10
      have HST : Hid (st.cs = #[.int .i64 st.kind, .int .i64 st.a, .int .i64 st.q, .int .i64 st.m.kind, .int .i64 st.m.src, .int .i64 st.m.dst, .int .i64 st.m.term, .int .i64 st.m.index, .int .i64 st.m.logTerm, .int .i64 st.m.commit, .slice eo en ec, .bool st.m.granted, .string st.c, .int .i64 st.x]) := by show st.cs = _; rw [← hev]; rfl
      clear hcells hc hok htg hev hke
      cases hodd : (st.x.tmod 2 != 0) with
      | false =>
      · -- game 0
        rcases opt_cases p0 with hpc | ⟨gb, hpc⟩
        · have hP := unhide HP0
          rw [hpc] at hP
          simp only [pq, Option.map] at hP
          subst hP
          clear hpc
          go_wp2_with fail
          go_roundw
          case rel => exact ⟨k + 1, by omega, by go_num, tgr, (unhide HXR).mono (by omega), unhide HSR⟩
          case measure => simp [intOf]; omega
        · have hP := unhide HP0
          rw [hpc] at hP
          simp only [pq, Option.map] at hP
          subst hP
          have HPC := hide hpc
          clear hpc
          by_cases hkl : last < st.kind
          · go_wp2_with fail
            go_roundw
            case rel => exact ⟨k + 1, by omega, by go_num, tgr, (unhide HXR).mono (by omega), unhide HSR⟩
            case measure => simp [intOf]; omega
          · go_wp2_with (first | (go_at_call 18; fail))
            rw [← unhide HST]
            refine (gy_step i0 gb k wr tgr st ((unhide HXR).a gb (unhide HPC)) h0 hkb (unhide HOK)).mono ?_
            rintro e w1 ⟨rfl, tg1, hD1, hS1⟩
            have HD1 := hide hD1
            have HS1 := hide hS1
            clear hD1 hS1
            clear y0 y1 y2 y3 y4 y5 y6 y7 y8 y9 y10 y11 y12 y13
            go_wp2_with (first | (go_at_call 19; fail))
            refine (gy_looks i0 gb k w1 tg1 (unhide HD1) h0 hkb).mono ?_
            rintro e w2 ⟨rfl, tg2, hY2, hS2⟩
            have HX2 := hide ((unhide HXR).on0 h0 h1 (unhide HEQ) (unhide HPC) ((unhide HS1).trans hS2) hY2 (by omega))
            have HS2 := hide ((unhide HSR).trans (((unhide HS1).trans hS2).mono (agmX_of h0)))
            clear hY2 hS2
            go_wp2_with fail
            go_roundw
            case rel => exact ⟨k + 1, by omega, by go_num, tg2, unhide HX2, unhide HS2⟩
            case measure => simp [intOf]; omega
      | true =>
      · -- game 1
        rcases opt_cases p1 with hpc | ⟨gb, hpc⟩
        · have hP := unhide HP1
          rw [hpc] at hP
          simp only [pq, Option.map] at hP
          subst hP
          clear hpc
          go_wp2_with fail
          go_roundw
          case rel => exact ⟨k + 1, by omega, by go_num, tgr, (unhide HXR).mono (by omega), unhide HSR⟩
          case measure => simp [intOf]; omega
        · have hP := unhide HP1
          rw [hpc] at hP
          simp only [pq, Option.map] at hP
          subst hP
          have HPC := hide hpc
          clear hpc
          by_cases hkl : last < st.kind
          · go_wp2_with fail
            go_roundw
            case rel => exact ⟨k + 1, by omega, by go_num, tgr, (unhide HXR).mono (by omega), unhide HSR⟩
            case measure => simp [intOf]; omega
          · go_wp2_with (first | (go_at_call 18; fail))
            rw [← unhide HST]
            refine (gy_step i1 gb k wr tgr st ((unhide HXR).b gb (unhide HPC)) h1 hkb (unhide HOK)).mono ?_
            rintro e w1 ⟨rfl, tg1, hD1, hS1⟩
            have HD1 := hide hD1
            have HS1 := hide hS1
            clear hD1 hS1
            clear y0 y1 y2 y3 y4 y5 y6 y7 y8 y9 y10 y11 y12 y13
            go_wp2_with (first | (go_at_call 19; fail))
            refine (gy_looks i1 gb k w1 tg1 (unhide HD1) h1 hkb).mono ?_
            rintro e w2 ⟨rfl, tg2, hY2, hS2⟩
            have HX2 := hide ((unhide HXR).on1 h0 h1 (unhide HEQ) (unhide HPC) ((unhide HS1).trans hS2) hY2 (by omega))
            have HS2 := hide ((unhide HSR).trans (((unhide HS1).trans hS2).mono (agmX_of h1)))
            clear hY2 hS2
            go_wp2_with fail
            go_roundw
            case rel => exact ⟨k + 1, by omega, by go_num, tg2, unhide HX2, unhide HS2⟩
            case measure => simp [intOf]; omega
    · have hkn : k = l.length := by omega
      subst hkn
      have hkb : l.length ≤ 1048578 := by omega
      have hP0 := unhide HP0
      have hP1 := unhide HP1
      rcases opt_cases p0 with hp0 | ⟨g0, hp0⟩
      · rw [hp0] at hP0
        simp only [pq, Option.map] at hP0
        subst hP0
        rcases opt_cases p1 with hp1 | ⟨g1, hp1⟩
        · rw [hp1] at hP1
          simp only [pq, Option.map] at hP1
          subst hP1
          go_wp2_with fail
          go_ret
          exact ⟨rfl, tgr, unhide HSR⟩
        · have HY := hide ((unhide HXR).b g1 hp1)
          rw [hp1] at hP1
          simp only [pq, Option.map] at hP1
          subst hP1
          go_wp2_with (first | (go_at_call 20; fail))
          refine (gy_ends i1 g1 _ wr tgr (unhide HY) h1 hkb).mono ?_
          rintro e w1 ⟨rfl, tg1, _, hS1⟩
          have HS1 := hide ((unhide HSR).trans (hS1.mono (agmX_of h1)))
          clear hS1
          go_wp2_with fail
          go_ret
          exact ⟨rfl, tg1, unhide HS1⟩
      · have HY := hide ((unhide HXR).a g0 hp0)
        rw [hp0] at hP0
        simp only [pq, Option.map] at hP0
        subst hP0
        rcases opt_cases p1 with hp1 | ⟨g1, hp1⟩
        · rw [hp1] at hP1
          simp only [pq, Option.map] at hP1
          subst hP1
          have HP1' := hide hp1
          have HP0' := hide hp0
          clear hp0 hp1
          go_wp2_with (first | (go_at_call 20; fail))
          refine (gy_ends i0 g0 _ wr tgr (unhide HY) h0 hkb).mono ?_
          rintro e w1 ⟨rfl, tg1, _, hS1⟩
          have HS1 := hide ((unhide HSR).trans (hS1.mono (agmX_of h0)))
          clear hS1
          go_wp2_with fail
          go_ret
          exact ⟨rfl, tg1, unhide HS1⟩
        · rw [hp1] at hP1
          simp only [pq, Option.map] at hP1
          subst hP1
          have HP1' := hide hp1
          have HP0' := hide hp0
          clear hp0 hp1
          go_wp2_with (first | (go_at_call 20; fail))
          refine (gy_ends i0 g0 _ wr tgr (unhide HY) h0 hkb).mono ?_
          rintro e w1 ⟨rfl, tg1, hY1, hS1⟩
          have HX1 := hide ((unhide HXR).on0 h0 h1 (unhide HEQ) (unhide HP0') hS1 hY1 (by omega))
          have HS1 := hide ((unhide HSR).trans (hS1.mono (agmX_of h0)))
          have HY1 := hide ((unhide HX1).b g1 (unhide HP1'))
          clear hS1 hY1
          go_wp2_with (first | (go_at_call 20; fail))
          refine (gy_ends i1 g1 _ w1 tg1 (unhide HY1) h1 (by omega)).mono ?_
          rintro e w2 ⟨rfl, tg2, _, hS2⟩
          have HS2 := hide ((unhide HS1).trans (hS2.mono (agmX_of h1)))
          clear hS2
          go_wp2_with fail
          go_ret
          exact ⟨rfl, tg2, unhide HS2⟩

end Go.Proofs.YteiecbkfganhnaaGreat

namespace Go.Proofs.YteiecbkfganhnaaGreat

open Go.RowKit Go.MuLone

/-- Is the step told? -/
def Stn.elec (t : Stn) : Bool := decide (t.kind ≠ 4) || decide (t.m.kind < 4)

/-- The cells of some steps. -/
def sC (l : List Stn) : List Value := l.flatMap fun t => t.cs.toList

theorem sC_cons (t : Stn) (l : List Stn) : sC (t :: l) = t.cs.toList ++ sC l := rfl

theorem sC_append (a b : List Stn) : sC (a ++ b) = sC a ++ sC b := List.flatMap_append

theorem sC_get (l : List Stn) (k : Nat) (t : Stn) (hk : l[k]? = some t) (j : Nat) (u : Value) (hj : t.cs[j]? = some u) : (sC l)[k * 14 + j]? = some u := by
  induction l generalizing k with
  | nil => simp at hk
  | cons x l ih =>
    have hjl : j < 14 := by have := (Array.getElem?_eq_some_iff.1 hj).1; rw [Stn.cs_size] at this; exact this
    have hxl : x.cs.toList.length = 14 := by rw [Array.length_toList, Stn.cs_size]
    cases k with
    | zero =>
      simp at hk
      subst hk
      rw [sC_cons, Nat.zero_mul, Nat.zero_add, List.getElem?_append_left (by omega), Array.getElem?_toList]
      exact hj
    | succ k =>
      simp at hk
      rw [sC_cons, List.getElem?_append_right (by omega), hxl, show (k + 1) * 14 + j - 14 = k * 14 + j by omega]
      exact ih k hk

theorem scr_of_owns {w w' : World} {tg : Tags} {l l' : List Stn} {v' : Value} (hv : w'.ownsRow w.heap.size 32 14 v' l'.length (sC l')) (hsub : ∀ t ∈ l', t ∈ l) (hok : ∀ t ∈ l, StnOk w tg t) (hb : Below w.heap.size w w') : ScrIn w' (newTag w.heap.size tg (0, 0)) v' l' := by
  have hs : Stp (fun _ => False) w tg w' (newTag w.heap.size tg (0, 0)) := Stp.ofBelow hb tg _
  obtain ⟨ao, cap, rfl⟩ := owns_form hv
  refine ⟨ao, cap, rfl, fun k t hk => ⟨(hok t (hsub t (List.mem_of_getElem? hk))).step hs (fun h => h), ?_⟩⟩
  rcases hv.2 with ⟨hn, _⟩ | ⟨g, cap', cur, hv', hg, _⟩
  · simp only [Value.slice.injEq] at hn
    rw [List.getElem?_eq_none (by omega)] at hk
    simp at hk
  · simp only [Value.slice.injEq] at hv'
    obtain ⟨rfl, _, rfl⟩ := hv'
    refine ⟨g, 0, rfl, newTag_new hg, fun j u hj => ?_⟩
    have := hv.cells (g := g) rfl _ _ (sC_get l' k t hk j u hj)
    rw [add0] at this
    simpa using this

theorem infoStep : (Tryz.prog.info? 32).map (fun i => (i.zero, i.size, i.bytes)) = some (some (.agg #[.int .i64 0, .int .i64 0, .int .i64 0, .int .i64 0, .int .i64 0, .int .i64 0, .int .i64 0, .int .i64 0, .int .i64 0, .int .i64 0, .slice none 0 0, .bool false, .string ⟨#[]⟩, .int .i64 0]), 14, 136) := by kernel_rfl

theorem cells14_at (w : World) (l : List Value) (t : TypeId) (b : Nat) (hb : w.heap.size = b) : ∀ j u, l[j]? = some u → (w.alloc (.cells l.toArray t)).cell? ((⟨b, 0, none⟩ : Addr).add j) = some u := by subst hb; exact cells_new9 w l t

set_option maxRecDepth 100000 in
set_option maxHeartbeats 2000000 in
theorem elections_any (l : List Stn) (v : Value) (w : World) (tg : Tags) (hS : ScrIn w tg v l) (hl : l.length ≤ 1048576) :
    Calls Tryz.prog 10 #[v] w fun e w' => ∃ v', e = .returned v' ∧ ScrIn w' (newTag w.heap.size tg (0, 0)) v' (l.filter Stn.elec) ∧ Below w.heap.size w w' := by
  have HS := hide hS
  obtain ⟨ao, cap, rfl, hcells⟩ := hS
  have HC := hide hcells
  clear hcells
  obtain ⟨i1, hj, hy0, hy1, hy2⟩ := info_parts infoStep
  go_enter Tryz.func10, Tryz.ntmps10
  go_wp2
  go_loopw [3, 4] (fun u ix wr => ∃ k : Nat, k ≤ l.length ∧ ix = .int .i64 k ∧ wr.ownsRow w.heap.size 32 14 u ((l.take k).filter Stn.elec).length (sC ((l.take k).filter Stn.elec)) ∧ Below w.heap.size w wr) (fun _ ix _ => l.length - (intOf ix).toNat)
  case atStart => exact ⟨0, Nat.zero_le _, rfl, World.ownsRow_nil w _ _ _, Below.refl _ _⟩
  case round =>
    obtain ⟨k, hk, rfl, ho, hb⟩ := hrel
    obtain ⟨uo, uc, rfl⟩ := owns_form ho
    by_cases hlt : k < l.length
    · have hke : l[k]? = some l[k] := List.getElem?_eq_getElem hlt
      have hki : (k : Int) < (l.length : Int) := by omega
      have hk0 : (0 : Int) ≤ (k : Int) := by omega
      have htk := List.take_succ_eq_append_getElem hlt
      have hq : ((l.take k).filter Stn.elec).length ≤ 1048576 := Nat.le_trans (List.length_filter_le _ _) (by rw [List.length_take]; omega)
      obtain ⟨hok, sb, off, rfl, _, hc⟩ := unhide HC k _ hke
      generalize l[k] = st at *
      obtain ⟨eo, en, ec, hev⟩ := hok.slice
      have y0 : wr.cell? ⟨sb, off + k * 14, none⟩ = some (.int .i64 st.kind) := (hb.cell (p := ⟨sb, _, none⟩) (block_lt_of_cell (hc 0 _ rfl))).trans (hc 0 _ rfl)
      have y1 : wr.cell? ⟨sb, off + k * 14 + 1, none⟩ = some (.int .i64 st.a) := (hb.cell (p := ⟨sb, _, none⟩) (block_lt_of_cell (hc 1 _ rfl))).trans (hc 1 _ rfl)
      have y2 : wr.cell? ⟨sb, off + k * 14 + 2, none⟩ = some (.int .i64 st.q) := (hb.cell (p := ⟨sb, _, none⟩) (block_lt_of_cell (hc 2 _ rfl))).trans (hc 2 _ rfl)
      have y3 : wr.cell? ⟨sb, off + k * 14 + 3, none⟩ = some (.int .i64 st.m.kind) := (hb.cell (p := ⟨sb, _, none⟩) (block_lt_of_cell (hc 3 _ rfl))).trans (hc 3 _ rfl)
      have y4 : wr.cell? ⟨sb, off + k * 14 + 4, none⟩ = some (.int .i64 st.m.src) := (hb.cell (p := ⟨sb, _, none⟩) (block_lt_of_cell (hc 4 _ rfl))).trans (hc 4 _ rfl)
      have y5 : wr.cell? ⟨sb, off + k * 14 + 5, none⟩ = some (.int .i64 st.m.dst) := (hb.cell (p := ⟨sb, _, none⟩) (block_lt_of_cell (hc 5 _ rfl))).trans (hc 5 _ rfl)
      have y6 : wr.cell? ⟨sb, off + k * 14 + 6, none⟩ = some (.int .i64 st.m.term) := (hb.cell (p := ⟨sb, _, none⟩) (block_lt_of_cell (hc 6 _ rfl))).trans (hc 6 _ rfl)
      have y7 : wr.cell? ⟨sb, off + k * 14 + 7, none⟩ = some (.int .i64 st.m.index) := (hb.cell (p := ⟨sb, _, none⟩) (block_lt_of_cell (hc 7 _ rfl))).trans (hc 7 _ rfl)
      have y8 : wr.cell? ⟨sb, off + k * 14 + 8, none⟩ = some (.int .i64 st.m.logTerm) := (hb.cell (p := ⟨sb, _, none⟩) (block_lt_of_cell (hc 8 _ rfl))).trans (hc 8 _ rfl)
      have y9 : wr.cell? ⟨sb, off + k * 14 + 9, none⟩ = some (.int .i64 st.m.commit) := (hb.cell (p := ⟨sb, _, none⟩) (block_lt_of_cell (hc 9 _ rfl))).trans (hc 9 _ rfl)
      have y10 : wr.cell? ⟨sb, off + k * 14 + 10, none⟩ = some (.slice eo en ec) := by rw [← hev]; exact (hb.cell (p := ⟨sb, _, none⟩) (block_lt_of_cell (hc 10 _ rfl))).trans (hc 10 _ rfl)
      have y11 : wr.cell? ⟨sb, off + k * 14 + 11, none⟩ = some (.bool st.m.granted) := (hb.cell (p := ⟨sb, _, none⟩) (block_lt_of_cell (hc 11 _ rfl))).trans (hc 11 _ rfl)
      have y12 : wr.cell? ⟨sb, off + k * 14 + 12, none⟩ = some (.string st.c) := (hb.cell (p := ⟨sb, _, none⟩) (block_lt_of_cell (hc 12 _ rfl))).trans (hc 12 _ rfl)
      have y13 : wr.cell? ⟨sb, off + k * 14 + 13, none⟩ = some (.int .i64 st.x) := (hb.cell (p := ⟨sb, _, none⟩) (block_lt_of_cell (hc 13 _ rfl))).trans (hc 13 _ rfl)
      have HCS : Hid (st.cs.toList = [.int .i64 st.kind, .int .i64 st.a, .int .i64 st.q, .int .i64 st.m.kind, .int .i64 st.m.src, .int .i64 st.m.dst, .int .i64 st.m.term, .int .i64 st.m.index, .int .i64 st.m.logTerm, .int .i64 st.m.commit, .slice eo en ec, .bool st.m.granted, .string st.c, .int .i64 st.x]) := by show st.cs.toList = _; rw [← hev]; rfl
      have hsl : sb < wr.heap.size := block_lt_of_cell y0
      have n1 : ¬ sb = wr.heap.size := by omega
      have n2 : ¬ wr.heap.size = sb := by omega
      have HO := hide ho
      have HB := hide hb
      have HTK := hide htk
      clear hc hok hev hke ho hb htk
      have hfil : (l.take (k + 1)).filter Stn.elec = (l.take k).filter Stn.elec ++ (if st.elec then [st] else []) := by
        rw [unhide HTK, List.filter_append, List.filter_cons]
        rfl
      have HF := hide hfil
      clear hfil
      generalize hflt : (l.take k).filter Stn.elec = fl at *
      have hno : (st.kind != 4) = false ∧ decide (st.m.kind < 4) = false ∨ st.elec = true ∧ ((st.kind != 4) = true ∨ (st.kind != 4) = false ∧ decide (st.m.kind < 4) = true) := by
        by_cases e1 : st.kind = 4 <;> by_cases e2 : st.m.kind < 4 <;> simp [Stn.elec, e1, e2]
      rcases hno with ⟨e1, e2⟩ | ⟨he, e1 | ⟨e1, e2⟩⟩
      · have hel : st.elec = false := by
          have e3 : st.kind = 4 := by simpa using e1
          simp [Stn.elec, e3]
          have := of_decide_eq_false e2
          omega
        have HEL := hide hel
        clear hel
        go_wp2_with fail
        go_roundw
        case rel =>
          refine ⟨k + 1, by omega, by go_num, ?_, unhide HB⟩
          rw [unhide HF, unhide HEL]
          simpa using unhide HO
        case measure => simp [intOf]; omega
      all_goals
        have HEL := hide he
        clear he
        go_wp2_with (at_builtin; go_must (refine wpList_append_own_at _ rfl (.tmp 26) (.tmp 31) 33 rfl w.heap.size 32 i1 _ 14 136 Tryz.underlying33 hj hy0 hy1 hy2 rfl (by decide) (.slice uo fl.length uc) fl.length (sC fl) rfl ((unhide HO).alloc _) ⟨wr.heap.size, 0, none⟩ 1 1 [.int .i64 st.kind, .int .i64 st.a, .int .i64 st.q, .int .i64 st.m.kind, .int .i64 st.m.src, .int .i64 st.m.dst, .int .i64 st.m.term, .int .i64 st.m.index, .int .i64 st.m.logTerm, .int .i64 st.m.commit, .slice eo en ec, .bool st.m.granted, .string st.c, .int .i64 st.x] rfl rfl (cells14_at _ _ _ _ rfl) (by intro u hu; simp at hu; rcases hu with rfl | rfl | rfl | rfl | rfl | rfl | rfl | rfl | rfl | rfl | rfl | rfl | rfl | rfl <;> rfl) (by unfold maxLen; omega) (by omega) (Nat.le_trans (unhide HB).size (by simp)) ?_))
        intro v' w' h2 h3 _ _
        have HP : Hid (w'.ownsRow w.heap.size 32 14 v' ((l.take (k + 1)).filter Stn.elec).length (sC ((l.take (k + 1)).filter Stn.elec))) := by
          show World.ownsRow _ _ _ _ _ _ _
          rw [unhide HF, unhide HEL]
          simp only [if_true]
          rw [sC_append, List.length_append, sC_cons, unhide HCS]
          exact h2
        have HB2 : Hid (Below w.heap.size w w') := ((unhide HB).alloc (unhide HB).size _).grown h3 (Nat.le_trans (unhide HB).size (by simp)) (fun z hz => ((unhide HO).lt z hz).1)
        clear h2 h3
        go_wp2
        go_roundw
        case rel => exact ⟨k + 1, by omega, by go_num, unhide HP, unhide HB2⟩
        case measure => simp [intOf]; omega
    · have hkn : k = l.length := by omega
      subst hkn
      rw [List.take_length] at ho
      have HO := hide ho
      have HB := hide hb
      clear ho hb
      rw [List.take_length]
      go_wp2
      go_ret
      exact ⟨_, rfl, scr_of_owns (unhide HO) (fun t ht => (List.mem_filter.1 ht).1) (fun t ht => by obtain ⟨k, hk⟩ := List.mem_iff_getElem?.1 ht; exact (unhide HC k t hk).1) (unhide HB), unhide HB⟩

end Go.Proofs.YteiecbkfganhnaaGreat

namespace Go.Proofs.YteiecbkfganhnaaGreat

open Go.RowKit Go.MuLone

/-- Behind what may make a game. -/
def GMay (w : World) (e : Ending) (w' : World) : Prop :=
  ∃ p q, e = .returned (.tuple #[.pointer q, .bool true]) ∧ q = pq p ∧ ∀ i tg, ∃ tg', Stp (fun _ => False) w tg w' tg' ∧ ∀ gb, p = some gb → Gy i gb w' tg' 0

theorem gmay_no {w : World} {e : Ending} {w' : World} (h : e = .returned (.tuple #[.pointer none, .bool true]) ∧ Below w.heap.size w w') : GMay w e w' :=
  ⟨none, none, h.1, rfl, fun _ tg => ⟨newTag w.heap.size tg (0, 1), Stp.ofBelow h.2 tg _, fun gb hg => by cases hg⟩⟩

theorem gmay_made {id n : Nat} {term vote : Int} {es : List Ent} {w : World} {e : Ending} {w' : World} (h : GMd id n (Nd.made id n term vote es) w e w') (hn1 : 1 ≤ n) (hn2 : n ≤ 7) (h1 : id < n) (hs : ¬ BadSaved term vote n es) : GMay w e w' := by
  obtain ⟨hb, nb, rb, M, lv, v, rfl, hm⟩ := h
  refine ⟨some hb, _, rfl, rfl, fun i tg => ⟨madeT i w.heap.size M hb nb lv (tG i) tg, hm.stp _, fun gb hg => ?_⟩⟩
  cases hg
  have hok := Ok.made (id := id) (n := n) (log := es) hn1 hn2 h1 hs
  exact ⟨id, n, _, _, ⟨nb, rb, lv, v, _, [], [], [], 0, 0, 0, hm.game, ⟨by simp, by simp, by simp⟩, by omega, by omega, by omega⟩, ⟨Twin.refl _, hok, hok, rfl, rfl⟩, Int.le_refl _⟩

theorem opened_all (id n : Int) (w : World) : Calls Tryz.prog 7 #[.int .i64 id, .int .i64 n] w fun e w' => GMay w e w' := by
  by_cases h : n < 1 ∨ 7 < n ∨ id < 0 ∨ n ≤ id
  · exact (opened_no id n w h).mono fun e w' h => gmay_no h
  · obtain ⟨n', rfl⟩ : ∃ n' : Nat, n = (n' : Int) := ⟨n.toNat, by omega⟩
    obtain ⟨i', rfl⟩ : ∃ i' : Nat, id = (i' : Int) := ⟨id.toNat, by omega⟩
    refine (opened_gm i' n' w (by omega) (by omega) (by omega)).mono fun e w' h => gmay_made h (by omega) (by omega) (by omega) ?_
    rintro (h | h | h | h | h | h)
    all_goals first | omega | (simp [okE] at h) | (simp at h)

theorem restart_all (id n term vote : Int) (lv : Value) (es : List Ent) (w : World) (hn : es.length ≤ 1048576) (hl : EntsIn w lv es) :
    Calls Tryz.prog 8 #[.int .i64 id, .int .i64 n, .agg #[.int .i64 term, .int .i64 vote, lv]] w fun e w' => GMay w e w' := by
  by_cases h : n < 1 ∨ 7 < n ∨ id < 0 ∨ n ≤ id
  · exact (rst_bad id n term vote 1 lv es w (by omega) hl (both_nodes' term vote es h)).mono fun e w' h => gmay_no h
  · obtain ⟨n', rfl⟩ : ∃ n' : Nat, n = (n' : Int) := ⟨n.toNat, by omega⟩
    obtain ⟨i', rfl⟩ : ∃ i' : Nat, id = (i' : Int) := ⟨id.toNat, by omega⟩
    by_cases hb : BadSaved term vote n' es
    · exact (rst_bad i' n' term vote 2 lv es w (by omega) hl (both_saved' (by omega) (by omega) (by omega) (by omega) (by omega) hb)).mono fun e w' h => gmay_no h
    · exact (rst_gm i' n' term vote lv es w (by omega) hl (both_nd (by omega) (by omega) (by omega) hb)).mono fun e w' h => gmay_made h (by omega) (by omega) (by omega) hb

abbrev tgAll : Tags := fun _ => (0, 0)

theorem below_of_agm {w w' : World} {tg : Tags} (h : Stp AgmX w tgAll w' tg) : Below w.heap.size w w' :=
  ⟨h.os, h.tape, h.output, h.size, fun k hk => (h.keep k hk agmX_00).1⟩

theorem stp_any {A : Nat × Nat → Prop} {w w' : World} {tg tg' : Tags} (h : Stp (fun _ => False) w tg w' tg') : Stp A w tg w' tg' := h.mono fun _ h => h.elim

set_option maxRecDepth 100000 in
set_option maxHeartbeats 2000000 in
theorem logs_any (id n term vote : Int) (lv : Value) (es : List Ent) (v : Value) (l : List Stn) (w : World) (hn : es.length ≤ 1048576) (hl : EntsIn w lv es) (hS : ScrIn w tgAll v l) (hll : l.length ≤ 1048576) :
    Calls Tryz.prog 5 #[.int .i64 id, .int .i64 n, .agg #[.int .i64 term, .int .i64 vote, lv], v] w fun e w' => e = .returned (.bool true) ∧ Below w.heap.size w w' := by
  have HL := hide hl
  have HS := hide hS
  obtain ⟨ao, cap, rfl, hl1, hl2⟩ := hl
  obtain ⟨so, sc, rfl, _⟩ := hS
  clear hl1 hl2
  have SA : Stp (fun _ => False) w tgAll (w.alloc (savedB term vote (.slice ao es.length cap))) (newTag w.heap.size tgAll (0, 1)) := Stp.alloc w tgAll _ _
  have HLA := hide (ents_below (unhide HL) (below_alloc w (savedB term vote (.slice ao es.length cap))))
  replace SA := hide SA
  go_enter Tryz.func5, Tryz.ntmps5
  go_wp2_with (go_at_call 8; fail)
  generalize w.alloc (savedB term vote (.slice ao es.length cap)) = wA at *
  refine (restart_all id n term vote _ es wA hn (unhide HLA)).mono ?_
  rintro e w1 ⟨p, q, rfl, hq, hG⟩
  obtain ⟨tg1, hS1, hG1⟩ := hG 0 (newTag w.heap.size tgAll (0, 1))
  have S1 := (unhide SA).trans hS1
  have HS1 := hide ((unhide HS).step S1 (fun h => h))
  replace S1 := hide S1
  have HQ := hide hq
  have HX : Hid (Sx 0 0 p p w1 tg1 0) := ⟨hG1, hG1⟩
  clear hG hG1 hS1 hq
  go_wp2_with (go_at_call 9; fail)
  refine (plays_any 0 0 p p l _ 5 w1 tg1 (by omega) (by omega) (fun _ => rfl) (unhide HS1) (unhide HX) hll q q (unhide HQ) (unhide HQ)).mono ?_
  rintro e w2 ⟨rfl, tg2, hS2⟩
  have HB := hide (below_of_agm ((stp_any (unhide S1)).trans hS2))
  clear hS2
  go_wp2
  go_ret
  exact ⟨rfl, unhide HB⟩

set_option maxRecDepth 100000 in
set_option maxHeartbeats 2000000 in
theorem elections_law (id n term vote : Int) (lv : Value) (es : List Ent) (v : Value) (l : List Stn) (w : World) (hn : es.length ≤ 1048576) (hl : EntsIn w lv es) (hS : ScrIn w tgAll v l) (hll : l.length ≤ 1048576) :
    Calls Tryz.prog 4 #[.int .i64 id, .int .i64 n, .agg #[.int .i64 term, .int .i64 vote, lv], v] w fun e w' => e = .returned (.bool true) ∧ Below w.heap.size w w' := by
  have HL := hide hl
  have HS := hide hS
  obtain ⟨ao, cap, rfl, hl1, hl2⟩ := hl
  obtain ⟨so, sc, rfl, _⟩ := hS
  clear hl1 hl2
  have SA : Stp (fun _ => False) w tgAll (w.alloc (savedB term vote (.slice ao es.length cap))) (newTag w.heap.size tgAll (0, 1)) := Stp.alloc w tgAll _ _
  have HLA := hide (ents_below (unhide HL) (below_alloc w (savedB term vote (.slice ao es.length cap))))
  replace SA := hide SA
  go_enter Tryz.func4, Tryz.ntmps4
  go_wp2_with (go_at_call 8; fail)
  generalize w.alloc (savedB term vote (.slice ao es.length cap)) = wA at *
  refine (restart_all id n term vote _ es wA hn (unhide HLA)).mono ?_
  rintro e w1 ⟨p, q, rfl, hq, hG⟩
  obtain ⟨tg1, hS1, hG1⟩ := hG 0 (newTag w.heap.size tgAll (0, 1))
  have S1 := (unhide SA).trans hS1
  have HS1 := hide ((unhide HS).step S1 (fun h => h))
  replace S1 := hide S1
  have HQ := hide hq
  have HX : Hid (Sx 0 0 p p w1 tg1 0) := ⟨hG1, hG1⟩
  clear hG hG1 hS1 hq
  go_wp2_with (go_at_call 10; fail)
  refine (elections_any l _ w1 tg1 (unhide HS1) hll).mono ?_
  rintro e w2 ⟨v2, rfl, hS2, hb2⟩
  have S2 : Stp (fun _ => False) w1 tg1 w2 (newTag w1.heap.size tg1 (0, 0)) := Stp.ofBelow hb2 tg1 _
  have HX2 : Hid (Sx 0 0 p p w2 (newTag w1.heap.size tg1 (0, 0)) 0) := ⟨fun gb hg => ((unhide HX).a gb hg).stp S2 (fun _ _ h => h) (fun h => h), fun gb hg => ((unhide HX).b gb hg).stp S2 (fun _ _ h => h) (fun h => h)⟩
  have HS2 := hide hS2
  obtain ⟨so2, sc2, rfl, _⟩ := hS2
  have S2' := hide ((unhide S1).trans S2)
  have hfl : (l.filter Stn.elec).length ≤ 1048576 := Nat.le_trans (List.length_filter_le _ _) hll
  generalize newTag w1.heap.size tg1 (0, 0) = tg2 at *
  clear hb2 S2
  go_wp2_with (go_at_call 9; fail)
  refine (plays_any 0 0 p p _ _ 4 w2 tg2 (by omega) (by omega) (fun _ => rfl) (unhide HS2) (unhide HX2) hfl q q (unhide HQ) (unhide HQ)).mono ?_
  rintro e w3 ⟨rfl, tg3, hS3⟩
  have HB := hide (below_of_agm ((stp_any (unhide S2')).trans hS3))
  clear hS3
  go_wp2
  go_ret
  exact ⟨rfl, unhide HB⟩

set_option maxRecDepth 100000 in
set_option maxHeartbeats 2000000 in
theorem all_any (id n other m term vote : Int) (lv : Value) (es : List Ent) (v : Value) (l : List Stn) (w : World) (hn : es.length ≤ 1048576) (hl : EntsIn w lv es) (hS : ScrIn w tgAll v l) (hll : l.length ≤ 1048576) :
    Calls Tryz.prog 6 #[.int .i64 id, .int .i64 n, .int .i64 other, .int .i64 m, .agg #[.int .i64 term, .int .i64 vote, lv], v] w fun e w' => e = .returned (.bool true) ∧ Below w.heap.size w w' := by
  have HL := hide hl
  have HS := hide hS
  obtain ⟨ao, cap, rfl, hl1, hl2⟩ := hl
  obtain ⟨so, sc, rfl, _⟩ := hS
  clear hl1 hl2
  have SA : Stp (fun _ => False) w tgAll (w.alloc (savedB term vote (.slice ao es.length cap))) (newTag w.heap.size tgAll (0, 1)) := Stp.alloc w tgAll _ _
  have LA : Loc (w.alloc (savedB term vote (.slice ao es.length cap))) (newTag w.heap.size tgAll (0, 1)) w.heap.size _ _ := Loc.new w tgAll _ _
  have HLA := hide (ents_below (unhide HL) (below_alloc w (savedB term vote (.slice ao es.length cap))))
  replace SA := hide SA
  replace LA := hide LA
  go_enter Tryz.func6, Tryz.ntmps6
  go_wp2_with (go_at_call 7; fail)
  generalize w.alloc (savedB term vote (.slice ao es.length cap)) = wA at *
  refine (opened_all id n wA).mono ?_
  rintro e w1 ⟨p, q, rfl, hq, hG⟩
  obtain ⟨tg1, hS1, hG1⟩ := hG 0 (newTag w.heap.size tgAll (0, 1))
  have S1 := hide ((unhide SA).trans hS1)
  have LA1 := (unhide LA).step hS1 (fun h => h)
  have s0 : w1.cell? ⟨w.heap.size, 0, none⟩ = some (.int .i64 term) := LA1.cell 0
  have s1 : w1.cell? ⟨w.heap.size, 1, none⟩ = some (.int .i64 vote) := LA1.cell 1
  have s2 : w1.cell? ⟨w.heap.size, 2, none⟩ = some (.slice ao es.length cap) := LA1.cell 2
  have HL1 : Hid (EntsIn w1 (.slice ao es.length cap) es) := ents_below (unhide HLA) ⟨hS1.os, hS1.tape, hS1.output, hS1.size, fun k hk => (hS1.keep k hk (fun h => h)).1⟩
  have HQ := hide hq
  have HG1 : Hid (∀ gb, p = some gb → Gy 0 gb w1 tg1 0) := hG1
  clear hG hG1 hS1 hq LA LA1 HLA
  go_wp2_with (go_at_call 8; fail)
  refine (restart_all other m term vote _ es w1 hn (unhide HL1)).mono ?_
  rintro e w2 ⟨p2, q2, rfl, hq2, hG2⟩
  obtain ⟨tg2, hS2, hG2⟩ := hG2 1 tg1
  have S2 := (unhide S1).trans hS2
  have HS2 := hide ((unhide HS).step S2 (fun h => h))
  replace S2 := hide S2
  have HQ2 := hide hq2
  have HX : Hid (Sx 0 1 p p2 w2 tg2 0) := ⟨fun gb hg => ((unhide HG1) gb hg).stp hS2 (fun _ _ h => h) (fun h => h), hG2⟩
  clear hG2 hS2 hq2 s0 s1 s2 HL1
  go_wp2_with (go_at_call 9; fail)
  refine (plays_any 0 1 p p2 l _ 6 w2 tg2 (by omega) (by omega) (fun h => by cases h) (unhide HS2) (unhide HX) hll q q2 (unhide HQ) (unhide HQ2)).mono ?_
  rintro e w3 ⟨rfl, tg3, hS3⟩
  have HB := hide (below_of_agm ((stp_any (unhide S2)).trans hS3))
  clear hS3
  go_wp2
  go_ret
  exact ⟨rfl, unhide HB⟩

end Go.Proofs.YteiecbkfganhnaaGreat
