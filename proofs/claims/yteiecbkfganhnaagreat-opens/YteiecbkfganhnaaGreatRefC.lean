/- The document's Restart. -/
import Derived.Test.YteiecbkfganhnaaGreatRefB
import Derived.Deep.RegionHeld3
import Derived.Deep.AppendLies
import Derived.Deep.RegionLaw
namespace Go.Proofs.YteiecbkfganhnaaGreat
open Go.RowKit

def rnRestart (id n term vote : Int) (log g nx mt hd : Value) : RN := { rnOpen id n g nx mt hd with term := term, vote := vote, log := log }

def BadSaved (term vote n : Int) (es : List Ent) : Prop := term < 0 ∨ 1000000 < term ∨ vote < -1 ∨ n ≤ vote ∨ 60 < (es.length : Int) ∨ okE es 1 term = false

set_option maxRecDepth 100000 in
set_option maxHeartbeats 1000000 in
theorem refRestart_nodes (id n term vote : Int) (lv : Value) (w : World) (h : n < 1 ∨ 7 < n ∨ id < 0 ∨ n ≤ id) :
    Calls Tryz.prog 17 #[.int .i64 id, .int .i64 n, .agg #[.int .i64 term, .int .i64 vote, lv]] w fun e w' => e = .returned (.tuple #[.pointer none, .int .i64 1]) ∧ Below w.heap.size w w' := by
  have H := hide h
  clear h
  go_enter Tryz.func17, Tryz.ntmps17
  go_wp2_with (go_at_call 12; refine (refOpen_no id n _ (unhide H)).mono ?_; rintro e w1 ⟨rfl, rfl⟩)
  go_ret2
  exact ⟨rfl, below_alloc w _⟩

set_option maxRecDepth 100000 in
set_option maxHeartbeats 2000000 in
theorem refRestart_saved (id : Int) (n : Nat) (term vote : Int) (lv : Value) (es : List Ent) (w : World) (hn1 : 1 ≤ n) (hn2 : n ≤ 7) (h0 : 0 ≤ id) (h1 : id < n) (hl : EntsIn w lv es) (hlen : es.length < 4611686018427387904) (h : BadSaved term vote n es) :
    Calls Tryz.prog 17 #[.int .i64 id, .int .i64 n, .agg #[.int .i64 term, .int .i64 vote, lv]] w fun e w' => e = .returned (.tuple #[.pointer none, .int .i64 2]) ∧ Below w.heap.size w w' := by
  unfold BadSaved at h
  have HL := hide hl
  obtain ⟨ao, cap, rfl, hl1, hl2⟩ := hl
  clear hl1 hl2
  obtain ⟨bb, hbb⟩ : ∃ bb, bb = okE es 1 term := ⟨_, rfl⟩
  rw [← hbb] at h
  have HBB := hide hbb
  clear hbb
  have H0 := hide (And.intro hn1 (And.intro hn2 (And.intro h0 h1)))
  clear hn1 hn2 h0 h1
  by_cases q0 : term < 0
  · clear h
    go_enter Tryz.func17, Tryz.ntmps17
    go_wp2_with (first | (go_at_call 12; refine (refOpen_ok id n _ (unhide H0).1 (unhide H0).2.1 (unhide H0).2.2.1 (unhide H0).2.2.2).mono ?_; rintro e w1 ⟨rfl, hR, hb1⟩; have HB := hide (below_trans (below_alloc w _) hb1); have hwb := (hb1.block w.heap.size (by simp)).trans (heap_alloc_new w _); have d0 : w1.cell? ⟨w.heap.size, 0, none⟩ = some (.int .i64 term) := cell_of_row w1 w.heap.size 0 _ _ _ hwb; have d1 : w1.cell? ⟨w.heap.size, 1, none⟩ = some (.int .i64 vote) := cell_of_row w1 w.heap.size 1 _ _ _ hwb; have d2 : w1.cell? ⟨w.heap.size, 2, none⟩ = some (.slice ao es.length cap) := cell_of_row w1 w.heap.size 2 _ _ _ hwb; clear hR hb1 hwb) | (go_at_call 24; refine (rightEntries_any _ es 1 term _ hlen (by decide) (by exact ents_below (unhide HL) (unhide HB))).mono ?_; rw [← unhide HBB]; rintro e w2 ⟨rfl, rfl⟩))
    go_ret2
    exact ⟨rfl, unhide HB⟩
  by_cases q1 : 1000000 < term
  · clear h
    go_enter Tryz.func17, Tryz.ntmps17
    go_wp2_with (first | (go_at_call 12; refine (refOpen_ok id n _ (unhide H0).1 (unhide H0).2.1 (unhide H0).2.2.1 (unhide H0).2.2.2).mono ?_; rintro e w1 ⟨rfl, hR, hb1⟩; have HB := hide (below_trans (below_alloc w _) hb1); have hwb := (hb1.block w.heap.size (by simp)).trans (heap_alloc_new w _); have d0 : w1.cell? ⟨w.heap.size, 0, none⟩ = some (.int .i64 term) := cell_of_row w1 w.heap.size 0 _ _ _ hwb; have d1 : w1.cell? ⟨w.heap.size, 1, none⟩ = some (.int .i64 vote) := cell_of_row w1 w.heap.size 1 _ _ _ hwb; have d2 : w1.cell? ⟨w.heap.size, 2, none⟩ = some (.slice ao es.length cap) := cell_of_row w1 w.heap.size 2 _ _ _ hwb; clear hR hb1 hwb) | (go_at_call 24; refine (rightEntries_any _ es 1 term _ hlen (by decide) (by exact ents_below (unhide HL) (unhide HB))).mono ?_; rw [← unhide HBB]; rintro e w2 ⟨rfl, rfl⟩))
    go_ret2
    exact ⟨rfl, unhide HB⟩
  by_cases q2 : vote < -1
  · clear h
    go_enter Tryz.func17, Tryz.ntmps17
    go_wp2_with (first | (go_at_call 12; refine (refOpen_ok id n _ (unhide H0).1 (unhide H0).2.1 (unhide H0).2.2.1 (unhide H0).2.2.2).mono ?_; rintro e w1 ⟨rfl, hR, hb1⟩; have HB := hide (below_trans (below_alloc w _) hb1); have hwb := (hb1.block w.heap.size (by simp)).trans (heap_alloc_new w _); have d0 : w1.cell? ⟨w.heap.size, 0, none⟩ = some (.int .i64 term) := cell_of_row w1 w.heap.size 0 _ _ _ hwb; have d1 : w1.cell? ⟨w.heap.size, 1, none⟩ = some (.int .i64 vote) := cell_of_row w1 w.heap.size 1 _ _ _ hwb; have d2 : w1.cell? ⟨w.heap.size, 2, none⟩ = some (.slice ao es.length cap) := cell_of_row w1 w.heap.size 2 _ _ _ hwb; clear hR hb1 hwb) | (go_at_call 24; refine (rightEntries_any _ es 1 term _ hlen (by decide) (by exact ents_below (unhide HL) (unhide HB))).mono ?_; rw [← unhide HBB]; rintro e w2 ⟨rfl, rfl⟩))
    go_ret2
    exact ⟨rfl, unhide HB⟩
  by_cases q3 : (n : Int) ≤ vote
  · clear h
    go_enter Tryz.func17, Tryz.ntmps17
    go_wp2_with (first | (go_at_call 12; refine (refOpen_ok id n _ (unhide H0).1 (unhide H0).2.1 (unhide H0).2.2.1 (unhide H0).2.2.2).mono ?_; rintro e w1 ⟨rfl, hR, hb1⟩; have HB := hide (below_trans (below_alloc w _) hb1); have hwb := (hb1.block w.heap.size (by simp)).trans (heap_alloc_new w _); have d0 : w1.cell? ⟨w.heap.size, 0, none⟩ = some (.int .i64 term) := cell_of_row w1 w.heap.size 0 _ _ _ hwb; have d1 : w1.cell? ⟨w.heap.size, 1, none⟩ = some (.int .i64 vote) := cell_of_row w1 w.heap.size 1 _ _ _ hwb; have d2 : w1.cell? ⟨w.heap.size, 2, none⟩ = some (.slice ao es.length cap) := cell_of_row w1 w.heap.size 2 _ _ _ hwb; clear hR hb1 hwb) | (go_at_call 24; refine (rightEntries_any _ es 1 term _ hlen (by decide) (by exact ents_below (unhide HL) (unhide HB))).mono ?_; rw [← unhide HBB]; rintro e w2 ⟨rfl, rfl⟩))
    go_ret2
    exact ⟨rfl, unhide HB⟩
  by_cases q4 : 60 < (es.length : Int)
  · clear h
    go_enter Tryz.func17, Tryz.ntmps17
    go_wp2_with (first | (go_at_call 12; refine (refOpen_ok id n _ (unhide H0).1 (unhide H0).2.1 (unhide H0).2.2.1 (unhide H0).2.2.2).mono ?_; rintro e w1 ⟨rfl, hR, hb1⟩; have HB := hide (below_trans (below_alloc w _) hb1); have hwb := (hb1.block w.heap.size (by simp)).trans (heap_alloc_new w _); have d0 : w1.cell? ⟨w.heap.size, 0, none⟩ = some (.int .i64 term) := cell_of_row w1 w.heap.size 0 _ _ _ hwb; have d1 : w1.cell? ⟨w.heap.size, 1, none⟩ = some (.int .i64 vote) := cell_of_row w1 w.heap.size 1 _ _ _ hwb; have d2 : w1.cell? ⟨w.heap.size, 2, none⟩ = some (.slice ao es.length cap) := cell_of_row w1 w.heap.size 2 _ _ _ hwb; clear hR hb1 hwb) | (go_at_call 24; refine (rightEntries_any _ es 1 term _ hlen (by decide) (by exact ents_below (unhide HL) (unhide HB))).mono ?_; rw [← unhide HBB]; rintro e w2 ⟨rfl, rfl⟩))
    go_ret2
    exact ⟨rfl, unhide HB⟩
  have q5 : bb = false := by
    rcases h with h | h | h | h | h | h
    · exact absurd h q0
    · exact absurd h q1
    · exact absurd h q2
    · exact absurd h q3
    · exact absurd h q4
    · exact h
  subst q5
  clear h
  go_enter Tryz.func17, Tryz.ntmps17
  go_wp2_with (first | (go_at_call 12; refine (refOpen_ok id n _ (unhide H0).1 (unhide H0).2.1 (unhide H0).2.2.1 (unhide H0).2.2.2).mono ?_; rintro e w1 ⟨rfl, hR, hb1⟩; have HB := hide (below_trans (below_alloc w _) hb1); have hwb := (hb1.block w.heap.size (by simp)).trans (heap_alloc_new w _); have d0 : w1.cell? ⟨w.heap.size, 0, none⟩ = some (.int .i64 term) := cell_of_row w1 w.heap.size 0 _ _ _ hwb; have d1 : w1.cell? ⟨w.heap.size, 1, none⟩ = some (.int .i64 vote) := cell_of_row w1 w.heap.size 1 _ _ _ hwb; have d2 : w1.cell? ⟨w.heap.size, 2, none⟩ = some (.slice ao es.length cap) := cell_of_row w1 w.heap.size 2 _ _ _ hwb; clear hR hb1 hwb) | (go_at_call 24; refine (rightEntries_any _ es 1 term _ hlen (by decide) (by exact ents_below (unhide HL) (unhide HB))).mono ?_; rw [← unhide HBB]; rintro e w2 ⟨rfl, rfl⟩))
  go_ret2
  exact ⟨rfl, unhide HB⟩

/-- Behind a Restart that gives a node. -/
def RefMade (id n term vote : Int) (es : List Ent) (w : World) (e : Ending) (w' : World) : Prop :=
  ∃ rb v g nx mt hd, e = .returned (.tuple #[.pointer (some ⟨rb, 0, none⟩), .int .i64 0]) ∧ w.heap.size ≤ rb ∧ RefBlk w' rb (rnRestart id n term vote v g nx mt hd) ∧ w'.ownsRow w.heap.size 66 2 v es.length (eC es) ∧ Below w.heap.size w w'

/-- The new log does not lie where the node lies. -/
theorem ref_own {B rb : Nat} {W w' : World} {r : RN} {v u : Value} {n : Nat} {xs : List Value} (h : w'.ownsRow B 66 2 v n xs) (hb : Below W.heap.size W w') (hR : RefBlk W rb r) : (w'.setCell ⟨rb, 4, none⟩ u).ownsRow B 66 2 v n xs := by
  refine owns_kept h fun x hx => Below.heap_setCell _ _ _ _ fun e => ?_
  simp only at e
  subst e
  have h1 := hR.below hb
  rcases h.2 with ⟨rfl, _⟩ | ⟨g, cap, cur, rfl, _, hg, _⟩
  · simp [Value.ownBlock] at hx
  · simp [Value.ownBlock] at hx
    subst hx
    unfold RefBlk at h1
    rw [hg] at h1
    simp at h1

set_option maxRecDepth 100000 in
set_option maxHeartbeats 2000000 in
theorem refRestart_ok (id : Int) (n : Nat) (term vote : Int) (lv : Value) (es : List Ent) (w : World) (hn1 : 1 ≤ n) (hn2 : n ≤ 7) (h0 : 0 ≤ id) (h1 : id < n) (hl : EntsIn w lv es) (h : ¬ BadSaved term vote n es) :
    Calls Tryz.prog 17 #[.int .i64 id, .int .i64 n, .agg #[.int .i64 term, .int .i64 vote, lv]] w fun e w' => RefMade id n term vote es w e w' := by
  have p0 : ¬ term < 0 := fun q => h (.inl q)
  have p1 : ¬ 1000000 < term := fun q => h (.inr (.inl q))
  have p2 : ¬ vote < -1 := fun q => h (.inr (.inr (.inl q)))
  have p3 : ¬ (n : Int) ≤ vote := fun q => h (.inr (.inr (.inr (.inl q))))
  have p4 : ¬ 60 < (es.length : Int) := fun q => h (.inr (.inr (.inr (.inr (.inl q)))))
  have p5 : okE es 1 term = true := by
    cases hb : okE es 1 term with
    | true => rfl
    | false => exact absurd (.inr (.inr (.inr (.inr (.inr hb))))) h
  have hlen : es.length < 4611686018427387904 := by omega
  have HL := hide hl
  obtain ⟨ao, cap, rfl, hl1, hl2⟩ := hl
  clear hl1 hl2
  have HBB := hide p5
  have H0 := hide (And.intro hn1 (And.intro hn2 (And.intro h0 h1)))
  clear hn1 hn2 h0 h1 h p5
  go_enter Tryz.func17, Tryz.ntmps17
  go_wp2_with (first | (go_at_call 12; refine (refOpen_ok id n _ (unhide H0).1 (unhide H0).2.1 (unhide H0).2.2.1 (unhide H0).2.2.2).mono ?_; rintro e w1 ⟨rfl, ⟨gg, nx, mt, hd, hR⟩, hb1⟩; have HB := hide (below_trans (below_alloc w _) hb1); have hwb := (hb1.block w.heap.size (by simp)).trans (heap_alloc_new w _); have d0 : w1.cell? ⟨w.heap.size, 0, none⟩ = some (.int .i64 term) := cell_of_row w1 w.heap.size 0 _ _ _ hwb; have d1 : w1.cell? ⟨w.heap.size, 1, none⟩ = some (.int .i64 vote) := cell_of_row w1 w.heap.size 1 _ _ _ hwb; have d2 : w1.cell? ⟨w.heap.size, 2, none⟩ = some (.slice ao es.length cap) := cell_of_row w1 w.heap.size 2 _ _ _ hwb; simp only [size_alloc1] at hR; have e2 := hR.c2; have e3 := hR.c3; have e4 := hR.c4; have f2 := hR.free 2; have f3 := hR.free 3; have f4 := hR.free 4; replace hR := hide hR; clear hb1 hwb) | (go_at_call 24; refine (rightEntries_any _ es 1 term _ hlen (by decide) (by exact ents_below (unhide HL) (unhide HB))).mono ?_; rw [unhide HBB]; rintro e w2 ⟨rfl, rfl⟩))
  have hg2 := (unhide hR).set 2 (.int .i64 term)
  have hR2 : RefBlk (w2.setCell ⟨w.heap.size + 1, 2, none⟩ (.int .i64 term)) (w.heap.size + 1) { rnOpen id n gg nx mt hd with term := term } := hg2
  have hR3 : RefBlk ((w2.setCell ⟨w.heap.size + 1, 2, none⟩ (.int .i64 term)).setCell ⟨w.heap.size + 1, 3, none⟩ (.int .i64 vote)) (w.heap.size + 1) { rnOpen id n gg nx mt hd with term := term, vote := vote } := hR2.set 3 (.int .i64 vote)
  have hB3 := ((unhide HB).setCell (p := ⟨w.heap.size + 1, 2, none⟩) (by simp) (.int .i64 term)).setCell (p := ⟨w.heap.size + 1, 3, none⟩) (by simp) (.int .i64 vote)
  have k2 : ((w2.setCell ⟨w.heap.size + 1, 2, none⟩ (.int .i64 term)).setCell ⟨w.heap.size + 1, 3, none⟩ (.int .i64 vote)).cell? ⟨w.heap.size, 2, none⟩ = some (.slice ao es.length cap) := by
    rw [World.cell?_setCell_other _ _ _ _ (by simp), World.cell?_setCell_other _ _ _ _ (by simp)]; exact d2
  have k4 := hR3.c4
  have hz4 := hR3.free 4
  have HSRC := hide (src_of_ents (ents_below (unhide HL) hB3))
  replace hR3 := hide hR3
  replace hB3 := hide hB3
  clear hg2 hR2 d0 d1 d2 e2 e3 e4 f2 f3 f4
  generalize (w2.setCell ⟨w.heap.size + 1, 2, none⟩ (.int .i64 term)).setCell ⟨w.heap.size + 1, 3, none⟩ (.int .i64 vote) = W3 at *
  simp only [rnOpen] at k4
  obtain ⟨i0, hi, hz0, hz1, hz2⟩ := info_parts infoEntry
  have hszW : w.heap.size ≤ W3.drew.heap.size := (unhide hB3).size
  go_region_law (first | (refine step_append_src (by rfl) (.tmp 68) (.tmp 70) 22 (by rfl) w.heap.size 66 i0 _ 2 24 Tryz.underlying22 hi hz0 hz1 hz2 rfl (by decide) (.slice none 0 0) 0 [] (by rfl) (World.ownsRow_nil W3.drew w.heap.size 66 2) _ es.length (eC es) (by rfl) (eC_length es) (unhide HSRC) (eC_one es) (by unfold maxLen; omega) (by omega) hszW ?_; intro v' w4 hown4' hgrow4; have hown4 : w4.ownsRow w.heap.size 66 2 v' es.length (eC es) := (by simpa using hown4'); clear hown4'; obtain ⟨vo, vc, rfl⟩ := owns_form hown4; have hb4 := (Below.refl W3.heap.size W3).grown (w' := w4) ⟨hgrow4.os, hgrow4.tape, hgrow4.output, hgrow4.size, hgrow4.block⟩ (Nat.le_refl _) (by intro k hk; simp [Value.ownBlock] at hk); have k5 := (hb4.cell (p := ⟨w.heap.size + 1, 4, none⟩) (unhide hR3).lt).trans k4; have z5 := (hb4.frozen (p := ⟨w.heap.size + 1, 4, none⟩) (unhide hR3).lt).trans hz4; replace hb4 := hide hb4; replace hown4 := hide hown4; clear hgrow4))
  all_goals go_wp2
  all_goals go_ret2
  all_goals exact ⟨w.heap.size + 1, .slice vo es.length vc, gg, nx, mt, hd, rfl, by omega, ((unhide hR3).below (unhide hb4)).set 4 (.slice vo es.length vc), ref_own (unhide hown4) (unhide hb4) (unhide hR3), ((unhide hB3).trans ((unhide hb4).mono (unhide hB3).size)).setCell (p := ⟨w.heap.size + 1, 4, none⟩) (by simp) _⟩

end Go.Proofs.YteiecbkfganhnaaGreat
