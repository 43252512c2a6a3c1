/- The program's node: Patience, Saved, Status. -/
import Derived.Test.YteiecbkfganhnaaNodeA
namespace Go.Proofs.Yteiecbkfganhnaa
open Go.RowKit Go.MuLone

set_option maxRecDepth 100000 in
set_option maxHeartbeats 1000000 in
theorem patience_no (nb : Nat) (t : Int) (w : World) (h1 : t < 1 ∨ 40 < t) :
    Calls Try.prog 11 #[.pointer (some ⟨nb, 0, none⟩), .int .i64 t] w fun e w' => e = .returned (.int .i64 6) ∧ w' = w := by
  by_cases h : t < 1
  · clear h1
    go_enter_defers Try.func11, Try.ntmps11
    go_wp2
    exact ⟨_, results_tmp rfl _ _ _, rfl, rfl⟩
  · have h2 : 40 < t := by omega
    clear h1
    go_enter_defers Try.func11, Try.ntmps11
    go_wp2
    exact ⟨_, results_tmp rfl _ _ _, rfl, rfl⟩

set_option maxRecDepth 100000 in
set_option maxHeartbeats 1000000 in
theorem patience_ok (nb : Nat) (s : Nd) (lv : Value) (t : Int) (w : World) (h : NB 0 w nb s lv) (h1 : 1 ≤ t) (h2 : t ≤ 40) :
    Calls Try.prog 11 #[.pointer (some ⟨nb, 0, none⟩), .int .i64 t] w fun e w' => e = .returned (.int .i64 0) ∧ w' = ((w.setCell ⟨nb, 0, none⟩ (.int .i32 1)).setCell ⟨nb, 11, none⟩ (.int .i64 t)).setCell ⟨nb, 0, none⟩ (.int .i32 0) := by
  have c0 := h.c0
  have f0 := h.free 0
  have c11 := h.c11
  have f11 := h.free 11
  have HH := hide (h.setMu 1)
  clear h
  go_enter_defers Try.func11, Try.ntmps11
  go_wp2_with (go_at_call 27; refine (lock_free muLib ⟨nb, 0, none⟩ _ c0 f0).mono ?_; rintro e w' ⟨rfl, rfl⟩)
  refine leaves_cons (f := 28) (args := #[.pointer (some ⟨nb, 0, none⟩)]) (by simp) (by simp [go_sem]) ?_
  refine (unlock_deferred muLib ⟨nb, 0, none⟩ .returning _ ((unhide HH).setPat t).c0 (((unhide HH).setPat t).free 0)).mono ?_
  rintro e u' w'' ⟨rfl, rfl, rfl⟩
  exact ⟨_, results_tmp rfl _ _ _, rfl, rfl⟩

/-- Behind a call that only reads under the lock all is as it was. -/
theorem lock_below {w w1 : World} {nb : Nat} {s : Nd} {lv : Value} (h : NB 0 w nb s lv) (hb : Below w.heap.size (w.setCell ⟨nb, 0, none⟩ (.int .i32 1)) w1) :
    NB 1 w1 nb s lv ∧ Below w.heap.size w (w1.setCell ⟨nb, 0, none⟩ (.int .i32 0)) := by
  have h1 : NB 1 w1 nb s lv := (hb.block nb h.lt).trans (h.setMu 1)
  refine ⟨h1, hb.os, hb.tape, hb.output, ?_, fun k hk => ?_⟩
  · have := hb.size
    simpa [World.setCell] using this
  · by_cases hkn : k = nb
    · subst hkn
      exact (h1.setMu 0).trans h.symm
    · rw [Below.heap_setCell _ _ _ _ (by simpa using hkn), hb.block k hk, Below.heap_setCell _ _ _ _ (by simpa using hkn)]

theorem cell_ne {b nb : Nat} (h : b ≠ nb) (w : World) (o o' : Nat) (v : Value) : (w.setCell ⟨b, o, none⟩ v).cell? ⟨nb, o', none⟩ = w.cell? ⟨nb, o', none⟩ :=
  World.cell?_setCell_other _ _ _ _ (fun he => h (by simpa using congrArg Addr.block he))

theorem ents_lock {w : World} {v : Value} {es : List Ent} {nb : Nat} (h : EntsIn w v es) (hc : w.cell? ⟨nb, 0, none⟩ = some (.int .i32 0)) (u : Value) : EntsIn (w.setCell ⟨nb, 0, none⟩ u) v es := by
  obtain ⟨ao, cap, hv, h0, he⟩ := h
  refine ⟨ao, cap, hv, h0, fun k e hk => ?_⟩
  obtain ⟨b, off, ha, h1, h2⟩ := he k e hk
  refine ⟨b, off, ha, ?_, ?_⟩
  · rw [World.cell?_setCell_other _ _ _ _ (fun heq => ?_)]
    · exact h1
    · rw [← heq, hc] at h1; simp at h1
  · rw [World.cell?_setCell_other _ _ _ _ (fun heq => ?_)]
    · exact h2
    · rw [← heq, hc] at h2; simp at h2

set_option maxRecDepth 100000 in
set_option maxHeartbeats 1000000 in
theorem saved_any (nb : Nat) (s : Nd) (lv : Value) (es : List Ent) (w : World) (h : NB 0 w nb s lv) (hl : EntsIn w lv es) (hn : es.length ≤ 60) (hs : ∀ e ∈ es, e.2.size ≤ 20) :
    Calls Try.prog 24 #[.pointer (some ⟨nb, 0, none⟩)] w fun e w' => ∃ v, e = .returned (.agg #[.int .i64 s.term, .int .i64 s.vote, v]) ∧ w'.ownsRow w.heap.size 78 2 v es.length (eC es) ∧ Below w.heap.size w w' := by
  have c0 := h.c0
  have f0 := h.free 0
  have c4 := h.c4
  have c5 := h.c5
  have c6 := h.c6
  have hlt := h.lt
  have H := hide h
  have HL := hide hl
  have HSZ := hide hs
  clear h hl hs
  have HA : Hid (NB 0 (w.alloc (Obj.cells #[.int .i64 0, .int .i64 0, .slice none 0 0] 58)) nb s lv) := heap_under (unhide H) _
  have hne : ¬ nb = w.heap.size := by omega
  go_enter_defers Try.func24, Try.ntmps24
  go_wp2_with (go_at_call 27; go_must (refine (lock_free muLib ⟨nb, 0, none⟩ _ (unhide HA).c0 ((unhide HA).free 0)).mono ?_); rintro e w' ⟨rfl, rfl⟩)
  have hHW : NB 1 ((w.setCell ⟨nb, 0, none⟩ (.int .i32 1)).alloc (Obj.cells #[.int .i64 0, .int .i64 0, .slice none 0 0] 58)) nb s lv := heap_under ((unhide H).setMu 1) _
  have hsz : (w.setCell ⟨nb, 0, none⟩ (.int .i32 1)).heap.size = w.heap.size := by simp [World.setCell]
  have hbW : Below w.heap.size (w.setCell ⟨nb, 0, none⟩ (.int .i32 1)) ((w.setCell ⟨nb, 0, none⟩ (.int .i32 1)).alloc (Obj.cells #[.int .i64 0, .int .i64 0, .slice none 0 0] 58)) := by rw [← hsz]; exact below_alloc _ _
  have hwb := heap_alloc_new (w.setCell ⟨nb, 0, none⟩ (.int .i32 1)) (Obj.cells #[.int .i64 0, .int .i64 0, .slice none 0 0] 58)
  rw [hsz] at hwb
  have hEW : EntsIn ((w.setCell ⟨nb, 0, none⟩ (.int .i32 1)).alloc (Obj.cells #[.int .i64 0, .int .i64 0, .slice none 0 0] 58)) lv es := ents_below (ents_lock (unhide HL) c0 _) (below_alloc _ _)
  generalize (w.setCell ⟨nb, 0, none⟩ (.int .i32 1)).alloc (Obj.cells #[.int .i64 0, .int .i64 0, .slice none 0 0] 58) = W at *
  have d0 : W.cell? ⟨w.heap.size, 0, none⟩ = some (.int .i64 0) := cell_of_row W w.heap.size 0 _ _ _ hwb
  have d1 : W.cell? ⟨w.heap.size, 1, none⟩ = some (.int .i64 0) := cell_of_row W w.heap.size 1 _ _ _ hwb
  have d2 : W.cell? ⟨w.heap.size, 2, none⟩ = some (.slice none 0 0) := cell_of_row W w.heap.size 2 _ _ _ hwb
  have e4 : W.cell? ⟨nb, 4, none⟩ = some (.int .i64 s.term) := cell_of_row W nb 4 _ _ _ hHW
  have e5 : W.cell? ⟨nb, 5, none⟩ = some (.int .i64 s.vote) := cell_of_row W nb 5 _ _ _ hHW
  have e6 : W.cell? ⟨nb, 6, none⟩ = some lv := cell_of_row W nb 6 _ _ _ hHW
  have hlW : w.heap.size < W.heap.size := (Array.getElem?_eq_some_iff.1 hwb).1
  have HBW := hide hbW
  have HWB := hide hwb
  have HEW := hide hEW
  have HLW := hide hlW
  have hne2 : w.heap.size ≠ nb := fun h => hne h.symm
  clear c0 f0 c4 c5 c6 HA HL hHW hsz hbW hwb hEW hlW
  go_region_held3 (fun w' => w'.cell? ⟨nb, 4, none⟩ = some (.int .i64 s.term) ∧ w'.cell? ⟨nb, 5, none⟩ = some (.int .i64 s.vote) ∧ w'.cell? ⟨nb, 6, none⟩ = some lv) (first | go_keep | (simp only [cell_ne hne2]; exact ⟨z4, z5, z6⟩)) (first | (go_at_call 47; refine (copyEntries_any _ es W.drew hn (unhide HSZ) (by exact unhide HEW)).mono ?_; rintro e w3 ⟨v', rfl, hr3, hb3⟩; obtain ⟨vo, vc, rfl⟩ := owns_form hr3; have z4 : w3.cell? ⟨nb, 4, none⟩ = _ := (hb3.cell (p := ⟨nb, 4, none⟩) (block_lt_of_cell e4)).trans e4; have z5 : w3.cell? ⟨nb, 5, none⟩ = _ := (hb3.cell (p := ⟨nb, 5, none⟩) (block_lt_of_cell e5)).trans e5; have z6 : w3.cell? ⟨nb, 6, none⟩ = _ := (hb3.cell (p := ⟨nb, 6, none⟩) (block_lt_of_cell e6)).trans e6; have y0 : w3.cell? ⟨w.heap.size, 0, none⟩ = _ := (hb3.cell (p := ⟨w.heap.size, 0, none⟩) (block_lt_of_cell d0)).trans d0; have y1 : w3.cell? ⟨w.heap.size, 1, none⟩ = _ := (hb3.cell (p := ⟨w.heap.size, 1, none⟩) (block_lt_of_cell d1)).trans d1; have y2 : w3.cell? ⟨w.heap.size, 2, none⟩ = _ := (hb3.cell (p := ⟨w.heap.size, 2, none⟩) (block_lt_of_cell d2)).trans d2; have hw3 := (hb3.block w.heap.size (unhide HLW)).trans (unhide HWB); have x0 := frozen_of_row w3 w.heap.size 0 _ _ hw3; have x1 := frozen_of_row w3 w.heap.size 1 _ _ hw3; have x2 := frozen_of_row w3 w.heap.size 2 _ _ hw3; replace hw3 := hide hw3; replace hr3 := hide hr3; replace hb3 := hide hb3))
  all_goals go_wp2
  all_goals
    have h1 := heap_setCell_same _ w.heap.size 0 _ _ (.int .i64 0) (unhide hw3)
    have h2 := heap_setCell_same _ w.heap.size 1 _ _ (.int .i64 0) h1
    have h3 := heap_setCell_same _ w.heap.size 2 _ _ (.slice none 0 0) h2
    have h4 := heap_setCell_same _ w.heap.size 0 _ _ (.int .i64 s.term) h3
    have h5 := heap_setCell_same _ w.heap.size 1 _ _ (.int .i64 s.vote) h4
    have h6 := heap_setCell_same _ w.heap.size 2 _ _ (.slice vo es.length vc) h5
    have hb4 := (unhide HBW).trans ((Below.undrew (unhide hb3)).mono (Nat.le_of_lt (unhide HLW)))
    have hb6 := (((((hb4.setCell (p := ⟨w.heap.size, 0, none⟩) (Nat.le_refl _) (.int .i64 0)).setCell (p := ⟨w.heap.size, 1, none⟩) (Nat.le_refl _) (.int .i64 0)).setCell (p := ⟨w.heap.size, 2, none⟩) (Nat.le_refl _) (.slice none 0 0)).setCell (p := ⟨w.heap.size, 0, none⟩) (Nat.le_refl _) (.int .i64 s.term)).setCell (p := ⟨w.heap.size, 1, none⟩) (Nat.le_refl _) (.int .i64 s.vote)).setCell (p := ⟨w.heap.size, 2, none⟩) (Nat.le_refl _) (.slice vo es.length vc)
    have hlk := lock_below (unhide H) hb6
    have hlw : w.heap.size < W.drew.heap.size := unhide HLW
    have ho6 := owns_set (owns_set (owns_set (owns_set (owns_set (owns_set (owns_set (unhide hr3) (a := ⟨w.heap.size, 0, none⟩) hlw (.int .i64 0)) (a := ⟨w.heap.size, 1, none⟩) hlw (.int .i64 0)) (a := ⟨w.heap.size, 2, none⟩) hlw (.slice none 0 0)) (a := ⟨w.heap.size, 0, none⟩) hlw (.int .i64 s.term)) (a := ⟨w.heap.size, 1, none⟩) hlw (.int .i64 s.vote)) (a := ⟨w.heap.size, 2, none⟩) hlw (.slice vo es.length vc)) (a := ⟨nb, 0, none⟩) (Nat.lt_trans hlt hlw) (.int .i32 0)
    refine leaves_cons (f := 28) (args := #[.pointer (some ⟨nb, 0, none⟩)]) (by simp) (by simp [go_sem]) ?_
    refine (unlock_deferred muLib ⟨nb, 0, none⟩ .returning _ hlk.1.c0 (hlk.1.free 0)).mono ?_
    rintro e u' w'' ⟨rfl, rfl, rfl⟩
    exact ⟨_, results_cell_row Try.results24 _ _ w.heap.size _ _ _ _ rfl ((Below.heap_setCell _ _ _ _ hne2).trans h6) Try.underlying58 rfl (by kernel_rfl), _, rfl, owns_base ho6 (Nat.le_of_lt hlw), hlk.2⟩

set_option maxRecDepth 100000 in
set_option maxHeartbeats 2000000 in
theorem status_any (nb : Nat) (s : Nd) (lv : Value) (vo : Option Addr) (n vc : Nat) (w : World) (h : NB 0 w nb s lv) (hl : lv = .slice vo n vc) :
    Calls Try.prog 10 #[.pointer (some ⟨nb, 0, none⟩)] w fun e w' => e = .returned (.agg #[.int .i64 s.role, .int .i64 s.term, .int .i64 s.leads, .int .i64 (s.commit : Int), .int .i64 n]) ∧ Below w.heap.size w w' := by
  have c0 := h.c0
  have f0 := h.free 0
  have hlt := h.lt
  have H := hide h
  have hne : ¬ nb = w.heap.size := by omega
  have HA : Hid (NB 0 (w.alloc (Obj.cells #[.int .i64 0, .int .i64 0, .int .i64 0, .int .i64 0, .int .i64 0] 35)) nb s lv) := heap_under h _
  have HL := hide hl
  clear h hl
  go_enter_defers Try.func10, Try.ntmps10
  go_wp2_with (go_at_call 27; go_must (refine (lock_free muLib ⟨nb, 0, none⟩ _ (unhide HA).c0 ((unhide HA).free 0)).mono ?_); rintro e w' ⟨rfl, rfl⟩)
  have hHW : NB 1 ((w.setCell ⟨nb, 0, none⟩ (.int .i32 1)).alloc (Obj.cells #[.int .i64 0, .int .i64 0, .int .i64 0, .int .i64 0, .int .i64 0] 35)) nb s lv := heap_under ((unhide H).setMu 1) _
  have hsz : (w.setCell ⟨nb, 0, none⟩ (.int .i32 1)).heap.size = w.heap.size := by simp [World.setCell]
  have hbW : Below w.heap.size (w.setCell ⟨nb, 0, none⟩ (.int .i32 1)) ((w.setCell ⟨nb, 0, none⟩ (.int .i32 1)).alloc (Obj.cells #[.int .i64 0, .int .i64 0, .int .i64 0, .int .i64 0, .int .i64 0] 35)) := by rw [← hsz]; exact below_alloc _ _
  have hwb := heap_alloc_new (w.setCell ⟨nb, 0, none⟩ (.int .i32 1)) (Obj.cells #[.int .i64 0, .int .i64 0, .int .i64 0, .int .i64 0, .int .i64 0] 35)
  rw [hsz] at hwb
  generalize (w.setCell ⟨nb, 0, none⟩ (.int .i32 1)).alloc (Obj.cells #[.int .i64 0, .int .i64 0, .int .i64 0, .int .i64 0, .int .i64 0] 35) = W at *
  have d0 : W.cell? ⟨w.heap.size, 0, none⟩ = some (.int .i64 0) := cell_of_row W w.heap.size 0 _ _ _ hwb
  have d1 : W.cell? ⟨w.heap.size, 1, none⟩ = some (.int .i64 0) := cell_of_row W w.heap.size 1 _ _ _ hwb
  have d2 : W.cell? ⟨w.heap.size, 2, none⟩ = some (.int .i64 0) := cell_of_row W w.heap.size 2 _ _ _ hwb
  have d3 : W.cell? ⟨w.heap.size, 3, none⟩ = some (.int .i64 0) := cell_of_row W w.heap.size 3 _ _ _ hwb
  have d4 : W.cell? ⟨w.heap.size, 4, none⟩ = some (.int .i64 0) := cell_of_row W w.heap.size 4 _ _ _ hwb
  have x0 := frozen_of_row W w.heap.size 0 _ _ hwb
  have x1 := frozen_of_row W w.heap.size 1 _ _ hwb
  have x2 := frozen_of_row W w.heap.size 2 _ _ hwb
  have x3 := frozen_of_row W w.heap.size 3 _ _ hwb
  have x4 := frozen_of_row W w.heap.size 4 _ _ hwb
  have e4 : W.cell? ⟨nb, 4, none⟩ = some (.int .i64 s.term) := cell_of_row W nb 4 _ _ _ hHW
  have e6 : W.cell? ⟨nb, 6, none⟩ = some (.slice vo n vc) := by rw [← unhide HL]; exact cell_of_row W nb 6 _ _ _ hHW
  have e7 : W.cell? ⟨nb, 7, none⟩ = some (.int .i64 s.role) := cell_of_row W nb 7 _ _ _ hHW
  have e8 : W.cell? ⟨nb, 8, none⟩ = some (.int .i64 s.leads) := cell_of_row W nb 8 _ _ _ hHW
  have e9 : W.cell? ⟨nb, 9, none⟩ = some (.int .i64 (s.commit : Int)) := cell_of_row W nb 9 _ _ _ hHW
  have HBW := hide hbW
  have HWB := hide hwb
  have hne2 : w.heap.size ≠ nb := fun h => hne h.symm
  clear c0 f0 HA HL hHW hsz hbW hwb
  go_region_held3 (fun w' => w'.cell? ⟨nb, 4, none⟩ = some (.int .i64 s.term) ∧ w'.cell? ⟨nb, 6, none⟩ = some (.slice vo n vc) ∧ w'.cell? ⟨nb, 7, none⟩ = some (.int .i64 s.role) ∧ w'.cell? ⟨nb, 8, none⟩ = some (.int .i64 s.leads) ∧ w'.cell? ⟨nb, 9, none⟩ = some (.int .i64 (s.commit : Int))) (first | go_keep | (simp only [cell_ne hne2]; exact ⟨e4, e6, e7, e8, e9⟩)) (fail)
  all_goals go_wp2
  all_goals
    have h0 := heap_setCell_same _ w.heap.size 0 _ _ (.int .i64 0) (unhide HWB)
    have h1 := heap_setCell_same _ w.heap.size 1 _ _ (.int .i64 0) h0
    have h2 := heap_setCell_same _ w.heap.size 2 _ _ (.int .i64 0) h1
    have h3 := heap_setCell_same _ w.heap.size 3 _ _ (.int .i64 0) h2
    have h4 := heap_setCell_same _ w.heap.size 4 _ _ (.int .i64 0) h3
    have h5 := heap_setCell_same _ w.heap.size 0 _ _ (.int .i64 s.role) h4
    have h6 := heap_setCell_same _ w.heap.size 1 _ _ (.int .i64 s.term) h5
    have h7 := heap_setCell_same _ w.heap.size 2 _ _ (.int .i64 s.leads) h6
    have h8 := heap_setCell_same _ w.heap.size 3 _ _ (.int .i64 (s.commit : Int)) h7
    have h9 := heap_setCell_same _ w.heap.size 4 _ _ (.int .i64 (n : Int)) h8
    have hb9 := (((((((((((unhide HBW).setCell (p := ⟨w.heap.size, 0, none⟩) (Nat.le_refl _) (.int .i64 0)).setCell (p := ⟨w.heap.size, 1, none⟩) (Nat.le_refl _) (.int .i64 0)).setCell (p := ⟨w.heap.size, 2, none⟩) (Nat.le_refl _) (.int .i64 0)).setCell (p := ⟨w.heap.size, 3, none⟩) (Nat.le_refl _) (.int .i64 0)).setCell (p := ⟨w.heap.size, 4, none⟩) (Nat.le_refl _) (.int .i64 0)).setCell (p := ⟨w.heap.size, 0, none⟩) (Nat.le_refl _) (.int .i64 s.role)).setCell (p := ⟨w.heap.size, 1, none⟩) (Nat.le_refl _) (.int .i64 s.term)).setCell (p := ⟨w.heap.size, 2, none⟩) (Nat.le_refl _) (.int .i64 s.leads)).setCell (p := ⟨w.heap.size, 3, none⟩) (Nat.le_refl _) (.int .i64 (s.commit : Int))).setCell (p := ⟨w.heap.size, 4, none⟩) (Nat.le_refl _) (.int .i64 (n : Int)))
    clear h0 h1 h2 h3 h4 h5 h6 h7 h8
    replace h9 : ((((((((((W.setCell ⟨w.heap.size, 0, none⟩ (.int .i64 0)).setCell ⟨w.heap.size, 1, none⟩ (.int .i64 0)).setCell ⟨w.heap.size, 2, none⟩ (.int .i64 0)).setCell ⟨w.heap.size, 3, none⟩ (.int .i64 0)).setCell ⟨w.heap.size, 4, none⟩ (.int .i64 0)).setCell ⟨w.heap.size, 0, none⟩ (.int .i64 s.role)).setCell ⟨w.heap.size, 1, none⟩ (.int .i64 s.term)).setCell ⟨w.heap.size, 2, none⟩ (.int .i64 s.leads)).setCell ⟨w.heap.size, 3, none⟩ (.int .i64 (s.commit : Int))).setCell ⟨w.heap.size, 4, none⟩ (.int .i64 (n : Int))).heap[w.heap.size]? = some (.cells #[.int .i64 s.role, .int .i64 s.term, .int .i64 s.leads, .int .i64 (s.commit : Int), .int .i64 (n : Int)] 35 (0, 0)) := h9
    generalize ((((((((((W.setCell ⟨w.heap.size, 0, none⟩ (.int .i64 0)).setCell ⟨w.heap.size, 1, none⟩ (.int .i64 0)).setCell ⟨w.heap.size, 2, none⟩ (.int .i64 0)).setCell ⟨w.heap.size, 3, none⟩ (.int .i64 0)).setCell ⟨w.heap.size, 4, none⟩ (.int .i64 0)).setCell ⟨w.heap.size, 0, none⟩ (.int .i64 s.role)).setCell ⟨w.heap.size, 1, none⟩ (.int .i64 s.term)).setCell ⟨w.heap.size, 2, none⟩ (.int .i64 s.leads)).setCell ⟨w.heap.size, 3, none⟩ (.int .i64 (s.commit : Int))).setCell ⟨w.heap.size, 4, none⟩ (.int .i64 (n : Int))) = W10 at *
    have hlk := lock_below (w1 := W10.drew) (unhide H) hb9.drew
    have h10 : (W10.drew.setCell ⟨nb, 0, none⟩ (.int .i32 0)).heap[w.heap.size]? = some (.cells #[.int .i64 s.role, .int .i64 s.term, .int .i64 s.leads, .int .i64 (s.commit : Int), .int .i64 (n : Int)] 35 (0, 0)) := (Below.heap_setCell W10.drew _ _ _ hne2).trans h9
    refine leaves_cons (f := 28) (args := #[.pointer (some ⟨nb, 0, none⟩)]) (by simp) (by simp [go_sem]) ?_
    refine (unlock_deferred muLib ⟨nb, 0, none⟩ .returning _ hlk.1.c0 (hlk.1.free 0)).mono ?_
    rintro e u' w'' ⟨rfl, rfl, rfl⟩
    exact ⟨_, results_cell_row Try.results10 _ _ w.heap.size _ _ _ _ rfl h10 Try.underlying35 rfl (by kernel_rfl), rfl, hlk.2⟩

end Go.Proofs.Yteiecbkfganhnaa
