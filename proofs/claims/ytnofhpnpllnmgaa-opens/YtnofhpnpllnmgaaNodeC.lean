/- The program's node: Status. -/
import Derived.Test.YtnofhpnpllnmgaaNodeB
namespace Go.Proofs.Ytnofhpnpllnmgaa
open Go.RowKit Go.MuLone

set_option maxRecDepth 100000 in
set_option maxHeartbeats 2000000 in
theorem status_any (nb : Nat) (c : CN) (vo : Option Addr) (n vc : Nat) (w : World) (h : NodeBlk w nb c) (hl : c.log = .slice vo n vc) :
    Calls Try.prog 46 #[.pointer (some ⟨nb, 0, none⟩)] w fun e w' => e = .returned (.agg #[.int .i64 c.role, .int .i64 c.term, .int .i64 c.leads, .int .i64 c.commit, .int .i64 n]) ∧ Below w.heap.size w w' := by
  have c0 := h.c0
  have f0 := h.free 0
  have hlt := h.lt
  have H := hide h
  have hne : ¬ nb = w.heap.size := by omega
  have HA : Hid (NodeBlk (w.alloc (Obj.cells #[.int .i64 0, .int .i64 0, .int .i64 0, .int .i64 0, .int .i64 0] 104)) nb c) := heap_under h _
  have HL := hide hl
  clear h hl
  go_enter_defers Try.func46, Try.ntmps46
  go_wp2_with (go_at_call 58; go_must (refine (lock_free muLib ⟨nb, 0, none⟩ _ (unhide HA).c0 ((unhide HA).free 0)).mono ?_); rintro e w' ⟨rfl, rfl⟩)
  have hHW : HeldBlk ((w.setCell ⟨nb, 0, none⟩ (.int .i32 1)).alloc (Obj.cells #[.int .i64 0, .int .i64 0, .int .i64 0, .int .i64 0, .int .i64 0] 104)) nb c := heap_under (unhide H).held _
  have hsz : (w.setCell ⟨nb, 0, none⟩ (.int .i32 1)).heap.size = w.heap.size := by simp [World.setCell]
  have hbW : Below w.heap.size (w.setCell ⟨nb, 0, none⟩ (.int .i32 1)) ((w.setCell ⟨nb, 0, none⟩ (.int .i32 1)).alloc (Obj.cells #[.int .i64 0, .int .i64 0, .int .i64 0, .int .i64 0, .int .i64 0] 104)) := by rw [← hsz]; exact below_alloc _ _
  have hwb := heap_alloc_new (w.setCell ⟨nb, 0, none⟩ (.int .i32 1)) (Obj.cells #[.int .i64 0, .int .i64 0, .int .i64 0, .int .i64 0, .int .i64 0] 104)
  rw [hsz] at hwb
  generalize (w.setCell ⟨nb, 0, none⟩ (.int .i32 1)).alloc (Obj.cells #[.int .i64 0, .int .i64 0, .int .i64 0, .int .i64 0, .int .i64 0] 104) = W at *
  have d0 : W.cell? ⟨w.heap.size, 0, none⟩ = some (.int .i64 0) := cell_of_row W w.heap.size 0 _ _ _ hwb
  have d1 : W.cell? ⟨w.heap.size, 1, none⟩ = some (.int .i64 0) := cell_of_row W w.heap.size 1 _ _ _ hwb
  have d2 : W.cell? ⟨w.heap.size, 2, none⟩ = some (.int .i64 0) := cell_of_row W w.heap.size 2 _ _ _ hwb
  have d3 : W.cell? ⟨w.heap.size, 3, none⟩ = some (.int .i64 0) := cell_of_row W w.heap.size 3 _ _ _ hwb
  have d4 : W.cell? ⟨w.heap.size, 4, none⟩ = some (.int .i64 0) := cell_of_row W w.heap.size 4 _ _ _ hwb
  have x0 := frozen_of_row W w.heap.size 0 _ _ hwb
  have x1 := frozen_of_row W w.heap.size 1 _ _ hwb
  have x2 := frozen_of_row W w.heap.size 2 _ _ hwb
  have x3 := frozen_of_row W w.heap.size 3 _ _ hwb
  have x4 := frozen_of_row W w.heap.size 4 _ _ hwb
  have e4 : W.cell? ⟨nb, 4, none⟩ = some (.int .i64 c.term) := cell_of_row W nb 4 _ _ _ hHW
  have e6 : W.cell? ⟨nb, 6, none⟩ = some (.slice vo n vc) := by rw [← unhide HL]; exact cell_of_row W nb 6 _ _ _ hHW
  have e7 : W.cell? ⟨nb, 7, none⟩ = some (.int .i64 c.role) := cell_of_row W nb 7 _ _ _ hHW
  have e8 : W.cell? ⟨nb, 8, none⟩ = some (.int .i64 c.leads) := cell_of_row W nb 8 _ _ _ hHW
  have e9 : W.cell? ⟨nb, 9, none⟩ = some (.int .i64 c.commit) := cell_of_row W nb 9 _ _ _ hHW
  have HBW := hide hbW
  have HWB := hide hwb
  have hne2 : w.heap.size ≠ nb := fun h => hne h.symm
  clear c0 f0 HA HL hHW hsz hbW hwb
  go_region_held3 (fun w' => w'.cell? ⟨nb, 4, none⟩ = some (.int .i64 c.term) ∧ w'.cell? ⟨nb, 6, none⟩ = some (.slice vo n vc) ∧ w'.cell? ⟨nb, 7, none⟩ = some (.int .i64 c.role) ∧ w'.cell? ⟨nb, 8, none⟩ = some (.int .i64 c.leads) ∧ w'.cell? ⟨nb, 9, none⟩ = some (.int .i64 c.commit)) (first | go_keep | (simp only [cell_ne hne2]; exact ⟨e4, e6, e7, e8, e9⟩)) (fail)
  all_goals go_wp2
  all_goals
    have h0 := heap_setCell_same _ w.heap.size 0 _ _ (.int .i64 0) (unhide HWB)
    have h1 := heap_setCell_same _ w.heap.size 1 _ _ (.int .i64 0) h0
    have h2 := heap_setCell_same _ w.heap.size 2 _ _ (.int .i64 0) h1
    have h3 := heap_setCell_same _ w.heap.size 3 _ _ (.int .i64 0) h2
    have h4 := heap_setCell_same _ w.heap.size 4 _ _ (.int .i64 0) h3
    have h5 := heap_setCell_same _ w.heap.size 0 _ _ (.int .i64 c.role) h4
    have h6 := heap_setCell_same _ w.heap.size 1 _ _ (.int .i64 c.term) h5
    have h7 := heap_setCell_same _ w.heap.size 2 _ _ (.int .i64 c.leads) h6
    have h8 := heap_setCell_same _ w.heap.size 3 _ _ (.int .i64 c.commit) h7
    have h9 := heap_setCell_same _ w.heap.size 4 _ _ (.int .i64 (n : Int)) h8
    have hb9 := (((((((((((unhide HBW).setCell (p := ⟨w.heap.size, 0, none⟩) (Nat.le_refl _) (.int .i64 0)).setCell (p := ⟨w.heap.size, 1, none⟩) (Nat.le_refl _) (.int .i64 0)).setCell (p := ⟨w.heap.size, 2, none⟩) (Nat.le_refl _) (.int .i64 0)).setCell (p := ⟨w.heap.size, 3, none⟩) (Nat.le_refl _) (.int .i64 0)).setCell (p := ⟨w.heap.size, 4, none⟩) (Nat.le_refl _) (.int .i64 0)).setCell (p := ⟨w.heap.size, 0, none⟩) (Nat.le_refl _) (.int .i64 c.role)).setCell (p := ⟨w.heap.size, 1, none⟩) (Nat.le_refl _) (.int .i64 c.term)).setCell (p := ⟨w.heap.size, 2, none⟩) (Nat.le_refl _) (.int .i64 c.leads)).setCell (p := ⟨w.heap.size, 3, none⟩) (Nat.le_refl _) (.int .i64 c.commit)).setCell (p := ⟨w.heap.size, 4, none⟩) (Nat.le_refl _) (.int .i64 (n : Int)))
    clear h0 h1 h2 h3 h4 h5 h6 h7 h8
    replace h9 : ((((((((((W.setCell ⟨w.heap.size, 0, none⟩ (.int .i64 0)).setCell ⟨w.heap.size, 1, none⟩ (.int .i64 0)).setCell ⟨w.heap.size, 2, none⟩ (.int .i64 0)).setCell ⟨w.heap.size, 3, none⟩ (.int .i64 0)).setCell ⟨w.heap.size, 4, none⟩ (.int .i64 0)).setCell ⟨w.heap.size, 0, none⟩ (.int .i64 c.role)).setCell ⟨w.heap.size, 1, none⟩ (.int .i64 c.term)).setCell ⟨w.heap.size, 2, none⟩ (.int .i64 c.leads)).setCell ⟨w.heap.size, 3, none⟩ (.int .i64 c.commit)).setCell ⟨w.heap.size, 4, none⟩ (.int .i64 (n : Int))).heap[w.heap.size]? = some (.cells #[.int .i64 c.role, .int .i64 c.term, .int .i64 c.leads, .int .i64 c.commit, .int .i64 (n : Int)] 104 (0, 0)) := h9
    generalize ((((((((((W.setCell ⟨w.heap.size, 0, none⟩ (.int .i64 0)).setCell ⟨w.heap.size, 1, none⟩ (.int .i64 0)).setCell ⟨w.heap.size, 2, none⟩ (.int .i64 0)).setCell ⟨w.heap.size, 3, none⟩ (.int .i64 0)).setCell ⟨w.heap.size, 4, none⟩ (.int .i64 0)).setCell ⟨w.heap.size, 0, none⟩ (.int .i64 c.role)).setCell ⟨w.heap.size, 1, none⟩ (.int .i64 c.term)).setCell ⟨w.heap.size, 2, none⟩ (.int .i64 c.leads)).setCell ⟨w.heap.size, 3, none⟩ (.int .i64 c.commit)).setCell ⟨w.heap.size, 4, none⟩ (.int .i64 (n : Int))) = W10 at *
    have hlk := lock_below (w1 := W10.drew) (unhide H) hb9.drew
    have h10 : (W10.drew.setCell ⟨nb, 0, none⟩ (.int .i32 0)).heap[w.heap.size]? = some (.cells #[.int .i64 c.role, .int .i64 c.term, .int .i64 c.leads, .int .i64 c.commit, .int .i64 (n : Int)] 104 (0, 0)) := (Below.heap_setCell W10.drew _ _ _ hne2).trans h9
    refine leaves_cons (f := 59) (args := #[.pointer (some ⟨nb, 0, none⟩)]) (by simp) (by simp [go_sem]) ?_
    refine (unlock_deferred muLib ⟨nb, 0, none⟩ .returning _ hlk.1.c0 (hlk.1.free 0)).mono ?_
    rintro e u' w'' ⟨rfl, rfl, rfl⟩
    exact ⟨_, results_cell_row Try.results46 _ _ w.heap.size _ _ _ _ rfl h10 Try.underlying104 rfl (by kernel_rfl), rfl, hlk.2⟩

end Go.Proofs.Ytnofhpnpllnmgaa
