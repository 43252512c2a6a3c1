/- The document's node: what it saves, what it tells of itself. -/
import Derived.Test.YteiecbkfganhnaaGreatRef
import Derived.RegionTactic
import Derived.BigRegion
namespace Go.Proofs.YteiecbkfganhnaaGreat
open Go.RowKit

set_option maxRecDepth 100000 in
set_option maxHeartbeats 1000000 in
theorem refSaved_any (rb : Nat) (r : RN) (es : List Ent) (w : World) (h : RefBlk w rb r) (hl : EntsIn w r.log es) (hn : es.length * 24 ≤ 140737488355328) :
    Calls Tryz.prog 42 #[.pointer (some ⟨rb, 0, none⟩)] w fun e w' => ∃ v, e = .returned (.agg #[.int .i64 r.term, .int .i64 r.vote, v]) ∧ w'.ownsRow w.heap.size 66 2 v es.length (eC es) ∧ Below w.heap.size w w' := by
  have c2 := h.c2
  have c3 := h.c3
  have c4 := h.c4
  have hlt := h.lt
  have HL := hide hl
  clear h hl
  go_enter Tryz.func42, Tryz.ntmps42
  go_wp2_with fail
  refine (refEntries_any _ es _ hn (by exact ents_below (unhide HL) (below_alloc w _))).mono ?_
  rintro e w1 ⟨v', rfl, hr, hb⟩
  obtain ⟨vo, vc, rfl⟩ := owns_form hr
  have hwb := (hb.block w.heap.size (by simp)).trans (heap_alloc_new w _)
  have d0 := cell_of_row w1 w.heap.size 0 _ _ _ hwb
  have d1 := cell_of_row w1 w.heap.size 1 _ _ _ hwb
  have d2 := cell_of_row w1 w.heap.size 2 _ _ _ hwb
  simp at d0 d1 d2
  have f0 := frozen_of_row w1 w.heap.size 0 _ _ hwb
  have f1 := frozen_of_row w1 w.heap.size 1 _ _ hwb
  have f2 := frozen_of_row w1 w.heap.size 2 _ _ hwb
  have hb2 := below_trans (below_alloc w _) hb
  have e2 : w1.cell? ⟨rb, 2, none⟩ = some (.int .i64 r.term) := (hb2.cell (p := ⟨rb, 2, none⟩) hlt).trans c2
  have e3 : w1.cell? ⟨rb, 3, none⟩ = some (.int .i64 r.vote) := (hb2.cell (p := ⟨rb, 3, none⟩) hlt).trans c3
  have hlt1 : w.heap.size < w1.heap.size := (Array.getElem?_eq_some_iff.1 hwb).1
  have HR := hide hr
  have HB := hide hb2
  have HWB := hide hwb
  have hne : ¬ rb = w.heap.size := by omega
  clear hr hb hb2 hwb c2 c3 c4 HL
  go_wp2_with fail
  go_region
  go_wp2
  have h1 := heap_setCell_same _ w.heap.size 0 _ _ (.int .i64 r.term) (unhide HWB)
  have h2 := heap_setCell_same _ w.heap.size 1 _ _ (.int .i64 r.vote) h1
  have h3 := heap_setCell_same _ w.heap.size 2 _ _ (.slice vo es.length vc) h2
  refine bodyPost_ret (v := .agg #[.int .i64 r.term, .int .i64 r.vote, .slice vo es.length vc]) (results_cell_row Tryz.results42 _ _ w.heap.size _ _ _ _ rfl h3 Tryz.underlying24 rfl (by kernel_rfl)) rfl ⟨_, rfl, ?_, ?_⟩
  · have hr1 : w1.ownsRow (w.heap.size + 1) 66 2 (.slice vo es.length vc) es.length (eC es) := by simpa using unhide HR
    exact owns_base (owns_set (owns_set (owns_set hr1 (by simp) _) (by simp) _) (by simp) _) (by omega)
  · exact ((((unhide HB).setCell (p := ⟨w.heap.size, 0, none⟩) (Nat.le_refl _) _).setCell (p := ⟨w.heap.size, 1, none⟩) (Nat.le_refl _) _).setCell (p := ⟨w.heap.size, 2, none⟩) (Nat.le_refl _) _).drew

set_option maxRecDepth 100000 in
set_option maxHeartbeats 1000000 in
theorem refStatus_any (rb : Nat) (r : RN) (vo : Option Addr) (n vc : Nat) (w : World) (h : RefBlk w rb r) (hl : r.log = .slice vo n vc) :
    Calls Tryz.prog 46 #[.pointer (some ⟨rb, 0, none⟩)] w fun e w' => e = .returned (.agg #[.int .i64 r.role, .int .i64 r.term, .int .i64 r.leads, .int .i64 r.commit, .int .i64 n]) ∧ Below w.heap.size w w' := by
  have c2 := h.c2
  have c4 := h.c4
  rw [hl] at c4
  have c5 := h.c5
  have c6 := h.c6
  have c7 := h.c7
  have hlt := h.lt
  have hne : ¬ rb = w.heap.size := by omega
  clear h hl
  go_enter Tryz.func46, Tryz.ntmps46
  go_wp2_with fail
  have hwb := heap_alloc_new w (Obj.cells #[.int .i64 0, .int .i64 0, .int .i64 0, .int .i64 0, .int .i64 0] 97)
  have hb := below_alloc w (Obj.cells #[.int .i64 0, .int .i64 0, .int .i64 0, .int .i64 0, .int .i64 0] 97)
  have q2 := (hb.cell (p := ⟨rb, 2, none⟩) hlt).trans c2
  have q4 := (hb.cell (p := ⟨rb, 4, none⟩) hlt).trans c4
  have q5 := (hb.cell (p := ⟨rb, 5, none⟩) hlt).trans c5
  have q6 := (hb.cell (p := ⟨rb, 6, none⟩) hlt).trans c6
  have q7 := (hb.cell (p := ⟨rb, 7, none⟩) hlt).trans c7
  generalize w.alloc (Obj.cells #[.int .i64 0, .int .i64 0, .int .i64 0, .int .i64 0, .int .i64 0] 97) = W at *
  have d0 := cell_of_row W w.heap.size 0 _ _ _ hwb
  have d1 := cell_of_row W w.heap.size 1 _ _ _ hwb
  have d2 := cell_of_row W w.heap.size 2 _ _ _ hwb
  have d3 := cell_of_row W w.heap.size 3 _ _ _ hwb
  have d4 := cell_of_row W w.heap.size 4 _ _ _ hwb
  simp at d0 d1 d2 d3 d4
  have f0 := frozen_of_row W w.heap.size 0 _ _ hwb
  have f1 := frozen_of_row W w.heap.size 1 _ _ hwb
  have f2 := frozen_of_row W w.heap.size 2 _ _ hwb
  have f3 := frozen_of_row W w.heap.size 3 _ _ hwb
  have f4 := frozen_of_row W w.heap.size 4 _ _ hwb
  have HWB := hide hwb
  have HB := hide hb
  clear hwb hb c2 c4 c5 c6 c7
  go_region
  go_wp2
  have h1 := heap_setCell_same _ w.heap.size 0 _ _ (.int .i64 r.role) (unhide HWB)
  have h2 := heap_setCell_same _ w.heap.size 1 _ _ (.int .i64 r.term) h1
  have h3 := heap_setCell_same _ w.heap.size 2 _ _ (.int .i64 r.leads) h2
  have h4 := heap_setCell_same _ w.heap.size 3 _ _ (.int .i64 r.commit) h3
  have h5 := heap_setCell_same _ w.heap.size 4 _ _ (.int .i64 (n : Int)) h4
  refine bodyPost_ret (v := .agg #[.int .i64 r.role, .int .i64 r.term, .int .i64 r.leads, .int .i64 r.commit, .int .i64 n]) (results_cell_row Tryz.results46 _ _ w.heap.size _ _ _ _ rfl h5 Tryz.underlying97 rfl (by kernel_rfl)) rfl ⟨rfl, ?_⟩
  exact ((((((unhide HB).setCell (p := ⟨w.heap.size, 0, none⟩) (Nat.le_refl _) _).setCell (p := ⟨w.heap.size, 1, none⟩) (Nat.le_refl _) _).setCell (p := ⟨w.heap.size, 2, none⟩) (Nat.le_refl _) _).setCell (p := ⟨w.heap.size, 3, none⟩) (Nat.le_refl _) _).setCell (p := ⟨w.heap.size, 4, none⟩) (Nat.le_refl _) _).drew

end Go.Proofs.YteiecbkfganhnaaGreat
