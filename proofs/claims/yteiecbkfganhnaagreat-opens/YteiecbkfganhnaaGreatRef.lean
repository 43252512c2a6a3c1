/- The document's node. -/
import Derived.Test.YteiecbkfganhnaaGreatRight
namespace Go.Proofs.YteiecbkfganhnaaGreat
open Go.RowKit

structure RN where
  id : Int
  n : Int
  term : Int
  vote : Int
  log : Value
  commit : Int
  role : Int
  leads : Int
  elapsed : Int
  pat : Int
  grants : Value
  next : Value
  mtch : Value
  heard : Value
  out : Value

def RefBlk (w : World) (rb : Nat) (r : RN) : Prop :=
  w.heap[rb]? = some (.cells #[.int .i64 r.id, .int .i64 r.n, .int .i64 r.term, .int .i64 r.vote, r.log, .int .i64 r.commit, .int .i64 r.role, .int .i64 r.leads, .int .i64 r.elapsed, .int .i64 r.pat, r.grants, r.next, r.mtch, r.heard, r.out] 64 (0, 0))

theorem make_ints (P : Program) (t e : TypeId) (z : Value) (size bytes n : Nat) (ht : P.underlying t = some (.slice e)) (hi : (P.info? e).map (fun i => (i.zero, i.size, i.bytes)) = some (some z, size, bytes)) (hb : bytes ≤ 8) (hn : n ≤ 7) :
    ∃ M, ∀ W : World, (Instr.makeSlice t (.int .i64 (n : Int)) (.int .i64 (n : Int))).run P W = .ok (.slice (some ⟨W.heap.size, 0, none⟩) n n) (W.alloc (.cells M e)) := by
  obtain ⟨i0, hi, hz0, hz1, hz2⟩ := info_parts hi
  refine ⟨madeCells z.cells (n * i0.size), fun W => ?_⟩
  have hbn : (bytes : Int) * (n : Int) ≤ 281474976710656 := by
    have h1 := Nat.mul_le_mul hb hn
    have h2 : ((bytes * n : Nat) : Int) ≤ 56 := by omega
    rw [Int.natCast_mul] at h2
    omega
  have h := run_make (P := P) W t e i0 z ht hi hz0 .i64 .i64 (n : Int) (n : Int) (by omega) (by omega) (by rw [hz2]; exact hbn) (by omega)
  simpa using h

theorem infoBool : (Tryz.prog.info? 4).map (fun i => (i.zero, i.size, i.bytes)) = some (some (.bool false), 1, 1) := by kernel_rfl
theorem infoInt : (Tryz.prog.info? 3).map (fun i => (i.zero, i.size, i.bytes)) = some (some (.int .i64 0), 1, 8) := by kernel_rfl

def rnOpen (id n : Int) (g nx mt hd : Value) : RN := { id := id, n := n, term := 0, vote := -1, log := .slice none 0 0, commit := 0, role := 0, leads := -1, elapsed := 0, pat := 10, grants := g, next := nx, mtch := mt, heard := hd, out := .slice none 0 0 }

set_option maxRecDepth 100000 in
set_option maxHeartbeats 1000000 in
theorem refOpen_ok (id : Int) (n : Nat) (w : World) (hn1 : 1 ≤ n) (hn2 : n ≤ 7) (h0 : 0 ≤ id) (h1 : id < n) :
    Calls Tryz.prog 12 #[.int .i64 id, .int .i64 n] w fun e w' => e = .returned (.tuple #[.pointer (some ⟨w.heap.size, 0, none⟩), .int .i64 0]) ∧ (∃ g nx mt hd, RefBlk w' w.heap.size (rnOpen id n g nx mt hd)) ∧ Below w.heap.size w w' := by
  obtain ⟨M1, hm1⟩ := make_ints Tryz.prog 60 4 _ _ _ n Tryz.underlying60 infoBool (by decide) hn2
  obtain ⟨M2, hm2⟩ := make_ints Tryz.prog 61 3 _ _ _ n Tryz.underlying61 infoInt (by decide) hn2
  go_enter Tryz.func12, Tryz.ntmps12
  go_wp2
  go_ret2
  exact ⟨rfl, ⟨_, _, _, _, heap_under (heap_under (heap_under (heap_under (heap_alloc_new w _) _) _) _) _⟩,
    below_trans (below_trans (below_trans (below_trans (below_alloc w _) (below_alloc _ _)) (below_alloc _ _)) (below_alloc _ _)) (below_alloc _ _)⟩

set_option maxRecDepth 100000 in
set_option maxHeartbeats 1000000 in
theorem refOpen_no (id n : Int) (w : World) (h : n < 1 ∨ 7 < n ∨ id < 0 ∨ n ≤ id) :
    Calls Tryz.prog 12 #[.int .i64 id, .int .i64 n] w fun e w' => e = .returned (.tuple #[.pointer none, .int .i64 1]) ∧ w' = w := by
  by_cases h1 : n < 1
  · clear h
    go_enter Tryz.func12, Tryz.ntmps12
    go_wp2
    go_ret2
    exact ⟨rfl, rfl⟩
  by_cases h2 : 7 < n
  · clear h
    go_enter Tryz.func12, Tryz.ntmps12
    go_wp2
    go_ret2
    exact ⟨rfl, rfl⟩
  by_cases h3 : id < 0
  · clear h
    go_enter Tryz.func12, Tryz.ntmps12
    go_wp2
    go_ret2
    exact ⟨rfl, rfl⟩
  have h4 : n ≤ id := by omega
  clear h
  go_enter Tryz.func12, Tryz.ntmps12
  go_wp2
  go_ret2
  exact ⟨rfl, rfl⟩

theorem RefBlk.lt {w : World} {rb : Nat} {r : RN} (h : RefBlk w rb r) : rb < w.heap.size := (Array.getElem?_eq_some_iff.1 h).1
theorem RefBlk.free {w : World} {rb : Nat} {r : RN} (h : RefBlk w rb r) (o : Nat) : w.frozen? ⟨rb, o, none⟩ = false := frozen_of_row w rb o _ _ h
theorem RefBlk.c2 {w : World} {rb : Nat} {r : RN} (h : RefBlk w rb r) : w.cell? ⟨rb, 2, none⟩ = some (.int .i64 r.term) := by rw [cell_of_row w rb _ _ _ _ h]; rfl
theorem RefBlk.c3 {w : World} {rb : Nat} {r : RN} (h : RefBlk w rb r) : w.cell? ⟨rb, 3, none⟩ = some (.int .i64 r.vote) := by rw [cell_of_row w rb _ _ _ _ h]; rfl
theorem RefBlk.c4 {w : World} {rb : Nat} {r : RN} (h : RefBlk w rb r) : w.cell? ⟨rb, 4, none⟩ = some r.log := by rw [cell_of_row w rb _ _ _ _ h]; rfl
theorem RefBlk.c5 {w : World} {rb : Nat} {r : RN} (h : RefBlk w rb r) : w.cell? ⟨rb, 5, none⟩ = some (.int .i64 r.commit) := by rw [cell_of_row w rb _ _ _ _ h]; rfl
theorem RefBlk.c6 {w : World} {rb : Nat} {r : RN} (h : RefBlk w rb r) : w.cell? ⟨rb, 6, none⟩ = some (.int .i64 r.role) := by rw [cell_of_row w rb _ _ _ _ h]; rfl
theorem RefBlk.c7 {w : World} {rb : Nat} {r : RN} (h : RefBlk w rb r) : w.cell? ⟨rb, 7, none⟩ = some (.int .i64 r.leads) := by rw [cell_of_row w rb _ _ _ _ h]; rfl
theorem RefBlk.c9 {w : World} {rb : Nat} {r : RN} (h : RefBlk w rb r) : w.cell? ⟨rb, 9, none⟩ = some (.int .i64 r.pat) := by rw [cell_of_row w rb _ _ _ _ h]; rfl
theorem RefBlk.set {w : World} {rb : Nat} {r : RN} (h : RefBlk w rb r) (o : Nat) (v : Value) :
    (w.setCell ⟨rb, o, none⟩ v).heap[rb]? = some (.cells (#[.int .i64 r.id, .int .i64 r.n, .int .i64 r.term, .int .i64 r.vote, r.log, .int .i64 r.commit, .int .i64 r.role, .int .i64 r.leads, .int .i64 r.elapsed, .int .i64 r.pat, r.grants, r.next, r.mtch, r.heard, r.out].setIfInBounds o v) 64 (0, 0)) := heap_setCell_same w rb o _ _ v h
theorem RefBlk.below {w w' : World} {rb : Nat} {r : RN} (h : RefBlk w rb r) (hb : Below w.heap.size w w') : RefBlk w' rb r := (hb.block rb h.lt).trans h

set_option maxRecDepth 100000 in
set_option maxHeartbeats 1000000 in
theorem refPatience_ok (rb : Nat) (r : RN) (t : Int) (w : World) (h : RefBlk w rb r) (h1 : 1 ≤ t) (h2 : t ≤ 40) :
    Calls Tryz.prog 27 #[.pointer (some ⟨rb, 0, none⟩), .int .i64 t] w fun e w' => e = .returned (.int .i64 0) ∧ w' = w.setCell ⟨rb, 9, none⟩ (.int .i64 t) := by
  have c := h.c9
  have f := h.free 9
  clear h
  go_enter Tryz.func27, Tryz.ntmps27
  go_wp2
  go_ret
  exact ⟨rfl, rfl⟩

set_option maxRecDepth 100000 in
set_option maxHeartbeats 1000000 in
theorem refPatience_no (rb : Nat) (t : Int) (w : World) (h1 : t < 1 ∨ 40 < t) :
    Calls Tryz.prog 27 #[.pointer (some ⟨rb, 0, none⟩), .int .i64 t] w fun e w' => e = .returned (.int .i64 6) ∧ w' = w := by
  by_cases h : t < 1
  · clear h1
    go_enter Tryz.func27, Tryz.ntmps27
    go_wp2
    go_ret
    exact ⟨rfl, rfl⟩
  · have h2 : 40 < t := by omega
    clear h1
    go_enter Tryz.func27, Tryz.ntmps27
    go_wp2
    go_ret
    exact ⟨rfl, rfl⟩

set_option maxRecDepth 100000 in
set_option maxHeartbeats 1000000 in
theorem refCommitted_0 (rb : Nat) (r : RN) (w : World) (h : RefBlk w rb r) (h1 : r.commit = 0) :
    Calls Tryz.prog 48 #[.pointer (some ⟨rb, 0, none⟩)] w fun e w' => e = .returned (.slice none 0 0) ∧ w' = w := by
  have c := h.c5
  rw [h1] at c
  clear h h1
  go_enter Tryz.func48, Tryz.ntmps48
  go_wp2
  refine wp_loop_rounds 1 ?_
  rw [rounds_succ]
  go_wp2
  go_ret
  exact ⟨rfl, rfl⟩

end Go.Proofs.YteiecbkfganhnaaGreat
