/- The program's node as it lies in memory. -/
import Derived.Test.YteiecbkfganhnaaInv
import Derived.Test.YteiecbkfganhnaaCopy
import Derived.Defers
import Derived.RegionTactic
import Derived.BigRegion
namespace Go.Proofs.Yteiecbkfganhnaa
open Go.RowKit Go.MuLone

def ncells (mu : Int) (s : Nd) (lv : Value) : Array Value := #[.int .i32 mu, .int .u32 0, .int .i64 (s.id : Int), .int .i64 (s.n : Int), .int .i64 s.term, .int .i64 s.vote, lv, .int .i64 s.role, .int .i64 s.leads, .int .i64 (s.commit : Int), .int .i64 s.elapsed, .int .i64 s.pat, .bool (s.gr 0), .bool (s.gr 1), .bool (s.gr 2), .bool (s.gr 3), .bool (s.gr 4), .bool (s.gr 5), .bool (s.gr 6), .int .i64 (s.nx 0 : Int), .int .i64 (s.nx 1 : Int), .int .i64 (s.nx 2 : Int), .int .i64 (s.nx 3 : Int), .int .i64 (s.nx 4 : Int), .int .i64 (s.nx 5 : Int), .int .i64 (s.nx 6 : Int), .int .i64 (s.mt 0 : Int), .int .i64 (s.mt 1 : Int), .int .i64 (s.mt 2 : Int), .int .i64 (s.mt 3 : Int), .int .i64 (s.mt 4 : Int), .int .i64 (s.mt 5 : Int), .int .i64 (s.mt 6 : Int), .bool (s.hd 0), .bool (s.hd 1), .bool (s.hd 2), .bool (s.hd 3), .bool (s.hd 4), .bool (s.hd 5), .bool (s.hd 6)]

/-- The node lies in the block nb; mu: its lock (0: free, 1: held); lv: its log's slice. -/
def NB (mu : Int) (w : World) (nb : Nat) (s : Nd) (lv : Value) : Prop := w.heap[nb]? = some (.cells (ncells mu s lv) 76 (0, 0))

theorem NB.lt {mu : Int} {w : World} {nb : Nat} {s : Nd} {lv : Value} (h : NB mu w nb s lv) : nb < w.heap.size := (Array.getElem?_eq_some_iff.1 h).1
theorem NB.free {mu : Int} {w : World} {nb : Nat} {s : Nd} {lv : Value} (h : NB mu w nb s lv) (o : Nat) : w.frozen? ⟨nb, o, none⟩ = false := frozen_of_row w nb o _ _ h
theorem NB.cell {mu : Int} {w : World} {nb : Nat} {s : Nd} {lv : Value} (h : NB mu w nb s lv) (o : Nat) : w.cell? ⟨nb, o, none⟩ = (ncells mu s lv)[o]? := cell_of_row w nb o _ _ _ h
theorem NB.block {mu : Int} {w w' : World} {nb : Nat} {s : Nd} {lv : Value} (h : NB mu w nb s lv) (hk : w'.heap[nb]? = w.heap[nb]?) : NB mu w' nb s lv := hk.trans h
theorem NB.below {mu : Int} {w w' : World} {nb : Nat} {s : Nd} {lv : Value} (h : NB mu w nb s lv) (hb : Below w.heap.size w w') : NB mu w' nb s lv := (hb.block nb h.lt).trans h
theorem NB.c0 {mu : Int} {w : World} {nb : Nat} {s : Nd} {lv : Value} (h : NB mu w nb s lv) : w.cell? ⟨nb, 0, none⟩ = some (.int .i32 mu) := h.cell 0
theorem NB.c2 {mu : Int} {w : World} {nb : Nat} {s : Nd} {lv : Value} (h : NB mu w nb s lv) : w.cell? ⟨nb, 2, none⟩ = some (.int .i64 (s.id : Int)) := h.cell 2
theorem NB.c3 {mu : Int} {w : World} {nb : Nat} {s : Nd} {lv : Value} (h : NB mu w nb s lv) : w.cell? ⟨nb, 3, none⟩ = some (.int .i64 (s.n : Int)) := h.cell 3
theorem NB.c4 {mu : Int} {w : World} {nb : Nat} {s : Nd} {lv : Value} (h : NB mu w nb s lv) : w.cell? ⟨nb, 4, none⟩ = some (.int .i64 s.term) := h.cell 4
theorem NB.c5 {mu : Int} {w : World} {nb : Nat} {s : Nd} {lv : Value} (h : NB mu w nb s lv) : w.cell? ⟨nb, 5, none⟩ = some (.int .i64 s.vote) := h.cell 5
theorem NB.c6 {mu : Int} {w : World} {nb : Nat} {s : Nd} {lv : Value} (h : NB mu w nb s lv) : w.cell? ⟨nb, 6, none⟩ = some (lv) := h.cell 6
theorem NB.c7 {mu : Int} {w : World} {nb : Nat} {s : Nd} {lv : Value} (h : NB mu w nb s lv) : w.cell? ⟨nb, 7, none⟩ = some (.int .i64 s.role) := h.cell 7
theorem NB.c8 {mu : Int} {w : World} {nb : Nat} {s : Nd} {lv : Value} (h : NB mu w nb s lv) : w.cell? ⟨nb, 8, none⟩ = some (.int .i64 s.leads) := h.cell 8
theorem NB.c9 {mu : Int} {w : World} {nb : Nat} {s : Nd} {lv : Value} (h : NB mu w nb s lv) : w.cell? ⟨nb, 9, none⟩ = some (.int .i64 (s.commit : Int)) := h.cell 9
theorem NB.c10 {mu : Int} {w : World} {nb : Nat} {s : Nd} {lv : Value} (h : NB mu w nb s lv) : w.cell? ⟨nb, 10, none⟩ = some (.int .i64 s.elapsed) := h.cell 10
theorem NB.c11 {mu : Int} {w : World} {nb : Nat} {s : Nd} {lv : Value} (h : NB mu w nb s lv) : w.cell? ⟨nb, 11, none⟩ = some (.int .i64 s.pat) := h.cell 11
theorem NB.c12 {mu : Int} {w : World} {nb : Nat} {s : Nd} {lv : Value} (h : NB mu w nb s lv) : w.cell? ⟨nb, 12, none⟩ = some (.bool (s.gr 0)) := h.cell 12
theorem NB.c13 {mu : Int} {w : World} {nb : Nat} {s : Nd} {lv : Value} (h : NB mu w nb s lv) : w.cell? ⟨nb, 13, none⟩ = some (.bool (s.gr 1)) := h.cell 13
theorem NB.c14 {mu : Int} {w : World} {nb : Nat} {s : Nd} {lv : Value} (h : NB mu w nb s lv) : w.cell? ⟨nb, 14, none⟩ = some (.bool (s.gr 2)) := h.cell 14
theorem NB.c15 {mu : Int} {w : World} {nb : Nat} {s : Nd} {lv : Value} (h : NB mu w nb s lv) : w.cell? ⟨nb, 15, none⟩ = some (.bool (s.gr 3)) := h.cell 15
theorem NB.c16 {mu : Int} {w : World} {nb : Nat} {s : Nd} {lv : Value} (h : NB mu w nb s lv) : w.cell? ⟨nb, 16, none⟩ = some (.bool (s.gr 4)) := h.cell 16
theorem NB.c17 {mu : Int} {w : World} {nb : Nat} {s : Nd} {lv : Value} (h : NB mu w nb s lv) : w.cell? ⟨nb, 17, none⟩ = some (.bool (s.gr 5)) := h.cell 17
theorem NB.c18 {mu : Int} {w : World} {nb : Nat} {s : Nd} {lv : Value} (h : NB mu w nb s lv) : w.cell? ⟨nb, 18, none⟩ = some (.bool (s.gr 6)) := h.cell 18
theorem NB.gr {mu : Int} {w : World} {nb : Nat} {s : Nd} {lv : Value} (h : NB mu w nb s lv) {i : Nat} (hi : i < 7) : w.cell? ⟨nb, 12 + i, none⟩ = some (.bool (s.gr i)) := by
  have hc := h.cell (12 + i)
  rw [hc]
  rcases i with _ | _ | _ | _ | _ | _ | _ | i
  all_goals first | rfl | omega
theorem NB.c19 {mu : Int} {w : World} {nb : Nat} {s : Nd} {lv : Value} (h : NB mu w nb s lv) : w.cell? ⟨nb, 19, none⟩ = some (.int .i64 (s.nx 0 : Int)) := h.cell 19
theorem NB.c20 {mu : Int} {w : World} {nb : Nat} {s : Nd} {lv : Value} (h : NB mu w nb s lv) : w.cell? ⟨nb, 20, none⟩ = some (.int .i64 (s.nx 1 : Int)) := h.cell 20
theorem NB.c21 {mu : Int} {w : World} {nb : Nat} {s : Nd} {lv : Value} (h : NB mu w nb s lv) : w.cell? ⟨nb, 21, none⟩ = some (.int .i64 (s.nx 2 : Int)) := h.cell 21
theorem NB.c22 {mu : Int} {w : World} {nb : Nat} {s : Nd} {lv : Value} (h : NB mu w nb s lv) : w.cell? ⟨nb, 22, none⟩ = some (.int .i64 (s.nx 3 : Int)) := h.cell 22
theorem NB.c23 {mu : Int} {w : World} {nb : Nat} {s : Nd} {lv : Value} (h : NB mu w nb s lv) : w.cell? ⟨nb, 23, none⟩ = some (.int .i64 (s.nx 4 : Int)) := h.cell 23
theorem NB.c24 {mu : Int} {w : World} {nb : Nat} {s : Nd} {lv : Value} (h : NB mu w nb s lv) : w.cell? ⟨nb, 24, none⟩ = some (.int .i64 (s.nx 5 : Int)) := h.cell 24
theorem NB.c25 {mu : Int} {w : World} {nb : Nat} {s : Nd} {lv : Value} (h : NB mu w nb s lv) : w.cell? ⟨nb, 25, none⟩ = some (.int .i64 (s.nx 6 : Int)) := h.cell 25
theorem NB.nx {mu : Int} {w : World} {nb : Nat} {s : Nd} {lv : Value} (h : NB mu w nb s lv) {i : Nat} (hi : i < 7) : w.cell? ⟨nb, 19 + i, none⟩ = some (.int .i64 (s.nx i : Int)) := by
  have hc := h.cell (19 + i)
  rw [hc]
  rcases i with _ | _ | _ | _ | _ | _ | _ | i
  all_goals first | rfl | omega
theorem NB.c26 {mu : Int} {w : World} {nb : Nat} {s : Nd} {lv : Value} (h : NB mu w nb s lv) : w.cell? ⟨nb, 26, none⟩ = some (.int .i64 (s.mt 0 : Int)) := h.cell 26
theorem NB.c27 {mu : Int} {w : World} {nb : Nat} {s : Nd} {lv : Value} (h : NB mu w nb s lv) : w.cell? ⟨nb, 27, none⟩ = some (.int .i64 (s.mt 1 : Int)) := h.cell 27
theorem NB.c28 {mu : Int} {w : World} {nb : Nat} {s : Nd} {lv : Value} (h : NB mu w nb s lv) : w.cell? ⟨nb, 28, none⟩ = some (.int .i64 (s.mt 2 : Int)) := h.cell 28
theorem NB.c29 {mu : Int} {w : World} {nb : Nat} {s : Nd} {lv : Value} (h : NB mu w nb s lv) : w.cell? ⟨nb, 29, none⟩ = some (.int .i64 (s.mt 3 : Int)) := h.cell 29
theorem NB.c30 {mu : Int} {w : World} {nb : Nat} {s : Nd} {lv : Value} (h : NB mu w nb s lv) : w.cell? ⟨nb, 30, none⟩ = some (.int .i64 (s.mt 4 : Int)) := h.cell 30
theorem NB.c31 {mu : Int} {w : World} {nb : Nat} {s : Nd} {lv : Value} (h : NB mu w nb s lv) : w.cell? ⟨nb, 31, none⟩ = some (.int .i64 (s.mt 5 : Int)) := h.cell 31
theorem NB.c32 {mu : Int} {w : World} {nb : Nat} {s : Nd} {lv : Value} (h : NB mu w nb s lv) : w.cell? ⟨nb, 32, none⟩ = some (.int .i64 (s.mt 6 : Int)) := h.cell 32
theorem NB.mt {mu : Int} {w : World} {nb : Nat} {s : Nd} {lv : Value} (h : NB mu w nb s lv) {i : Nat} (hi : i < 7) : w.cell? ⟨nb, 26 + i, none⟩ = some (.int .i64 (s.mt i : Int)) := by
  have hc := h.cell (26 + i)
  rw [hc]
  rcases i with _ | _ | _ | _ | _ | _ | _ | i
  all_goals first | rfl | omega
theorem NB.c33 {mu : Int} {w : World} {nb : Nat} {s : Nd} {lv : Value} (h : NB mu w nb s lv) : w.cell? ⟨nb, 33, none⟩ = some (.bool (s.hd 0)) := h.cell 33
theorem NB.c34 {mu : Int} {w : World} {nb : Nat} {s : Nd} {lv : Value} (h : NB mu w nb s lv) : w.cell? ⟨nb, 34, none⟩ = some (.bool (s.hd 1)) := h.cell 34
theorem NB.c35 {mu : Int} {w : World} {nb : Nat} {s : Nd} {lv : Value} (h : NB mu w nb s lv) : w.cell? ⟨nb, 35, none⟩ = some (.bool (s.hd 2)) := h.cell 35
theorem NB.c36 {mu : Int} {w : World} {nb : Nat} {s : Nd} {lv : Value} (h : NB mu w nb s lv) : w.cell? ⟨nb, 36, none⟩ = some (.bool (s.hd 3)) := h.cell 36
theorem NB.c37 {mu : Int} {w : World} {nb : Nat} {s : Nd} {lv : Value} (h : NB mu w nb s lv) : w.cell? ⟨nb, 37, none⟩ = some (.bool (s.hd 4)) := h.cell 37
theorem NB.c38 {mu : Int} {w : World} {nb : Nat} {s : Nd} {lv : Value} (h : NB mu w nb s lv) : w.cell? ⟨nb, 38, none⟩ = some (.bool (s.hd 5)) := h.cell 38
theorem NB.c39 {mu : Int} {w : World} {nb : Nat} {s : Nd} {lv : Value} (h : NB mu w nb s lv) : w.cell? ⟨nb, 39, none⟩ = some (.bool (s.hd 6)) := h.cell 39
theorem NB.hd {mu : Int} {w : World} {nb : Nat} {s : Nd} {lv : Value} (h : NB mu w nb s lv) {i : Nat} (hi : i < 7) : w.cell? ⟨nb, 33 + i, none⟩ = some (.bool (s.hd i)) := by
  have hc := h.cell (33 + i)
  rw [hc]
  rcases i with _ | _ | _ | _ | _ | _ | _ | i
  all_goals first | rfl | omega
theorem NB.setMu {mu : Int} {w : World} {nb : Nat} {s : Nd} {lv : Value} (h : NB mu w nb s lv) (m : Int) : NB m (w.setCell ⟨nb, 0, none⟩ (.int .i32 m)) nb s lv := heap_setCell_same w nb 0 _ _ _ h
theorem NB.setTerm {mu : Int} {w : World} {nb : Nat} {s : Nd} {lv : Value} (h : NB mu w nb s lv) (x : Int) : NB mu (w.setCell ⟨nb, 4, none⟩ (.int .i64 x)) nb { s with term := x } lv := heap_setCell_same w nb 4 _ _ _ h
theorem NB.setVote {mu : Int} {w : World} {nb : Nat} {s : Nd} {lv : Value} (h : NB mu w nb s lv) (x : Int) : NB mu (w.setCell ⟨nb, 5, none⟩ (.int .i64 x)) nb { s with vote := x } lv := heap_setCell_same w nb 5 _ _ _ h
theorem NB.setLog {mu : Int} {w : World} {nb : Nat} {s : Nd} {lv : Value} (h : NB mu w nb s lv) (u : Value) (l : List Ent) : NB mu (w.setCell ⟨nb, 6, none⟩ u) nb { s with log := l } u := heap_setCell_same w nb 6 _ _ _ h
theorem NB.setRole {mu : Int} {w : World} {nb : Nat} {s : Nd} {lv : Value} (h : NB mu w nb s lv) (x : Int) : NB mu (w.setCell ⟨nb, 7, none⟩ (.int .i64 x)) nb { s with role := x } lv := heap_setCell_same w nb 7 _ _ _ h
theorem NB.setLeads {mu : Int} {w : World} {nb : Nat} {s : Nd} {lv : Value} (h : NB mu w nb s lv) (x : Int) : NB mu (w.setCell ⟨nb, 8, none⟩ (.int .i64 x)) nb { s with leads := x } lv := heap_setCell_same w nb 8 _ _ _ h
theorem NB.setCommit {mu : Int} {w : World} {nb : Nat} {s : Nd} {lv : Value} (h : NB mu w nb s lv) (x : Nat) : NB mu (w.setCell ⟨nb, 9, none⟩ (.int .i64 (x : Int))) nb { s with commit := x } lv := heap_setCell_same w nb 9 _ _ _ h
theorem NB.setElapsed {mu : Int} {w : World} {nb : Nat} {s : Nd} {lv : Value} (h : NB mu w nb s lv) (x : Int) : NB mu (w.setCell ⟨nb, 10, none⟩ (.int .i64 x)) nb { s with elapsed := x } lv := heap_setCell_same w nb 10 _ _ _ h
theorem NB.setPat {mu : Int} {w : World} {nb : Nat} {s : Nd} {lv : Value} (h : NB mu w nb s lv) (x : Int) : NB mu (w.setCell ⟨nb, 11, none⟩ (.int .i64 x)) nb { s with pat := x } lv := heap_setCell_same w nb 11 _ _ _ h
theorem NB.setNx {mu : Int} {w : World} {nb : Nat} {s : Nd} {lv : Value} (h : NB mu w nb s lv) {i : Nat} (hi : i < 7) (x : Nat) : NB mu (w.setCell ⟨nb, 19 + i, none⟩ (.int .i64 (x : Int))) nb { s with nx := upd s.nx i x } lv := by
  have hh := heap_setCell_same w nb (19 + i) _ _ (.int .i64 (x : Int)) h
  unfold NB
  rw [hh]
  rcases i with _ | _ | _ | _ | _ | _ | _ | i
  all_goals first | rfl | omega
theorem NB.setMt {mu : Int} {w : World} {nb : Nat} {s : Nd} {lv : Value} (h : NB mu w nb s lv) {i : Nat} (hi : i < 7) (x : Nat) : NB mu (w.setCell ⟨nb, 26 + i, none⟩ (.int .i64 (x : Int))) nb { s with mt := upd s.mt i x } lv := by
  have hh := heap_setCell_same w nb (26 + i) _ _ (.int .i64 (x : Int)) h
  unfold NB
  rw [hh]
  rcases i with _ | _ | _ | _ | _ | _ | _ | i
  all_goals first | rfl | omega
theorem NB.setGr1 {mu : Int} {w : World} {nb : Nat} {s : Nd} {lv : Value} (h : NB mu w nb s lv) {i : Nat} (hi : i < 7) (x : Bool) : NB mu (w.setCell ⟨nb, 12 + i, none⟩ (.bool x)) nb { s with gr := upd s.gr i x } lv := by
  have hh := heap_setCell_same w nb (12 + i) _ _ (.bool x) h
  unfold NB
  rw [hh]
  rcases i with _ | _ | _ | _ | _ | _ | _ | i
  all_goals first | rfl | omega
theorem NB.setGr {mu : Int} {w : World} {nb : Nat} {s : Nd} {lv : Value} (h : NB mu w nb s lv) (g : Nat → Bool) : NB mu (((((((w.setCell ⟨nb, 12, none⟩ (.bool (g 0))).setCell ⟨nb, 13, none⟩ (.bool (g 1))).setCell ⟨nb, 14, none⟩ (.bool (g 2))).setCell ⟨nb, 15, none⟩ (.bool (g 3))).setCell ⟨nb, 16, none⟩ (.bool (g 4))).setCell ⟨nb, 17, none⟩ (.bool (g 5))).setCell ⟨nb, 18, none⟩ (.bool (g 6))) nb { s with gr := g } lv := by
  have h0 := NB.setGr1 h (i := 0) (by decide) (g 0)
  have h1 := NB.setGr1 h0 (i := 1) (by decide) (g 1)
  have h2 := NB.setGr1 h1 (i := 2) (by decide) (g 2)
  have h3 := NB.setGr1 h2 (i := 3) (by decide) (g 3)
  have h4 := NB.setGr1 h3 (i := 4) (by decide) (g 4)
  have h5 := NB.setGr1 h4 (i := 5) (by decide) (g 5)
  have h6 := NB.setGr1 h5 (i := 6) (by decide) (g 6)
  unfold NB at h6 ⊢
  exact h6
theorem NB.setHd1 {mu : Int} {w : World} {nb : Nat} {s : Nd} {lv : Value} (h : NB mu w nb s lv) {i : Nat} (hi : i < 7) (x : Bool) : NB mu (w.setCell ⟨nb, 33 + i, none⟩ (.bool x)) nb { s with hd := upd s.hd i x } lv := by
  have hh := heap_setCell_same w nb (33 + i) _ _ (.bool x) h
  unfold NB
  rw [hh]
  rcases i with _ | _ | _ | _ | _ | _ | _ | i
  all_goals first | rfl | omega
theorem NB.setHd {mu : Int} {w : World} {nb : Nat} {s : Nd} {lv : Value} (h : NB mu w nb s lv) (g : Nat → Bool) : NB mu (((((((w.setCell ⟨nb, 33, none⟩ (.bool (g 0))).setCell ⟨nb, 34, none⟩ (.bool (g 1))).setCell ⟨nb, 35, none⟩ (.bool (g 2))).setCell ⟨nb, 36, none⟩ (.bool (g 3))).setCell ⟨nb, 37, none⟩ (.bool (g 4))).setCell ⟨nb, 38, none⟩ (.bool (g 5))).setCell ⟨nb, 39, none⟩ (.bool (g 6))) nb { s with hd := g } lv := by
  have h0 := NB.setHd1 h (i := 0) (by decide) (g 0)
  have h1 := NB.setHd1 h0 (i := 1) (by decide) (g 1)
  have h2 := NB.setHd1 h1 (i := 2) (by decide) (g 2)
  have h3 := NB.setHd1 h2 (i := 3) (by decide) (g 3)
  have h4 := NB.setHd1 h3 (i := 4) (by decide) (g 4)
  have h5 := NB.setHd1 h4 (i := 5) (by decide) (g 5)
  have h6 := NB.setHd1 h5 (i := 6) (by decide) (g 6)
  unfold NB at h6 ⊢
  exact h6

/-- All but the node's own block is as it was. -/
structure Ew (nb : Nat) (w w' : World) : Prop where
  os : w'.os = w.os
  tape : w'.tape = w.tape
  output : w'.output = w.output
  size : w.heap.size ≤ w'.heap.size
  block : ∀ k, k < w.heap.size → k ≠ nb → w'.heap[k]? = w.heap[k]?

theorem Ew.refl (nb : Nat) (w : World) : Ew nb w w := ⟨rfl, rfl, rfl, Nat.le_refl _, fun _ _ _ => rfl⟩
theorem Ew.ofBelow {nb : Nat} {w w' : World} (h : Below w.heap.size w w') : Ew nb w w' := ⟨h.os, h.tape, h.output, h.size, fun k hk _ => h.block k hk⟩
theorem Ew.trans {nb : Nat} {a b c : World} (h : Ew nb a b) (k : Ew nb b c) : Ew nb a c :=
  ⟨k.os.trans h.os, k.tape.trans h.tape, k.output.trans h.output, Nat.le_trans h.size k.size, fun i hi hn => (k.block i (Nat.lt_of_lt_of_le hi h.size) hn).trans (h.block i hi hn)⟩
theorem Ew.set {nb : Nat} {w w' : World} (h : Ew nb w w') (o : Nat) (u : Value) : Ew nb w (w'.setCell ⟨nb, o, none⟩ u) :=
  ⟨h.os, h.tape, h.output, by simpa [World.setCell] using h.size, fun k hk hn => (Below.heap_setCell _ _ _ _ hn).trans (h.block k hk hn)⟩
theorem Ew.drew {nb : Nat} {w w' : World} (h : Ew nb w w') : Ew nb w w'.drew := ⟨h.os, h.tape, h.output, h.size, h.block⟩
theorem Ew.drewN {nb : Nat} {w w' : World} (h : Ew nb w w') (m : Nat) : Ew nb w (w'.drewN m) := ⟨h.os, h.tape, h.output, h.size, h.block⟩
theorem Ew.alloc {nb : Nat} {w w' : World} (h : Ew nb w w') (o : Obj) : Ew nb w (w'.alloc o) :=
  h.trans (Ew.ofBelow (below_alloc w' o))
theorem Ew.below {nb : Nat} {w w1 w2 : World} (h : Ew nb w w1) (hb : Below w1.heap.size w1 w2) : Ew nb w w2 := h.trans (Ew.ofBelow hb)

end Go.Proofs.Yteiecbkfganhnaa
