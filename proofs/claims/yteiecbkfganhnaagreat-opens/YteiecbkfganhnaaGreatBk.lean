/- The book: its cells, its rows, the lists that wait and those that are marked. -/
import Derived.Test.YteiecbkfganhnaaGreatLeaf
namespace Go.Proofs.YteiecbkfganhnaaGreat
open Go.RowKit

/-- What the nine cells of a book hold. -/
structure BV where
  e : Value
  m : Value
  t : Value
  we : Value
  re : Value
  wm : Value
  rm : Value
  wt : Value
  rt : Value

/-- The block of a game: four cells, and the book's nine. -/
def GameBlk (w : World) (gb : Nat) (c0 c1 c2 c3 : Value) (b : BV) : Prop :=
  w.heap[gb]? = some (.cells #[c0, c1, c2, c3, b.e, b.m, b.t, b.we, b.re, b.wm, b.rm, b.wt, b.rt] 53 (0, 0))

abbrev tG (i : Nat) : Nat × Nat := (20 * i + 1, 0)
abbrev tE (i : Nat) : Nat × Nat := (20 * i + 2, 0)
abbrev tT (i : Nat) : Nat × Nat := (20 * i + 3, 0)
abbrev tWE (i : Nat) : Nat × Nat := (20 * i + 4, 0)
abbrev tRE (i : Nat) : Nat × Nat := (20 * i + 5, 0)
abbrev tWT (i : Nat) : Nat × Nat := (20 * i + 6, 0)
abbrev tRT (i : Nat) : Nat × Nat := (20 * i + 7, 0)
abbrev tLE (i k : Nat) : Nat × Nat := (20 * i + 10, k)
abbrev tLT (i k : Nat) : Nat × Nat := (20 * i + 11, k)

/-- The mark of the entries of a group. -/
abbrev mkE (q : Nat) : Ent := (-1 - (q : Int), ⟨#[]⟩)

/-- Lists that wait: beside each what it was. -/
structure WaitE (i : Nat) (w : World) (tg : Tags) (we re : Value) (l : List (List Ent)) : Prop where
  rows : ∃ xs ys, Own w tg (tWE i) 22 1 we l.length xs ∧ Own w tg (tRE i) 22 1 re l.length ys ∧
    ∀ k es, l[k]? = some es → es.length ≤ 1000000 ∧ ∃ v r, xs[k]? = some v ∧ ys[k]? = some r ∧ Own w tg (tLE i k) 66 2 v es.length (eC es) ∧ Own w tg (0, 0) 66 2 r es.length (eC es)

structure WaitT (i : Nat) (w : World) (tg : Tags) (wt rt : Value) (l : List (List ByteArray)) : Prop where
  rows : ∃ xs ys, Own w tg (tWT i) 99 1 wt l.length xs ∧ Own w tg (tRT i) 99 1 rt l.length ys ∧
    ∀ k es, l[k]? = some es → es.length ≤ 1000000 ∧ ∃ v r, xs[k]? = some v ∧ ys[k]? = some r ∧ Own w tg (tLT i k) 9 1 v es.length (tC es) ∧ Own w tg (0, 0) 9 1 r es.length (tC es)

/-- Lists that are marked: four a group. -/
structure MarkE (i : Nat) (w : World) (tg : Tags) (e : Value) (n : Nat) : Prop where
  rows : ∃ xs, Own w tg (tE i) 22 1 e (4 * n) xs ∧
    ∀ k v, xs[k]? = some v → ∃ m, m ≤ 1000003 ∧ SeenE w tg v (List.replicate m (mkE (k / 4)))

structure MarkT (i : Nat) (w : World) (tg : Tags) (t : Value) (n : Nat) : Prop where
  rows : ∃ xs, Own w tg (tT i) 99 1 t (4 * n) xs ∧
    ∀ k v, xs[k]? = some v → ∃ m, m ≤ 1000003 ∧ SeenT w tg v (List.replicate m (txt (k / 4)))

theorem WaitE.step {i : Nat} {w w' : World} {tg tg' : Tags} {we re : Value} {l : List (List Ent)} {A : Nat × Nat → Prop} (h : WaitE i w tg we re l) (hs : Stp A w tg w' tg')
    (h1 : ¬ A (tWE i)) (h2 : ¬ A (tRE i)) (h3 : ∀ k, ¬ A (tLE i k)) (h4 : ¬ A (0, 0)) : WaitE i w' tg' we re l := by
  obtain ⟨xs, ys, hx, hy, hl⟩ := h.rows
  refine ⟨xs, ys, hx.step hs h1, hy.step hs h2, fun k es he => ?_⟩
  obtain ⟨hb, v, r, hv, hr, ho, hp⟩ := hl k es he
  exact ⟨hb, v, r, hv, hr, ho.step hs (h3 k), hp.step hs h4⟩

theorem WaitT.step {i : Nat} {w w' : World} {tg tg' : Tags} {we re : Value} {l : List (List ByteArray)} {A : Nat × Nat → Prop} (h : WaitT i w tg we re l) (hs : Stp A w tg w' tg')
    (h1 : ¬ A (tWT i)) (h2 : ¬ A (tRT i)) (h3 : ∀ k, ¬ A (tLT i k)) (h4 : ¬ A (0, 0)) : WaitT i w' tg' we re l := by
  obtain ⟨xs, ys, hx, hy, hl⟩ := h.rows
  refine ⟨xs, ys, hx.step hs h1, hy.step hs h2, fun k es he => ?_⟩
  obtain ⟨hb, v, r, hv, hr, ho, hp⟩ := hl k es he
  exact ⟨hb, v, r, hv, hr, ho.step hs (h3 k), hp.step hs h4⟩

theorem MarkE.step {i : Nat} {w w' : World} {tg tg' : Tags} {e : Value} {n : Nat} {A : Nat × Nat → Prop} (h : MarkE i w tg e n) (hs : Stp A w tg w' tg') (h1 : ¬ A (tE i)) (h4 : ¬ A (0, 0)) : MarkE i w' tg' e n := by
  obtain ⟨xs, hx, hl⟩ := h.rows
  refine ⟨xs, hx.step hs h1, fun k v hv => ?_⟩
  obtain ⟨m, hm, ho⟩ := hl k v hv
  exact ⟨m, hm, ho.step hs h4⟩

theorem MarkT.step {i : Nat} {w w' : World} {tg tg' : Tags} {e : Value} {n : Nat} {A : Nat × Nat → Prop} (h : MarkT i w tg e n) (hs : Stp A w tg w' tg') (h1 : ¬ A (tT i)) (h4 : ¬ A (0, 0)) : MarkT i w' tg' e n := by
  obtain ⟨xs, hx, hl⟩ := h.rows
  refine ⟨xs, hx.step hs h1, fun k v hv => ?_⟩
  obtain ⟨m, hm, ho⟩ := hl k v hv
  exact ⟨m, hm, ho.step hs h4⟩

/-- The cells of the game's block. -/
theorem GameBlk.cells {w : World} {gb : Nat} {c0 c1 c2 c3 : Value} {b : BV} (h : GameBlk w gb c0 c1 c2 c3 b) :
    (w.cell? ⟨gb, 0, none⟩ = some c0 ∧ w.cell? ⟨gb, 1, none⟩ = some c1 ∧ w.cell? ⟨gb, 2, none⟩ = some c2 ∧ w.cell? ⟨gb, 3, none⟩ = some c3) ∧
    w.cell? ⟨gb, 4, none⟩ = some b.e ∧ w.cell? ⟨gb, 5, none⟩ = some b.m ∧ w.cell? ⟨gb, 6, none⟩ = some b.t ∧ w.cell? ⟨gb, 7, none⟩ = some b.we ∧ w.cell? ⟨gb, 8, none⟩ = some b.re ∧
    w.cell? ⟨gb, 9, none⟩ = some b.wm ∧ w.cell? ⟨gb, 10, none⟩ = some b.rm ∧ w.cell? ⟨gb, 11, none⟩ = some b.wt ∧ w.cell? ⟨gb, 12, none⟩ = some b.rt := by
  unfold GameBlk at h
  refine ⟨⟨?_, ?_, ?_, ?_⟩, ?_, ?_, ?_, ?_, ?_, ?_, ?_, ?_, ?_⟩ <;> (rw [cell_of_row w gb _ _ _ _ h]; rfl)

theorem GameBlk.free {w : World} {gb : Nat} {c0 c1 c2 c3 : Value} {b : BV} (h : GameBlk w gb c0 c1 c2 c3 b) (o : Nat) : w.frozen? ⟨gb, o, none⟩ = false := frozen_of_row w gb o _ _ h

theorem GameBlk.lt {w : World} {gb : Nat} {c0 c1 c2 c3 : Value} {b : BV} (h : GameBlk w gb c0 c1 c2 c3 b) : gb < w.heap.size := (Array.getElem?_eq_some_iff.1 h).1

/-- A store into one of the nine. -/
theorem GameBlk.set {w : World} {gb : Nat} {c0 c1 c2 c3 : Value} {b : BV} (h : GameBlk w gb c0 c1 c2 c3 b) (o : Nat) (v : Value) :
    (w.setCell ⟨gb, o, none⟩ v).heap[gb]? = some (.cells (#[c0, c1, c2, c3, b.e, b.m, b.t, b.we, b.re, b.wm, b.rm, b.wt, b.rt].setIfInBounds o v) 53 (0, 0)) := heap_setCell_same w gb o _ _ v h

theorem GameBlk.step {A : Nat × Nat → Prop} {i : Nat} {w w' : World} {tg tg' : Tags} {gb : Nat} {c0 c1 c2 c3 : Value} {b : BV} (h : GameBlk w gb c0 c1 c2 c3 b) (hg : tg gb = tG i) (hs : Stp A w tg w' tg') (hA : ¬ A (tG i)) : GameBlk w' gb c0 c1 c2 c3 b ∧ tg' gb = tG i := by
  have hk := hs.keep gb h.lt (by rw [hg]; exact hA)
  exact ⟨hk.1.trans h, hk.2.trans hg⟩

theorem GameBlk.setWE {w : World} {gb : Nat} {c0 c1 c2 c3 : Value} {b : BV} (h : GameBlk w gb c0 c1 c2 c3 b) (v : Value) : GameBlk (w.setCell ⟨gb, 7, none⟩ v) gb c0 c1 c2 c3 { b with we := v } := h.set 7 v
theorem GameBlk.setRE {w : World} {gb : Nat} {c0 c1 c2 c3 : Value} {b : BV} (h : GameBlk w gb c0 c1 c2 c3 b) (v : Value) : GameBlk (w.setCell ⟨gb, 8, none⟩ v) gb c0 c1 c2 c3 { b with re := v } := h.set 8 v
theorem GameBlk.setWT {w : World} {gb : Nat} {c0 c1 c2 c3 : Value} {b : BV} (h : GameBlk w gb c0 c1 c2 c3 b) (v : Value) : GameBlk (w.setCell ⟨gb, 11, none⟩ v) gb c0 c1 c2 c3 { b with wt := v } := h.set 11 v
theorem GameBlk.setRT {w : World} {gb : Nat} {c0 c1 c2 c3 : Value} {b : BV} (h : GameBlk w gb c0 c1 c2 c3 b) (v : Value) : GameBlk (w.setCell ⟨gb, 12, none⟩ v) gb c0 c1 c2 c3 { b with rt := v } := h.set 12 v
theorem GameBlk.setE {w : World} {gb : Nat} {c0 c1 c2 c3 : Value} {b : BV} (h : GameBlk w gb c0 c1 c2 c3 b) (v : Value) : GameBlk (w.setCell ⟨gb, 4, none⟩ v) gb c0 c1 c2 c3 { b with e := v } := h.set 4 v
theorem GameBlk.setT {w : World} {gb : Nat} {c0 c1 c2 c3 : Value} {b : BV} (h : GameBlk w gb c0 c1 c2 c3 b) (v : Value) : GameBlk (w.setCell ⟨gb, 6, none⟩ v) gb c0 c1 c2 c3 { b with t := v } := h.set 6 v

theorem GameBlk.c0 {w : World} {gb : Nat} {c0 c1 c2 c3 : Value} {b : BV} (h : GameBlk w gb c0 c1 c2 c3 b) : w.cell? ⟨gb, 0, none⟩ = some c0 := by rw [cell_of_row w gb _ _ _ _ h]; rfl
theorem GameBlk.c1 {w : World} {gb : Nat} {c0 c1 c2 c3 : Value} {b : BV} (h : GameBlk w gb c0 c1 c2 c3 b) : w.cell? ⟨gb, 1, none⟩ = some c1 := by rw [cell_of_row w gb _ _ _ _ h]; rfl
theorem GameBlk.c2 {w : World} {gb : Nat} {c0 c1 c2 c3 : Value} {b : BV} (h : GameBlk w gb c0 c1 c2 c3 b) : w.cell? ⟨gb, 2, none⟩ = some c2 := by rw [cell_of_row w gb _ _ _ _ h]; rfl
theorem GameBlk.c3 {w : World} {gb : Nat} {c0 c1 c2 c3 : Value} {b : BV} (h : GameBlk w gb c0 c1 c2 c3 b) : w.cell? ⟨gb, 3, none⟩ = some c3 := by rw [cell_of_row w gb _ _ _ _ h]; rfl
theorem GameBlk.c4 {w : World} {gb : Nat} {c0 c1 c2 c3 : Value} {b : BV} (h : GameBlk w gb c0 c1 c2 c3 b) : w.cell? ⟨gb, 4, none⟩ = some b.e := by rw [cell_of_row w gb _ _ _ _ h]; rfl
theorem GameBlk.c5 {w : World} {gb : Nat} {c0 c1 c2 c3 : Value} {b : BV} (h : GameBlk w gb c0 c1 c2 c3 b) : w.cell? ⟨gb, 5, none⟩ = some b.m := by rw [cell_of_row w gb _ _ _ _ h]; rfl
theorem GameBlk.c6 {w : World} {gb : Nat} {c0 c1 c2 c3 : Value} {b : BV} (h : GameBlk w gb c0 c1 c2 c3 b) : w.cell? ⟨gb, 6, none⟩ = some b.t := by rw [cell_of_row w gb _ _ _ _ h]; rfl
theorem GameBlk.c7 {w : World} {gb : Nat} {c0 c1 c2 c3 : Value} {b : BV} (h : GameBlk w gb c0 c1 c2 c3 b) : w.cell? ⟨gb, 7, none⟩ = some b.we := by rw [cell_of_row w gb _ _ _ _ h]; rfl
theorem GameBlk.c8 {w : World} {gb : Nat} {c0 c1 c2 c3 : Value} {b : BV} (h : GameBlk w gb c0 c1 c2 c3 b) : w.cell? ⟨gb, 8, none⟩ = some b.re := by rw [cell_of_row w gb _ _ _ _ h]; rfl
theorem GameBlk.c9 {w : World} {gb : Nat} {c0 c1 c2 c3 : Value} {b : BV} (h : GameBlk w gb c0 c1 c2 c3 b) : w.cell? ⟨gb, 9, none⟩ = some b.wm := by rw [cell_of_row w gb _ _ _ _ h]; rfl
theorem GameBlk.c10 {w : World} {gb : Nat} {c0 c1 c2 c3 : Value} {b : BV} (h : GameBlk w gb c0 c1 c2 c3 b) : w.cell? ⟨gb, 10, none⟩ = some b.rm := by rw [cell_of_row w gb _ _ _ _ h]; rfl
theorem GameBlk.c11 {w : World} {gb : Nat} {c0 c1 c2 c3 : Value} {b : BV} (h : GameBlk w gb c0 c1 c2 c3 b) : w.cell? ⟨gb, 11, none⟩ = some b.wt := by rw [cell_of_row w gb _ _ _ _ h]; rfl
theorem GameBlk.c12 {w : World} {gb : Nat} {c0 c1 c2 c3 : Value} {b : BV} (h : GameBlk w gb c0 c1 c2 c3 b) : w.cell? ⟨gb, 12, none⟩ = some b.rt := by rw [cell_of_row w gb _ _ _ _ h]; rfl

theorem GameBlk.setWM {w : World} {gb : Nat} {c0 c1 c2 c3 : Value} {b : BV} (h : GameBlk w gb c0 c1 c2 c3 b) (v : Value) : GameBlk (w.setCell ⟨gb, 9, none⟩ v) gb c0 c1 c2 c3 { b with wm := v } := h.set 9 v
theorem GameBlk.setRM {w : World} {gb : Nat} {c0 c1 c2 c3 : Value} {b : BV} (h : GameBlk w gb c0 c1 c2 c3 b) (v : Value) : GameBlk (w.setCell ⟨gb, 10, none⟩ v) gb c0 c1 c2 c3 { b with rm := v } := h.set 10 v

end Go.Proofs.YteiecbkfganhnaaGreat
