/- Messages as they lie in memory. -/
import Derived.Test.YteiecbkfganhnaaOthers
namespace Go.Proofs.Yteiecbkfganhnaa
open Go.RowKit Go.MuLone

/-- The cells of a message; ev: its entries' slice. -/
def mcells (m : Msg) (ev : Value) : List Value := [.int .i64 m.kind, .int .i64 m.src, .int .i64 m.dst, .int .i64 m.term, .int .i64 m.index, .int .i64 m.logTerm, .int .i64 m.commit, ev, .bool m.granted]
/-- The cells of messages. -/
def mC (l : List (Msg × Value)) : List Value := l.flatMap fun x => mcells x.1 x.2

theorem mC_nil : mC [] = [] := rfl
theorem mC_cons (x : Msg × Value) (l : List (Msg × Value)) : mC (x :: l) = mcells x.1 x.2 ++ mC l := rfl
theorem mC_append (a b : List (Msg × Value)) : mC (a ++ b) = mC a ++ mC b := by simp [mC]
theorem mC_length (l : List (Msg × Value)) : (mC l).length = l.length * 9 := by
  induction l with
  | nil => rfl
  | cons x l ih => rw [mC_cons, List.length_append, ih, List.length_cons]; simp [mcells]; omega

theorem mC_get (l : List (Msg × Value)) (k : Nat) (x : Msg × Value) (h : l[k]? = some x) (o : Nat) (ho : o < 9) : (mC l)[k * 9 + o]? = (mcells x.1 x.2)[o]? := by
  induction l generalizing k with
  | nil => simp at h
  | cons y l ih =>
    cases k with
    | zero =>
      simp only [List.getElem?_cons_zero, Option.some.injEq] at h
      subst h
      rw [mC_cons, Nat.zero_mul, Nat.zero_add, List.getElem?_append_left (by simpa [mcells] using ho)]
    | succ k =>
      have := ih k (by simpa using h)
      rw [mC_cons, List.getElem?_append_right (by simp [mcells]; omega), ← this]
      congr 1
      simp [mcells]
      omega

theorem mC_set (l : List (Msg × Value)) (j : Nat) (x : Msg × Value) : ((((((((((mC l).set (j * 9) (.int .i64 x.1.kind)).set (j * 9 + 1) (.int .i64 x.1.src)).set (j * 9 + 2) (.int .i64 x.1.dst)).set (j * 9 + 3) (.int .i64 x.1.term)).set (j * 9 + 4) (.int .i64 x.1.index)).set (j * 9 + 5) (.int .i64 x.1.logTerm)).set (j * 9 + 6) (.int .i64 x.1.commit)).set (j * 9 + 7) (x.2)).set (j * 9 + 8) (.bool x.1.granted)) = mC (l.set j x) := by
  induction l generalizing j with
  | nil => rfl
  | cons y l ih =>
    cases j with
    | zero => rfl
    | succ j =>
      rw [show (j + 1) * 9 = j * 9 + 1 + 1 + 1 + 1 + 1 + 1 + 1 + 1 + 1 by omega, List.set_cons_succ, mC_cons, mC_cons, ← ih j]
      rfl

theorem owns_set1 {w : World} {base e size n cap g j : Nat} {xs : List Value} (u : Value) (h : w.ownsRow base e size (.slice (some ⟨g, 0, none⟩) n cap) n xs) :
    (w.setCell ⟨g, j, none⟩ u).ownsRow base e size (.slice (some ⟨g, 0, none⟩) n cap) n (xs.set j u) := by
  obtain ⟨hl, hr⟩ := h
  refine ⟨by rw [List.length_set]; exact hl, ?_⟩
  rcases hr with ⟨hv, _⟩ | ⟨g', cap', cur, hv, hg, hh, h1, h2, h3, h4⟩
  · simp at hv
  · simp only [Value.slice.injEq, Option.some.injEq, Addr.mk.injEq, and_true, true_and] at hv
    obtain ⟨rfl, rfl⟩ := hv
    refine .inr ⟨g, cap, cur.setIfInBounds j u, rfl, hg, heap_setCell_same w g _ cur e _ hh, h1, h2, by simpa using h3, ?_⟩
    simp only [Array.toList_setIfInBounds, List.take_set, h4]

def set9 (w : World) (g j : Nat) (x : Msg × Value) : World := (((((((((w.setCell ⟨g, j * 9, none⟩ (.int .i64 x.1.kind)).setCell ⟨g, j * 9 + 1, none⟩ (.int .i64 x.1.src)).setCell ⟨g, j * 9 + 2, none⟩ (.int .i64 x.1.dst)).setCell ⟨g, j * 9 + 3, none⟩ (.int .i64 x.1.term)).setCell ⟨g, j * 9 + 4, none⟩ (.int .i64 x.1.index)).setCell ⟨g, j * 9 + 5, none⟩ (.int .i64 x.1.logTerm)).setCell ⟨g, j * 9 + 6, none⟩ (.int .i64 x.1.commit)).setCell ⟨g, j * 9 + 7, none⟩ x.2).setCell ⟨g, j * 9 + 8, none⟩ (.bool x.1.granted))

theorem owns_set9 {w : World} {base e n cap g : Nat} {l : List (Msg × Value)} (j : Nat) (x : Msg × Value) (h : w.ownsRow base e 9 (.slice (some ⟨g, 0, none⟩) n cap) n (mC l)) :
    (set9 w g j x).ownsRow base e 9 (.slice (some ⟨g, 0, none⟩) n cap) n (mC (l.set j x)) := by
  rw [← mC_set]
  exact owns_set1 _ (owns_set1 _ (owns_set1 _ (owns_set1 _ (owns_set1 _ (owns_set1 _ (owns_set1 _ (owns_set1 _ (owns_set1 _ h))))))))

theorem heap_set9 {w : World} {g j b : Nat} {x : Msg × Value} (h : b ≠ g) : (set9 w g j x).heap[b]? = w.heap[b]? := by
  unfold set9
  rw [Below.heap_setCell _ _ _ _ h, Below.heap_setCell _ _ _ _ h, Below.heap_setCell _ _ _ _ h, Below.heap_setCell _ _ _ _ h, Below.heap_setCell _ _ _ _ h, Below.heap_setCell _ _ _ _ h, Below.heap_setCell _ _ _ _ h, Below.heap_setCell _ _ _ _ h, Below.heap_setCell _ _ _ _ h]

theorem below_set9 {B : Nat} {a w : World} {g j : Nat} {x : Msg × Value} (h : Below B a w) (hB : B ≤ g) : Below B a (set9 w g j x) :=
  (((((((((h.setCell (p := ⟨g, _, none⟩) hB _).setCell (p := ⟨g, _, none⟩) hB _).setCell (p := ⟨g, _, none⟩) hB _).setCell (p := ⟨g, _, none⟩) hB _).setCell (p := ⟨g, _, none⟩) hB _).setCell (p := ⟨g, _, none⟩) hB _).setCell (p := ⟨g, _, none⟩) hB _).setCell (p := ⟨g, _, none⟩) hB _).setCell (p := ⟨g, _, none⟩) hB _)

theorem owns_at {w : World} {base e size n cap : Nat} {vo : Option Addr} {xs : List Value} (h : w.ownsRow base e size (.slice vo n cap) n xs) {j : Nat} (hj : j < xs.length) :
    ∃ g, vo = some ⟨g, 0, none⟩ ∧ w.frozen? ⟨g, j, none⟩ = false ∧ w.cell? ⟨g, j, none⟩ = some xs[j] := by
  rcases h.2 with ⟨hv, h0⟩ | ⟨g', cap', cur, hv, hg, hh, h1, h2, h3, h4⟩
  · have := h.1; simp [h0] at this; subst this; simp at hj
  · simp only [Value.slice.injEq, true_and] at hv
    obtain ⟨rfl, rfl⟩ := hv
    refine ⟨g', rfl, frozen_of_row w g' _ cur e hh, ?_⟩
    have := h.cells (g := g') rfl j xs[j] (by simp [hj])
    rwa [add0] at this

/-- A slice value that reads as these numbers. -/
def IntsIn (w : World) (v : Value) (ts : List Int) : Prop :=
  ∃ ao cap, v = .slice ao ts.length cap ∧ ∀ k t, ts[k]? = some t → ∃ b off, ao = some ⟨b, off, none⟩ ∧ w.cell? ⟨b, off + k, none⟩ = some (.int .i64 t)

theorem ints_below {w w' : World} {v : Value} {ts : List Int} (h : IntsIn w v ts) (hb : Below w.heap.size w w') : IntsIn w' v ts := by
  obtain ⟨ao, cap, hv, he⟩ := h
  refine ⟨ao, cap, hv, fun k e hk => ?_⟩
  obtain ⟨b, off, ha, h1⟩ := he k e hk
  exact ⟨b, off, ha, (hb.cell (p := ⟨b, _, none⟩) (block_lt_of_cell h1)).trans h1⟩

theorem ints_of_owns {w : World} {base e : Nat} {v : Value} {l : List Nat} (h : w.ownsRow base e 1 v l.length (iC l)) : IntsIn w v (l.map fun (k : Nat) => (k : Int)) := by
  obtain ⟨ao, cap, rfl⟩ := owns_form h
  refine ⟨ao, cap, by simp, fun k t hk => ?_⟩
  simp only [List.getElem?_map, Option.map_eq_some_iff] at hk
  obtain ⟨x, hx, rfl⟩ := hk
  have hlt : k < (iC l).length := by rw [iC_length]; exact (List.getElem?_eq_some_iff.1 hx).1
  obtain ⟨g, rfl, _, hc⟩ := owns_at h hlt
  refine ⟨g, 0, rfl, ?_⟩
  have h2 := iC_get hx
  rw [List.getElem?_eq_getElem hlt, Option.some.injEq] at h2
  rw [Nat.zero_add, hc, h2]

/-- Messages that came out: a row of their own, and each one's entries a row of its own. -/
structure MsgsOut (w : World) (base : Nat) (v : Value) (ms : List Msg) (l : List (Msg × Value)) : Prop where
  fst : l.map Prod.fst = ms
  row : w.ownsRow base 50 9 v ms.length (mC l)
  ents : ∀ x ∈ l, w.ownsRow base 78 2 x.2 x.1.ents.length (eC x.1.ents)
  apart : l.Pairwise fun x y => ∀ b, x.2.ownBlock = some b → y.2.ownBlock ≠ some b

theorem MsgsOut.below {w w' : World} {base : Nat} {v : Value} {ms : List Msg} {l : List (Msg × Value)} (h : MsgsOut w base v ms l) (hb : Below w.heap.size w w') : MsgsOut w' base v ms l :=
  ⟨h.fst, owns_below h.row hb, fun x hx => owns_below (h.ents x hx) hb, h.apart⟩
theorem MsgsOut.ew {nb : Nat} {w w' : World} {base : Nat} {v : Value} {ms : List Msg} {l : List (Msg × Value)} (h : MsgsOut w base v ms l) (hb : Ew nb w w') (hn : nb < base) : MsgsOut w' base v ms l :=
  ⟨h.fst, owns_kept h.row fun x hx => hb.block x (owns_lt h.row x hx) (by have := (h.row.lt x hx).1; omega), fun y hy => owns_kept (h.ents y hy) fun x hx => hb.block x (owns_lt (h.ents y hy) x hx) (by have := ((h.ents y hy).lt x hx).1; omega), h.apart⟩
theorem MsgsOut.base {w : World} {base base' : Nat} {v : Value} {ms : List Msg} {l : List (Msg × Value)} (h : MsgsOut w base v ms l) (hb : base' ≤ base) : MsgsOut w base' v ms l :=
  ⟨h.fst, owns_base h.row hb, fun x hx => owns_base (h.ents x hx) hb, h.apart⟩
theorem MsgsOut.nil (w : World) (base : Nat) : MsgsOut w base (.slice none 0 0) [] [] :=
  ⟨rfl, World.ownsRow_nil w _ _ _, fun x hx => by simp at hx, List.Pairwise.nil⟩

theorem infoMsg : (Try.prog.info? 50).map (fun i => (i.zero, i.size, i.bytes)) = some (some (.agg #[.int .i64 0, .int .i64 0, .int .i64 0, .int .i64 0, .int .i64 0, .int .i64 0, .int .i64 0, .slice none 0 0, .bool false]), 9, 88) := by kernel_rfl

end Go.Proofs.Yteiecbkfganhnaa
