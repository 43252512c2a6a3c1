/- The program's node: request; The program's node: appendTo, sendAppends; The program's node: sendAppends; The program's node: count; The program's node: isFull, put, spread; The program's node: lead; The program's node: to stand, to ask, a leader's tick; The program's node: to ask, a leader's tick; The program's node: Tick; A region that draws its order, whose operations read and whose callees may make memory, but turn nothing old: one walk; sameMessage, sameMessages answer true at equal messages. -/
import Derived.Test.YteiecbkfganhnaaGreatKSend
import Derived.Deep.LoopGhost
import Derived.WalkMore
import Derived.Deep.AppendLies

namespace Go.Proofs.YteiecbkfganhnaaGreat

open Go.RowKit Go.MuLone

theorem others_ints (s : Nd) (kind t : Int) : s.request kind t = (s.others.map fun (k : Nat) => (k : Int)).map fun d => { kind := kind, src := (s.id : Int), dst := d, term := t, index := s.last, logTerm := s.termOf s.last, commit := 0, ents := [], granted := false } := by
  simp [Nd.request]

theorem others_len {s : Nd} (hn : s.n ≤ 7) : s.others.length ≤ 7 := Nat.le_trans (oth_len s.id s.n) hn

set_option maxRecDepth 100000 in
set_option maxHeartbeats 2000000 in
theorem request_any (mu : Int) (nb : Nat) (s : Nd) (lv : Value) (kind t : Int) (w : World) (h : NB mu w nb s lv) (hl : NL w s lv) (hs : s.last ≤ 60) (hn : s.n ≤ 7) :
    Calls Tryz.prog 102 #[.pointer (some ⟨nb, 0, none⟩), .int .i64 kind, .int .i64 t] w fun e w' => ∃ v l, e = .returned v ∧ MsgsOut w' w.heap.size v (s.request kind t) l ∧ Below w.heap.size w w' := by
  have H := hide h
  have HL := hide hl
  have HF := hide hl.form
  have hlt := h.lt
  have hne : ¬ nb = w.heap.size := by omega
  clear h hl
  rw [others_ints]
  obtain ⟨T, HT⟩ : ∃ T, s.termOf s.last = T := ⟨_, rfl⟩
  rw [HT]
  replace HT := hide HT
  go_enter Tryz.func102, Tryz.ntmps102
  go_wp2_with (first | (go_at_call 81; refine (last_any mu nb s _ _ (unhide H) (unhide HF)).mono ?_; rintro e w1 ⟨rfl, h1⟩; cases h1.symm) | (go_at_call 114; refine (termOf_any mu nb s _ s.last _ (unhide H) (unhide HL) (Nat.le_refl _) hs).mono ?_; rw [unhide HT]; rintro e w1 ⟨rfl, h1⟩; cases h1.symm))
  have hwb := heap_alloc_new w (.cells #[.int .i64 kind, .int .i64 0, .int .i64 0, .int .i64 t, .int .i64 (s.last : Int), .int .i64 T, .int .i64 0, .slice none 0 0, .bool false] 30)
  have hBW := below_alloc w (.cells #[.int .i64 kind, .int .i64 0, .int .i64 0, .int .i64 t, .int .i64 (s.last : Int), .int .i64 T, .int .i64 0, .slice none 0 0, .bool false] 30)
  have hN := (unhide H).below hBW
  generalize w.alloc (.cells #[.int .i64 kind, .int .i64 0, .int .i64 0, .int .i64 t, .int .i64 (s.last : Int), .int .i64 T, .int .i64 0, .slice none 0 0, .bool false] 30) = W at *
  have x0 : W.cell? ⟨w.heap.size, 0, none⟩ = some (.int .i64 kind) := cell_of_row W w.heap.size 0 _ _ _ hwb
  have x1 : W.cell? ⟨w.heap.size, 1, none⟩ = some (.int .i64 0) := cell_of_row W w.heap.size 1 _ _ _ hwb
  have x2 : W.cell? ⟨w.heap.size, 2, none⟩ = some (.int .i64 0) := cell_of_row W w.heap.size 2 _ _ _ hwb
  have x3 : W.cell? ⟨w.heap.size, 3, none⟩ = some (.int .i64 t) := cell_of_row W w.heap.size 3 _ _ _ hwb
  have x4 : W.cell? ⟨w.heap.size, 4, none⟩ = some (.int .i64 (s.last : Int)) := cell_of_row W w.heap.size 4 _ _ _ hwb
  have x5 : W.cell? ⟨w.heap.size, 5, none⟩ = some (.int .i64 T) := cell_of_row W w.heap.size 5 _ _ _ hwb
  have x6 : W.cell? ⟨w.heap.size, 6, none⟩ = some (.int .i64 0) := cell_of_row W w.heap.size 6 _ _ _ hwb
  have x7 : W.cell? ⟨w.heap.size, 7, none⟩ = some (.slice none 0 0) := cell_of_row W w.heap.size 7 _ _ _ hwb
  have x8 : W.cell? ⟨w.heap.size, 8, none⟩ = some (.bool false) := cell_of_row W w.heap.size 8 _ _ _ hwb
  have HN := hide hN
  have HBW := hide hBW
  clear hwb hBW hN
  go_region_held3 (fun w' => w'.cell? ⟨w.heap.size, 0, none⟩ = some (.int .i64 kind) ∧ w'.cell? ⟨w.heap.size, 1, none⟩ = some (.int .i64 0) ∧ w'.cell? ⟨w.heap.size, 2, none⟩ = some (.int .i64 0) ∧ w'.cell? ⟨w.heap.size, 3, none⟩ = some (.int .i64 t) ∧ w'.cell? ⟨w.heap.size, 4, none⟩ = some (.int .i64 (s.last : Int)) ∧ w'.cell? ⟨w.heap.size, 5, none⟩ = some (.int .i64 T) ∧ w'.cell? ⟨w.heap.size, 6, none⟩ = some (.int .i64 0) ∧ w'.cell? ⟨w.heap.size, 7, none⟩ = some (.slice none 0 0) ∧ w'.cell? ⟨w.heap.size, 8, none⟩ = some (.bool false)) (go_keep) (first | (go_at_call 99; refine (others_any mu nb s _ W.drew (by exact unhide HN) hn).mono ?_; rintro e w2 ⟨ov, rfl, ho2, hb2⟩; have z0 : w2.cell? ⟨w.heap.size, 0, none⟩ = _ := (hb2.cell (p := ⟨w.heap.size, 0, none⟩) (block_lt_of_cell x0)).trans x0; have z1 : w2.cell? ⟨w.heap.size, 1, none⟩ = _ := (hb2.cell (p := ⟨w.heap.size, 1, none⟩) (block_lt_of_cell x1)).trans x1; have z2 : w2.cell? ⟨w.heap.size, 2, none⟩ = _ := (hb2.cell (p := ⟨w.heap.size, 2, none⟩) (block_lt_of_cell x2)).trans x2; have z3 : w2.cell? ⟨w.heap.size, 3, none⟩ = _ := (hb2.cell (p := ⟨w.heap.size, 3, none⟩) (block_lt_of_cell x3)).trans x3; have z4 : w2.cell? ⟨w.heap.size, 4, none⟩ = _ := (hb2.cell (p := ⟨w.heap.size, 4, none⟩) (block_lt_of_cell x4)).trans x4; have z5 : w2.cell? ⟨w.heap.size, 5, none⟩ = _ := (hb2.cell (p := ⟨w.heap.size, 5, none⟩) (block_lt_of_cell x5)).trans x5; have z6 : w2.cell? ⟨w.heap.size, 6, none⟩ = _ := (hb2.cell (p := ⟨w.heap.size, 6, none⟩) (block_lt_of_cell x6)).trans x6; have z7 : w2.cell? ⟨w.heap.size, 7, none⟩ = _ := (hb2.cell (p := ⟨w.heap.size, 7, none⟩) (block_lt_of_cell x7)).trans x7; have z8 : w2.cell? ⟨w.heap.size, 8, none⟩ = _ := (hb2.cell (p := ⟨w.heap.size, 8, none⟩) (block_lt_of_cell x8)).trans x8; have hN2 : Hid (NB mu w2 nb s lv) := (NB.below (w := W.drew) (unhide HN) hb2); have hI2 := hide (ints_of_owns ho2); have hB2 := hide ((unhide HBW).trans ((Below.undrew hb2).mono (unhide HBW).size)); clear hb2 ho2) | (go_at_call 111; refine (send_any mu nb s _ { kind := kind, src := 0, dst := 0, term := t, index := s.last, logTerm := T, commit := 0, ents := [], granted := false } _ _ _ (unhide hN2) rfl (unhide hI2) (by simpa using others_len hn)).mono ?_; rintro e w3 ⟨v, rfl, hm3, hb3⟩; have y0 : w3.cell? ⟨w.heap.size, 0, none⟩ = _ := (hb3.cell (p := ⟨w.heap.size, 0, none⟩) (block_lt_of_cell z0)).trans z0; have y1 : w3.cell? ⟨w.heap.size, 1, none⟩ = _ := (hb3.cell (p := ⟨w.heap.size, 1, none⟩) (block_lt_of_cell z1)).trans z1; have y2 : w3.cell? ⟨w.heap.size, 2, none⟩ = _ := (hb3.cell (p := ⟨w.heap.size, 2, none⟩) (block_lt_of_cell z2)).trans z2; have y3 : w3.cell? ⟨w.heap.size, 3, none⟩ = _ := (hb3.cell (p := ⟨w.heap.size, 3, none⟩) (block_lt_of_cell z3)).trans z3; have y4 : w3.cell? ⟨w.heap.size, 4, none⟩ = _ := (hb3.cell (p := ⟨w.heap.size, 4, none⟩) (block_lt_of_cell z4)).trans z4; have y5 : w3.cell? ⟨w.heap.size, 5, none⟩ = _ := (hb3.cell (p := ⟨w.heap.size, 5, none⟩) (block_lt_of_cell z5)).trans z5; have y6 : w3.cell? ⟨w.heap.size, 6, none⟩ = _ := (hb3.cell (p := ⟨w.heap.size, 6, none⟩) (block_lt_of_cell z6)).trans z6; have y7 : w3.cell? ⟨w.heap.size, 7, none⟩ = _ := (hb3.cell (p := ⟨w.heap.size, 7, none⟩) (block_lt_of_cell z7)).trans z7; have y8 : w3.cell? ⟨w.heap.size, 8, none⟩ = _ := (hb3.cell (p := ⟨w.heap.size, 8, none⟩) (block_lt_of_cell z8)).trans z8; replace hm3 := hide hm3; replace hb3 := hide hb3))
  all_goals go_wp2
  all_goals go_ret
  all_goals exact ⟨_, _, rfl, (unhide hm3).base (unhide hB2).size, (unhide hB2).trans ((unhide hb3).mono (unhide hB2).size)⟩

end Go.Proofs.YteiecbkfganhnaaGreat

namespace Go.Proofs.YteiecbkfganhnaaGreat

open Go.RowKit Go.MuLone

theorem heap_nine {w : World} {g : Nat} {t : TypeId} {a0 a1 a2 a3 a4 a5 a6 a7 a8 : Value} (b0 b1 b2 b3 b4 b5 b6 b7 b8 : Value) (h : w.heap[g]? = some (.cells #[a0, a1, a2, a3, a4, a5, a6, a7, a8] t (0, 0))) :
    (((((((((w.setCell ⟨g, 0, none⟩ b0).setCell ⟨g, 1, none⟩ b1).setCell ⟨g, 2, none⟩ b2).setCell ⟨g, 3, none⟩ b3).setCell ⟨g, 4, none⟩ b4).setCell ⟨g, 5, none⟩ b5).setCell ⟨g, 6, none⟩ b6).setCell ⟨g, 7, none⟩ b7).setCell ⟨g, 8, none⟩ b8).heap[g]? = some (.cells #[b0, b1, b2, b3, b4, b5, b6, b7, b8] t (0, 0)) := by
  have h0 : (w.setCell ⟨g, 0, none⟩ b0).heap[g]? = some (.cells #[b0, a1, a2, a3, a4, a5, a6, a7, a8] t (0, 0)) := heap_setCell_same _ g 0 _ _ b0 h
  have h1 : ((w.setCell ⟨g, 0, none⟩ b0).setCell ⟨g, 1, none⟩ b1).heap[g]? = some (.cells #[b0, b1, a2, a3, a4, a5, a6, a7, a8] t (0, 0)) := heap_setCell_same _ g 1 _ _ b1 h0
  have h2 : (((w.setCell ⟨g, 0, none⟩ b0).setCell ⟨g, 1, none⟩ b1).setCell ⟨g, 2, none⟩ b2).heap[g]? = some (.cells #[b0, b1, b2, a3, a4, a5, a6, a7, a8] t (0, 0)) := heap_setCell_same _ g 2 _ _ b2 h1
  have h3 : ((((w.setCell ⟨g, 0, none⟩ b0).setCell ⟨g, 1, none⟩ b1).setCell ⟨g, 2, none⟩ b2).setCell ⟨g, 3, none⟩ b3).heap[g]? = some (.cells #[b0, b1, b2, b3, a4, a5, a6, a7, a8] t (0, 0)) := heap_setCell_same _ g 3 _ _ b3 h2
  have h4 : (((((w.setCell ⟨g, 0, none⟩ b0).setCell ⟨g, 1, none⟩ b1).setCell ⟨g, 2, none⟩ b2).setCell ⟨g, 3, none⟩ b3).setCell ⟨g, 4, none⟩ b4).heap[g]? = some (.cells #[b0, b1, b2, b3, b4, a5, a6, a7, a8] t (0, 0)) := heap_setCell_same _ g 4 _ _ b4 h3
  have h5 : ((((((w.setCell ⟨g, 0, none⟩ b0).setCell ⟨g, 1, none⟩ b1).setCell ⟨g, 2, none⟩ b2).setCell ⟨g, 3, none⟩ b3).setCell ⟨g, 4, none⟩ b4).setCell ⟨g, 5, none⟩ b5).heap[g]? = some (.cells #[b0, b1, b2, b3, b4, b5, a6, a7, a8] t (0, 0)) := heap_setCell_same _ g 5 _ _ b5 h4
  have h6 : (((((((w.setCell ⟨g, 0, none⟩ b0).setCell ⟨g, 1, none⟩ b1).setCell ⟨g, 2, none⟩ b2).setCell ⟨g, 3, none⟩ b3).setCell ⟨g, 4, none⟩ b4).setCell ⟨g, 5, none⟩ b5).setCell ⟨g, 6, none⟩ b6).heap[g]? = some (.cells #[b0, b1, b2, b3, b4, b5, b6, a7, a8] t (0, 0)) := heap_setCell_same _ g 6 _ _ b6 h5
  have h7 : ((((((((w.setCell ⟨g, 0, none⟩ b0).setCell ⟨g, 1, none⟩ b1).setCell ⟨g, 2, none⟩ b2).setCell ⟨g, 3, none⟩ b3).setCell ⟨g, 4, none⟩ b4).setCell ⟨g, 5, none⟩ b5).setCell ⟨g, 6, none⟩ b6).setCell ⟨g, 7, none⟩ b7).heap[g]? = some (.cells #[b0, b1, b2, b3, b4, b5, b6, b7, a8] t (0, 0)) := heap_setCell_same _ g 7 _ _ b7 h6
  have h8 : (((((((((w.setCell ⟨g, 0, none⟩ b0).setCell ⟨g, 1, none⟩ b1).setCell ⟨g, 2, none⟩ b2).setCell ⟨g, 3, none⟩ b3).setCell ⟨g, 4, none⟩ b4).setCell ⟨g, 5, none⟩ b5).setCell ⟨g, 6, none⟩ b6).setCell ⟨g, 7, none⟩ b7).setCell ⟨g, 8, none⟩ b8).heap[g]? = some (.cells #[b0, b1, b2, b3, b4, b5, b6, b7, b8] t (0, 0)) := heap_setCell_same _ g 8 _ _ b8 h7
  exact h8

theorem ents_part {w : World} {b n cap : Nat} {es : List Ent} (h : EntsIn w (.slice (some ⟨b, 0, none⟩) n cap) es) (lo k c : Nat) : EntsIn w (.slice (some ⟨b, lo * 2, none⟩) ((es.drop lo).take k).length c) ((es.drop lo).take k) := by
  obtain ⟨ao, cap', hv, _, he⟩ := h
  refine ⟨some ⟨b, lo * 2, none⟩, c, rfl, fun hx => by simp at hx, fun j e hj => ⟨b, lo * 2, rfl, ?_⟩⟩
  have hj2 : es[lo + j]? = some e := by
    rw [List.getElem?_take] at hj
    split at hj
    · rwa [List.getElem?_drop] at hj
    · simp at hj
  obtain ⟨b', off', ha, h1, h2⟩ := he (lo + j) e hj2
  simp only [Value.slice.injEq] at hv
  obtain ⟨rfl, _, _⟩ := hv
  simp only [Option.some.injEq, Addr.mk.injEq, and_true] at ha
  obtain ⟨rfl, rfl⟩ := ha
  rw [Nat.zero_add, Nat.add_mul] at h1 h2
  exact ⟨h1, h2⟩

/-- A part of a list of entries. -/
theorem slice_ents (lb n cap a E : Nat) (es : List Ent) (h1 : a ≤ E) (h2 : E ≤ n) (h3 : n ≤ cap) (hl : es.length = n) : ∃ ad c, (∀ w, (Instr.slice 22 (.slice (some ⟨lb, 0, none⟩) n cap) (some (.int .i64 (a : Int))) (some (.int .i64 (E : Int))) none).run Tryz.prog w = .ok (.slice (some ad) (E - a) c) w) ∧
    ∀ W, EntsIn W (.slice (some ⟨lb, 0, none⟩) n cap) es → EntsIn W (.slice (some ad) (E - a) c) ((es.drop a).take (E - a)) := by
  have i1 : (0 : Int) ≤ (a : Int) := by omega
  have i2 : (a : Int) ≤ (E : Int) := by omega
  have i3 : (E : Int) ≤ (cap : Int) := by omega
  by_cases hca : cap = a
  · refine ⟨⟨lb, 0, none⟩, cap - a, fun w => by subst hca; go_simp, fun W hW => ?_⟩
    have h0 : E - a = 0 := by omega
    rw [h0, List.take_zero]
    exact ⟨_, _, rfl, fun hx => by simp at hx, fun k e hk => by simp at hk⟩
  · refine ⟨⟨lb, a * 2, none⟩, cap - a, fun w => by go_simp, fun W hW => ?_⟩
    have h := ents_part hW a (E - a) (cap - a)
    have h0 : ((es.drop a).take (E - a)).length = E - a := by simp; omega
    rwa [h0] at h

theorem part_len (es : List Ent) (a : Nat) : ((es.drop a).take 3).length = min (a + 3) es.length - a := by simp; omega

theorem part_take (es : List Ent) (a : Nat) : (es.drop a).take (min (a + 3) es.length - a) = (es.drop a).take 3 := by
  by_cases h : a + 3 ≤ es.length
  · rw [Nat.min_eq_left h, show a + 3 - a = 3 by omega]
  · rw [Nat.min_eq_right (by omega), List.take_of_length_le (by simp), List.take_of_length_le (by simp; omega)]

theorem owns_nine {w : World} {base e size n g : Nat} {v : Value} {xs : List Value} {b0 b1 b2 b3 b4 b5 b6 b7 b8 : Value} (h : w.ownsRow base e size v n xs) (hne : ∀ x, v.ownBlock = some x → x ≠ g) :
    (((((((((w.setCell ⟨g, 0, none⟩ b0).setCell ⟨g, 1, none⟩ b1).setCell ⟨g, 2, none⟩ b2).setCell ⟨g, 3, none⟩ b3).setCell ⟨g, 4, none⟩ b4).setCell ⟨g, 5, none⟩ b5).setCell ⟨g, 6, none⟩ b6).setCell ⟨g, 7, none⟩ b7).setCell ⟨g, 8, none⟩ b8).ownsRow base e size v n xs := by
  refine owns_kept h fun x hx => ?_
  have hn := hne x hx
  rw [Below.heap_setCell _ _ _ _ hn, Below.heap_setCell _ _ _ _ hn, Below.heap_setCell _ _ _ _ hn, Below.heap_setCell _ _ _ _ hn, Below.heap_setCell _ _ _ _ hn, Below.heap_setCell _ _ _ _ hn, Below.heap_setCell _ _ _ _ hn, Below.heap_setCell _ _ _ _ hn, Below.heap_setCell _ _ _ _ hn]

theorem below_nine {B : Nat} {a w : World} {g : Nat} {b0 b1 b2 b3 b4 b5 b6 b7 b8 : Value} (h : Below B a w) (hB : B ≤ g) :
    Below B a (((((((((w.setCell ⟨g, 0, none⟩ b0).setCell ⟨g, 1, none⟩ b1).setCell ⟨g, 2, none⟩ b2).setCell ⟨g, 3, none⟩ b3).setCell ⟨g, 4, none⟩ b4).setCell ⟨g, 5, none⟩ b5).setCell ⟨g, 6, none⟩ b6).setCell ⟨g, 7, none⟩ b7).setCell ⟨g, 8, none⟩ b8) :=
  (((((((((h.setCell (p := ⟨g, 0, none⟩) hB _).setCell (p := ⟨g, 1, none⟩) hB _).setCell (p := ⟨g, 2, none⟩) hB _).setCell (p := ⟨g, 3, none⟩) hB _).setCell (p := ⟨g, 4, none⟩) hB _).setCell (p := ⟨g, 5, none⟩) hB _).setCell (p := ⟨g, 6, none⟩) hB _).setCell (p := ⟨g, 7, none⟩) hB _).setCell (p := ⟨g, 8, none⟩) hB _)

set_option maxRecDepth 100000 in
set_option maxHeartbeats 2000000 in
theorem appendTo_any (mu : Int) (nb : Nat) (s : Nd) (lv : Value) (i : Nat) (w : World) (h : NB mu w nb s lv) (hl : NL w s lv) (hs : s.last ≤ 60) (hz : ∀ e ∈ s.log, e.2.size ≤ 20) (hi : i < 7) (h1 : 1 ≤ s.nx i) (h2 : s.nx i ≤ s.last + 1) (h3 : 0 < s.last) :
    Calls Tryz.prog 131 #[.pointer (some ⟨nb, 0, none⟩), .int .i64 (i : Int)] w fun e w' => ∃ ev, e = .returned (magg (s.appendTo i) ev) ∧ w'.ownsRow w.heap.size 66 2 ev (s.appendTo i).ents.length (eC (s.appendTo i).ents) ∧ Below w.heap.size w w' := by
  obtain ⟨lb, cap, rfl⟩ : ∃ lb cap, lv = .slice (some ⟨lb, 0, none⟩) s.log.length cap := by
    rcases hl.2 with ⟨rfl, h0⟩ | ⟨g, cap, cur, rfl, _⟩
    · exact absurd h0 (by have : s.last = s.log.length := rfl; omega)
    · exact ⟨g, cap, rfl⟩
  have hcap : s.log.length ≤ cap := by
    rcases hl.2 with ⟨hv, h0⟩ | ⟨g, cap', cur, hv, _, _, hle, _⟩
    · simp at hv
    · simp at hv; omega
  obtain ⟨a, ha⟩ : ∃ a, s.nx i = a + 1 := ⟨s.nx i - 1, by omega⟩
  have cN := h.nx hi
  have c2 := h.c2
  have c4 := h.c4
  have c6 := h.c6
  have c9 := h.c9
  have hlt := h.lt
  have hne : ¬ nb = w.heap.size := by omega
  rw [ha] at cN h2
  have hla : a ≤ s.last := by omega
  obtain ⟨T, hT⟩ : ∃ T, s.termOf a = T := ⟨_, rfl⟩
  have HE : Hid (s.appendTo i = { kind := 4, src := s.id, dst := i, term := s.term, index := (a : Int), logTerm := T, commit := s.commit, ents := (s.log.drop a).take 3, granted := false }) := by
    show _ = _
    simp only [Nd.appendTo, ha, Nat.add_sub_cancel, hT]
    congr 1
    omega
  rw [unhide HE]
  obtain ⟨es, hes⟩ : ∃ es, (s.log.drop a).take 3 = es := ⟨_, rfl⟩
  simp only [hes]
  have HES := hide hes
  clear hes
  have HT := hide hT
  have HA := hide ha
  clear HE hT ha h1
  have hi' : ((i : Int) < 7) := by omega
  have hi0 : (0 : Int) ≤ (i : Int) := by omega
  have hs' : s.log.length ≤ 60 := hs
  have hla' : a ≤ s.log.length := hla
  have HZ := hide hz
  have H := hide (h.below (below_alloc w (.cells #[.int .i64 0, .int .i64 0, .int .i64 0, .int .i64 0, .int .i64 0, .int .i64 0, .int .i64 0, .slice none 0 0, .bool false] 30)))
  have HL := hide (hl.below (below_alloc w (.cells #[.int .i64 0, .int .i64 0, .int .i64 0, .int .i64 0, .int .i64 0, .int .i64 0, .int .i64 0, .slice none 0 0, .bool false] 30)))
  clear h hl hz
  go_enter Tryz.func131, Tryz.ntmps131
  go_wp2_with (first | (go_at_call 81; refine (last_any mu nb s _ _ (unhide H) ⟨_, _, rfl⟩).mono ?_; rintro e w1 ⟨rfl, h1⟩; cases h1.symm))
  obtain ⟨E, hE⟩ : ∃ E : Nat, E = min (a + 3) s.log.length := ⟨_, rfl⟩
  have hm : min ((a : Int) + 3) (s.last : Int) = (E : Int) := by
    have : s.last = s.log.length := rfl
    omega
  rw [hm]
  have hEa : a ≤ E := by omega
  have hEl : E ≤ s.log.length := by omega
  have HEL : Hid (E - a = es.length) := by show _ = _; rw [← unhide HES, part_len, hE]
  have hwb := heap_alloc_new w (.cells #[.int .i64 0, .int .i64 0, .int .i64 0, .int .i64 0, .int .i64 0, .int .i64 0, .int .i64 0, .slice none 0 0, .bool false] 30)
  have hBW := below_alloc w (.cells #[.int .i64 0, .int .i64 0, .int .i64 0, .int .i64 0, .int .i64 0, .int .i64 0, .int .i64 0, .slice none 0 0, .bool false] 30)
  have e2 := (unhide H).c2
  have e4 := (unhide H).c4
  have e6 := (unhide H).c6
  have e9 := (unhide H).c9
  clear hm cN c2 c4 c6 c9
  generalize w.alloc (.cells #[.int .i64 0, .int .i64 0, .int .i64 0, .int .i64 0, .int .i64 0, .int .i64 0, .int .i64 0, .slice none 0 0, .bool false] 30) = W at *
  have hlw : w.heap.size < W.heap.size := (Array.getElem?_eq_some_iff.1 hwb).1
  have HZ3 : Hid (∀ e ∈ es, e.2.size ≤ 20) := fun e he => (unhide HZ) e (List.mem_of_mem_drop (List.mem_of_mem_take (unhide HES ▸ he)))
  have HL3 : Hid (es.length ≤ 60) := by show _ ≤ _; rw [← unhide HEL]; omega
  have HBW := hide hBW
  have HWB := hide hwb
  have HLW := hide hlw
  have hne2 : w.heap.size ≠ nb := fun h => hne h.symm
  obtain ⟨ad, ac, hsl, hen⟩ := slice_ents lb s.log.length cap a E s.log hEa hEl hcap rfl
  have hen2 := hen W (unhide HL).ents
  rw [show (s.log.drop a).take (E - a) = es by rw [← unhide HES, hE]; exact part_take s.log a] at hen2
  rw [unhide HEL] at hsl hen2
  have HEN := hide hen2
  clear hen hen2
  clear hBW hwb hlw hE hEa hEl hla'
  go_region_held3 (fun w' => w'.cell? ⟨nb, 2, none⟩ = some (.int .i64 (s.id : Int)) ∧ w'.cell? ⟨nb, 4, none⟩ = some (.int .i64 s.term) ∧ w'.cell? ⟨nb, 6, none⟩ = some (.slice (some ⟨lb, 0, none⟩) s.log.length cap) ∧ w'.cell? ⟨nb, 9, none⟩ = some (.int .i64 (s.commit : Int))) (first | go_keep) (first | (go_at_call 114; refine (termOf_any mu nb s _ a W.drew (by exact unhide H) (by exact unhide HL) hla hs).mono ?_; rw [unhide HT]; rintro e w1 ⟨rfl, rfl⟩) | (go_at_call 23; refine (copyEntries_any _ es W.drew (unhide HL3) (unhide HZ3) (by exact unhide HEN)).mono ?_; rintro e w3 ⟨v', rfl, hr3, hb3⟩; obtain ⟨vo, vc, rfl⟩ := owns_form hr3; have z2 : w3.cell? ⟨nb, 2, none⟩ = _ := (hb3.cell (p := ⟨nb, 2, none⟩) (block_lt_of_cell e2)).trans e2; have z4 : w3.cell? ⟨nb, 4, none⟩ = _ := (hb3.cell (p := ⟨nb, 4, none⟩) (block_lt_of_cell e4)).trans e4; have z6 : w3.cell? ⟨nb, 6, none⟩ = _ := (hb3.cell (p := ⟨nb, 6, none⟩) (block_lt_of_cell e6)).trans e6; have z9 : w3.cell? ⟨nb, 9, none⟩ = _ := (hb3.cell (p := ⟨nb, 9, none⟩) (block_lt_of_cell e9)).trans e9; have y0 : w3.cell? ⟨w.heap.size, 0, none⟩ = some (.int .i64 0) := ((hb3.cell (p := ⟨w.heap.size, 0, none⟩) (unhide HLW)).trans (cell_of_row W w.heap.size 0 _ _ _ (unhide HWB))); have y1 : w3.cell? ⟨w.heap.size, 1, none⟩ = some (.int .i64 0) := ((hb3.cell (p := ⟨w.heap.size, 1, none⟩) (unhide HLW)).trans (cell_of_row W w.heap.size 1 _ _ _ (unhide HWB))); have y2 : w3.cell? ⟨w.heap.size, 2, none⟩ = some (.int .i64 0) := ((hb3.cell (p := ⟨w.heap.size, 2, none⟩) (unhide HLW)).trans (cell_of_row W w.heap.size 2 _ _ _ (unhide HWB))); have y3 : w3.cell? ⟨w.heap.size, 3, none⟩ = some (.int .i64 0) := ((hb3.cell (p := ⟨w.heap.size, 3, none⟩) (unhide HLW)).trans (cell_of_row W w.heap.size 3 _ _ _ (unhide HWB))); have y4 : w3.cell? ⟨w.heap.size, 4, none⟩ = some (.int .i64 0) := ((hb3.cell (p := ⟨w.heap.size, 4, none⟩) (unhide HLW)).trans (cell_of_row W w.heap.size 4 _ _ _ (unhide HWB))); have y5 : w3.cell? ⟨w.heap.size, 5, none⟩ = some (.int .i64 0) := ((hb3.cell (p := ⟨w.heap.size, 5, none⟩) (unhide HLW)).trans (cell_of_row W w.heap.size 5 _ _ _ (unhide HWB))); have y6 : w3.cell? ⟨w.heap.size, 6, none⟩ = some (.int .i64 0) := ((hb3.cell (p := ⟨w.heap.size, 6, none⟩) (unhide HLW)).trans (cell_of_row W w.heap.size 6 _ _ _ (unhide HWB))); have y7 : w3.cell? ⟨w.heap.size, 7, none⟩ = some (.slice none 0 0) := ((hb3.cell (p := ⟨w.heap.size, 7, none⟩) (unhide HLW)).trans (cell_of_row W w.heap.size 7 _ _ _ (unhide HWB))); have y8 : w3.cell? ⟨w.heap.size, 8, none⟩ = some (.bool false) := ((hb3.cell (p := ⟨w.heap.size, 8, none⟩) (unhide HLW)).trans (cell_of_row W w.heap.size 8 _ _ _ (unhide HWB))); have hw3 := (hb3.block w.heap.size (unhide HLW)).trans (unhide HWB); have x0 := frozen_of_row w3 w.heap.size 0 _ _ hw3; have x1 := frozen_of_row w3 w.heap.size 1 _ _ hw3; have x2 := frozen_of_row w3 w.heap.size 2 _ _ hw3; have x3 := frozen_of_row w3 w.heap.size 3 _ _ hw3; have x4 := frozen_of_row w3 w.heap.size 4 _ _ hw3; have x5 := frozen_of_row w3 w.heap.size 5 _ _ hw3; have x6 := frozen_of_row w3 w.heap.size 6 _ _ hw3; have x7 := frozen_of_row w3 w.heap.size 7 _ _ hw3; have x8 := frozen_of_row w3 w.heap.size 8 _ _ hw3; replace hw3 := hide hw3; replace hr3 := hide hr3; replace hb3 := hide hb3))
  all_goals go_wp2
  all_goals
    have h9 := heap_nine (.int .i64 4) (.int .i64 (s.id : Int)) (.int .i64 (i : Int)) (.int .i64 s.term) (.int .i64 (a : Int)) (.int .i64 T) (.int .i64 (s.commit : Int)) (.slice vo es.length vc) (.bool false) (unhide hw3)
    refine bodyPost_ret (v := .agg #[.int .i64 4, .int .i64 (s.id : Int), .int .i64 (i : Int), .int .i64 s.term, .int .i64 (a : Int), .int .i64 T, .int .i64 (s.commit : Int), .slice vo es.length vc, .bool false]) (results_cell_row Tryz.results131 _ _ w.heap.size _ _ _ _ rfl h9 Tryz.underlying30 rfl (by kernel_rfl)) rfl ⟨_, rfl, ?_, ?_⟩
    · exact owns_nine (owns_base (unhide hr3) (Nat.le_of_lt (unhide HLW))) (fun x hx => by have := ((unhide hr3).lt x hx).1; have := unhide HLW; exact Nat.ne_of_gt (Nat.lt_of_lt_of_le this (by assumption)))
    · exact below_nine ((unhide HBW).trans ((Below.undrew (unhide hb3)).mono (Nat.le_of_lt (unhide HLW)))) (Nat.le_refl _)

end Go.Proofs.YteiecbkfganhnaaGreat

namespace Go.Proofs.YteiecbkfganhnaaGreat

open Go.RowKit Go.MuLone

theorem owns_other {w : World} {b1 b2 e1 e2 s1 s2 n1 n2 : Nat} {v1 v2 : Value} {x1 x2 : List Value} (h1 : w.ownsRow b1 e1 s1 v1 n1 x1) (h2 : w.ownsRow b2 e2 s2 v2 n2 x2) (hne : e1 ≠ e2) : ∀ x, v1.ownBlock = some x → v2.ownBlock ≠ some x := by
  intro x hx hy
  rcases h1.2 with ⟨rfl, _⟩ | ⟨g, cap, cur, rfl, _, hg, _⟩
  · simp [Value.ownBlock] at hx
  · rcases h2.2 with ⟨rfl, _⟩ | ⟨g', cap', cur', rfl, _, hg', _⟩
    · simp [Value.ownBlock] at hy
    · simp [Value.ownBlock] at hx hy
      subst hx
      subst hy
      rw [hg] at hg'
      simp at hg'
      exact hne hg'.2

theorem cells_new9 (w : World) (l : List Value) (t : TypeId) : ∀ j u, l[j]? = some u → (w.alloc (.cells l.toArray t)).cell? ((⟨w.heap.size, 0, none⟩ : Addr).add j) = some u := by
  intro j u hj
  rw [add0, cell_of_row _ _ _ _ _ _ (heap_alloc_new w _)]
  simpa using hj

theorem MsgsOut.push {w w1 w2 : World} {base : Nat} {v v' ev : Value} {ms : List Msg} {l : List (Msg × Value)} {m : Msg} {o : Obj} (h : MsgsOut w base v ms l) (hw : base ≤ w.heap.size) (hb : Below w.heap.size w w1) (he : w1.ownsRow w.heap.size 66 2 ev m.ents.length (eC m.ents))
    (hg : (w1.alloc o).grownBy w2 v.ownBlock) (hr : w2.ownsRow base 30 9 v' (ms.length + 1) (mC l ++ mcells m ev)) : MsgsOut w2 base v' (ms ++ [m]) (l ++ [(m, ev)]) := by
  have hrow := owns_below h.row hb
  have keep : ∀ {x : Msg × Value} {B : Nat}, w1.ownsRow B 66 2 x.2 x.1.ents.length (eC x.1.ents) → w2.ownsRow B 66 2 x.2 x.1.ents.length (eC x.1.ents) := fun {x B} hx =>
    owns_kept (hx.alloc o) fun k hk => hg.block k (owns_lt (hx.alloc o) k hk) (fun e => owns_other hx hrow (by decide) k hk e.symm)
  refine ⟨by rw [List.map_append, h.fst]; rfl, ?_, fun x hx => ?_, ?_⟩
  · rw [mC_append, List.length_append]
    simpa [mC] using hr
  · rcases List.mem_append.1 hx with hx | hx
    · exact keep (owns_below (h.ents x hx) hb)
    · simp only [List.mem_singleton] at hx
      subst hx
      exact owns_base (keep he) hw
  · refine List.pairwise_append.2 ⟨h.apart, List.pairwise_singleton _ _, fun x hx y hy b hxb hyb => ?_⟩
    simp only [List.mem_singleton] at hy
    subst hy
    have h1 := ((h.ents x hx).lt b hxb).2
    have h2 := (he.lt b hyb).1
    omega

theorem mcells_one (m : Msg) (ao : Option Addr) (n c : Nat) : ∀ u ∈ mcells m (.slice ao n c), u.oneCell' = true := by
  intro u hu
  simp only [mcells, List.mem_cons, List.not_mem_nil, or_false] at hu
  rcases hu with rfl | rfl | rfl | rfl | rfl | rfl | rfl | rfl | rfl <;> rfl

set_option maxRecDepth 100000 in
set_option maxHeartbeats 2000000 in
theorem sendAppends_any (mu : Int) (nb : Nat) (s : Nd) (lv : Value) (ts : List Nat) (tv : Value) (w : World) (h : NB mu w nb s lv) (hl : NL w s lv) (hL : Leads s) (hn : s.n ≤ 7) (ht : IntsIn w tv (ts.map fun (k : Nat) => (k : Int))) (htn : ∀ t ∈ ts, t < s.n) (hlen : ts.length ≤ 7) :
    Calls Tryz.prog 98 #[.pointer (some ⟨nb, 0, none⟩), tv] w fun e w' => ∃ v l, e = .returned v ∧ MsgsOut w' w.heap.size v (ts.map s.appendTo) l ∧ Below w.heap.size w w' := by
  obtain ⟨ao, cap, rfl, ha⟩ := ht
  simp only [List.length_map]
  have HA := hide ha
  have H := hide h
  have HL := hide hl
  have HLD := hide hL
  have HTN := hide htn
  clear ha h hl hL htn
  obtain ⟨i0, hi, hz0, hz1, hz2⟩ := info_parts infoMsg
  go_enter Tryz.func98, Tryz.ntmps98
  go_wp2
  go_loopw [5, 10] (fun v i wr => ∃ (k : Nat) (l : List (Msg × Value)), k ≤ ts.length ∧ i = .int .i64 k ∧ MsgsOut wr w.heap.size v ((ts.take k).map s.appendTo) l ∧ Below w.heap.size w wr) (fun _ i _ => ts.length - (intOf i).toNat)
  case atStart => exact ⟨0, [], Nat.zero_le _, rfl, MsgsOut.nil _ _, Below.refl _ _⟩
  case round =>
    obtain ⟨k, l, hk, rfl, ho, hb⟩ := hrel
    by_cases hlt : k < ts.length
    · obtain ⟨b, off, rfl, a0'⟩ := (unhide HA) k _ (show (ts.map fun (k : Nat) => (k : Int))[k]? = some (ts[k] : Int) by simp [hlt])
      have a0 := (hb.cell (p := ⟨b, off + k, none⟩) (block_lt_of_cell a0')).trans a0'
      have i1 : (0 : Int) ≤ (k : Int) := by omega
      have i2 : (k : Int) < (ts.length : Int) := by omega
      have HTK := hide ((unhide HTN) ts[k] (List.getElem_mem hlt))
      have HM : Hid ((ts.take (k + 1)).map s.appendTo = (ts.take k).map s.appendTo ++ [s.appendTo ts[k]]) := by show _ = _; rw [List.take_succ_eq_append_getElem hlt, List.map_append]; rfl
      obtain ⟨vo, vc, rfl⟩ := owns_form ho.row
      have hkl : ((ts.take k).map s.appendTo).length = k := by simp; omega
      rw [hkl] at ho ⊢
      have HO := hide ho
      have HB := hide hb
      clear a0' ho hb
      generalize ts[k] = t at *
      go_wp2_with (first | (go_at_call 131; refine (appendTo_any mu nb s lv t wr ((unhide H).below (unhide HB)) ((unhide HL).below (unhide HB)) (unhide HLD).last (unhide HLD).sz (Nat.lt_of_lt_of_le (unhide HTK) hn) ((unhide HLD).lo t (unhide HTK)) ((unhide HLD).hi t (unhide HTK)) (unhide HLD).pos).mono ?_; rintro e w1 ⟨ev, rfl, he1, hb1⟩; obtain ⟨eo, ec, rfl⟩ := owns_form he1; generalize s.appendTo t = m at *; replace he1 := hide he1; replace hb1 := hide hb1) | (at_builtin; go_must (refine wpList_append_own_at _ rfl (.tmp 14) (.tmp 18) 62 rfl w.heap.size 30 i0 _ 9 88 Tryz.underlying62 hi hz0 hz1 hz2 rfl (by decide) (.slice vo k vc) k (mC l) rfl (by have h1 := (owns_below (unhide HO).row (unhide hb1)).alloc (.cells (mcells m (.slice eo m.ents.length ec)).toArray 30); rw [hkl] at h1; exact h1) ⟨w1.heap.size, 0, none⟩ 1 1 (mcells m (.slice eo m.ents.length ec)) rfl rfl (by exact cells_new9 _ _ _) (mcells_one _ _ _ _) (by unfold maxLen; omega) (by omega) (by have h1 := (unhide HB).size; have h2 := (unhide hb1).size; simp; omega) ?_)))
      intro v' w' h2 h3 _ _
      have HP : Hid (MsgsOut w' w.heap.size v' ((ts.take (k + 1)).map s.appendTo) (l ++ [(m, .slice eo m.ents.length ec)])) := by
        have h4 := (unhide HO).push (unhide HB).size (unhide hb1) (unhide he1) h3 (v' := v') (by rw [hkl]; exact h2)
        rw [← unhide HM] at h4
        exact h4
      have HB2 : Hid (Below w.heap.size w w') := (((unhide HB).trans ((unhide hb1).mono (unhide HB).size)).alloc (Nat.le_trans (unhide HB).size (unhide hb1).size) _).grown h3 (by have h1 := (unhide HB).size; have h2 := (unhide hb1).size; simp; omega) (fun x hx => ((unhide HO).row.lt x hx).1)
      clear h2 h3
      go_wp2
      go_roundw
      case rel => exact ⟨k + 1, _, by omega, by go_num, unhide HP, unhide HB2⟩
      case measure => simp [intOf]; omega
    · have hkn : k = ts.length := by omega
      subst hkn
      rw [List.take_length] at ho
      have HO := hide ho
      have HB := hide hb
      clear ho hb
      go_wp2
      go_ret
      exact ⟨_, _, rfl, unhide HO, unhide HB⟩

end Go.Proofs.YteiecbkfganhnaaGreat

namespace Go.Proofs.YteiecbkfganhnaaGreat

open Go.RowKit Go.MuLone

theorem cntTo_mono (g : Nat → Bool) {j n : Nat} (h : j ≤ n) : cntTo g j ≤ cntTo g n := by
  induction n with
  | zero => have : j = 0 := by omega
            subst this; exact Nat.le_refl _
  | succ n ih =>
    by_cases hj : j = n + 1
    · subst hj; exact Nat.le_refl _
    · exact Nat.le_trans (ih (by omega)) (by simp [cntTo])

theorem maj_mono {s : Nd} {a b : Nat} (h : a ≤ b) (ha : s.maj a = true) : s.maj b = true := by
  simp only [Nd.maj, decide_eq_true_eq] at *; omega

theorem countFrom_le {s : Nd} {k : Nat} (h : k ≤ s.commit) : s.countFrom k = s.commit := by
  cases k with
  | zero => rfl
  | succ k => simp [Nd.countFrom, h]

theorem countFrom_hit {s : Nd} {k : Nat} (h : s.commit < k) (hm : s.maj (s.have_ k) = true) (ht : s.termOf k = s.term) : s.countFrom k = k := by
  cases k with
  | zero => omega
  | succ k => simp [Nd.countFrom, hm, ht]; omega

theorem countFrom_next {s : Nd} {k : Nat} (h : s.commit < k + 1) (hm : s.maj (s.have_ (k + 1)) = false) : s.countFrom (k + 1) = s.countFrom k := by
  simp [Nd.countFrom, hm]; omega

theorem countFrom_old {s : Nd} {k : Nat} (h : ∀ j, 1 ≤ j → j ≤ k → s.termOf j ≠ s.term) : s.countFrom k = s.commit := by
  induction k with
  | zero => rfl
  | succ k ih =>
    have h1 := h (k + 1) (by omega) (Nat.le_refl _)
    simp only [Nd.countFrom, h1, and_false, if_false]
    split
    · rfl
    · exact ih fun j a b => h j a (by omega)

theorem NL.drewN {w : World} {s : Nd} {lv : Value} (h : NL w s lv) (m : Nat) : NL (w.drewN m) s lv := h

theorem termOf_at (mu : Int) (nb : Nat) (s : Nd) (lv : Value) (k : Nat) (T : Int) (w : World) (h : NB mu w nb s lv) (hl : NL w s lv) (hk : k ≤ s.last) (hs : s.last ≤ 60) (hT : s.termOf k = T) :
    Calls Tryz.prog 114 #[.pointer (some ⟨nb, 0, none⟩), .int .i64 (k : Int)] w fun e w' => e = .returned (.int .i64 T) ∧ w' = w := by
  rw [← hT]; exact termOf_any mu nb s lv k w h hl hk hs

theorem count_same {s : Nd} (h : s.countFrom s.last = s.commit) : s.count = s := by unfold Nd.count; rw [h]

set_option maxRecDepth 100000 in
set_option maxHeartbeats 1000000 in
theorem count_any (mu : Int) (nb : Nat) (s : Nd) (lv : Value) (w : World) (h : NB mu w nb s lv) (hl : NL w s lv) (hs : s.last ≤ 60) (hn : s.n ≤ 7) (ho : OwnLast s) :
    Calls Tryz.prog 122 #[.pointer (some ⟨nb, 0, none⟩)] w fun e w' => e = .returned (.tuple #[]) ∧ NB mu w' nb s.count lv ∧ Ew nb w w' := by
  have H := hide h
  have HL := hide hl
  have HF := hide hl.form
  have HO := hide ho
  clear h hl ho
  go_enter Tryz.func122, Tryz.ntmps122
  go_wp2
  go_step3
  go_wp2
  go_step3
  go_wp2_with (go_at_call 81; refine (last_any mu nb s _ _ (unhide H) (unhide HF)).mono ?_; rintro e w1 ⟨rfl, h1⟩; cases h1.symm)
  go_loopg [2] s.last (fun g s2 wx => s2 = .int .i64 (g : Int) ∧ g ≤ s.last ∧ s.countFrom s.last = s.countFrom g ∧ NB mu wx nb s lv ∧ Ew nb w wx)
  case atStart => exact ⟨rfl, Nat.le_refl _, rfl, unhide H, Ew.refl _ _⟩
  case round =>
    obtain ⟨rfl, hk, hc, hN, hE⟩ := hrel
    obtain ⟨K, hK⟩ : ∃ K, K = gk := ⟨_, rfl⟩
    subst hK
    have e9 := hN.c9
    have e4 := hN.c4
    have e3 := hN.c3
    have hNL := (unhide HL).ew (unhide H) hE
    by_cases hcm : s.commit < K
    · have hcm' : ((s.commit : Int) < (K : Int)) := by omega
      have hdc : decide ((s.commit : Int) < (K : Int)) = true := decide_eq_true hcm'
      by_cases ht : s.termOf K = s.term
      · have HT := hide ht
        have HC := hide hc
        have HN := hide hN
        have HE := hide hE
        have HNL := hide hNL
        clear hc hN hE hNL ht
        go_wp2
        go_quiet ((go_at_call 114; exact Calls.quiet_of_same (termOf_at mu nb s lv K _ _ (NB.drewN (unhide HN) _) (NL.drewN (unhide HNL) _) hk hs (unhide HT))))
        go_wp2
        have HN2 : Hid (NB mu (wr.drewN nq) nb s lv) := NB.drewN (unhide HN) nq
        have HE2 : Hid (Ew nb w (wr.drewN nq)) := (unhide HE).drewN nq
        have f9 := (unhide HN2).free 9
        have g9 := (unhide HN2).c9
        generalize wr.drewN nq = W at *
        clear HN HE HNL e9 e4 e3
        go_loopg [3, 29] s.n (fun g s3 s29 wy => ∃ j : Nat, j + g = s.n ∧ s29 = .int .i64 (j : Int) ∧ s3 = .int .i64 (cntTo (fun i => decide (K ≤ s.mt i)) j : Int) ∧ s.maj (cntTo (fun i => decide (K ≤ s.mt i)) j) = false ∧ wy = W)
        case atStart => exact ⟨0, by omega, rfl, rfl, by simp [cntTo, Nd.maj], rfl⟩
        case round =>
          obtain ⟨j, hj, rfl, rfl, hmj, rfl⟩ := hrel
          have c26 := fun hj7 => (unhide HN2).mt (i := j) hj7
          have g3 := (unhide HN2).c3
          have hcl := cntTo_le (fun i => decide (K ≤ s.mt i)) j
          cases gk with
          | zero =>
            have hjn : j = s.n := by omega
            have hge : ¬ (j : Int) < (s.n : Int) := by omega
            obtain ⟨q, rfl⟩ : ∃ q, K = q + 1 := ⟨K - 1, by omega⟩
            have HR : Hid (s.countFrom s.last = s.countFrom q) := by
              show _ = _
              rw [unhide HC]
              refine countFrom_next hcm ?_
              rw [hjn] at hmj
              exact hmj
            clear c26 hmj hjn
            go_wp2
            go_roundg q
            case rel => exact ⟨by go_num, by omega, unhide HR, unhide HN2, unhide HE2⟩
            case measure => omega
          | succ gj =>
            have hjn : j < s.n := by omega
            have hlt : (j : Int) < (s.n : Int) := by omega
            have hlt7 : (j : Int) < 7 := by omega
            have hj0 : (0 : Int) ≤ (j : Int) := by omega
            have d26 := c26 (by omega)
            clear c26
            by_cases hm : s.mt j < K
            · have HCN : Hid (cntTo (fun i => decide (K ≤ s.mt i)) (j + 1) = cntTo (fun i => decide (K ≤ s.mt i)) j) := cntTo_no (by simp; omega)
              have HMJ := hide hmj
              have hm' : ((s.mt j : Int) < (K : Int)) := by omega
              generalize cntTo (fun i => decide (K ≤ s.mt i)) j = c at *
              generalize s.mt j = mj at *
              clear hmj
              go_wp2
              go_roundg gj
              case rel => exact ⟨j + 1, by omega, by go_num, by rw [unhide HCN], by rw [unhide HCN]; exact unhide HMJ, rfl⟩
              case measure => omega
            · have HCN : Hid (cntTo (fun i => decide (K ≤ s.mt i)) (j + 1) = cntTo (fun i => decide (K ≤ s.mt i)) j + 1) := cntTo_yes (by simp; omega)
              have hm' : ¬ ((s.mt j : Int) < (K : Int)) := by omega
              have hge : cntTo (fun i => decide (K ≤ s.mt i)) (j + 1) ≤ s.have_ K := cntTo_mono _ (by omega)
              rw [unhide HCN] at hge
              have HGE := hide hge
              clear hge hmj
              by_cases hmaj : s.maj (cntTo (fun i => decide (K ≤ s.mt i)) j + 1) = true
              · have HR : Hid (s.count = { s with commit := K }) := by
                  show _ = _
                  unfold Nd.count
                  rw [unhide HC, countFrom_hit hcm (maj_mono (unhide HGE) hmaj) (unhide HT)]
                have HMJ := hide hmaj
                generalize cntTo (fun i => decide (K ≤ s.mt i)) j = c at *
                generalize s.mt j = mj at *
                clear hmaj
                go_wp2_with (go_at_call 94; refine (isMajority_any mu nb s lv (c + 1) _ (unhide HN2) hn).mono ?_; rw [unhide HMJ]; rintro e w1 ⟨rfl, h1⟩; cases h1.symm)
                rw [Exit.noGoto_normal]
                go_end0
                rw [unhide HR]
                exact ⟨rfl, (unhide HN2).setCommit K, (unhide HE2).set 9 _⟩
              · have hmaj' : s.maj (cntTo (fun i => decide (K ≤ s.mt i)) j + 1) = false := by simpa using hmaj
                have HMJ := hide hmaj'
                generalize cntTo (fun i => decide (K ≤ s.mt i)) j = c at *
                generalize s.mt j = mj at *
                clear hmaj hmaj'
                go_wp2_with (go_at_call 94; refine (isMajority_any mu nb s lv (c + 1) _ (unhide HN2) hn).mono ?_; rw [unhide HMJ]; rintro e w1 ⟨rfl, h1⟩; cases h1.symm)
                go_roundg gj
                case rel => exact ⟨j + 1, by omega, by go_num, by rw [unhide HCN]; go_num, by rw [unhide HCN]; exact unhide HMJ, rfl⟩
                case measure => omega
      · have HTN : Hid (s.count = s) := count_same (by rw [hc]; exact countFrom_old ((unhide HO) K hk ht))
        have htb : (s.termOf K == s.term) = false := by simpa using ht
        obtain ⟨T, hT⟩ : ∃ T, s.termOf K = T := ⟨_, rfl⟩
        rw [hT] at htb
        have HT := hide hT
        have HN := hide hN
        have HE := hide hE
        have HNL := hide hNL
        clear hc hN hE hNL ht hT
        go_wp2
        go_quiet ((go_at_call 114; exact Calls.quiet_of_same (termOf_at mu nb s lv K _ _ (NB.drewN (unhide HN) _) (NL.drewN (unhide HNL) _) hk hs (unhide HT))))
        go_wp2
        rw [Exit.noGoto_normal]
        go_end0
        rw [unhide HTN]
        exact ⟨rfl, NB.drewN (unhide HN) _, (unhide HE).drewN _⟩
    · have hcm' : decide ((s.commit : Int) < (K : Int)) = false := decide_eq_false (by omega)
      have HS : Hid (s.count = s) := count_same (by rw [hc]; exact countFrom_le (by omega))
      have HN := hide hN
      have HE := hide hE
      clear hc hN hE hNL
      go_wp2
      go_quiet (fail)
      go_wp2
      rw [Exit.noGoto_normal]
      go_end0
      rw [unhide HS]
      exact ⟨rfl, NB.drewN (unhide HN) _, (unhide HE).drewN _⟩

end Go.Proofs.YteiecbkfganhnaaGreat

namespace Go.Proofs.YteiecbkfganhnaaGreat

open Go.RowKit Go.MuLone

/-- All but the node's own block and its log's is as it was; a new log lies in the old one's block, or in a new one. -/
structure Ev (nb : Nat) (lv lv' : Value) (w w' : World) : Prop where
  os : w'.os = w.os
  tape : w'.tape = w.tape
  output : w'.output = w.output
  size : w.heap.size ≤ w'.heap.size
  block : ∀ k, k < w.heap.size → k ≠ nb → lv.ownBlock ≠ some k → w'.heap[k]? = w.heap[k]?
  own : lv'.ownBlock = lv.ownBlock ∨ ∀ x, lv'.ownBlock = some x → w.heap.size ≤ x

theorem Ev.ofEw {nb : Nat} {lv : Value} {w w' : World} (h : Ew nb w w') : Ev nb lv lv w w' := ⟨h.os, h.tape, h.output, h.size, fun k a b _ => h.block k a b, .inl rfl⟩

theorem Ev.trans {nb : Nat} {l1 l2 l3 : Value} {a b c : World} (h : Ev nb l1 l2 a b) (k : Ev nb l2 l3 b c) : Ev nb l1 l3 a c := by
  refine ⟨k.os.trans h.os, k.tape.trans h.tape, k.output.trans h.output, Nat.le_trans h.size k.size, fun i hi hn hl => ?_, ?_⟩
  · refine (k.block i (Nat.lt_of_lt_of_le hi h.size) hn (fun e => ?_)).trans (h.block i hi hn hl)
    rcases h.own with h1 | h1
    · exact hl (h1 ▸ e)
    · have := h1 i e; omega
  · rcases k.own with h2 | h2
    · rcases h.own with h1 | h1
      · exact .inl (h2.trans h1)
      · exact .inr fun x hx => h1 x (h2 ▸ hx)
    · exact .inr fun x hx => Nat.le_trans h.size (h2 x hx)

theorem Ev.ew {nb : Nat} {lv lv' : Value} {w w1 w2 : World} (h : Ev nb lv lv' w w1) (k : Ew nb w1 w2) : Ev nb lv lv' w w2 := h.trans (Ev.ofEw k)

theorem others_lt (s : Nd) : ∀ t ∈ s.others, t < s.n := by
  intro t ht
  simp only [Nd.others, List.mem_filter, List.mem_range] at ht
  exact ht.1

theorem NB.drew {mu : Int} {w : World} {nb : Nat} {s : Nd} {lv : Value} (h : NB mu w nb s lv) : NB mu w.drew nb s lv := h

theorem NB.under {mu : Int} {w : World} {nb : Nat} {s : Nd} {lv : Value} (h : NB mu w nb s lv) (o : Obj) : NB mu (w.alloc o) nb s lv := heap_under h o

theorem NL.drew {w : World} {s : Nd} {lv : Value} (h : NL w s lv) : NL w.drew s lv := h

/-- What was sent shares no room with the log. -/
def Apart (lv : Value) (l : List (Msg × Value)) : Prop := ∀ x ∈ l, ∀ y, lv.ownBlock = some y → x.2.ownBlock ≠ some y

theorem apart_of {w1 w' : World} {s : Nd} {lv v : Value} {ms : List Msg} {l : List (Msg × Value)} (hL : NL w1 s lv) (hM : MsgsOut w' w1.heap.size v ms l) : Apart lv l := fun x hx y hy hxy => by
  have h1 := ((hM.ents x hx).lt y hxy).1
  have h2 := owns_lt hL y hy
  omega

/-- What comes of a call that may turn the node, its log and send messages. -/
def Sent (mu : Int) (nb : Nat) (lv : Value) (w : World) (r : Nd × List Msg) (e : Ending) (w' : World) : Prop :=
  ∃ v l lv', e = .returned v ∧ NB mu w' nb r.1 lv' ∧ NL w' r.1 lv' ∧ MsgsOut w' w.heap.size v r.2 l ∧ Ev nb lv lv' w w' ∧ Apart lv' l

/-- Behind a take. -/
def Took (mu : Int) (nb : Nat) (lv : Value) (w : World) (t : Nd) (w' : World) : Prop := ∃ lv', NB mu w' nb t lv' ∧ NL w' t lv' ∧ Ev nb lv lv' w w'

theorem take_log {mu : Int} {nb g cap n : Nat} {w w' : World} {s : Nd} {lv pv : Value} {l : List Ent} (h : NB mu w nb s lv) (hl : NL w s lv) (hp : pv.ownBlock = lv.ownBlock) (hg : w.grownBy w' pv.ownBlock)
    (ho : w'.ownsRow 0 66 2 (.slice (some ⟨g, 0, none⟩) n cap) n (eC l)) (hn : n = l.length) (hat : pv.ownBlock = some g ∨ g = w.heap.size) :
    Took mu nb lv w { s with log := l } (w'.setCell ⟨nb, 6, none⟩ (.slice (some ⟨g, 0, none⟩) n cap)) := by
  subst hn
  have hN : NB mu w' nb s lv := (hg.block nb h.lt (fun e => hl.apart h (hp ▸ e.symm))).trans h
  have hgn : g ≠ nb := by
    rcases hat with e | e
    · intro hx; subst hx; exact hl.apart h (hp ▸ e)
    · have := h.lt; omega
  refine ⟨.slice (some ⟨g, 0, none⟩) l.length cap, hN.setLog _ _, ?_, ?_⟩
  · have h1 : NL w' { s with log := l } (.slice (some ⟨g, 0, none⟩) l.length cap) := ho
    exact owns_kept h1 fun y hy => Below.heap_setCell _ _ _ _ (by simp [Value.ownBlock] at hy; simp only; omega)
  · refine ⟨hg.os, hg.tape, hg.output, ?_, fun k hk hnk hl2 => ?_, ?_⟩
    · have := hg.size
      simp [World.setCell] at this ⊢
      omega
    · rw [Below.heap_setCell _ _ _ _ (by simpa using hnk), hg.block k hk (fun e => hl2 (hp ▸ e.symm))]
    · rcases hat with e | e
      · exact .inl (by rw [← hp, e]; rfl)
      · exact .inr fun y hy => by simp [Value.ownBlock] at hy; omega

theorem Took.ahead {mu : Int} {nb : Nat} {lv : Value} {w w1 w' : World} {t : Nd} (h : Below w.heap.size w w1) (hs : Took mu nb lv w1 t w') : Took mu nb lv w t w' := by
  obtain ⟨lv', hN, hL, hV⟩ := hs
  exact ⟨lv', hN, hL, (Ev.ofEw (Ew.ofBelow h)).trans hV⟩

set_option maxRecDepth 100000 in
set_option maxHeartbeats 400000 in
theorem isFull_any (mu : Int) (nb : Nat) (s : Nd) (lv : Value) (w : World) (h : NB mu w nb s lv) (hl : NL w s lv) :
    Calls Tryz.prog 79 #[.pointer (some ⟨nb, 0, none⟩)] w fun e w' => e = .returned (.bool (decide (60 ≤ s.last))) ∧ w' = w := by
  have HF := hide hl.form
  have H := hide h
  clear h hl
  have HD : Hid (decide (60 ≤ s.last) = decide ((60 : Int) ≤ (s.last : Int))) := by
    show _ = _
    by_cases h : 60 ≤ s.last
    · rw [decide_eq_true h, decide_eq_true (by omega)]
    · rw [decide_eq_false h, decide_eq_false (by omega)]
  go_enter Tryz.func79, Tryz.ntmps79
  go_wp2_with (go_at_call 81; refine (last_any mu nb s _ _ (unhide H) (unhide HF)).mono ?_; rintro e w1 ⟨rfl, h1⟩; cases h1.symm)
  go_ret
  exact ⟨by rw [unhide HD]; rfl, rfl⟩

set_option maxRecDepth 100000 in
set_option maxHeartbeats 1000000 in
theorem spread_any (mu : Int) (nb : Nat) (s : Nd) (lv : Value) (w : World) (h : NB mu w nb s lv) (hl : NL w s lv) (hs : s.last ≤ 60) (hn : s.n ≤ 7) (hid : s.id < s.n) (hol : OwnLast s.leadC) (hld : Leads s.leadC.count) :
    Calls Tryz.prog 82 #[.pointer (some ⟨nb, 0, none⟩)] w fun e w' => Sent mu nb lv w (s.leadC.count, s.leadC.count.appends) e w' := by
  have m2 := h.c2
  have m26 := h.mt (i := s.id) (by omega)
  have q26 := h.free (26 + s.id)
  have hid7 : ((s.id : Int) < 7) := by omega
  have hid0 : (0 : Int) ≤ (s.id : Int) := by omega
  have HF := hide hl.form
  have HN := hide h
  have HNL := hide hl
  have HN3 := hide (h.setMt (i := s.id) (by omega) s.last)
  have z2 : (w.setCell ⟨nb, 26 + s.id, none⟩ (.int .i64 (s.last : Int))).drew.cell? ⟨nb, 2, none⟩ = some (.int .i64 (s.id : Int)) := (unhide HN3).drew.c2
  have HOL := hide hol
  have HLD := hide hld
  clear h hl hol hld
  go_enter Tryz.func82, Tryz.ntmps82
  go_wp2
  go_region_held3 (fun w' => w'.cell? ⟨nb, 2, none⟩ = some (.int .i64 (s.id : Int))) (first | go_keep | exact z2 | (trace_state; fail)) (first | (go_at_call 81; refine (last_any mu nb s lv _ (by exact unhide HN) (unhide HF)).mono ?_; rintro e w1 ⟨rfl, rfl⟩))
  all_goals
    have HN4 : Hid (NB mu (w.setCell ⟨nb, 26 + s.id, none⟩ (.int .i64 (s.last : Int))).drew nb s.leadC lv) := (unhide HN3).drew
    have HE4 : Hid (Ew nb w (w.setCell ⟨nb, 26 + s.id, none⟩ (.int .i64 (s.last : Int))).drew) := ((Ew.refl nb w).set _ _).drew
    have HNL4 : Hid (NL (w.setCell ⟨nb, 26 + s.id, none⟩ (.int .i64 (s.last : Int))).drew s.leadC lv) := (unhide HNL).ew (unhide HN) (unhide HE4)
    have HV4 : Hid (Ev nb lv lv w (w.setCell ⟨nb, 26 + s.id, none⟩ (.int .i64 (s.last : Int))).drew) := Ev.ofEw (unhide HE4)
    have HCN : Hid (s.leadC.count.n ≤ 7) := hn
    clear m2 m26 q26 HN3 HE4 z2
    generalize (w.setCell ⟨nb, 26 + s.id, none⟩ (.int .i64 (s.last : Int))).drew = W4 at *
    go_wp2_with (first | (go_at_call 122; refine (count_any mu nb s.leadC lv W4 (unhide HN4) (unhide HNL4) hs hn (unhide HOL)).mono ?_; rintro e w5 ⟨rfl, hN5, hE5⟩; have hNL5 : NL w5 s.leadC.count lv := ((unhide HNL4).ew (unhide HN4) hE5); have hV5 := hide ((unhide HV4).ew hE5); replace hN5 := hide hN5; replace hNL5 := hide hNL5; clear hE5) | (go_at_call 99; refine (others_any mu nb s.leadC.count lv w5 (unhide hN5) (unhide HCN)).mono ?_; rintro e w6 ⟨ov, rfl, ho6, hb6⟩; replace ho6 := hide ho6; replace hb6 := hide hb6) | (go_at_call 98; refine (sendAppends_any mu nb s.leadC.count lv s.leadC.count.others ov w6 ((unhide hN5).below (unhide hb6)) ((unhide hNL5).below (unhide hb6)) (unhide HLD) (unhide HCN) (ints_of_owns (unhide ho6)) (others_lt s.leadC.count) (others_len (unhide HCN))).mono ?_; rintro e w7 ⟨v, l, rfl, hm7, hb7⟩; replace hm7 := hide hm7; replace hb7 := hide hb7))
    go_ret
    exact ⟨_, l, lv, rfl, ((unhide hN5).below (unhide hb6)).below (unhide hb7), ((unhide hNL5).below (unhide hb6)).below (unhide hb7), (unhide hm7).base (Nat.le_trans (unhide hV5).size (unhide hb6).size), ((unhide hV5).ew (Ew.ofBelow (unhide hb6))).ew (Ew.ofBelow (unhide hb7)), apart_of ((unhide hNL5).below (unhide hb6)) (unhide hm7)⟩

set_option maxRecDepth 100000 in
set_option maxHeartbeats 1000000 in
theorem put_any (mu : Int) (nb : Nat) (s : Nd) (lv : Value) (c : ByteArray) (w : World) (h : NB mu w nb s lv) (hl : NL w s lv) (hs : s.last ≤ 60) (hc : c.size ≤ 20) :
    Calls Tryz.prog 80 #[.pointer (some ⟨nb, 0, none⟩), .string c] w fun e w' => e = .returned (.tuple #[]) ∧ Took mu nb lv w { s with log := s.log ++ [(s.term, c)] } w' := by
  have c6 := h.c6
  have c4 := h.c4
  have f6 := h.free 6
  have hlt := h.lt
  have hne : ¬ nb = w.heap.size := by omega
  have H := hide h
  have HL := hide hl
  have hs' : s.log.length ≤ 60 := hs
  clear h hl
  obtain ⟨i0, hi, hz0, hz1, hz2⟩ := info_parts infoEntry
  go_enter Tryz.func80, Tryz.ntmps80
  go_wp2
  go_region_law (first | (refine step_append_lies _ (by rfl) (.tmp 8) (.tmp 16) 22 (by rfl) 0 66 i0 _ 2 24 Tryz.underlying22 hi hz0 hz1 hz2 rfl (by decide) lv s.log.length (eC s.log) (by rfl) (by exact World.ownsRow.alloc (unhide hL3) (.cells #[.int .i64 s.term, .string c] 66)) ⟨w3.heap.size, 0, none⟩ 1 1 [.int .i64 s.term, .string c] (by rfl) rfl (by exact cells_new9 _ _ _) (by intro u hu; simp at hu; rcases hu with rfl | rfl <;> rfl) (by decide) (by unfold maxLen; omega) (by omega) (Nat.zero_le _) (w3.heap.size + 1) (by simp) ?_; intro gc cap2 w4 hown4 hgrow4 hat4 hlt4; have hN4 : NB mu w4 nb s lv := ((hgrow4.block nb (NB.under (unhide hN3) (.cells #[.int .i64 s.term, .string c] 66)).lt (fun e => (unhide hL3).apart (unhide hN3) e.symm)).trans (NB.under (unhide hN3) (.cells #[.int .i64 s.term, .string c] 66))); have k6 := hN4.c6; have q6 := hN4.free 6; clear hN4; replace hown4 := hide hown4; replace hgrow4 := hide hgrow4; replace hat4 := hide hat4; clear hlt4) | (go_simp; go_at_call 40; refine (clone_any c w.drew (by omega)).mono ?_; rintro e w3 ⟨rfl, hb3⟩; have hN3 := hide (NB.below (w := w.drew) (unhide H) hb3); have z6 := (unhide hN3).c6; have z4 := (unhide hN3).c4; have hL3 := hide (NL.below (w := w.drew) (unhide HL) hb3); have hlt3 := (unhide hN3).lt; have hne3 : ¬ nb = w3.heap.size := (by omega); have hne4 : ¬ w3.heap.size = nb := (by omega); have y6 := (NB.under (unhide hN3) (.cells #[.int .i64 s.term, .string c] 66)).c6; have hB3 := hide (Below.undrew hb3); clear hb3))
  all_goals
    have hlA : s.log.length + 1 = (s.log ++ [((s.term, c) : Ent)]).length := by simp
    have HTK := hide (take_log (l := s.log ++ [((s.term, c) : Ent)]) (NB.under (unhide hN3) (.cells #[.int .i64 s.term, .string c] 66)) (NL.below (unhide hL3) (below_alloc _ _)) rfl (unhide hgrow4) (by rw [eC_append]; exact unhide hown4) hlA (by have := unhide hat4; simpa using this))
    clear hown4 hgrow4 hat4 k6 q6 hlA
    go_wp2
    go_end0
    exact ⟨rfl, Took.ahead (unhide hB3) (Took.ahead (below_alloc _ _) (unhide HTK))⟩

end Go.Proofs.YteiecbkfganhnaaGreat

namespace Go.Proofs.YteiecbkfganhnaaGreat

open Go.RowKit Go.MuLone

def lp (s : Nd) (k : Nat) : Nd := { s with role := 3, leads := s.id, elapsed := 0, hd := none7, nx := fun i => if i < k then s.last + 1 else s.nx i, mt := fun i => if i < k then 0 else s.mt i }

theorem lp_zero (s : Nd) : lp s 0 = { s with role := 3, leads := s.id, elapsed := 0, hd := none7 } := by simp [lp]

theorem lp_n (s : Nd) : lp s s.n = s.leadA := rfl

theorem upd_less {α : Type} (a : α) (f : Nat → α) (k : Nat) : upd (fun i => if i < k then a else f i) k a = fun i => if i < k + 1 then a else f i := by
  funext i
  unfold upd
  by_cases h : i = k
  · subst h; simp
  · by_cases h2 : i < k
    · simp only [if_neg h, if_pos h2, if_pos (show i < k + 1 by omega)]
    · simp only [if_neg h, if_neg h2, if_neg (show ¬ i < k + 1 by omega)]

theorem lp_step {mu : Int} {wr : World} {nb k : Nat} {s : Nd} {lv : Value} (hN : NB mu wr nb (lp s k) lv) (hk : k < 7) : NB mu ((wr.setCell ⟨nb, 19 + k, none⟩ (.int .i64 (((lp s k).last : Int) + 1))).setCell ⟨nb, 26 + k, none⟩ (.int .i64 0)) nb (lp s (k + 1)) lv := by
  have h2 := (hN.setNx (i := k) hk (s.last + 1)).setMt (i := k) hk 0
  have e1 : ((s.last + 1 : Nat) : Int) = ((lp s k).last : Int) + 1 := by simp [lp, Nd.last]
  have e2 : ((0 : Nat) : Int) = 0 := rfl
  rw [e1, e2] at h2
  have h3 : ({ ({ lp s k with nx := upd (lp s k).nx k (s.last + 1) } : Nd) with mt := upd (lp s k).mt k 0 } : Nd) = lp s (k + 1) := by
    simp only [lp]
    rw [upd_less, upd_less]
  rw [← h3]
  exact h2

set_option maxRecDepth 100000 in
set_option maxHeartbeats 1000000 in
theorem lead_any (mu : Int) (nb : Nat) (s : Nd) (lv : Value) (w : World) (h : NB mu w nb s lv) (hl : NL w s lv) (hs : s.last ≤ 60) (hn : s.n ≤ 7) (hid : s.id < s.n) (hol : OwnLast s.leadA.leadB.leadC) (hld : Leads s.leadS) :
    Calls Tryz.prog 113 #[.pointer (some ⟨nb, 0, none⟩)] w fun e w' => Sent mu nb lv w s.lead e w' := by
  have c2 := h.c2
  have c7 := h.c7
  have c8 := h.c8
  have c10 := h.c10
  have c3 := h.c3
  have f7 := h.free 7
  have f8 := h.free 8
  have f10 := h.free 10
  have c33 := h.c33
  have f33 := h.free 33
  have c34 := h.c34
  have f34 := h.free 34
  have c35 := h.c35
  have f35 := h.free 35
  have c36 := h.c36
  have f36 := h.free 36
  have c37 := h.c37
  have f37 := h.free 37
  have c38 := h.c38
  have f38 := h.free 38
  have c39 := h.c39
  have f39 := h.free 39
  have hN1 : NB mu ((((((((((w.setCell ⟨nb, 7, none⟩ (.int .i64 3)).setCell ⟨nb, 8, none⟩ (.int .i64 (s.id : Int))).setCell ⟨nb, 10, none⟩ (.int .i64 0)).setCell ⟨nb, 33, none⟩ (.bool false)).setCell ⟨nb, 34, none⟩ (.bool false)).setCell ⟨nb, 35, none⟩ (.bool false)).setCell ⟨nb, 36, none⟩ (.bool false)).setCell ⟨nb, 37, none⟩ (.bool false)).setCell ⟨nb, 38, none⟩ (.bool false)).setCell ⟨nb, 39, none⟩ (.bool false)) nb (lp s 0) lv := by
    rw [lp_zero]
    exact (((h.setRole 3).setLeads (s.id : Int)).setElapsed 0).setHd none7
  have hE1 : Ew nb w ((((((((((w.setCell ⟨nb, 7, none⟩ (.int .i64 3)).setCell ⟨nb, 8, none⟩ (.int .i64 (s.id : Int))).setCell ⟨nb, 10, none⟩ (.int .i64 0)).setCell ⟨nb, 33, none⟩ (.bool false)).setCell ⟨nb, 34, none⟩ (.bool false)).setCell ⟨nb, 35, none⟩ (.bool false)).setCell ⟨nb, 36, none⟩ (.bool false)).setCell ⟨nb, 37, none⟩ (.bool false)).setCell ⟨nb, 38, none⟩ (.bool false)).setCell ⟨nb, 39, none⟩ (.bool false)) := ((((((((((Ew.refl nb w).set 7 _).set 8 _).set 10 _).set 33 _).set 34 _).set 35 _).set 36 _).set 37 _).set 38 _).set 39 _
  have HN1 := hide hN1
  have HE1 := hide hE1
  have H := hide h
  have HL := hide hl
  have HOL := hide hol
  have HLD := hide hld
  have hs' : s.log.length ≤ 60 := hs
  clear h hl hN1 hE1 hol hld
  go_enter Tryz.func113, Tryz.ntmps113
  go_wp2
  generalize ((((((((((w.setCell ⟨nb, 7, none⟩ (.int .i64 3)).setCell ⟨nb, 8, none⟩ (.int .i64 (s.id : Int))).setCell ⟨nb, 10, none⟩ (.int .i64 0)).setCell ⟨nb, 33, none⟩ (.bool false)).setCell ⟨nb, 34, none⟩ (.bool false)).setCell ⟨nb, 35, none⟩ (.bool false)).setCell ⟨nb, 36, none⟩ (.bool false)).setCell ⟨nb, 37, none⟩ (.bool false)).setCell ⟨nb, 38, none⟩ (.bool false)).setCell ⟨nb, 39, none⟩ (.bool false)) = W1 at *
  clear c2 c7 c8 c10 c3 f7 f8 f10 c33 f33 c34 f34 c35 f35 c36 f36 c37 f37 c38 f38 c39 f39
  go_loopw [25] (fun i wr => ∃ k : Nat, k ≤ s.n ∧ i = .int .i64 k ∧ NB mu wr nb (lp s k) lv ∧ Ew nb w wr) (fun i _ => s.n - (intOf i).toNat)
  case atStart => exact ⟨0, Nat.zero_le _, rfl, unhide HN1, unhide HE1⟩
  case round =>
    obtain ⟨k, hk, rfl, hN, hE⟩ := hrel
    have hNLr := (unhide HL).ew (unhide H) hE
    have HFR := hide hNLr.form
    by_cases hlt : k < s.n
    · have i1 : (0 : Int) ≤ (k : Int) := by omega
      have i2 : (k : Int) < (s.n : Int) := by omega
      have i7 : (k : Int) < 7 := by omega
      have c19 := hN.nx (i := k) (by omega)
      have f19 := hN.free (19 + k)
      have c26 := hN.mt (i := k) (by omega)
      have f26 := hN.free (26 + k)
      have HN := hide hN
      have HE := hide hE
      have HN2 := hide (lp_step hN (by omega))
      have hlpk : (lp s k).last ≤ 60 := hs
      clear hN hE hNLr
      go_wp2
      go_region_held3 (fun w' => True) (first | go_keep | trivial) (first | (go_at_call 81; refine (last_any mu nb (lp s k) _ _ (by exact unhide HN) (unhide HFR)).mono ?_; rintro e w1 ⟨rfl, rfl⟩))
      all_goals go_wp2
      all_goals go_roundw
      case rel => exact ⟨k + 1, by omega, by go_num, (unhide HN2).drew, (((unhide HE).set _ _).set _ _).drew⟩
      case measure => simp [intOf]; omega
    · have hkn : k = s.n := by omega
      subst hkn
      rw [lp_n] at hN
      obtain ⟨sA, hsA⟩ : ∃ sA, s.leadA = sA := ⟨_, rfl⟩
      rw [hsA] at hN
      have hNLa : NL wr sA lv := by rw [← hsA]; exact hNLr
      have hlA : sA.last = s.last := by rw [← hsA]; rfl
      have hidA : sA.id = s.id := by rw [← hsA]; rfl
      have hnA : sA.n = s.n := by rw [← hsA]; rfl
      have HSA := hide hsA
      have HN := hide hN
      have HE := hide hE
      have HNL := hide hNLa
      have HFA := hide hNLa.form
      have HIDA := hide (And.intro hlA (And.intro hidA hnA))
      clear hsA hNLr hE
      by_cases h60 : s.last < 60
      · have hf : decide (60 ≤ sA.last) = false := decide_eq_false (by omega)
        have HFU := hide hf
        clear hf hN hNLa hlA hidA hnA
        have HS2 : Hid (s.leadA.leadB = { sA with log := sA.log ++ [((sA.term, ⟨#[]⟩) : Ent)] }) := by
          show _ = _
          rw [unhide HSA]
          exact if_pos (show sA.last < 60 by have := (unhide HIDA).1; omega)
        have HID : Hid (({ sA with log := sA.log ++ [((sA.term, ⟨#[]⟩) : Ent)] } : Nd).id = s.id ∧ ({ sA with log := sA.log ++ [((sA.term, ⟨#[]⟩) : Ent)] } : Nd).n = s.n ∧ ({ sA with log := sA.log ++ [((sA.term, ⟨#[]⟩) : Ent)] } : Nd).last ≤ 60) := by
          have hx := unhide HIDA
          refine ⟨hx.2.1, hx.2.2, ?_⟩
          show (sA.log ++ [((sA.term, ⟨#[]⟩) : Ent)]).length ≤ 60
          rw [List.length_append]
          have h1 : sA.log.length = s.log.length := hx.1
          have h2 : s.log.length < 60 := h60
          simp; omega
        have HLS : Hid (s.lead = (({ sA with log := sA.log ++ [((sA.term, ⟨#[]⟩) : Ent)] } : Nd).leadC.count, ({ sA with log := sA.log ++ [((sA.term, ⟨#[]⟩) : Ent)] } : Nd).leadC.count.appends)) := by
          show (s.leadA.leadB.leadC.count, s.leadA.leadB.leadC.count.appends) = _
          rw [unhide HS2]
        have HLD2 : Hid (Leads ({ sA with log := sA.log ++ [((sA.term, ⟨#[]⟩) : Ent)] } : Nd).leadC.count) := by
          have h1 : Leads s.leadA.leadB.leadC.count := unhide HLD
          rw [unhide HS2] at h1
          exact h1
        rw [unhide HS2] at HOL
        have HSL : Hid (sA.last ≤ 60) := by show _ ≤ _; have := (unhide HIDA).1; omega
        go_wp2_with (first | (go_at_call 79; refine (isFull_any mu nb sA lv _ (unhide HN) (unhide HNL)).mono ?_; rw [unhide HFU]; rintro e w1 ⟨rfl, h1⟩; cases h1.symm) | (go_at_call 80; refine (put_any mu nb sA lv ⟨#[]⟩ _ (unhide HN) (unhide HNL) (unhide HSL) (by decide)).mono ?_; rintro e w5 ⟨rfl, lv5, hN5, hL5, hV5⟩; replace hN5 := hide hN5; replace hL5 := hide hL5; replace hV5 := hide hV5) | (go_at_call 82; refine (spread_any mu nb _ lv5 _ (unhide hN5) (unhide hL5) (unhide HID).2.2 (by show sA.n ≤ 7; have h1 : sA.n = s.n := (unhide HID).2.1; omega) (by show sA.id < sA.n; have h1 : sA.n = s.n := (unhide HID).2.1; have h2 : sA.id = s.id := (unhide HID).1; omega) (unhide HOL) (unhide HLD2)).mono ?_; intro e w6 hx6; obtain ⟨v6, l6, lv6, rfl, hx6⟩ := hx6; replace hx6 := hide hx6))
        go_ret
        have hx := unhide hx6
        rw [unhide HLS]
        exact ⟨_, l6, lv6, rfl, hx.1, hx.2.1, hx.2.2.1.base (Ev.size ((Ev.ofEw (unhide HE)).trans (unhide hV5))), ((Ev.ofEw (unhide HE)).trans (unhide hV5)).trans hx.2.2.2.1, hx.2.2.2.2⟩
      · have hf : decide (60 ≤ sA.last) = true := decide_eq_true (by omega)
        have HFU := hide hf
        clear hf hN hNLa hlA hidA hnA
        have HS2 : Hid (s.leadA.leadB = sA) := by
          show _ = _
          rw [unhide HSA]
          exact if_neg (show ¬ sA.last < 60 by have := (unhide HIDA).1; omega)
        have HLS : Hid (s.lead = (sA.leadC.count, sA.leadC.count.appends)) := by
          show (s.leadA.leadB.leadC.count, s.leadA.leadB.leadC.count.appends) = _
          rw [unhide HS2]
        have HLD2 : Hid (Leads sA.leadC.count) := by
          have h1 : Leads s.leadA.leadB.leadC.count := unhide HLD
          rw [unhide HS2] at h1
          exact h1
        rw [unhide HS2] at HOL
        have HSL : Hid (sA.last ≤ 60) := by show _ ≤ _; have := (unhide HIDA).1; omega
        go_wp2_with (first | (go_at_call 79; refine (isFull_any mu nb sA lv _ (unhide HN) (unhide HNL)).mono ?_; rw [unhide HFU]; rintro e w1 ⟨rfl, h1⟩; cases h1.symm) | (go_at_call 82; refine (spread_any mu nb sA lv _ (unhide HN) (unhide HNL) (unhide HSL) (by have h1 : sA.n = s.n := (unhide HIDA).2.2; omega) (by have h1 : sA.n = s.n := (unhide HIDA).2.2; have h2 : sA.id = s.id := (unhide HIDA).2.1; omega) (unhide HOL) (unhide HLD2)).mono ?_; intro e w6 hx6; obtain ⟨v6, l6, lv6, rfl, hx6⟩ := hx6; replace hx6 := hide hx6))
        go_ret
        have hx := unhide hx6
        rw [unhide HLS]
        exact ⟨_, l6, lv6, rfl, hx.1, hx.2.1, hx.2.2.1.base (unhide HE).size, (Ev.ofEw (unhide HE)).trans hx.2.2.2.1, hx.2.2.2.2⟩

end Go.Proofs.YteiecbkfganhnaaGreat

namespace Go.Proofs.YteiecbkfganhnaaGreat

open Go.RowKit Go.MuLone

theorem Sent.ahead {mu : Int} {nb : Nat} {lv : Value} {w w1 w' : World} {r : Nd × List Msg} {e : Ending} (h : Ew nb w w1) (hs : Sent mu nb lv w1 r e w') : Sent mu nb lv w r e w' := by
  obtain ⟨v, l, lv', he, hN, hL, hM, hV, hA⟩ := hs
  exact ⟨v, l, lv', he, hN, hL, hM.base h.size, (Ev.ofEw h).trans hV, hA⟩

theorem Sent.quiet {mu : Int} {nb : Nat} {lv : Value} {w w1 : World} {t : Nd} (h : Ew nb w w1) (hN : NB mu w1 nb t lv) (hL : NL w1 t lv) : Sent mu nb lv w (t, []) (.returned (.slice none 0 0)) w1 :=
  ⟨_, [], lv, rfl, hN, hL, MsgsOut.nil _ _, Ev.ofEw h, fun x hx => by cases hx⟩

theorem Sent.told {mu : Int} {nb : Nat} {lv v : Value} {w w1 w' : World} {t : Nd} {ms : List Msg} {l : List (Msg × Value)} (h : Ew nb w w1) (hN : NB mu w1 nb t lv) (hL : NL w1 t lv) (hM : MsgsOut w' w1.heap.size v ms l) (hb : Below w1.heap.size w1 w') : Sent mu nb lv w (t, ms) (.returned v) w' :=
  ⟨v, l, lv, rfl, hN.below hb, hL.below hb, hM.base h.size, Ev.ofEw (h.below hb), apart_of hL hM⟩

set_option maxRecDepth 100000 in
set_option maxHeartbeats 1000000 in
theorem stand_any (mu : Int) (nb : Nat) (s : Nd) (lv : Value) (w : World) (h : NB mu w nb s lv) (hl : NL w s lv) (hok : Ok s) (ht : s.term < 1000000) :
    Calls Tryz.prog 101 #[.pointer (some ⟨nb, 0, none⟩)] w fun e w' => Sent mu nb lv w s.stand e w' := by
  have c2 := h.c2
  have c4 := h.c4
  have c5 := h.c5
  have f4 := h.free 4
  have f5 := h.free 5
  have t0 := hok.t0
  have HN1 := hide ((h.setTerm (s.term + 1)).setVote (s.id : Int))
  have HE1 := hide (((Ew.refl nb w).set 4 (.int .i64 (s.term + 1))).set 5 (.int .i64 (s.id : Int)))
  have HOK := hide (hok.standS ht)
  have HT1 : Hid (1 ≤ s.standS.term) := by show 1 ≤ s.term + 1; omega
  have H := hide h
  have HL := hide hl
  have HI := hide (Nat.lt_of_lt_of_le hok.id hok.n7)
  have HST : Hid (Nd.campaign { s with term := s.term + 1, vote := (s.id : Int) } 2 = s.standS) := rfl
  obtain ⟨r, HR⟩ : ∃ r, s.stand = r := ⟨_, rfl⟩
  rw [HR]
  unfold Nd.stand at HR
  clear h hl hok
  generalize s.standS = t at *
  replace HR := hide HR
  go_enter Tryz.func101, Tryz.ntmps101
  go_wp2_with fail
  generalize (w.setCell ⟨nb, 4, none⟩ (.int .i64 (s.term + 1))).setCell ⟨nb, 5, none⟩ (.int .i64 (s.id : Int)) = W at *
  clear c2 c4 c5 f4 f5
  have HC : Hid (∀ e w', (e = Ending.returned (.tuple #[]) ∧ NB mu w' nb (Nd.campaign { s with term := s.term + 1, vote := (s.id : Int) } 2) lv ∧ Ew nb W w') → (e = .returned (.tuple #[]) ∧ NB mu w' nb t lv ∧ Ew nb w w' ∧ NL w' t lv)) := by
    rintro e w' ⟨h1, h2, h3⟩
    rw [unhide HST] at h2
    refine ⟨h1, h2, (unhide HE1).trans h3, ?_⟩
    rw [← unhide HST]
    exact (unhide HL).ew (unhide H) ((unhide HE1).trans h3)
  by_cases hm : t.maj (cnt t.gr) = true
  · have HM := hide hm
    have HR2 : Hid (t.lead = r) := by rw [← unhide HR, if_pos hm]; rfl
    clear hm
    go_wp2_with (first | (go_at_call 100; refine (campaign_any mu nb _ lv 2 _ (unhide HN1) (unhide HI)).mono ?_; intro e w1 hx; obtain ⟨rfl, hN2, hE2, hL2⟩ := (unhide HC) e w1 hx; clear hx; have k12 := hN2.c12; have k13 := hN2.c13; have k14 := hN2.c14; have k15 := hN2.c15; have k16 := hN2.c16; have k17 := hN2.c17; have k18 := hN2.c18; replace hN2 := hide hN2; replace hE2 := hide hE2; replace hL2 := hide hL2) | (go_at_call 96; refine (size_any t.gr w1).mono ?_; rintro e w2 ⟨rfl, hb2⟩; replace hb2 := hide hb2) | (go_at_call 94; refine (isMajority_any mu nb t lv (cnt t.gr) w2 ((unhide hN2).below (unhide hb2)) (unhide HOK).n7).mono ?_; rw [unhide HM]; rintro e w3 ⟨rfl, h3⟩; cases h3.symm) | (go_at_call 113; refine (lead_any mu nb t lv w2 ((unhide hN2).below (unhide hb2)) ((unhide hL2).below (unhide hb2)) (unhide HOK).len (unhide HOK).n7 (unhide HOK).id (lead_own (unhide HOK).log (unhide HOK).len (unhide HT1)) (lead_leads (unhide HOK).log (unhide HOK).len (unhide HT1))).mono ?_; rw [unhide HR2]; intro e w4 hx4; obtain ⟨v, l, lv', rfl, hx4⟩ := hx4; replace hx4 := hide hx4))
    go_ret
    exact Sent.ahead ((unhide hE2).below (unhide hb2)) ⟨v, l, lv', rfl, unhide hx4⟩
  · have hm' : t.maj (cnt t.gr) = false := by simpa using hm
    have HM := hide hm'
    have HR2 : Hid ((t, t.request 2 t.term) = r) := by rw [← unhide HR, if_neg hm]; rfl
    clear hm hm'
    go_wp2_with (first | (go_at_call 100; refine (campaign_any mu nb _ lv 2 _ (unhide HN1) (unhide HI)).mono ?_; intro e w1 hx; obtain ⟨rfl, hN2, hE2, hL2⟩ := (unhide HC) e w1 hx; clear hx; have k12 := hN2.c12; have k13 := hN2.c13; have k14 := hN2.c14; have k15 := hN2.c15; have k16 := hN2.c16; have k17 := hN2.c17; have k18 := hN2.c18; replace hN2 := hide hN2; replace hE2 := hide hE2; replace hL2 := hide hL2) | (go_at_call 96; refine (size_any t.gr w1).mono ?_; rintro e w2 ⟨rfl, hb2⟩; have k4 := ((unhide hN2).below hb2).c4; replace hb2 := hide hb2) | (go_at_call 94; refine (isMajority_any mu nb t lv (cnt t.gr) w2 ((unhide hN2).below (unhide hb2)) (unhide HOK).n7).mono ?_; rw [unhide HM]; rintro e w3 ⟨rfl, h3⟩; cases h3.symm) | (go_at_call 102; refine (request_any mu nb t lv 2 t.term w2 ((unhide hN2).below (unhide hb2)) ((unhide hL2).below (unhide hb2)) (unhide HOK).len (unhide HOK).n7).mono ?_; rintro e w4 ⟨v, l, rfl, hm4, hb4⟩; replace hm4 := hide hm4; replace hb4 := hide hb4))
    go_ret
    rw [← unhide HR2]
    exact Sent.told ((unhide hE2).below (unhide hb2)) ((unhide hN2).below (unhide hb2)) ((unhide hL2).below (unhide hb2)) (unhide hm4) (unhide hb4)

end Go.Proofs.YteiecbkfganhnaaGreat

namespace Go.Proofs.YteiecbkfganhnaaGreat

open Go.RowKit Go.MuLone

set_option maxRecDepth 100000 in
set_option maxHeartbeats 1000000 in
theorem ask_any (mu : Int) (nb : Nat) (s : Nd) (lv : Value) (w : World) (h : NB mu w nb s lv) (hl : NL w s lv) (hok : Ok s) (ht : s.term < 1000000) :
    Calls Tryz.prog 54 #[.pointer (some ⟨nb, 0, none⟩)] w fun e w' => Sent mu nb lv w s.ask e w' := by
  have t0 := hok.t0
  have HOK := hide (hok.campaign 1 (by decide))
  have HT1 : Hid ((s.campaign 1).term < 1000000 ∧ (s.campaign 1).term = s.term) := ⟨ht, rfl⟩
  have H := hide h
  have HL := hide hl
  have HI := hide (Nat.lt_of_lt_of_le hok.id hok.n7)
  obtain ⟨r, HR⟩ : ∃ r, s.ask = r := ⟨_, rfl⟩
  rw [HR]
  unfold Nd.ask at HR
  clear h hl hok
  have HC : Hid (∀ e w', (e = Ending.returned (.tuple #[]) ∧ NB mu w' nb (s.campaign 1) lv ∧ Ew nb w w') → (e = .returned (.tuple #[]) ∧ NB mu w' nb (s.campaign 1) lv ∧ Ew nb w w' ∧ NL w' (s.campaign 1) lv)) := by
    rintro e w' ⟨h1, h2, h3⟩
    exact ⟨h1, h2, h3, (unhide HL).ew (unhide H) h3⟩
  obtain ⟨t, HTT⟩ : ∃ t, s.campaign 1 = t := ⟨_, rfl⟩
  rw [HTT] at HR HOK HT1
  replace HTT := hide HTT
  replace HR := hide HR
  by_cases hm : t.maj (cnt t.gr) = true
  · have HM := hide hm
    have HR2 : Hid (t.stand = r) := by rw [← unhide HR, if_pos hm]; rfl
    clear hm
    go_enter Tryz.func54, Tryz.ntmps54
    go_wp2_with (first | (go_at_call 100; refine (campaign_any mu nb s lv 1 _ (unhide H) (unhide HI)).mono ?_; intro e w1 hx; obtain ⟨rfl, hN2, hE2, hL2⟩ := (unhide HC) e w1 hx; clear hx; rw [unhide HTT] at hN2 hL2; have k12 := hN2.c12; have k13 := hN2.c13; have k14 := hN2.c14; have k15 := hN2.c15; have k16 := hN2.c16; have k17 := hN2.c17; have k18 := hN2.c18; replace hN2 := hide hN2; replace hE2 := hide hE2; replace hL2 := hide hL2) | (go_at_call 96; refine (size_any t.gr w1).mono ?_; rintro e w2 ⟨rfl, hb2⟩; replace hb2 := hide hb2) | (go_at_call 94; refine (isMajority_any mu nb t lv (cnt t.gr) w2 ((unhide hN2).below (unhide hb2)) (unhide HOK).n7).mono ?_; rw [unhide HM]; rintro e w3 ⟨rfl, h3⟩; cases h3.symm) | (go_at_call 101; refine (stand_any mu nb t lv w2 ((unhide hN2).below (unhide hb2)) ((unhide hL2).below (unhide hb2)) (unhide HOK) (unhide HT1).1).mono ?_; rw [unhide HR2]; intro e w4 hx4; obtain ⟨v, l, lv', rfl, hx4⟩ := hx4; replace hx4 := hide hx4))
    go_ret
    exact Sent.ahead ((unhide hE2).below (unhide hb2)) ⟨v, l, lv', rfl, unhide hx4⟩
  · have hm' : t.maj (cnt t.gr) = false := by simpa using hm
    have HM := hide hm'
    have HR2 : Hid ((t, t.request 0 (s.term + 1)) = r) := by rw [← unhide HR, if_neg hm]; rfl
    clear hm hm'
    go_enter Tryz.func54, Tryz.ntmps54
    go_wp2_with (first | (go_at_call 100; refine (campaign_any mu nb s lv 1 _ (unhide H) (unhide HI)).mono ?_; intro e w1 hx; obtain ⟨rfl, hN2, hE2, hL2⟩ := (unhide HC) e w1 hx; clear hx; rw [unhide HTT] at hN2 hL2; have k12 := hN2.c12; have k13 := hN2.c13; have k14 := hN2.c14; have k15 := hN2.c15; have k16 := hN2.c16; have k17 := hN2.c17; have k18 := hN2.c18; replace hN2 := hide hN2; replace hE2 := hide hE2; replace hL2 := hide hL2) | (go_at_call 96; refine (size_any t.gr w1).mono ?_; rintro e w2 ⟨rfl, hb2⟩; have k4 := ((unhide hN2).below hb2).c4; rw [(unhide HT1).2] at k4; replace hb2 := hide hb2) | (go_at_call 94; refine (isMajority_any mu nb t lv (cnt t.gr) w2 ((unhide hN2).below (unhide hb2)) (unhide HOK).n7).mono ?_; rw [unhide HM]; rintro e w3 ⟨rfl, h3⟩; cases h3.symm) | (go_at_call 102; refine (request_any mu nb t lv 0 (s.term + 1) w2 ((unhide hN2).below (unhide hb2)) ((unhide hL2).below (unhide hb2)) (unhide HOK).len (unhide HOK).n7).mono ?_; rintro e w4 ⟨v, l, rfl, hm4, hb4⟩; replace hm4 := hide hm4; replace hb4 := hide hb4))
    go_ret
    rw [← unhide HR2]
    exact Sent.told ((unhide hE2).below (unhide hb2)) ((unhide hN2).below (unhide hb2)) ((unhide hL2).below (unhide hb2)) (unhide hm4) (unhide hb4)

theorem NL.ew_follow {mu : Int} {w w' : World} {nb : Nat} {s : Nd} {lv : Value} {t l : Int} (h : NL w s lv) (hN : NB mu w nb s lv) (he : Ew nb w w') : NL w' (({ s with elapsed := 0 } : Nd).follow t l) lv := by
  have h1 : (({ s with elapsed := 0 } : Nd).follow t l).log = s.log := by unfold Nd.follow; split <;> rfl
  unfold NL
  rw [h1]
  exact h.ew hN he

set_option maxRecDepth 100000 in
set_option maxHeartbeats 1000000 in
theorem tickLeader_any (mu : Int) (nb : Nat) (s : Nd) (lv : Value) (w : World) (h : NB mu w nb s lv) (hl : NL w s lv) (hld : Leads s) (hn7 : s.n ≤ 7) (hid : s.id < s.n) :
    Calls Tryz.prog 53 #[.pointer (some ⟨nb, 0, none⟩)] w fun e w' => Sent mu nb lv w s.tickLeader e w' := by
  have c10 := h.c10
  have c11 := h.c11
  have H := hide h
  have HL := hide hl
  have HLD := hide hld
  by_cases hp : s.pat ≤ s.elapsed
  · have f10 := h.free 10
    have HN0 := hide (h.setElapsed 0)
    clear h hl hld
    go_enter Tryz.func53, Tryz.ntmps53
    go_wp2
    go_quiet (fail)
    go_wp2
    have HN1 : Hid (NB mu ((w.drewN nq).setCell ⟨nb, 10, none⟩ (.int .i64 0)) nb { s with elapsed := 0 } lv) := (NB.drewN (unhide H) nq).setElapsed 0
    have HE1 : Hid (Ew nb w ((w.drewN nq).setCell ⟨nb, 10, none⟩ (.int .i64 0))) := ((Ew.refl nb w).drewN nq).set 10 _
    generalize (w.drewN nq).setCell ⟨nb, 10, none⟩ (.int .i64 0) = W at *
    have z33 : W.cell? ⟨nb, 33, none⟩ = some (.bool (s.hd 0)) := (unhide HN1).c33
    have z34 : W.cell? ⟨nb, 34, none⟩ = some (.bool (s.hd 1)) := (unhide HN1).c34
    have z35 : W.cell? ⟨nb, 35, none⟩ = some (.bool (s.hd 2)) := (unhide HN1).c35
    have z36 : W.cell? ⟨nb, 36, none⟩ = some (.bool (s.hd 3)) := (unhide HN1).c36
    have z37 : W.cell? ⟨nb, 37, none⟩ = some (.bool (s.hd 4)) := (unhide HN1).c37
    have z38 : W.cell? ⟨nb, 38, none⟩ = some (.bool (s.hd 5)) := (unhide HN1).c38
    have z39 : W.cell? ⟨nb, 39, none⟩ = some (.bool (s.hd 6)) := (unhide HN1).c39
    have z2 : W.cell? ⟨nb, 2, none⟩ = some (.int .i64 (s.id : Int)) := (unhide HN1).c2
    clear c10 c11 f10 HN0
    by_cases hm : s.maj (cnt (upd s.hd s.id true)) = true
    · have HR : Hid (s.tickLeader = ({ s with elapsed := 0, hd := none7 }, ({ s with elapsed := 0, hd := none7 } : Nd).appends)) := by
        show _ = _
        unfold Nd.tickLeader
        rw [if_pos hp, if_pos hm]
      have HM : Hid (Nd.maj { s with elapsed := 0 } (cnt (upd s.hd s.id true)) = true) := hm
      clear hm
      go_region_held3 (fun w' => w'.cell? ⟨nb, 33, none⟩ = some (.bool (s.hd 0)) ∧ w'.cell? ⟨nb, 34, none⟩ = some (.bool (s.hd 1)) ∧ w'.cell? ⟨nb, 35, none⟩ = some (.bool (s.hd 2)) ∧ w'.cell? ⟨nb, 36, none⟩ = some (.bool (s.hd 3)) ∧ w'.cell? ⟨nb, 37, none⟩ = some (.bool (s.hd 4)) ∧ w'.cell? ⟨nb, 38, none⟩ = some (.bool (s.hd 5)) ∧ w'.cell? ⟨nb, 39, none⟩ = some (.bool (s.hd 6)) ∧ w'.cell? ⟨nb, 2, none⟩ = some (.int .i64 (s.id : Int))) (first | go_keep) (first | (go_at_call 95; refine (with_any s.hd s.id W.drew (by omega)).mono ?_; rintro e w1 ⟨rfl, hb1⟩; have hN2 : NB mu w1 nb { s with elapsed := 0 } lv := (NB.below (w := W.drew) (unhide HN1) hb1); have y33 := hN2.c33; have y34 := hN2.c34; have y35 := hN2.c35; have y36 := hN2.c36; have y37 := hN2.c37; have y38 := hN2.c38; have y39 := hN2.c39; have y2 := hN2.c2; have hB1 := hide (Below.undrew hb1); replace hN2 := hide hN2; clear hb1) | (go_at_call 96; refine (size_any (upd s.hd s.id true) w1).mono ?_; rintro e w2 ⟨rfl, hb2⟩; have hN3 := (unhide hN2).below hb2; have x33 := hN3.c33; have x34 := hN3.c34; have x35 := hN3.c35; have x36 := hN3.c36; have x37 := hN3.c37; have x38 := hN3.c38; have x39 := hN3.c39; have x2 := hN3.c2; replace hN3 := hide hN3; replace hb2 := hide hb2) | (go_at_call 94; refine (isMajority_any mu nb { s with elapsed := 0 } lv (cnt (upd s.hd s.id true)) w2 (unhide hN3) hn7).mono ?_; rw [unhide HM]; rintro e w3 ⟨rfl, h3⟩; cases h3.symm))
      all_goals
        have q33 := (unhide hN3).free 33
        have q34 := (unhide hN3).free 34
        have q35 := (unhide hN3).free 35
        have q36 := (unhide hN3).free 36
        have q37 := (unhide hN3).free 37
        have q38 := (unhide hN3).free 38
        have q39 := (unhide hN3).free 39
        have HE3 := hide (((unhide HE1).below (unhide hB1)).below (unhide hb2))
        have HN4 : Hid (NB mu (((((((w2.setCell ⟨nb, 33, none⟩ (.bool false)).setCell ⟨nb, 34, none⟩ (.bool false)).setCell ⟨nb, 35, none⟩ (.bool false)).setCell ⟨nb, 36, none⟩ (.bool false)).setCell ⟨nb, 37, none⟩ (.bool false)).setCell ⟨nb, 38, none⟩ (.bool false)).setCell ⟨nb, 39, none⟩ (.bool false)) nb { s with elapsed := 0, hd := none7 } lv) := (unhide hN3).setHd none7
        go_wp2_with fail
        have HE4 := hide (((((((((unhide HE3)).set 33 (.bool false)).set 34 (.bool false)).set 35 (.bool false)).set 36 (.bool false)).set 37 (.bool false)).set 38 (.bool false)).set 39 (.bool false))
        have HNL5 : Hid (NL (((((((w2.setCell ⟨nb, 33, none⟩ (.bool false)).setCell ⟨nb, 34, none⟩ (.bool false)).setCell ⟨nb, 35, none⟩ (.bool false)).setCell ⟨nb, 36, none⟩ (.bool false)).setCell ⟨nb, 37, none⟩ (.bool false)).setCell ⟨nb, 38, none⟩ (.bool false)).setCell ⟨nb, 39, none⟩ (.bool false)) { s with elapsed := 0, hd := none7 } lv) := (unhide HL).ew (unhide H) (unhide HE4)
        have HLD5 : Hid (Leads { s with elapsed := 0, hd := none7 }) := ⟨(unhide HLD).last, (unhide HLD).pos, (unhide HLD).sz, (unhide HLD).lo, (unhide HLD).hi, (unhide HLD).mm⟩
        have hn5 : Nd.n { s with elapsed := 0, hd := none7 } ≤ 7 := hn7
        generalize (((((((w2.setCell ⟨nb, 33, none⟩ (.bool false)).setCell ⟨nb, 34, none⟩ (.bool false)).setCell ⟨nb, 35, none⟩ (.bool false)).setCell ⟨nb, 36, none⟩ (.bool false)).setCell ⟨nb, 37, none⟩ (.bool false)).setCell ⟨nb, 38, none⟩ (.bool false)).setCell ⟨nb, 39, none⟩ (.bool false)) = W5 at *
        generalize ({ s with elapsed := 0, hd := none7 } : Nd) = t at *
        go_wp2_with (first | (go_at_call 99; refine (others_any mu nb t lv _ (unhide HN4) hn5).mono ?_; rintro e w6 ⟨ov, rfl, ho6, hb6⟩; replace ho6 := hide ho6; replace hb6 := hide hb6) | (go_at_call 98; refine (sendAppends_any mu nb t lv t.others ov w6 ((unhide HN4).below (unhide hb6)) ((unhide HNL5).below (unhide hb6)) (unhide HLD5) hn5 (ints_of_owns (unhide ho6)) (others_lt t) (others_len hn5)).mono ?_; rintro e w7 ⟨v, l, rfl, hm7, hb7⟩; replace hm7 := hide hm7; replace hb7 := hide hb7))
        go_ret
        rw [unhide HR]
        exact Sent.told ((unhide HE4).below (unhide hb6)) ((unhide HN4).below (unhide hb6)) ((unhide HNL5).below (unhide hb6)) (unhide hm7) (unhide hb7)
    · have hm' : s.maj (cnt (upd s.hd s.id true)) = false := by simpa using hm
      have HR : Hid (s.tickLeader = (({ s with elapsed := 0 } : Nd).follow s.term (-1), [])) := by
        show _ = _
        unfold Nd.tickLeader
        rw [if_pos hp, if_neg hm]
      have HM : Hid (Nd.maj { s with elapsed := 0 } (cnt (upd s.hd s.id true)) = false) := hm'
      clear hm hm'
      go_region_held3 (fun w' => w'.cell? ⟨nb, 33, none⟩ = some (.bool (s.hd 0)) ∧ w'.cell? ⟨nb, 34, none⟩ = some (.bool (s.hd 1)) ∧ w'.cell? ⟨nb, 35, none⟩ = some (.bool (s.hd 2)) ∧ w'.cell? ⟨nb, 36, none⟩ = some (.bool (s.hd 3)) ∧ w'.cell? ⟨nb, 37, none⟩ = some (.bool (s.hd 4)) ∧ w'.cell? ⟨nb, 38, none⟩ = some (.bool (s.hd 5)) ∧ w'.cell? ⟨nb, 39, none⟩ = some (.bool (s.hd 6)) ∧ w'.cell? ⟨nb, 2, none⟩ = some (.int .i64 (s.id : Int))) (first | go_keep) (first | (go_at_call 95; refine (with_any s.hd s.id W.drew (by omega)).mono ?_; rintro e w1 ⟨rfl, hb1⟩; have hN2 : NB mu w1 nb { s with elapsed := 0 } lv := (NB.below (w := W.drew) (unhide HN1) hb1); have y33 := hN2.c33; have y34 := hN2.c34; have y35 := hN2.c35; have y36 := hN2.c36; have y37 := hN2.c37; have y38 := hN2.c38; have y39 := hN2.c39; have y2 := hN2.c2; have hB1 := hide (Below.undrew hb1); replace hN2 := hide hN2; clear hb1) | (go_at_call 96; refine (size_any (upd s.hd s.id true) w1).mono ?_; rintro e w2 ⟨rfl, hb2⟩; have hN3 := (unhide hN2).below hb2; have x33 := hN3.c33; have x34 := hN3.c34; have x35 := hN3.c35; have x36 := hN3.c36; have x37 := hN3.c37; have x38 := hN3.c38; have x39 := hN3.c39; have x2 := hN3.c2; replace hN3 := hide hN3; replace hb2 := hide hb2) | (go_at_call 94; refine (isMajority_any mu nb { s with elapsed := 0 } lv (cnt (upd s.hd s.id true)) w2 (unhide hN3) hn7).mono ?_; rw [unhide HM]; rintro e w3 ⟨rfl, h3⟩; cases h3.symm))
      all_goals
        have k4 := (unhide hN3).c4
        have HE3 := hide (((unhide HE1).below (unhide hB1)).below (unhide hb2))
        go_wp2_with (go_at_call 97; refine (follow_any mu nb _ lv s.term (-1) _ (unhide hN3)).mono ?_; rintro e w5 ⟨rfl, hN5, hE5⟩; replace hN5 := hide hN5; replace hE5 := hide hE5)
        go_ret
        rw [unhide HR]
        exact Sent.quiet ((unhide HE3).trans (unhide hE5)) (unhide hN5) (NL.ew_follow (unhide HL) (unhide H) ((unhide HE3).trans (unhide hE5)))
  · have HR : Hid (s.tickLeader = (s, s.appends)) := if_neg hp
    clear h hl hld
    go_enter Tryz.func53, Tryz.ntmps53
    go_wp2
    go_quiet (fail)
    go_wp2_with (first | (go_at_call 99; refine (others_any mu nb s lv _ (NB.drewN (unhide H) _) hn7).mono ?_; rintro e w6 ⟨ov, rfl, ho6, hb6⟩; have hb6' : Below w.heap.size w w6 := (below_drewN (Below.refl _ w) nq).trans hb6; replace ho6 := hide ho6; replace hb6' := hide hb6'; clear hb6) | (go_at_call 98; refine (sendAppends_any mu nb s lv s.others ov w6 ((unhide H).below (unhide hb6')) ((unhide HL).below (unhide hb6')) (unhide HLD) hn7 (ints_of_owns (unhide ho6)) (others_lt s) (others_len hn7)).mono ?_; rintro e w7 ⟨v, l, rfl, hm7, hb7⟩; replace hm7 := hide hm7; replace hb7 := hide hb7))
    go_ret
    rw [unhide HR]
    exact Sent.told (Ew.ofBelow (unhide hb6')) ((unhide H).below (unhide hb6')) ((unhide HL).below (unhide hb6')) (unhide hm7) (unhide hb7)

end Go.Proofs.YteiecbkfganhnaaGreat

namespace Go.Proofs.YteiecbkfganhnaaGreat

open Go.RowKit Go.MuLone

theorem Sent.unlock {nb : Nat} {lv : Value} {w w1 w' : World} {r : Nd × List Msg} {e : Ending} (hlt : nb < w.heap.size) (h1 : Ew nb w w1) (hs : Sent 1 nb lv w1 r e w') : Sent 0 nb lv w r e (w'.setCell ⟨nb, 0, none⟩ (.int .i32 0)) := by
  obtain ⟨v, l, lv', he, hN, hL, hM, hV, hA⟩ := hs
  have hE : Ew nb w' (w'.setCell ⟨nb, 0, none⟩ (.int .i32 0)) := (Ew.refl nb w').set 0 _
  exact ⟨v, l, lv', he, hN.setMu 0, hL.ew hN hE, (hM.base h1.size).ew hE hlt, ((Ev.ofEw h1).trans hV).ew hE, hA⟩

theorem Sent.c0 {nb : Nat} {lv : Value} {w w' : World} {r : Nd × List Msg} {e : Ending} (hs : Sent 1 nb lv w r e w') : w'.cell? ⟨nb, 0, none⟩ = some (.int .i32 1) ∧ w'.frozen? ⟨nb, 0, none⟩ = false := by
  obtain ⟨v, l, lv', he, hN, hL, hM, hV⟩ := hs
  exact ⟨hN.c0, hN.free 0⟩

set_option maxRecDepth 100000 in
set_option maxHeartbeats 1000000 in
theorem tick_any (nb : Nat) (s : Nd) (lv : Value) (w : World) (h : NB 0 w nb s lv) (hl : NL w s lv) (hok : Ok s) (he : s.elapsed < 4611686018427387904) :
    Calls Tryz.prog 28 #[.pointer (some ⟨nb, 0, none⟩)] w fun e w' => Sent 0 nb lv w s.tick e w' := by
  have c0 := h.c0
  have f0 := h.free 0
  have c10 := h.c10
  have c7 := h.c7
  have c11 := h.c11
  have c4 := h.c4
  have f10 := h.free 10
  have e0 := hok.e0
  have HLT := hide h.lt
  have HN1 := hide ((h.setMu 1).setElapsed (s.elapsed + 1))
  have HE1 := hide (((Ew.refl nb w).set 0 (.int .i32 1)).set 10 (.int .i64 (s.elapsed + 1)))
  have HL1 : Hid (NL ((w.setCell ⟨nb, 0, none⟩ (.int .i32 1)).setCell ⟨nb, 10, none⟩ (.int .i64 (s.elapsed + 1))) s.tickS lv) := hl.ew h (unhide HE1)
  have HOK := hide hok.tickS
  clear h hl hok
  by_cases hr : s.role = 3
  · have HR : Hid (s.tick = s.tickS.tickLeader) := if_pos hr
    have HLD : Hid (Leads s.tickS) := (unhide HOK).lead hr
    rw [hr] at c7
    clear hr
    rw [unhide HR]
    go_enter_defers Tryz.func28, Tryz.ntmps28
    go_wp2_with (first | (go_at_call 51; refine (lock_free muLib ⟨nb, 0, none⟩ _ c0 f0).mono ?_; rintro e w' ⟨rfl, rfl⟩) | (go_at_call 53; refine (tickLeader_any 1 nb s.tickS lv _ (unhide HN1) (unhide HL1) (unhide HLD) (unhide HOK).n7 (unhide HOK).id).mono ?_; intro e w4 hx4; obtain ⟨v, l, lv', rfl, hx4⟩ := hx4; replace hx4 := hide hx4))
    have hs4 : Sent 1 nb lv _ _ _ w4 := ⟨v, l, lv', rfl, unhide hx4⟩
    refine leaves_cons (f := 52) (args := #[.pointer (some ⟨nb, 0, none⟩)]) (by simp) (by simp [go_sem]) ?_
    refine (unlock_deferred muLib ⟨nb, 0, none⟩ .returning _ hs4.c0.1 hs4.c0.2).mono ?_
    rintro e u' w'' ⟨rfl, rfl, rfl⟩
    have hu := Sent.unlock (unhide HLT) (unhide HE1) hs4
    refine ⟨_, results_tmp rfl _ _ _, ?_⟩
    exact hu
  · have hr2 : (s.role == 3) = false := by simpa using hr
    by_cases hw : s.elapsed + 1 < s.pat ∨ 1000000 ≤ s.term
    · have HR : Hid (s.tick = (s.tickS, [])) := by show _ = _; unfold Nd.tick; rw [if_neg hr, if_pos hw]
      clear hr
      rw [unhide HR]
      by_cases hq : s.elapsed + 1 < s.pat
      · have hd : decide (s.elapsed + 1 < s.pat) = true := decide_eq_true hq
        clear hw
        go_enter_defers Tryz.func28, Tryz.ntmps28
        go_wp2_with (first | (go_at_call 51; refine (lock_free muLib ⟨nb, 0, none⟩ _ c0 f0).mono ?_; rintro e w' ⟨rfl, rfl⟩))
        go_quiet (fail)
        go_wp2
        have hs4 := Sent.quiet (Ew.refl nb _) (NB.drewN (unhide HN1) nq) (NL.drewN (unhide HL1) nq)
        refine leaves_cons (f := 52) (args := #[.pointer (some ⟨nb, 0, none⟩)]) (by simp) (by simp [go_sem]) ?_
        refine (unlock_deferred muLib ⟨nb, 0, none⟩ .returning _ hs4.c0.1 hs4.c0.2).mono ?_
        rintro e u' w'' ⟨rfl, rfl, rfl⟩
        have hu := Sent.unlock (unhide HLT) ((unhide HE1).drewN _) hs4
        refine ⟨_, results_tmp rfl _ _ _, ?_⟩
        exact hu
      · have hd : decide (s.elapsed + 1 < s.pat) = false := decide_eq_false hq
        have ht : 1000000 ≤ s.term := by omega
        clear hw
        go_enter_defers Tryz.func28, Tryz.ntmps28
        go_wp2_with (first | (go_at_call 51; refine (lock_free muLib ⟨nb, 0, none⟩ _ c0 f0).mono ?_; rintro e w' ⟨rfl, rfl⟩))
        go_quiet (fail)
        go_wp2
        have hs4 := Sent.quiet (Ew.refl nb _) (NB.drewN (unhide HN1) nq) (NL.drewN (unhide HL1) nq)
        refine leaves_cons (f := 52) (args := #[.pointer (some ⟨nb, 0, none⟩)]) (by simp) (by simp [go_sem]) ?_
        refine (unlock_deferred muLib ⟨nb, 0, none⟩ .returning _ hs4.c0.1 hs4.c0.2).mono ?_
        rintro e u' w'' ⟨rfl, rfl, rfl⟩
        have hu := Sent.unlock (unhide HLT) ((unhide HE1).drewN _) hs4
        refine ⟨_, results_tmp rfl _ _ _, ?_⟩
        exact hu
    · have HR : Hid (s.tick = s.tickS.ask) := by show _ = _; unfold Nd.tick; rw [if_neg hr, if_neg hw]
      have hd : decide (s.elapsed + 1 < s.pat) = false := decide_eq_false (by omega)
      have ht : ¬ 1000000 ≤ s.term := by omega
      have htt : s.tickS.term < 1000000 := by show s.term < 1000000; omega
      clear hr hw
      rw [unhide HR]
      go_enter_defers Tryz.func28, Tryz.ntmps28
      go_wp2_with (first | (go_at_call 51; refine (lock_free muLib ⟨nb, 0, none⟩ _ c0 f0).mono ?_; rintro e w' ⟨rfl, rfl⟩))
      go_quiet (fail)
      go_wp2_with (go_at_call 54; refine (ask_any 1 nb s.tickS lv _ (NB.drewN (unhide HN1) _) (NL.drewN (unhide HL1) _) (unhide HOK) htt).mono ?_; intro e w4 hx4; obtain ⟨v, l, lv', rfl, hx4⟩ := hx4; replace hx4 := hide hx4)
      have hs4 : Sent 1 nb lv _ _ _ w4 := ⟨v, l, lv', rfl, unhide hx4⟩
      refine leaves_cons (f := 52) (args := #[.pointer (some ⟨nb, 0, none⟩)]) (by simp) (by simp [go_sem]) ?_
      refine (unlock_deferred muLib ⟨nb, 0, none⟩ .returning _ hs4.c0.1 hs4.c0.2).mono ?_
      rintro e u' w'' ⟨rfl, rfl, rfl⟩
      have hu := Sent.unlock (unhide HLT) ((unhide HE1).drewN _) hs4
      refine ⟨_, results_tmp rfl _ _ _, ?_⟩
      exact hu

end Go.Proofs.YteiecbkfganhnaaGreat

namespace Go.Proofs.YteiecbkfganhnaaGreat

open Go.RowKit Go.MuLone

/-- A world behind W in which nothing old has turned. -/
structure BW (W : World) where
  wd : World
  below : Below W.heap.size W wd

theorem wp_region_below {P : Program} {id : Nat} {Q : Exit → Act → World → Prop} {a : Act} {w : World} {l : List Oper} (hm : P.follows .mixedOrders = true) (hB : Region.lexB .any l.toArray = true)
    (h : wpQuiet P l.toArray (fun w' => ∃ x : BW w, w' = x.wd) (fun a' => ∀ w', (∃ x : BW w, w' = x.wd) → Q .normal a' w') l a) : (Code.region id l.toArray true).wp P Q a w :=
  wp_region_quiet (C := fun w' => ∃ x : BW w, w' = x.wd) hm hB ⟨⟨w.drew, (Below.refl _ _).drew⟩, rfl⟩ (by simpa using h)

theorem BW.calls {P : Program} {f : FuncId} {args : Array Value} {W : World} {x : BW W} {v : Value} (h : Calls P f args x.wd fun e w' => e = .returned v ∧ Below x.wd.heap.size x.wd w') : Calls P f args x.wd fun e w'' => e = .returned v ∧ ∃ y : BW W, w'' = y.wd :=
  h.mono fun _ w' ⟨he, hb⟩ => ⟨he, ⟨w', x.below.trans (hb.mono x.below.size)⟩, rfl⟩

theorem BW.calls_drew {P : Program} {f : FuncId} {args : Array Value} {W : World} {x : BW W} {v : Value} (h : Calls P f args x.wd fun e w' => e = .returned v ∧ ∃ m, w' = x.wd.drewN m) : Calls P f args x.wd fun e w'' => e = .returned v ∧ ∃ y : BW W, w'' = y.wd :=
  h.mono fun _ _ ⟨he, m, hm⟩ => ⟨he, ⟨x.wd.drewN m, below_drewN x.below m⟩, hm⟩

theorem BW.calls_same {P : Program} {f : FuncId} {args : Array Value} {W : World} {x : BW W} {v : Value} (h : Calls P f args x.wd fun e w' => e = .returned v ∧ w' = x.wd) : Calls P f args x.wd fun e w'' => e = .returned v ∧ ∃ y : BW W, w'' = y.wd :=
  h.mono fun _ _ ⟨he, hm⟩ => ⟨he, x, hm⟩

theorem BW.cell {W : World} {b o : Nat} {v : Value} (h : W.cell? ⟨b, o, none⟩ = some v) : ∀ x : BW W, x.wd.cell? ⟨b, o, none⟩ = some v := fun x => (x.below.cell (p := ⟨b, o, none⟩) (block_lt_of_cell h)).trans h

theorem BW.nb {mu : Int} {W : World} {nb : Nat} {s : Nd} {lv : Value} (h : NB mu W nb s lv) (x : BW W) : NB mu x.wd nb s lv := h.below x.below

theorem BW.nl {W : World} {s : Nd} {lv : Value} (h : NL W s lv) (x : BW W) : NL x.wd s lv := h.below x.below

theorem BW.row {W : World} {b : Nat} {cs : Array Value} {t : TypeId} (h : W.heap[b]? = some (.cells cs t (0, 0))) (x : BW W) : x.wd.heap[b]? = some (.cells cs t (0, 0)) := (x.below.block b (Array.getElem?_eq_some_iff.1 h).1).trans h

end Go.Proofs.YteiecbkfganhnaaGreat

namespace Go.Proofs.YteiecbkfganhnaaGreat

open Go.RowKit Go.MuLone

set_option maxRecDepth 100000 in
set_option maxHeartbeats 1000000 in
theorem sameMessage_eq (m : Msg) (va vb : Value) (w : World) (hn : m.ents.length ≤ 1000000) (ha : EntsIn w va m.ents) (hb : EntsIn w vb m.ents) :
    Calls Tryz.prog 107 #[magg m va, magg m vb] w fun e w' => e = .returned (.bool true) ∧ Below w.heap.size w w' := by
  have HA := hide ha
  have HB := hide hb
  obtain ⟨a1, k1, rfl, _⟩ := ha
  obtain ⟨a2, k2, rfl, _⟩ := hb
  obtain ⟨mk, mf, mt, mT, mi, ml, mc, me, mg⟩ := m
  have hb2 := below_trans (below_alloc w (.cells #[.int .i64 mk, .int .i64 mf, .int .i64 mt, .int .i64 mT, .int .i64 mi, .int .i64 ml, .int .i64 mc, .slice a1 me.length k1, .bool mg] 30)) (below_alloc _ (.cells #[.int .i64 mk, .int .i64 mf, .int .i64 mt, .int .i64 mT, .int .i64 mi, .int .i64 ml, .int .i64 mc, .slice a2 me.length k2, .bool mg] 30))
  have H2 := hide hb2
  clear hb2
  go_enter Tryz.func107, Tryz.ntmps107
  go_wp2_with (go_at_call 87; refine (sameEntries_eq _ _ me _ (by simp only at hn; omega) (by exact ents_below (unhide HA) (unhide H2)) (by exact ents_below (unhide HB) (unhide H2))).mono ?_; rintro e w3 ⟨rfl, q, rfl⟩)
  go_ret
  exact ⟨rfl, (unhide H2).trans ⟨rfl, rfl, rfl, Nat.le_refl _, fun _ _ => rfl⟩⟩

set_option maxRecDepth 100000 in
set_option maxHeartbeats 1000000 in
theorem sameMessages_eq (va vb : Value) (la lb : List (Msg × Value)) (w : World) (hn : la.length ≤ 1000) (hm : lb.map Prod.fst = la.map Prod.fst) (he : ∀ y ∈ la, y.1.ents.length ≤ 1000000) (ha : MsgsIn w va la) (hb : MsgsIn w vb lb) :
    Calls Tryz.prog 62 #[va, vb] w fun e w' => e = .returned (.bool true) ∧ Below w.heap.size w w' := by
  obtain ⟨ao, ac, rfl, ha⟩ := ha
  obtain ⟨bo, bc, rfl, hb⟩ := hb
  have hlen : lb.length = la.length := by have := congrArg List.length hm; simpa using this
  rw [hlen]
  have HA := hide ha
  have HB := hide hb
  have HM := hide hm
  have HE := hide he
  have HL := hide hlen
  clear ha hb hm he hlen
  go_enter Tryz.func62, Tryz.ntmps62
  go_wp2
  go_loopw [5] (fun i wr => ∃ k : Nat, k ≤ la.length ∧ i = .int .i64 k ∧ Below w.heap.size w wr) (fun i _ => la.length - (intOf i).toNat)
  case atStart => exact ⟨0, Nat.zero_le _, rfl, Below.refl _ _⟩
  case round =>
    obtain ⟨k, hk, rfl, hbw⟩ := hrel
    by_cases hlt : k < la.length
    · have hka : la[k]? = some la[k] := List.getElem?_eq_getElem hlt
      have hlt2 : k < lb.length := by rw [unhide HL]; exact hlt
      have hkb : lb[k]? = some lb[k] := List.getElem?_eq_getElem hlt2
      have hfst : lb[k].1 = la[k].1 := by
        have h1 : (lb.map Prod.fst)[k]? = (la.map Prod.fst)[k]? := by rw [unhide HM]
        rw [List.getElem?_map, List.getElem?_map, hka, hkb] at h1
        simpa using h1
      obtain ⟨⟨b1, o1, rfl, c0, c1, c2, c3, c4, c5, c6, c7, c8⟩, e1⟩ := unhide HA k _ hka
      obtain ⟨⟨b2, o2, rfl, d0, d1, d2, d3, d4, d5, d6, d7, d8⟩, e2⟩ := unhide HB k _ hkb
      have hle := unhide HE _ (List.getElem_mem hlt)
      have i1 : (0 : Int) ≤ (k : Int) := by omega
      have i2 : (k : Int) < (la.length : Int) := by omega
      rw [hfst] at d0 d1 d2 d3 d4 d5 d6 d8 e2
      generalize hm1 : la[k].1 = m at *
      generalize la[k].2 = ea at *
      generalize lb[k].2 = eb at *
      clear hka hkb hfst hlt2 hm1
      have HEA := hide e1
      have HEB := hide e2
      have hcw : ∀ {b o u}, w.cell? ⟨b, o, none⟩ = some u → wr.cell? ⟨b, o, none⟩ = some u := fun {b o u} hx => (hbw.cell (p := ⟨b, o, none⟩) (block_lt_of_cell hx)).trans hx
      replace c0 := BW.cell (hcw c0)
      replace c1 := BW.cell (hcw c1)
      replace c2 := BW.cell (hcw c2)
      replace c3 := BW.cell (hcw c3)
      replace c4 := BW.cell (hcw c4)
      replace c5 := BW.cell (hcw c5)
      replace c6 := BW.cell (hcw c6)
      replace c7 := BW.cell (hcw c7)
      replace c8 := BW.cell (hcw c8)
      replace d0 := BW.cell (hcw d0)
      replace d1 := BW.cell (hcw d1)
      replace d2 := BW.cell (hcw d2)
      replace d3 := BW.cell (hcw d3)
      replace d4 := BW.cell (hcw d4)
      replace d5 := BW.cell (hcw d5)
      replace d6 := BW.cell (hcw d6)
      replace d7 := BW.cell (hcw d7)
      replace d8 := BW.cell (hcw d8)
      have HBW := hide hbw
      have HC : Hid (∀ x : BW wr, Calls Tryz.prog 107 #[magg m ea, magg m eb] x.wd fun e w' => e = .returned (.bool true) ∧ Below x.wd.heap.size x.wd w') := fun x => sameMessage_eq m ea eb x.wd hle (ents_below (ents_below (unhide HEA) (unhide HBW)) x.below) (ents_below (ents_below (unhide HEB) (unhide HBW)) x.below)
      clear e1 e2 hle hbw hcw
      have HNE : Nonempty (BW wr) := ⟨⟨wr, Below.refl _ _⟩⟩
      go_wp2_with fail
      refine wp_region_below (by kernel_rfl) (by kernel_rfl) ?_
      repeat (quiet_step ((go_at_call 107; exact BW.calls (unhide HC _))))
      refine wpQuiet_nil ?_
      intro _ hw'
      obtain ⟨x, hw''⟩ := hw'
      subst hw''
      have HBX := hide ((unhide HBW).trans (x.below.mono (unhide HBW).size))
      clear c0 c1 c2 c3 c4 c5 c6 c7 c8 d0 d1 d2 d3 d4 d5 d6 d7 d8
      go_wp2
      go_roundw
      case rel => exact ⟨k + 1, by omega, by go_num, unhide HBX⟩
      case measure => simp [intOf]; omega
    · go_wp2
      go_ret
      exact ⟨rfl, hbw⟩

end Go.Proofs.YteiecbkfganhnaaGreat
