/- The program's node: appendTo, sendAppends. -/
import Derived.Test.YteiecbkfganhnaaReq
namespace Go.Proofs.Yteiecbkfganhnaa
open Go.RowKit Go.MuLone

theorem heap_nine {w : World} {g : Nat} {t : TypeId} {a0 a1 a2 a3 a4 a5 a6 a7 a8 : Value} (b0 b1 b2 b3 b4 b5 b6 b7 b8 : Value) (h : w.heap[g]? = some (.cells #[a0, a1, a2, a3, a4, a5, a6, a7, a8] t (0, 0))) :
    (((((((((w.setCell ⟨g, 0, none⟩ b0).setCell ⟨g, 1, none⟩ b1).setCell ⟨g, 2, none⟩ b2).setCell ⟨g, 3, none⟩ b3).setCell ⟨g, 4, none⟩ b4).setCell ⟨g, 5, none⟩ b5).setCell ⟨g, 6, none⟩ b6).setCell ⟨g, 7, none⟩ b7).setCell ⟨g, 8, none⟩ b8).heap[g]? = some (.cells #[b0, b1, b2, b3, b4, b5, b6, b7, b8] t (0, 0)) := by
  have h0 : (w.setCell ⟨g, 0, none⟩ b0).heap[g]? = some (.cells #[b0, a1, a2, a3, a4, a5, a6, a7, a8] t (0, 0)) := heap_setCell_same _ g 0 _ _ b0 h
  have h1 : ((w.setCell ⟨g, 0, none⟩ b0).setCell ⟨g, 1, none⟩ b1).heap[g]? = some (.cells #[b0, b1, a2, a3, a4, a5, a6, a7, a8] t (0, 0)) := heap_setCell_same _ g 1 _ _ b1 h0
  have h2 : (((w.setCell ⟨g, 0, none⟩ b0).setCell ⟨g, 1, none⟩ b1).setCell ⟨g, 2, none⟩ b2).heap[g]? = some (.cells #[b0, b1, b2, a3, a4, a5, a6, a7, a8] t (0, 0)) := heap_setCell_same _ g 2 _ _ b2 h1
  have h3 : ((((w.setCell ⟨g, 0, none⟩ b0).setCell ⟨g, 1, none⟩ b1).setCell ⟨g, 2, none⟩ b2).setCell ⟨g, 3, none⟩ b3).heap[g]? = some (.cells #[b0, b1, b2, b3, a4, a5, a6, a7, a8] t (0, 0)) := heap_setCell_same _ g 3 _ _ b3 h2
  have h4 : (((((w.setCell ⟨g, 0, none⟩ b0).setCell ⟨g, 1, none⟩ b1).setCell ⟨g, 2, none⟩ b2).setCell ⟨g, 3, none⟩ b3).setCell ⟨g, 4, none⟩ b4).heap[g]? = some (.cells #[b0, b1, b2, b3, b4, a5, a6, a7, a8] t (0, 0)) := heap_setCell_same _ g 4 _ _ b4 h3
  have h5 : ((((((w.setCell ⟨g, 0, none⟩ b0).setCell ⟨g, 1, none⟩ b1).setCell ⟨g, 2, none⟩ b2).setCell ⟨g, 3, none⟩ b3).setCell ⟨g, 4, none⟩ b4).setCell ⟨g, 5, none⟩ b5).heap[g]? = some (.cells #[b0, b1, b2, b3, b4, b5, a6, a7, a8] t (0, 0)) := heap_setCell_same _ g 5 _ _ b5 h4
  have h6 : (((((((w.setCell ⟨g, 0, none⟩ b0).setCell ⟨g, 1, none⟩ b1).setCell ⟨g, 2, none⟩ b2).setCell ⟨g, 3, none⟩ b3).setCell ⟨g, 4, none⟩ b4).setCell ⟨g, 5, none⟩ b5).setCell ⟨g, 6, none⟩ b6).heap[g]? = some (.cells #[b0, b1, b2, b3, b4, b5, b6, a7, a8] t (0, 0)) := heap_setCell_same _ g 6 _ _ b6 h5
  have h7 : ((((((((w.setCell ⟨g, 0, none⟩ b0).setCell ⟨g, 1, none⟩ b1).setCell ⟨g, 2, none⟩ b2).setCell ⟨g, 3, none⟩ b3).setCell ⟨g, 4, none⟩ b4).setCell ⟨g, 5, none⟩ b5).setCell ⟨g, 6, none⟩ b6).setCell ⟨g, 7, none⟩ b7).heap[g]? = some (.cells #[b0, b1, b2, b3, b4, b5, b6, b7, a8] t (0, 0)) := heap_setCell_same _ g 7 _ _ b7 h6
  have h8 : (((((((((w.setCell ⟨g, 0, none⟩ b0).setCell ⟨g, 1, none⟩ b1).setCell ⟨g, 2, none⟩ b2).setCell ⟨g, 3, none⟩ b3).setCell ⟨g, 4, none⟩ b4).setCell ⟨g, 5, none⟩ b5).setCell ⟨g, 6, none⟩ b6).setCell ⟨g, 7, none⟩ b7).setCell ⟨g, 8, none⟩ b8).heap[g]? = some (.cells #[b0, b1, b2, b3, b4, b5, b6, b7, b8] t (0, 0)) := heap_setCell_same _ g 8 _ _ b8 h7
  exact h8

theorem ents_part {w : World} {b n cap : Nat} {es : List Ent} (h : EntsIn w (.slice (some ⟨b, 0, none⟩) n cap) es) (lo k c : Nat) : EntsIn w (.slice (some ⟨b, lo * 2, none⟩) ((es.drop lo).take k).length c) ((es.drop lo).take k) := by
  obtain ⟨ao, cap', hv, _, he⟩ := h
  refine ⟨some ⟨b, lo * 2, none⟩, c, rfl, fun hx => by simp at hx, fun j e hj => ⟨b, lo * 2, rfl, ?_⟩⟩
  have hj2 : es[lo + j]? = some e := by
    rw [List.getElem?_take] at hj
    split at hj
    · rwa [List.getElem?_drop] at hj
    · simp at hj
  obtain ⟨b', off', ha, h1, h2⟩ := he (lo + j) e hj2
  simp only [Value.slice.injEq] at hv
  obtain ⟨rfl, _, _⟩ := hv
  simp only [Option.some.injEq, Addr.mk.injEq, and_true] at ha
  obtain ⟨rfl, rfl⟩ := ha
  rw [Nat.zero_add, Nat.add_mul] at h1 h2
  exact ⟨h1, h2⟩

/-- A part of a list of entries. -/
theorem slice_ents (lb n cap a E : Nat) (es : List Ent) (h1 : a ≤ E) (h2 : E ≤ n) (h3 : n ≤ cap) (hl : es.length = n) : ∃ ad c, (∀ w, (Instr.slice 31 (.slice (some ⟨lb, 0, none⟩) n cap) (some (.int .i64 (a : Int))) (some (.int .i64 (E : Int))) none).run Try.prog w = .ok (.slice (some ad) (E - a) c) w) ∧
    ∀ W, EntsIn W (.slice (some ⟨lb, 0, none⟩) n cap) es → EntsIn W (.slice (some ad) (E - a) c) ((es.drop a).take (E - a)) := by
  have i1 : (0 : Int) ≤ (a : Int) := by omega
  have i2 : (a : Int) ≤ (E : Int) := by omega
  have i3 : (E : Int) ≤ (cap : Int) := by omega
  by_cases hca : cap = a
  · refine ⟨⟨lb, 0, none⟩, cap - a, fun w => by subst hca; go_simp, fun W hW => ?_⟩
    have h0 : E - a = 0 := by omega
    rw [h0, List.take_zero]
    exact ⟨_, _, rfl, fun hx => by simp at hx, fun k e hk => by simp at hk⟩
  · refine ⟨⟨lb, a * 2, none⟩, cap - a, fun w => by go_simp, fun W hW => ?_⟩
    have h := ents_part hW a (E - a) (cap - a)
    have h0 : ((es.drop a).take (E - a)).length = E - a := by simp; omega
    rwa [h0] at h

theorem part_len (es : List Ent) (a : Nat) : ((es.drop a).take 3).length = min (a + 3) es.length - a := by simp; omega

theorem part_take (es : List Ent) (a : Nat) : (es.drop a).take (min (a + 3) es.length - a) = (es.drop a).take 3 := by
  by_cases h : a + 3 ≤ es.length
  · rw [Nat.min_eq_left h, show a + 3 - a = 3 by omega]
  · rw [Nat.min_eq_right (by omega), List.take_of_length_le (by simp), List.take_of_length_le (by simp; omega)]

theorem owns_nine {w : World} {base e size n g : Nat} {v : Value} {xs : List Value} {b0 b1 b2 b3 b4 b5 b6 b7 b8 : Value} (h : w.ownsRow base e size v n xs) (hne : ∀ x, v.ownBlock = some x → x ≠ g) :
    (((((((((w.setCell ⟨g, 0, none⟩ b0).setCell ⟨g, 1, none⟩ b1).setCell ⟨g, 2, none⟩ b2).setCell ⟨g, 3, none⟩ b3).setCell ⟨g, 4, none⟩ b4).setCell ⟨g, 5, none⟩ b5).setCell ⟨g, 6, none⟩ b6).setCell ⟨g, 7, none⟩ b7).setCell ⟨g, 8, none⟩ b8).ownsRow base e size v n xs := by
  refine owns_kept h fun x hx => ?_
  have hn := hne x hx
  rw [Below.heap_setCell _ _ _ _ hn, Below.heap_setCell _ _ _ _ hn, Below.heap_setCell _ _ _ _ hn, Below.heap_setCell _ _ _ _ hn, Below.heap_setCell _ _ _ _ hn, Below.heap_setCell _ _ _ _ hn, Below.heap_setCell _ _ _ _ hn, Below.heap_setCell _ _ _ _ hn, Below.heap_setCell _ _ _ _ hn]

theorem below_nine {B : Nat} {a w : World} {g : Nat} {b0 b1 b2 b3 b4 b5 b6 b7 b8 : Value} (h : Below B a w) (hB : B ≤ g) :
    Below B a (((((((((w.setCell ⟨g, 0, none⟩ b0).setCell ⟨g, 1, none⟩ b1).setCell ⟨g, 2, none⟩ b2).setCell ⟨g, 3, none⟩ b3).setCell ⟨g, 4, none⟩ b4).setCell ⟨g, 5, none⟩ b5).setCell ⟨g, 6, none⟩ b6).setCell ⟨g, 7, none⟩ b7).setCell ⟨g, 8, none⟩ b8) :=
  (((((((((h.setCell (p := ⟨g, 0, none⟩) hB _).setCell (p := ⟨g, 1, none⟩) hB _).setCell (p := ⟨g, 2, none⟩) hB _).setCell (p := ⟨g, 3, none⟩) hB _).setCell (p := ⟨g, 4, none⟩) hB _).setCell (p := ⟨g, 5, none⟩) hB _).setCell (p := ⟨g, 6, none⟩) hB _).setCell (p := ⟨g, 7, none⟩) hB _).setCell (p := ⟨g, 8, none⟩) hB _)

set_option maxRecDepth 100000 in
set_option maxHeartbeats 2000000 in
theorem appendTo_any (mu : Int) (nb : Nat) (s : Nd) (lv : Value) (i : Nat) (w : World) (h : NB mu w nb s lv) (hl : NL w s lv) (hs : s.last ≤ 60) (hz : ∀ e ∈ s.log, e.2.size ≤ 20) (hi : i < 7) (h1 : 1 ≤ s.nx i) (h2 : s.nx i ≤ s.last + 1) (h3 : 0 < s.last) :
    Calls Try.prog 83 #[.pointer (some ⟨nb, 0, none⟩), .int .i64 (i : Int)] w fun e w' => ∃ ev, e = .returned (magg (s.appendTo i) ev) ∧ w'.ownsRow w.heap.size 78 2 ev (s.appendTo i).ents.length (eC (s.appendTo i).ents) ∧ Below w.heap.size w w' := by
  obtain ⟨lb, cap, rfl⟩ : ∃ lb cap, lv = .slice (some ⟨lb, 0, none⟩) s.log.length cap := by
    rcases hl.2 with ⟨rfl, h0⟩ | ⟨g, cap, cur, rfl, _⟩
    · exact absurd h0 (by have : s.last = s.log.length := rfl; omega)
    · exact ⟨g, cap, rfl⟩
  have hcap : s.log.length ≤ cap := by
    rcases hl.2 with ⟨hv, h0⟩ | ⟨g, cap', cur, hv, _, _, hle, _⟩
    · simp at hv
    · simp at hv; omega
  obtain ⟨a, ha⟩ : ∃ a, s.nx i = a + 1 := ⟨s.nx i - 1, by omega⟩
  have cN := h.nx hi
  have c2 := h.c2
  have c4 := h.c4
  have c6 := h.c6
  have c9 := h.c9
  have hlt := h.lt
  have hne : ¬ nb = w.heap.size := by omega
  rw [ha] at cN h2
  have hla : a ≤ s.last := by omega
  obtain ⟨T, hT⟩ : ∃ T, s.termOf a = T := ⟨_, rfl⟩
  have HE : Hid (s.appendTo i = { kind := 4, src := s.id, dst := i, term := s.term, index := (a : Int), logTerm := T, commit := s.commit, ents := (s.log.drop a).take 3, granted := false }) := by
    show _ = _
    simp only [Nd.appendTo, ha, Nat.add_sub_cancel, hT]
    congr 1
    omega
  rw [unhide HE]
  obtain ⟨es, hes⟩ : ∃ es, (s.log.drop a).take 3 = es := ⟨_, rfl⟩
  simp only [hes]
  have HES := hide hes
  clear hes
  have HT := hide hT
  have HA := hide ha
  clear HE hT ha h1
  have hi' : ((i : Int) < 7) := by omega
  have hi0 : (0 : Int) ≤ (i : Int) := by omega
  have hs' : s.log.length ≤ 60 := hs
  have hla' : a ≤ s.log.length := hla
  have HZ := hide hz
  have H := hide (h.below (below_alloc w (.cells #[.int .i64 0, .int .i64 0, .int .i64 0, .int .i64 0, .int .i64 0, .int .i64 0, .int .i64 0, .slice none 0 0, .bool false] 50)))
  have HL := hide (hl.below (below_alloc w (.cells #[.int .i64 0, .int .i64 0, .int .i64 0, .int .i64 0, .int .i64 0, .int .i64 0, .int .i64 0, .slice none 0 0, .bool false] 50)))
  clear h hl hz
  go_enter Try.func83, Try.ntmps83
  go_wp2_with (first | (go_at_call 33; refine (last_any mu nb s _ _ (unhide H) ⟨_, _, rfl⟩).mono ?_; rintro e w1 ⟨rfl, h1⟩; cases h1.symm))
  obtain ⟨E, hE⟩ : ∃ E : Nat, E = min (a + 3) s.log.length := ⟨_, rfl⟩
  have hm : min ((a : Int) + 3) (s.last : Int) = (E : Int) := by
    have : s.last = s.log.length := rfl
    omega
  rw [hm]
  have hEa : a ≤ E := by omega
  have hEl : E ≤ s.log.length := by omega
  have HEL : Hid (E - a = es.length) := by show _ = _; rw [← unhide HES, part_len, hE]
  have hwb := heap_alloc_new w (.cells #[.int .i64 0, .int .i64 0, .int .i64 0, .int .i64 0, .int .i64 0, .int .i64 0, .int .i64 0, .slice none 0 0, .bool false] 50)
  have hBW := below_alloc w (.cells #[.int .i64 0, .int .i64 0, .int .i64 0, .int .i64 0, .int .i64 0, .int .i64 0, .int .i64 0, .slice none 0 0, .bool false] 50)
  have e2 := (unhide H).c2
  have e4 := (unhide H).c4
  have e6 := (unhide H).c6
  have e9 := (unhide H).c9
  clear hm cN c2 c4 c6 c9
  generalize w.alloc (.cells #[.int .i64 0, .int .i64 0, .int .i64 0, .int .i64 0, .int .i64 0, .int .i64 0, .int .i64 0, .slice none 0 0, .bool false] 50) = W at *
  have hlw : w.heap.size < W.heap.size := (Array.getElem?_eq_some_iff.1 hwb).1
  have HZ3 : Hid (∀ e ∈ es, e.2.size ≤ 20) := fun e he => (unhide HZ) e (List.mem_of_mem_drop (List.mem_of_mem_take (unhide HES ▸ he)))
  have HL3 : Hid (es.length ≤ 60) := by show _ ≤ _; rw [← unhide HEL]; omega
  have HBW := hide hBW
  have HWB := hide hwb
  have HLW := hide hlw
  have hne2 : w.heap.size ≠ nb := fun h => hne h.symm
  obtain ⟨ad, ac, hsl, hen⟩ := slice_ents lb s.log.length cap a E s.log hEa hEl hcap rfl
  have hen2 := hen W (unhide HL).ents
  rw [show (s.log.drop a).take (E - a) = es by rw [← unhide HES, hE]; exact part_take s.log a] at hen2
  rw [unhide HEL] at hsl hen2
  have HEN := hide hen2
  clear hen hen2
  clear hBW hwb hlw hE hEa hEl hla'
  go_region_held3 (fun w' => w'.cell? ⟨nb, 2, none⟩ = some (.int .i64 (s.id : Int)) ∧ w'.cell? ⟨nb, 4, none⟩ = some (.int .i64 s.term) ∧ w'.cell? ⟨nb, 6, none⟩ = some (.slice (some ⟨lb, 0, none⟩) s.log.length cap) ∧ w'.cell? ⟨nb, 9, none⟩ = some (.int .i64 (s.commit : Int))) (first | go_keep) (first | (go_at_call 69; refine (termOf_any mu nb s _ a W.drew (by exact unhide H) (by exact unhide HL) hla hs).mono ?_; rw [unhide HT]; rintro e w1 ⟨rfl, rfl⟩) | (go_at_call 47; refine (copyEntries_any _ es W.drew (unhide HL3) (unhide HZ3) (by exact unhide HEN)).mono ?_; rintro e w3 ⟨v', rfl, hr3, hb3⟩; obtain ⟨vo, vc, rfl⟩ := owns_form hr3; have z2 : w3.cell? ⟨nb, 2, none⟩ = _ := (hb3.cell (p := ⟨nb, 2, none⟩) (block_lt_of_cell e2)).trans e2; have z4 : w3.cell? ⟨nb, 4, none⟩ = _ := (hb3.cell (p := ⟨nb, 4, none⟩) (block_lt_of_cell e4)).trans e4; have z6 : w3.cell? ⟨nb, 6, none⟩ = _ := (hb3.cell (p := ⟨nb, 6, none⟩) (block_lt_of_cell e6)).trans e6; have z9 : w3.cell? ⟨nb, 9, none⟩ = _ := (hb3.cell (p := ⟨nb, 9, none⟩) (block_lt_of_cell e9)).trans e9; have y0 : w3.cell? ⟨w.heap.size, 0, none⟩ = some (.int .i64 0) := ((hb3.cell (p := ⟨w.heap.size, 0, none⟩) (unhide HLW)).trans (cell_of_row W w.heap.size 0 _ _ _ (unhide HWB))); have y1 : w3.cell? ⟨w.heap.size, 1, none⟩ = some (.int .i64 0) := ((hb3.cell (p := ⟨w.heap.size, 1, none⟩) (unhide HLW)).trans (cell_of_row W w.heap.size 1 _ _ _ (unhide HWB))); have y2 : w3.cell? ⟨w.heap.size, 2, none⟩ = some (.int .i64 0) := ((hb3.cell (p := ⟨w.heap.size, 2, none⟩) (unhide HLW)).trans (cell_of_row W w.heap.size 2 _ _ _ (unhide HWB))); have y3 : w3.cell? ⟨w.heap.size, 3, none⟩ = some (.int .i64 0) := ((hb3.cell (p := ⟨w.heap.size, 3, none⟩) (unhide HLW)).trans (cell_of_row W w.heap.size 3 _ _ _ (unhide HWB))); have y4 : w3.cell? ⟨w.heap.size, 4, none⟩ = some (.int .i64 0) := ((hb3.cell (p := ⟨w.heap.size, 4, none⟩) (unhide HLW)).trans (cell_of_row W w.heap.size 4 _ _ _ (unhide HWB))); have y5 : w3.cell? ⟨w.heap.size, 5, none⟩ = some (.int .i64 0) := ((hb3.cell (p := ⟨w.heap.size, 5, none⟩) (unhide HLW)).trans (cell_of_row W w.heap.size 5 _ _ _ (unhide HWB))); have y6 : w3.cell? ⟨w.heap.size, 6, none⟩ = some (.int .i64 0) := ((hb3.cell (p := ⟨w.heap.size, 6, none⟩) (unhide HLW)).trans (cell_of_row W w.heap.size 6 _ _ _ (unhide HWB))); have y7 : w3.cell? ⟨w.heap.size, 7, none⟩ = some (.slice none 0 0) := ((hb3.cell (p := ⟨w.heap.size, 7, none⟩) (unhide HLW)).trans (cell_of_row W w.heap.size 7 _ _ _ (unhide HWB))); have y8 : w3.cell? ⟨w.heap.size, 8, none⟩ = some (.bool false) := ((hb3.cell (p := ⟨w.heap.size, 8, none⟩) (unhide HLW)).trans (cell_of_row W w.heap.size 8 _ _ _ (unhide HWB))); have hw3 := (hb3.block w.heap.size (unhide HLW)).trans (unhide HWB); have x0 := frozen_of_row w3 w.heap.size 0 _ _ hw3; have x1 := frozen_of_row w3 w.heap.size 1 _ _ hw3; have x2 := frozen_of_row w3 w.heap.size 2 _ _ hw3; have x3 := frozen_of_row w3 w.heap.size 3 _ _ hw3; have x4 := frozen_of_row w3 w.heap.size 4 _ _ hw3; have x5 := frozen_of_row w3 w.heap.size 5 _ _ hw3; have x6 := frozen_of_row w3 w.heap.size 6 _ _ hw3; have x7 := frozen_of_row w3 w.heap.size 7 _ _ hw3; have x8 := frozen_of_row w3 w.heap.size 8 _ _ hw3; replace hw3 := hide hw3; replace hr3 := hide hr3; replace hb3 := hide hb3))
  all_goals go_wp2
  all_goals
    have h9 := heap_nine (.int .i64 4) (.int .i64 (s.id : Int)) (.int .i64 (i : Int)) (.int .i64 s.term) (.int .i64 (a : Int)) (.int .i64 T) (.int .i64 (s.commit : Int)) (.slice vo es.length vc) (.bool false) (unhide hw3)
    refine bodyPost_ret (v := .agg #[.int .i64 4, .int .i64 (s.id : Int), .int .i64 (i : Int), .int .i64 s.term, .int .i64 (a : Int), .int .i64 T, .int .i64 (s.commit : Int), .slice vo es.length vc, .bool false]) (results_cell_row Try.results83 _ _ w.heap.size _ _ _ _ rfl h9 Try.underlying50 rfl (by kernel_rfl)) rfl ⟨_, rfl, ?_, ?_⟩
    · exact owns_nine (owns_base (unhide hr3) (Nat.le_of_lt (unhide HLW))) (fun x hx => by have := ((unhide hr3).lt x hx).1; have := unhide HLW; exact Nat.ne_of_gt (Nat.lt_of_lt_of_le this (by assumption)))
    · exact below_nine ((unhide HBW).trans ((Below.undrew (unhide hb3)).mono (Nat.le_of_lt (unhide HLW)))) (Nat.le_refl _)

end Go.Proofs.Yteiecbkfganhnaa
