/- The program's node: request. -/
import Derived.Test.YteiecbkfganhnaaSend
namespace Go.Proofs.Yteiecbkfganhnaa
open Go.RowKit Go.MuLone

theorem others_ints (s : Nd) (kind t : Int) : s.request kind t = (s.others.map fun (k : Nat) => (k : Int)).map fun d => { kind := kind, src := (s.id : Int), dst := d, term := t, index := s.last, logTerm := s.termOf s.last, commit := 0, ents := [], granted := false } := by
  simp [Nd.request]

theorem others_len {s : Nd} (hn : s.n ≤ 7) : s.others.length ≤ 7 := Nat.le_trans (oth_len s.id s.n) hn

set_option maxRecDepth 100000 in
set_option maxHeartbeats 2000000 in
theorem request_any (mu : Int) (nb : Nat) (s : Nd) (lv : Value) (kind t : Int) (w : World) (h : NB mu w nb s lv) (hl : NL w s lv) (hs : s.last ≤ 60) (hn : s.n ≤ 7) :
    Calls Try.prog 61 #[.pointer (some ⟨nb, 0, none⟩), .int .i64 kind, .int .i64 t] w fun e w' => ∃ v l, e = .returned v ∧ MsgsOut w' w.heap.size v (s.request kind t) l ∧ Below w.heap.size w w' := by
  have H := hide h
  have HL := hide hl
  have HF := hide hl.form
  have hlt := h.lt
  have hne : ¬ nb = w.heap.size := by omega
  clear h hl
  rw [others_ints]
  obtain ⟨T, HT⟩ : ∃ T, s.termOf s.last = T := ⟨_, rfl⟩
  rw [HT]
  replace HT := hide HT
  go_enter Try.func61, Try.ntmps61
  go_wp2_with (first | (go_at_call 33; refine (last_any mu nb s _ _ (unhide H) (unhide HF)).mono ?_; rintro e w1 ⟨rfl, h1⟩; cases h1.symm) | (go_at_call 69; refine (termOf_any mu nb s _ s.last _ (unhide H) (unhide HL) (Nat.le_refl _) hs).mono ?_; rw [unhide HT]; rintro e w1 ⟨rfl, h1⟩; cases h1.symm))
  have hwb := heap_alloc_new w (.cells #[.int .i64 kind, .int .i64 0, .int .i64 0, .int .i64 t, .int .i64 (s.last : Int), .int .i64 T, .int .i64 0, .slice none 0 0, .bool false] 50)
  have hBW := below_alloc w (.cells #[.int .i64 kind, .int .i64 0, .int .i64 0, .int .i64 t, .int .i64 (s.last : Int), .int .i64 T, .int .i64 0, .slice none 0 0, .bool false] 50)
  have hN := (unhide H).below hBW
  generalize w.alloc (.cells #[.int .i64 kind, .int .i64 0, .int .i64 0, .int .i64 t, .int .i64 (s.last : Int), .int .i64 T, .int .i64 0, .slice none 0 0, .bool false] 50) = W at *
  have x0 : W.cell? ⟨w.heap.size, 0, none⟩ = some (.int .i64 kind) := cell_of_row W w.heap.size 0 _ _ _ hwb
  have x1 : W.cell? ⟨w.heap.size, 1, none⟩ = some (.int .i64 0) := cell_of_row W w.heap.size 1 _ _ _ hwb
  have x2 : W.cell? ⟨w.heap.size, 2, none⟩ = some (.int .i64 0) := cell_of_row W w.heap.size 2 _ _ _ hwb
  have x3 : W.cell? ⟨w.heap.size, 3, none⟩ = some (.int .i64 t) := cell_of_row W w.heap.size 3 _ _ _ hwb
  have x4 : W.cell? ⟨w.heap.size, 4, none⟩ = some (.int .i64 (s.last : Int)) := cell_of_row W w.heap.size 4 _ _ _ hwb
  have x5 : W.cell? ⟨w.heap.size, 5, none⟩ = some (.int .i64 T) := cell_of_row W w.heap.size 5 _ _ _ hwb
  have x6 : W.cell? ⟨w.heap.size, 6, none⟩ = some (.int .i64 0) := cell_of_row W w.heap.size 6 _ _ _ hwb
  have x7 : W.cell? ⟨w.heap.size, 7, none⟩ = some (.slice none 0 0) := cell_of_row W w.heap.size 7 _ _ _ hwb
  have x8 : W.cell? ⟨w.heap.size, 8, none⟩ = some (.bool false) := cell_of_row W w.heap.size 8 _ _ _ hwb
  have HN := hide hN
  have HBW := hide hBW
  clear hwb hBW hN
  go_region_held3 (fun w' => w'.cell? ⟨w.heap.size, 0, none⟩ = some (.int .i64 kind) ∧ w'.cell? ⟨w.heap.size, 1, none⟩ = some (.int .i64 0) ∧ w'.cell? ⟨w.heap.size, 2, none⟩ = some (.int .i64 0) ∧ w'.cell? ⟨w.heap.size, 3, none⟩ = some (.int .i64 t) ∧ w'.cell? ⟨w.heap.size, 4, none⟩ = some (.int .i64 (s.last : Int)) ∧ w'.cell? ⟨w.heap.size, 5, none⟩ = some (.int .i64 T) ∧ w'.cell? ⟨w.heap.size, 6, none⟩ = some (.int .i64 0) ∧ w'.cell? ⟨w.heap.size, 7, none⟩ = some (.slice none 0 0) ∧ w'.cell? ⟨w.heap.size, 8, none⟩ = some (.bool false)) (go_keep) (first | (go_at_call 54; refine (others_any mu nb s _ W.drew (by exact unhide HN) hn).mono ?_; rintro e w2 ⟨ov, rfl, ho2, hb2⟩; have z0 : w2.cell? ⟨w.heap.size, 0, none⟩ = _ := (hb2.cell (p := ⟨w.heap.size, 0, none⟩) (block_lt_of_cell x0)).trans x0; have z1 : w2.cell? ⟨w.heap.size, 1, none⟩ = _ := (hb2.cell (p := ⟨w.heap.size, 1, none⟩) (block_lt_of_cell x1)).trans x1; have z2 : w2.cell? ⟨w.heap.size, 2, none⟩ = _ := (hb2.cell (p := ⟨w.heap.size, 2, none⟩) (block_lt_of_cell x2)).trans x2; have z3 : w2.cell? ⟨w.heap.size, 3, none⟩ = _ := (hb2.cell (p := ⟨w.heap.size, 3, none⟩) (block_lt_of_cell x3)).trans x3; have z4 : w2.cell? ⟨w.heap.size, 4, none⟩ = _ := (hb2.cell (p := ⟨w.heap.size, 4, none⟩) (block_lt_of_cell x4)).trans x4; have z5 : w2.cell? ⟨w.heap.size, 5, none⟩ = _ := (hb2.cell (p := ⟨w.heap.size, 5, none⟩) (block_lt_of_cell x5)).trans x5; have z6 : w2.cell? ⟨w.heap.size, 6, none⟩ = _ := (hb2.cell (p := ⟨w.heap.size, 6, none⟩) (block_lt_of_cell x6)).trans x6; have z7 : w2.cell? ⟨w.heap.size, 7, none⟩ = _ := (hb2.cell (p := ⟨w.heap.size, 7, none⟩) (block_lt_of_cell x7)).trans x7; have z8 : w2.cell? ⟨w.heap.size, 8, none⟩ = _ := (hb2.cell (p := ⟨w.heap.size, 8, none⟩) (block_lt_of_cell x8)).trans x8; have hN2 : Hid (NB mu w2 nb s lv) := (NB.below (w := W.drew) (unhide HN) hb2); have hI2 := hide (ints_of_owns ho2); have hB2 := hide ((unhide HBW).trans ((Below.undrew hb2).mono (unhide HBW).size)); clear hb2 ho2) | (go_at_call 66; refine (send_any mu nb s _ { kind := kind, src := 0, dst := 0, term := t, index := s.last, logTerm := T, commit := 0, ents := [], granted := false } _ _ _ (unhide hN2) rfl (unhide hI2) (by simpa using others_len hn)).mono ?_; rintro e w3 ⟨v, rfl, hm3, hb3⟩; have y0 : w3.cell? ⟨w.heap.size, 0, none⟩ = _ := (hb3.cell (p := ⟨w.heap.size, 0, none⟩) (block_lt_of_cell z0)).trans z0; have y1 : w3.cell? ⟨w.heap.size, 1, none⟩ = _ := (hb3.cell (p := ⟨w.heap.size, 1, none⟩) (block_lt_of_cell z1)).trans z1; have y2 : w3.cell? ⟨w.heap.size, 2, none⟩ = _ := (hb3.cell (p := ⟨w.heap.size, 2, none⟩) (block_lt_of_cell z2)).trans z2; have y3 : w3.cell? ⟨w.heap.size, 3, none⟩ = _ := (hb3.cell (p := ⟨w.heap.size, 3, none⟩) (block_lt_of_cell z3)).trans z3; have y4 : w3.cell? ⟨w.heap.size, 4, none⟩ = _ := (hb3.cell (p := ⟨w.heap.size, 4, none⟩) (block_lt_of_cell z4)).trans z4; have y5 : w3.cell? ⟨w.heap.size, 5, none⟩ = _ := (hb3.cell (p := ⟨w.heap.size, 5, none⟩) (block_lt_of_cell z5)).trans z5; have y6 : w3.cell? ⟨w.heap.size, 6, none⟩ = _ := (hb3.cell (p := ⟨w.heap.size, 6, none⟩) (block_lt_of_cell z6)).trans z6; have y7 : w3.cell? ⟨w.heap.size, 7, none⟩ = _ := (hb3.cell (p := ⟨w.heap.size, 7, none⟩) (block_lt_of_cell z7)).trans z7; have y8 : w3.cell? ⟨w.heap.size, 8, none⟩ = _ := (hb3.cell (p := ⟨w.heap.size, 8, none⟩) (block_lt_of_cell z8)).trans z8; replace hm3 := hide hm3; replace hb3 := hide hb3))
  all_goals go_wp2
  all_goals go_ret
  all_goals exact ⟨_, _, rfl, (unhide hm3).base (unhide hB2).size, (unhide hB2).trans ((unhide hb3).mono (unhide hB2).size)⟩

end Go.Proofs.Yteiecbkfganhnaa
