/- The law's plays, over the three steps of Opens. -/
import Derived.Test.YteiecbkfganhnaaGreatGStep
import Derived.LoopN
namespace Go.Proofs.YteiecbkfganhnaaGreat
open Go.RowKit

/-- A game whose book has at most so many lists that wait. -/
def Gq (i gb : Nat) (w : World) (tg : Tags) (m : Nat) : Prop :=
  ∃ nb rb id n c r es b l l2, Gm i gb nb rb w tg id n c r es b l 0 l2 0 ∧ l.length ≤ m ∧ l2.length ≤ m

/-- Behind a step of a game. -/
def Gp (i gb m : Nat) (w : World) (tg : Tags) (w' : World) : Prop := ∃ tg', Gq i gb w' tg' m ∧ Stp (Agame i) w tg w' tg'

theorem Gq.other {i j gb m : Nat} {w w' : World} {tg tg' : Tags} (h : Gq i gb w tg m) (hs : Stp (Agame j) w tg w' tg') (hi : i ≤ 1) (hj : j ≤ 1) (hij : i ≠ j) : Gq i gb w' tg' m := by
  obtain ⟨nb, rb, id, n, c, r, es, b, l, l2, hG, h1, h2⟩ := h
  refine ⟨nb, rb, id, n, c, r, es, b, l, l2, hG.step hs ?_ ?_, h1, h2⟩
  · rintro U (⟨u1, u2⟩ | u) (⟨v1, v2⟩ | v) <;> omega
  · rintro (⟨v1, v2⟩ | v)
    · simp at v1
    · simp at v; omega

theorem Gq.quiet {i gb m : Nat} {w w' : World} {tg tg' : Tags} (h : Gq i gb w tg m) (hs : Stp (fun _ => False) w tg w' tg') : Gq i gb w' tg' m := by
  obtain ⟨nb, rb, id, n, c, r, es, b, l, l2, hG, h1, h2⟩ := h
  exact ⟨nb, rb, id, n, c, r, es, b, l, l2, hG.quiet hs, h1, h2⟩

theorem game01 (i : Nat) : ¬ Agame i (0, 1) := by
  rintro (⟨v1, v2⟩ | v)
  · simp at v1
  · simp at v; omega

theorem gq_patience (i gb m : Nat) (w : World) (tg : Tags) (a t : Int) (h : Gq i gb w tg m) (hi : i ≤ 1) :
    Calls Tryz.prog 18 #[.pointer (some ⟨gb, 0, none⟩), stepV 2 a t] w fun e w' => e = .returned (.bool true) ∧ Gp i gb m w tg w' := by
  obtain ⟨nb, rb, id, n, c, r, es, b, l, l2, hG, h1, h2⟩ := h
  refine (step_patience i gb nb rb w tg id n c r es b l 0 l2 0 a t hG hi).mono ?_
  rintro e w' ⟨rfl, p, q, tg', hG', hS⟩
  exact ⟨rfl, tg', ⟨nb, rb, id, n, _, _, es, b, l, l2, hG', h1, h2⟩, hS.mono (fun U hU => .inr hU)⟩

theorem gq_look (i gb m : Nat) (w : World) (tg : Tags) (a t : Int) (h : Gq i gb w tg m) (hi : i ≤ 1) (hm : m ≤ 1000) :
    Calls Tryz.prog 18 #[.pointer (some ⟨gb, 0, none⟩), stepV 1 a t] w fun e w' => e = .returned (.bool true) ∧ Gp i gb (m + 2) w tg w' := by
  obtain ⟨nb, rb, id, n, c, r, es, b, l, l2, hG, h1, h2⟩ := h
  refine (step_look i gb nb rb w tg id n c r es b l 0 l2 0 a t hG hi (by omega) (by omega)).mono ?_
  rintro e w' ⟨rfl, b', tg', hG', hS⟩
  exact ⟨rfl, tg', ⟨nb, rb, id, n, _, _, es, b', _, _, hG', by simp; omega, by simp; omega⟩, hS.mono (fun U hU => .inl hU)⟩

theorem gq_looks (i gb m : Nat) (w : World) (tg : Tags) (h : Gq i gb w tg m) (hm : m ≤ 3) :
    Calls Tryz.prog 19 #[.pointer (some ⟨gb, 4, none⟩)] w fun e w' => e = .returned (.bool true) ∧ Gp i gb m w tg w' := by
  obtain ⟨nb, rb, id, n, c, r, es, b, l, l2, hG, h1, h2⟩ := h
  refine (looks_few i gb w tg _ _ _ _ b l 0 l2 0 hG.B (by omega) (by omega) (by omega)).mono ?_
  rintro e w' ⟨rfl, tg', _, hS⟩
  exact ⟨rfl, tg', ⟨nb, rb, id, n, _, _, es, b, l, l2, hG.quiet hS, h1, h2⟩, hS.mono (fun _ hU => hU.elim)⟩

theorem gq_ends (i gb m : Nat) (w : World) (tg : Tags) (h : Gq i gb w tg m) (hi : i ≤ 1) (hm : m ≤ 1000) :
    Calls Tryz.prog 20 #[.pointer (some ⟨gb, 0, none⟩)] w fun e w' => e = .returned (.bool true) ∧ ∃ tg', Stp (Agame i) w tg w' tg' := by
  obtain ⟨nb, rb, id, n, c, r, es, b, l, l2, hG, h1, h2⟩ := h
  refine (ends_any i gb nb rb w tg id n c r es b l 0 l2 0 hG hi (by omega) (by omega) (by omega) (by omega)).mono ?_
  rintro e w' ⟨rfl, tg', hS⟩
  exact ⟨rfl, tg', hS.mono (fun U hU => .inl hU)⟩

abbrev stepC (kind a t : Int) : List Value := [.int .i64 kind, .int .i64 a, .int .i64 0, .int .i64 0, .int .i64 0, .int .i64 0, .int .i64 0, .int .i64 0, .int .i64 0, .int .i64 0, .slice none 0 0, .bool false, .string ⟨#[]⟩, .int .i64 t]

/-- The script of Opens. -/
def scriptC (a : Int) : Array Value := (stepC 2 a 0 ++ stepC 1 0 1 ++ stepC 2 a 1).toArray

def Agm (U : Nat × Nat) : Prop := Agame 0 U ∨ Agame 1 U

theorem script_at {w : World} {tg : Tags} {sb : Nat} {a : Int} (L : Loc w tg sb (scriptC a) 32) (k : Nat) (kind x t : Int) (hk : (scriptC a).toList.drop (14 * k) = stepC kind x t ++ ((scriptC a).toList.drop (14 * k)).drop 14) (j : Nat) (v : Value) (hj : (stepC kind x t)[j]? = some v) : w.cell? ⟨sb, 14 * k + j, none⟩ = some v := by
  rw [L.cell, ← Array.getElem?_toList, ← List.getElem?_drop, hk, List.getElem?_append_left (List.getElem?_eq_some_iff.1 hj).1, hj]

set_option maxRecDepth 100000 in
set_option maxHeartbeats 1000000 in
theorem plays_none (w : World) (tg : Tags) (sb : Nat) (a : Int) (L : Loc w tg sb (scriptC a) 32) :
    Calls Tryz.prog 9 #[.pointer none, .pointer none, .slice (some ⟨sb, 0, none⟩) 3 3, .int .i64 2] w fun e w' => e = .returned (.bool true) ∧ w' = w := by
  have t0 := script_at L 0 2 a 0 rfl 13 _ rfl
  have t1 := script_at L 1 1 0 1 rfl 13 _ rfl
  have t2 := script_at L 2 2 a 1 rfl 13 _ rfl
  simp only [Nat.mul_zero, Nat.mul_one, Nat.reduceMul, Nat.reduceAdd, Nat.zero_add] at t0 t1 t2
  clear L
  go_enter Tryz.func9, Tryz.ntmps9
  go_wp2_with fail
  refine wp_loop_rounds 4 ?_
  rw [rounds_succ]
  go_wp2_with fail
  rw [rounds_succ]
  go_wp2_with fail
  rw [rounds_succ]
  go_wp2_with fail
  rw [rounds_succ]
  go_wp2_with fail
  go_ret
  exact ⟨rfl, rfl⟩

set_option maxRecDepth 100000 in
set_option maxHeartbeats 2000000 in
theorem plays_one (w0 : World) (tg0 : Tags) (sb gb : Nat) (a : Int) (L : Loc w0 tg0 sb (scriptC a) 32) (G : Gq 0 gb w0 tg0 0) :
    Calls Tryz.prog 9 #[.pointer (some ⟨gb, 0, none⟩), .pointer none, .slice (some ⟨sb, 0, none⟩) 3 3, .int .i64 2] w0 fun e w' => e = .returned (.bool true) ∧ ∃ tg', Stp Agm w0 tg0 w' tg' := by
  have p0 : w0.cell? ⟨sb, 0, none⟩ = some (.int .i64 2) := script_at L 0 2 a 0 rfl 0 _ rfl
  have p1 : w0.cell? ⟨sb, 1, none⟩ = some (.int .i64 a) := script_at L 0 2 a 0 rfl 1 _ rfl
  have p2 : w0.cell? ⟨sb, 2, none⟩ = some (.int .i64 0) := script_at L 0 2 a 0 rfl 2 _ rfl
  have p3 : w0.cell? ⟨sb, 3, none⟩ = some (.int .i64 0) := script_at L 0 2 a 0 rfl 3 _ rfl
  have p4 : w0.cell? ⟨sb, 4, none⟩ = some (.int .i64 0) := script_at L 0 2 a 0 rfl 4 _ rfl
  have p5 : w0.cell? ⟨sb, 5, none⟩ = some (.int .i64 0) := script_at L 0 2 a 0 rfl 5 _ rfl
  have p6 : w0.cell? ⟨sb, 6, none⟩ = some (.int .i64 0) := script_at L 0 2 a 0 rfl 6 _ rfl
  have p7 : w0.cell? ⟨sb, 7, none⟩ = some (.int .i64 0) := script_at L 0 2 a 0 rfl 7 _ rfl
  have p8 : w0.cell? ⟨sb, 8, none⟩ = some (.int .i64 0) := script_at L 0 2 a 0 rfl 8 _ rfl
  have p9 : w0.cell? ⟨sb, 9, none⟩ = some (.int .i64 0) := script_at L 0 2 a 0 rfl 9 _ rfl
  have p10 : w0.cell? ⟨sb, 10, none⟩ = some (.slice none 0 0) := script_at L 0 2 a 0 rfl 10 _ rfl
  have p11 : w0.cell? ⟨sb, 11, none⟩ = some (.bool false) := script_at L 0 2 a 0 rfl 11 _ rfl
  have p12 : w0.cell? ⟨sb, 12, none⟩ = some (.string ⟨#[]⟩) := script_at L 0 2 a 0 rfl 12 _ rfl
  have p13 : w0.cell? ⟨sb, 13, none⟩ = some (.int .i64 0) := script_at L 0 2 a 0 rfl 13 _ rfl
  have L0 := hide L
  have G0 := hide G
  have S0 := hide (Stp.refl Agm w0 tg0)
  clear L G
  go_enter Tryz.func9, Tryz.ntmps9
  go_wp2_with fail
  refine wp_loop_rounds 4 ?_
  rw [rounds_succ]
  go_wp2_with fail
  refine (gq_patience 0 gb 0 w0 tg0 a 0 (unhide G0) (by omega)).mono ?_
  rintro e w1 ⟨rfl, tg1, hG1, hS1⟩
  have L1 := hide ((unhide L0).step hS1 (game01 0))
  have S1 := hide ((unhide S0).trans (hS1.mono (B := Agm) (fun _ h => .inl h)))
  have G1 := hide hG1
  clear hG1 hS1 L0 S0 G0
  clear p0 p1 p2 p3 p4 p5 p6 p7 p8 p9 p10 p11 p12 p13
  go_wp2_with fail
  refine (gq_looks 0 gb 0 w1 tg1 (unhide G1) (by omega)).mono ?_
  rintro e w2 ⟨rfl, tg2, hG2, hS2⟩
  have L2 := hide ((unhide L1).step hS2 (game01 0))
  have S2 := hide ((unhide S1).trans (hS2.mono (B := Agm) (fun _ h => .inl h)))
  have G2 := hide hG2
  clear hG2 hS2 L1 S1 G1
  have p13 : w2.cell? ⟨sb, 27, none⟩ = some (.int .i64 1) := script_at (unhide L2) 1 1 0 1 rfl 13 _ rfl
  have q13 : w2.cell? ⟨sb, 41, none⟩ = some (.int .i64 1) := script_at (unhide L2) 2 2 a 1 rfl 13 _ rfl
  go_wp2_with fail
  rw [rounds_succ]
  go_wp2_with fail
  rw [rounds_succ]
  go_wp2_with fail
  rw [rounds_succ]
  go_wp2_with fail
  refine (gq_ends 0 gb 0 w2 tg2 (unhide G2) (by omega) (by omega)).mono ?_
  rintro e w3 ⟨rfl, tg3, hS3⟩
  have S3 := hide ((unhide S2).trans (hS3.mono (B := Agm) (fun _ h => .inl h)))
  clear hS3 S2 G2
  go_wp2_with fail
  go_ret
  exact ⟨rfl, tg3, unhide S3⟩

set_option maxRecDepth 100000 in
set_option maxHeartbeats 2000000 in
theorem plays_both (w0 : World) (tg0 : Tags) (sb gb hb : Nat) (a : Int) (L : Loc w0 tg0 sb (scriptC a) 32) (G : Gq 0 gb w0 tg0 0) (H : Gq 1 hb w0 tg0 0) :
    Calls Tryz.prog 9 #[.pointer (some ⟨gb, 0, none⟩), .pointer (some ⟨hb, 0, none⟩), .slice (some ⟨sb, 0, none⟩) 3 3, .int .i64 2] w0 fun e w' => e = .returned (.bool true) ∧ ∃ tg', Stp Agm w0 tg0 w' tg' := by
  have p0 : w0.cell? ⟨sb, 0, none⟩ = some (.int .i64 2) := script_at L 0 2 a 0 rfl 0 _ rfl
  have p1 : w0.cell? ⟨sb, 1, none⟩ = some (.int .i64 a) := script_at L 0 2 a 0 rfl 1 _ rfl
  have p2 : w0.cell? ⟨sb, 2, none⟩ = some (.int .i64 0) := script_at L 0 2 a 0 rfl 2 _ rfl
  have p3 : w0.cell? ⟨sb, 3, none⟩ = some (.int .i64 0) := script_at L 0 2 a 0 rfl 3 _ rfl
  have p4 : w0.cell? ⟨sb, 4, none⟩ = some (.int .i64 0) := script_at L 0 2 a 0 rfl 4 _ rfl
  have p5 : w0.cell? ⟨sb, 5, none⟩ = some (.int .i64 0) := script_at L 0 2 a 0 rfl 5 _ rfl
  have p6 : w0.cell? ⟨sb, 6, none⟩ = some (.int .i64 0) := script_at L 0 2 a 0 rfl 6 _ rfl
  have p7 : w0.cell? ⟨sb, 7, none⟩ = some (.int .i64 0) := script_at L 0 2 a 0 rfl 7 _ rfl
  have p8 : w0.cell? ⟨sb, 8, none⟩ = some (.int .i64 0) := script_at L 0 2 a 0 rfl 8 _ rfl
  have p9 : w0.cell? ⟨sb, 9, none⟩ = some (.int .i64 0) := script_at L 0 2 a 0 rfl 9 _ rfl
  have p10 : w0.cell? ⟨sb, 10, none⟩ = some (.slice none 0 0) := script_at L 0 2 a 0 rfl 10 _ rfl
  have p11 : w0.cell? ⟨sb, 11, none⟩ = some (.bool false) := script_at L 0 2 a 0 rfl 11 _ rfl
  have p12 : w0.cell? ⟨sb, 12, none⟩ = some (.string ⟨#[]⟩) := script_at L 0 2 a 0 rfl 12 _ rfl
  have p13 : w0.cell? ⟨sb, 13, none⟩ = some (.int .i64 0) := script_at L 0 2 a 0 rfl 13 _ rfl
  have L0 := hide L
  have G0 := hide G
  have H0 := hide H
  have S0 := hide (Stp.refl Agm w0 tg0)
  clear L G H
  go_enter Tryz.func9, Tryz.ntmps9
  go_wp2_with fail
  refine wp_loop_rounds 4 ?_
  rw [rounds_succ]
  go_wp2_with fail
  refine (gq_patience 0 gb 0 w0 tg0 a 0 (unhide G0) (by omega)).mono ?_
  rintro e w1 ⟨rfl, tg1, hG1, hS1⟩
  have L1 := hide ((unhide L0).step hS1 (game01 0))
  have H1 := hide ((unhide H0).other hS1 (by omega) (by omega) (by omega))
  have S1 := hide ((unhide S0).trans (hS1.mono (B := Agm) (fun _ h => .inl h)))
  have G1 := hide hG1
  clear hG1 hS1 L0 S0 G0 H0
  clear p0 p1 p2 p3 p4 p5 p6 p7 p8 p9 p10 p11 p12 p13
  go_wp2_with fail
  refine (gq_looks 0 gb 0 w1 tg1 (unhide G1) (by omega)).mono ?_
  rintro e w2 ⟨rfl, tg2, hG2, hS2⟩
  have L2 := hide ((unhide L1).step hS2 (game01 0))
  have H2 := hide ((unhide H1).other hS2 (by omega) (by omega) (by omega))
  have S2 := hide ((unhide S1).trans (hS2.mono (B := Agm) (fun _ h => .inl h)))
  have G2 := hide hG2
  clear hG2 hS2 L1 S1 G1 H1
  have p0 : w2.cell? ⟨sb, 14, none⟩ = some (.int .i64 1) := script_at (unhide L2) 1 1 0 1 rfl 0 _ rfl
  have p1 : w2.cell? ⟨sb, 15, none⟩ = some (.int .i64 0) := script_at (unhide L2) 1 1 0 1 rfl 1 _ rfl
  have p2 : w2.cell? ⟨sb, 16, none⟩ = some (.int .i64 0) := script_at (unhide L2) 1 1 0 1 rfl 2 _ rfl
  have p3 : w2.cell? ⟨sb, 17, none⟩ = some (.int .i64 0) := script_at (unhide L2) 1 1 0 1 rfl 3 _ rfl
  have p4 : w2.cell? ⟨sb, 18, none⟩ = some (.int .i64 0) := script_at (unhide L2) 1 1 0 1 rfl 4 _ rfl
  have p5 : w2.cell? ⟨sb, 19, none⟩ = some (.int .i64 0) := script_at (unhide L2) 1 1 0 1 rfl 5 _ rfl
  have p6 : w2.cell? ⟨sb, 20, none⟩ = some (.int .i64 0) := script_at (unhide L2) 1 1 0 1 rfl 6 _ rfl
  have p7 : w2.cell? ⟨sb, 21, none⟩ = some (.int .i64 0) := script_at (unhide L2) 1 1 0 1 rfl 7 _ rfl
  have p8 : w2.cell? ⟨sb, 22, none⟩ = some (.int .i64 0) := script_at (unhide L2) 1 1 0 1 rfl 8 _ rfl
  have p9 : w2.cell? ⟨sb, 23, none⟩ = some (.int .i64 0) := script_at (unhide L2) 1 1 0 1 rfl 9 _ rfl
  have p10 : w2.cell? ⟨sb, 24, none⟩ = some (.slice none 0 0) := script_at (unhide L2) 1 1 0 1 rfl 10 _ rfl
  have p11 : w2.cell? ⟨sb, 25, none⟩ = some (.bool false) := script_at (unhide L2) 1 1 0 1 rfl 11 _ rfl
  have p12 : w2.cell? ⟨sb, 26, none⟩ = some (.string ⟨#[]⟩) := script_at (unhide L2) 1 1 0 1 rfl 12 _ rfl
  have p13 : w2.cell? ⟨sb, 27, none⟩ = some (.int .i64 1) := script_at (unhide L2) 1 1 0 1 rfl 13 _ rfl
  go_wp2_with fail
  rw [rounds_succ]
  go_wp2_with fail
  refine (gq_look 1 hb 0 w2 tg2 0 1 (unhide H2) (by omega) (by omega)).mono ?_
  rintro e w3 ⟨rfl, tg3, hH3, hS3⟩
  have L3 := hide ((unhide L2).step hS3 (game01 1))
  have G3 := hide ((unhide G2).other hS3 (by omega) (by omega) (by omega))
  have S3 := hide ((unhide S2).trans (hS3.mono (B := Agm) (fun _ h => .inr h)))
  have H3 := hide hH3
  clear hH3 hS3 L2 S2 H2 G2
  clear p0 p1 p2 p3 p4 p5 p6 p7 p8 p9 p10 p11 p12 p13
  go_wp2_with fail
  refine (gq_looks 1 hb 2 w3 tg3 (unhide H3) (by omega)).mono ?_
  rintro e w4 ⟨rfl, tg4, hH4, hS4⟩
  have L4 := hide ((unhide L3).step hS4 (game01 1))
  have G4 := hide ((unhide G3).other hS4 (by omega) (by omega) (by omega))
  have S4 := hide ((unhide S3).trans (hS4.mono (B := Agm) (fun _ h => .inr h)))
  have H4 := hide hH4
  clear hH4 hS4 L3 S3 H3 G3
  have p0 : w4.cell? ⟨sb, 28, none⟩ = some (.int .i64 2) := script_at (unhide L4) 2 2 a 1 rfl 0 _ rfl
  have p1 : w4.cell? ⟨sb, 29, none⟩ = some (.int .i64 a) := script_at (unhide L4) 2 2 a 1 rfl 1 _ rfl
  have p2 : w4.cell? ⟨sb, 30, none⟩ = some (.int .i64 0) := script_at (unhide L4) 2 2 a 1 rfl 2 _ rfl
  have p3 : w4.cell? ⟨sb, 31, none⟩ = some (.int .i64 0) := script_at (unhide L4) 2 2 a 1 rfl 3 _ rfl
  have p4 : w4.cell? ⟨sb, 32, none⟩ = some (.int .i64 0) := script_at (unhide L4) 2 2 a 1 rfl 4 _ rfl
  have p5 : w4.cell? ⟨sb, 33, none⟩ = some (.int .i64 0) := script_at (unhide L4) 2 2 a 1 rfl 5 _ rfl
  have p6 : w4.cell? ⟨sb, 34, none⟩ = some (.int .i64 0) := script_at (unhide L4) 2 2 a 1 rfl 6 _ rfl
  have p7 : w4.cell? ⟨sb, 35, none⟩ = some (.int .i64 0) := script_at (unhide L4) 2 2 a 1 rfl 7 _ rfl
  have p8 : w4.cell? ⟨sb, 36, none⟩ = some (.int .i64 0) := script_at (unhide L4) 2 2 a 1 rfl 8 _ rfl
  have p9 : w4.cell? ⟨sb, 37, none⟩ = some (.int .i64 0) := script_at (unhide L4) 2 2 a 1 rfl 9 _ rfl
  have p10 : w4.cell? ⟨sb, 38, none⟩ = some (.slice none 0 0) := script_at (unhide L4) 2 2 a 1 rfl 10 _ rfl
  have p11 : w4.cell? ⟨sb, 39, none⟩ = some (.bool false) := script_at (unhide L4) 2 2 a 1 rfl 11 _ rfl
  have p12 : w4.cell? ⟨sb, 40, none⟩ = some (.string ⟨#[]⟩) := script_at (unhide L4) 2 2 a 1 rfl 12 _ rfl
  have p13 : w4.cell? ⟨sb, 41, none⟩ = some (.int .i64 1) := script_at (unhide L4) 2 2 a 1 rfl 13 _ rfl
  go_wp2_with fail
  rw [rounds_succ]
  go_wp2_with fail
  refine (gq_patience 1 hb 2 w4 tg4 a 1 (unhide H4) (by omega)).mono ?_
  rintro e w5 ⟨rfl, tg5, hH5, hS5⟩
  have L5 := hide ((unhide L4).step hS5 (game01 1))
  have G5 := hide ((unhide G4).other hS5 (by omega) (by omega) (by omega))
  have S5 := hide ((unhide S4).trans (hS5.mono (B := Agm) (fun _ h => .inr h)))
  have H5 := hide hH5
  clear hH5 hS5 L4 S4 H4 G4
  clear p0 p1 p2 p3 p4 p5 p6 p7 p8 p9 p10 p11 p12 p13
  go_wp2_with fail
  refine (gq_looks 1 hb 2 w5 tg5 (unhide H5) (by omega)).mono ?_
  rintro e w6 ⟨rfl, tg6, hH6, hS6⟩
  have L6 := hide ((unhide L5).step hS6 (game01 1))
  have G6 := hide ((unhide G5).other hS6 (by omega) (by omega) (by omega))
  have S6 := hide ((unhide S5).trans (hS6.mono (B := Agm) (fun _ h => .inr h)))
  have H6 := hide hH6
  clear hH6 hS6 L5 S5 H5 G5
  go_wp2_with fail
  rw [rounds_succ]
  go_wp2_with fail
  refine (gq_ends 0 gb 0 w6 tg6 (unhide G6) (by omega) (by omega)).mono ?_
  rintro e w7 ⟨rfl, tg7, hS7⟩
  have H7 := hide ((unhide H6).other hS7 (by omega) (by omega) (by omega))
  have S7 := hide ((unhide S6).trans (hS7.mono (B := Agm) (fun _ h => .inl h)))
  clear hS7 S6 G6 H6
  go_wp2_with fail
  refine (gq_ends 1 hb 2 w7 tg7 (unhide H7) (by omega) (by omega)).mono ?_
  rintro e w8 ⟨rfl, tg8, hS8⟩
  have S8 := hide ((unhide S7).trans (hS8.mono (B := Agm) (fun _ h => .inr h)))
  clear hS8 S7 H7
  go_wp2_with fail
  go_ret
  exact ⟨rfl, tg8, unhide S8⟩

end Go.Proofs.YteiecbkfganhnaaGreat
