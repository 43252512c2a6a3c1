/- A game's steps and its end. -/
import Derived.Test.YteiecbkfganhnaaGreatGLook
namespace Go.Proofs.YteiecbkfganhnaaGreat
open Go.RowKit

set_option maxRecDepth 100000 in
set_option maxHeartbeats 2000000 in
theorem ends_any (i gb nb rb : Nat) (w : World) (tg : Tags) (id n : Int) (c : CN) (r : RN) (es : List Ent) (b : BV) (l : List (List Ent)) (ne : Nat) (l2 : List (List ByteArray)) (nt : Nat)
    (h : Gm i gb nb rb w tg id n c r es b l ne l2 nt) (hi : i ≤ 1) (hl : l.length ≤ 1000000) (hl2 : l2.length ≤ 1000000) (hne : ne ≤ 1000000) (hnt : nt ≤ 1000000) :
    Calls Tryz.prog 20 #[.pointer (some ⟨gb, 0, none⟩)] w fun e w' => e = .returned (.bool true) ∧ ∃ tg', Stp (Abook i) w tg w' tg' := by
  have G0 := hide h
  clear h
  go_enter Tryz.func20, Tryz.ntmps20
  go_wp2_with fail
  refine (glooks_any i gb nb rb w tg id n c r es b l ne l2 nt (unhide G0) hi hl hl2).mono ?_
  rintro e w1 ⟨rfl, b1, tg1, hG1, hS1⟩
  have G1 := hide hG1
  have S1 := hide hS1
  have hlen1 : (l ++ [es] ++ [es]).length ≤ 1000002 := by simp; omega
  have hlen2 : (l2 ++ [[]] ++ [[]]).length ≤ 1000002 := by simp; omega
  clear hG1 hS1
  go_wp2_with fail
  refine (settles_any i gb w1 tg1 _ _ _ _ b1 _ ne _ nt (unhide G1).B (by omega) (by omega) (by omega) (by omega)).mono ?_
  rintro e w2 ⟨rfl, b2, tg2, hB2, hS2⟩
  have S2 := hide ((unhide S1).trans hS2)
  clear hB2 hS2 S1
  go_wp2
  go_ret
  exact ⟨rfl, tg2, unhide S2⟩

/-- A step of a script, as it is handed over. -/
abbrev stepV (kind a t : Int) : Value := .agg #[.int .i64 kind, .int .i64 a, .int .i64 0, .int .i64 0, .int .i64 0, .int .i64 0, .int .i64 0, .int .i64 0, .int .i64 0, .int .i64 0, .slice none 0 0, .bool false, .string ⟨#[]⟩, .int .i64 t]

set_option maxRecDepth 100000 in
set_option maxHeartbeats 2000000 in
theorem step_look (i gb nb rb : Nat) (w : World) (tg : Tags) (id n : Int) (c : CN) (r : RN) (es : List Ent) (b : BV) (l : List (List Ent)) (ne : Nat) (l2 : List (List ByteArray)) (nt : Nat) (a t : Int)
    (h : Gm i gb nb rb w tg id n c r es b l ne l2 nt) (hi : i ≤ 1) (hl : l.length ≤ 1000000) (hl2 : l2.length ≤ 1000000) :
    Calls Tryz.prog 18 #[.pointer (some ⟨gb, 0, none⟩), stepV 1 a t] w fun e w' => e = .returned (.bool true) ∧ GLooked i gb nb rb w tg id n c r es l ne l2 nt w' := by
  have G0 := hide h
  clear h
  go_enter Tryz.func18, Tryz.ntmps18
  go_wp2_with fail
  refine (glooks_any i gb nb rb _ (newTag w.heap.size tg (0, 1)) id n c r es b l ne l2 nt (by exact (unhide G0).quiet (Stp.alloc w tg _ _)) hi hl hl2).mono ?_
  rintro e w1 ⟨rfl, b1, tg1, hG1, hS1⟩
  have S1 := hide ((Stp.alloc (A := Abook i) w tg _ (0, 1)).trans hS1)
  have G1 := hide hG1
  clear hG1 hS1
  go_wp2
  go_ret
  exact ⟨rfl, b1, tg1, unhide G1, unhide S1⟩

def codeP (t : Int) : Int := if 1 ≤ t ∧ t ≤ 40 then 0 else 6

theorem patience_any (i nb : Nat) (c : CN) (t : Int) (w : World) (tg : Tags) (h : NodeBlk w nb c) (ht : tg nb = tN i) :
    Calls Tryz.prog 26 #[.pointer (some ⟨nb, 0, none⟩), .int .i64 t] w fun e w' => e = .returned (.int .i64 (codeP t)) ∧ ∃ p, NodeBlk w' nb (c.setPat p) ∧ Stp (fun U => U = tN i) w tg w' tg := by
  by_cases hk : 1 ≤ t ∧ t ≤ 40
  · refine (patience_ok nb c.s c.log t w h.nb hk.1 hk.2).mono ?_
    rintro e w' ⟨rfl, rfl⟩
    refine ⟨by rw [codeP, if_pos hk], t, ((h.nb.setMu 1).setPat t).setMu 0, ?_⟩
    exact ((Stp.setCell (a := ⟨nb, 0, none⟩) ht _).trans (Stp.setCell (a := ⟨nb, 11, none⟩) ht _)).trans (Stp.setCell (a := ⟨nb, 0, none⟩) ht _)
  · refine (patience_no nb t w (by omega)).mono ?_
    rintro e w' ⟨rfl, rfl⟩
    exact ⟨by rw [codeP, if_neg hk], c.s.pat, h, Stp.refl _ _ _⟩

theorem refPatience_any (i rb : Nat) (r : RN) (t : Int) (w : World) (tg : Tags) (h : RefBlk w rb r) (ht : tg rb = tR i) :
    Calls Tryz.prog 27 #[.pointer (some ⟨rb, 0, none⟩), .int .i64 t] w fun e w' => e = .returned (.int .i64 (codeP t)) ∧ ∃ p, RefBlk w' rb { r with pat := p } ∧ Stp (fun U => U = tR i) w tg w' tg := by
  by_cases hk : 1 ≤ t ∧ t ≤ 40
  · refine (refPatience_ok rb r t w h hk.1 hk.2).mono ?_
    rintro e w' ⟨rfl, rfl⟩
    exact ⟨by rw [codeP, if_pos hk], t, h.set 9 (.int .i64 t), Stp.setCell (a := ⟨rb, 9, none⟩) ht _⟩
  · refine (refPatience_no rb t w (by omega)).mono ?_
    rintro e w' ⟨rfl, rfl⟩
    exact ⟨by rw [codeP, if_neg hk], r.pat, h, Stp.refl _ _ _⟩

/-- Behind a Patience. -/
def GPat (i gb nb rb : Nat) (w : World) (tg : Tags) (id n : Int) (c : CN) (r : RN) (es : List Ent) (b : BV) (l : List (List Ent)) (ne : Nat) (l2 : List (List ByteArray)) (nt : Nat) (w' : World) : Prop :=
  ∃ p q tg', Gm i gb nb rb w' tg' id n (c.setPat p) { r with pat := q } es b l ne l2 nt ∧ Stp (fun U => U.1 = 1000 + 10 * i) w tg w' tg'

theorem Gm.patN {i gb nb rb : Nat} {w w' : World} {tg : Tags} {id n : Int} {c : CN} {r : RN} {es : List Ent} {b : BV} {l : List (List Ent)} {ne : Nat} {l2 : List (List ByteArray)} {nt : Nat} {p : Int} (hi : i ≤ 1)
    (h : Gm i gb nb rb w tg id n c r es b l ne l2 nt) (hN : NodeBlk w' nb (c.setPat p)) (hs : Stp (fun U => U = tN i) w tg w' tg) : Gm i gb nb rb w' tg id n (c.setPat p) r es b l ne l2 nt := by
  have kR := hs.keep rb h.R.lt (by rw [h.tr]; simp)
  exact { h with B := h.B.step hs (fun U hU hE => by subst hE; exact not_book i 0 hi hU) (by simp; omega), N := hN, R := kR.1.trans h.R, NL := h.NL.step hs (by simp), RL := h.RL.step hs (by simp) }

theorem Gm.patR {i gb nb rb : Nat} {w w' : World} {tg : Tags} {id n : Int} {c : CN} {r : RN} {es : List Ent} {b : BV} {l : List (List Ent)} {ne : Nat} {l2 : List (List ByteArray)} {nt : Nat} {p : Int} (hi : i ≤ 1)
    (h : Gm i gb nb rb w tg id n c r es b l ne l2 nt) (hR : RefBlk w' rb { r with pat := p }) (hs : Stp (fun U => U = tR i) w tg w' tg) : Gm i gb nb rb w' tg id n c { r with pat := p } es b l ne l2 nt := by
  have kN := hs.keep nb h.N.lt (by rw [h.tn]; simp)
  exact { h with B := h.B.step hs (fun U hU hE => by subst hE; exact not_book i 2 hi hU) (by simp), R := hR, N := kN.1.trans h.N, NL := h.NL.step hs (by simp), RL := h.RL.step hs (by simp) }

set_option maxRecDepth 100000 in
set_option maxHeartbeats 2000000 in
theorem step_patience (i gb nb rb : Nat) (w : World) (tg : Tags) (id n : Int) (c : CN) (r : RN) (es : List Ent) (b : BV) (l : List (List Ent)) (ne : Nat) (l2 : List (List ByteArray)) (nt : Nat) (a t : Int)
    (h : Gm i gb nb rb w tg id n c r es b l ne l2 nt) (hi : i ≤ 1) :
    Calls Tryz.prog 18 #[.pointer (some ⟨gb, 0, none⟩), stepV 2 a t] w fun e w' => e = .returned (.bool true) ∧ GPat i gb nb rb w tg id n c r es b l ne l2 nt w' := by
  have S1 : Stp (fun _ => False) w tg (w.alloc (.cells #[.int .i64 2, .int .i64 a, .int .i64 0, .int .i64 0, .int .i64 0, .int .i64 0, .int .i64 0, .int .i64 0, .int .i64 0, .int .i64 0, .slice none 0 0, .bool false, .string ⟨#[]⟩, .int .i64 t] 32)) (newTag w.heap.size tg (0, 1)) := Stp.alloc w tg _ _
  have L1 : Loc (w.alloc (.cells #[.int .i64 2, .int .i64 a, .int .i64 0, .int .i64 0, .int .i64 0, .int .i64 0, .int .i64 0, .int .i64 0, .int .i64 0, .int .i64 0, .slice none 0 0, .bool false, .string ⟨#[]⟩, .int .i64 t] 32)) (newTag w.heap.size tg (0, 1)) w.heap.size _ _ := Loc.new _ _ _ _
  have G1 := h.quiet S1
  have c2 := G1.c2
  have s1 := L1.cell 1
  simp only [List.getElem?_toArray, List.getElem?_cons_zero, List.getElem?_cons_succ] at s1
  have S1d := hide (S1.trans (Stp.drew1 _ _ _))
  have G1d := hide (G1.quiet (Stp.drew1 _ _ _))
  have L1d := hide (L1.step (Stp.drew1 (fun _ => False) _ _) (fun h => h))
  clear h S1 G1 L1
  generalize newTag w.heap.size tg (0, 1) = tg1 at *
  go_enter Tryz.func18, Tryz.ntmps18
  go_wp2_with fail
  generalize w.alloc (.cells #[.int .i64 2, .int .i64 a, .int .i64 0, .int .i64 0, .int .i64 0, .int .i64 0, .int .i64 0, .int .i64 0, .int .i64 0, .int .i64 0, .slice none 0 0, .bool false, .string ⟨#[]⟩, .int .i64 t] 32) = W1 at *
  generalize w.heap.size = sb at *
  go_region_held3 (fun w' => w'.cell? ⟨gb, 2, none⟩ = some (.pointer (some ⟨nb, 0, none⟩)) ∧ w'.cell? ⟨sb, 1, none⟩ = some (.int .i64 a)) (first | go_keep | exact ⟨y2, y1⟩) (first | (go_at_call 26; refine (patience_any i nb c a W1.drew tg1 (unhide G1d).N (unhide G1d).tn).mono ?_; rintro e w2 ⟨rfl, p, hN2, hS2⟩; have G2 := (unhide G1d).patN hi hN2 hS2; have L2 := (unhide L1d).step hS2 (by simp); have y2 := G2.c2; have y3 := G2.c3; have y1 : w2.cell? ⟨sb, 1, none⟩ = some (.int .i64 a) := L2.cell 1; replace G2 := hide G2; replace L2 := hide L2; replace hS2 := hide hS2; clear hN2))
  have G2d := hide ((unhide G2).quiet (Stp.drew1 _ _ _))
  have L2d := hide ((unhide L2).step (Stp.drew1 (fun _ => False) _ _) (fun h => h))
  have S2d := hide (((unhide S1d).mono (B := fun U => U.1 = 1000 + 10 * i) (fun _ h => h.elim)).trans (((unhide hS2).mono (B := fun U => U.1 = 1000 + 10 * i) (fun U h => by rw [h])).trans (Stp.drew1 _ _ _)))
  clear G2 L2 hS2 G1d L1d S1d c2 s1 y2
  go_wp2_with fail
  go_region_held3 (fun w' => w'.cell? ⟨gb, 3, none⟩ = some (.pointer (some ⟨rb, 0, none⟩)) ∧ w'.cell? ⟨sb, 1, none⟩ = some (.int .i64 a)) (first | go_keep | exact ⟨z3, z1⟩) (first | (go_at_call 27; refine (refPatience_any i rb r a w2.drew tg1 (unhide G2d).R (unhide G2d).tr).mono ?_; rintro e w3 ⟨rfl, q, hR3, hS3⟩; have G3 := (unhide G2d).patR hi hR3 hS3; have L3 := (unhide L2d).step hS3 (by simp); have z3 := G3.c3; have z1 : w3.cell? ⟨sb, 1, none⟩ = some (.int .i64 a) := L3.cell 1; replace G3 := hide G3; replace hS3 := hide hS3; clear hR3 L3))
  have S3 := hide ((unhide S2d).trans ((unhide hS3).mono (B := fun U => U.1 = 1000 + 10 * i) (fun U h => by rw [h])))
  clear S2d hS3 G2d L2d z3 z1 y1 y3
  go_wp2_with (go_at_call 13; refine (num_any _ _).mono ?_; rintro e w4 ⟨rfl, rfl⟩)
  go_ret
  exact ⟨rfl, p, q, tg1, unhide G3, unhide S3⟩

end Go.Proofs.YteiecbkfganhnaaGreat
