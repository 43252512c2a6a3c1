/- A game: a node, the document's node, the book. -/
import Derived.Test.YteiecbkfganhnaaGreatLooks
import Derived.Test.YteiecbkfganhnaaGreatNodeE
import Derived.Test.YteiecbkfganhnaaGreatRefC
namespace Go.Proofs.YteiecbkfganhnaaGreat
open Go.RowKit

abbrev tN (i : Nat) : Nat × Nat := (1000 + 10 * i, 0)
abbrev tNL (i : Nat) : Nat × Nat := (1000 + 10 * i, 1)
abbrev tR (i : Nat) : Nat × Nat := (1000 + 10 * i, 2)
abbrev tRL (i : Nat) : Nat × Nat := (1000 + 10 * i, 3)

/-- All that is a game's. -/
def Agame (i : Nat) (U : Nat × Nat) : Prop := Abook i U ∨ U.1 = 1000 + 10 * i

/-- A game: both nodes show the same. -/
structure Gm (i gb nb rb : Nat) (w : World) (tg : Tags) (id n : Int) (c : CN) (r : RN) (es : List Ent) (b : BV) (l : List (List Ent)) (ne : Nat) (l2 : List (List ByteArray)) (nt : Nat) : Prop where
  B : Bk i gb w tg (.int .i64 id) (.int .i64 n) (.pointer (some ⟨nb, 0, none⟩)) (.pointer (some ⟨rb, 0, none⟩)) b l ne l2 nt
  N : NodeBlk w nb c
  tn : tg nb = tN i
  R : RefBlk w rb r
  tr : tg rb = tR i
  NL : Own w tg (tNL i) 66 2 c.log es.length (eC es)
  RL : Own w tg (tRL i) 66 2 r.log es.length (eC es)
  term : c.term = r.term
  vote : c.vote = r.vote
  role : c.role = r.role
  leads : c.leads = r.leads
  commit : c.commit = 0
  rcommit : r.commit = 0
  len : es.length ≤ 60
  sz : ∀ e ∈ es, e.2.size ≤ 20

theorem Gm.step {A : Nat × Nat → Prop} {i gb nb rb : Nat} {w w' : World} {tg tg' : Tags} {id n : Int} {c : CN} {r : RN} {es : List Ent} {b : BV} {l : List (List Ent)} {ne : Nat} {l2 : List (List ByteArray)} {nt : Nat}
    (h : Gm i gb nb rb w tg id n c r es b l ne l2 nt) (hs : Stp A w tg w' tg') (hA : ∀ U, Agame i U → ¬ A U) (h0 : ¬ A (0, 0)) : Gm i gb nb rb w' tg' id n c r es b l ne l2 nt := by
  have kN := hs.keep nb h.N.lt (by rw [h.tn]; exact hA _ (.inr rfl))
  have kR := hs.keep rb h.R.lt (by rw [h.tr]; exact hA _ (.inr rfl))
  exact { h with B := h.B.step hs (fun U hU => hA U (.inl hU)) h0, N := kN.1.trans h.N, tn := kN.2.trans h.tn, R := kR.1.trans h.R, tr := kR.2.trans h.tr, NL := h.NL.step hs (hA _ (.inr rfl)), RL := h.RL.step hs (hA _ (.inr rfl)) }

/-- A variable of a call's own. -/
def Loc (w : World) (tg : Tags) (k : Nat) (cs : Array Value) (t : TypeId) : Prop := w.heap[k]? = some (.cells cs t (0, 0)) ∧ tg k = (0, 1)

theorem Loc.step {A : Nat × Nat → Prop} {w w' : World} {tg tg' : Tags} {k : Nat} {cs : Array Value} {t : TypeId} (h : Loc w tg k cs t) (hs : Stp A w tg w' tg') (hA : ¬ A (0, 1)) : Loc w' tg' k cs t := by
  have hk := hs.keep k (Array.getElem?_eq_some_iff.1 h.1).1 (by rw [h.2]; exact hA)
  exact ⟨hk.1.trans h.1, hk.2.trans h.2⟩

theorem Loc.new (w : World) (tg : Tags) (cs : Array Value) (t : TypeId) : Loc (w.alloc (.cells cs t)) (newTag w.heap.size tg (0, 1)) w.heap.size cs t := ⟨heap_alloc_new w _, newTag_new (Nat.le_refl _)⟩
theorem Loc.cell {w : World} {tg : Tags} {k : Nat} {cs : Array Value} {t : TypeId} (h : Loc w tg k cs t) (o : Nat) : w.cell? ⟨k, o, none⟩ = cs[o]? := cell_of_row w k o _ _ _ h.1

/-- The book alone turns. -/
theorem Gm.book {A : Nat × Nat → Prop} {i gb nb rb : Nat} {w w' : World} {tg tg' : Tags} {id n : Int} {c : CN} {r : RN} {es : List Ent} {b b' : BV} {l l' : List (List Ent)} {ne ne' : Nat} {l2 l2' : List (List ByteArray)} {nt nt' : Nat}
    (h : Gm i gb nb rb w tg id n c r es b l ne l2 nt) (hs : Stp A w tg w' tg') (hA : ∀ k, ¬ A (1000 + 10 * i, k)) (hB : Bk i gb w' tg' (.int .i64 id) (.int .i64 n) (.pointer (some ⟨nb, 0, none⟩)) (.pointer (some ⟨rb, 0, none⟩)) b' l' ne' l2' nt') :
    Gm i gb nb rb w' tg' id n c r es b' l' ne' l2' nt' := by
  have kN := hs.keep nb h.N.lt (by rw [h.tn]; exact hA 0)
  have kR := hs.keep rb h.R.lt (by rw [h.tr]; exact hA 2)
  exact { h with B := hB, N := kN.1.trans h.N, tn := kN.2.trans h.tn, R := kR.1.trans h.R, tr := kR.2.trans h.tr, NL := h.NL.step hs (hA 1), RL := h.RL.step hs (hA 3) }

/-- Behind keepEntries: the book. -/
theorem bk_keptE {i gb : Nat} {w w' : World} {tg : Tags} {c0 c1 c2 c3 : Value} {b : BV} {l l' : List (List Ent)} {ne : Nat} {l2 : List (List ByteArray)} {nt : Nat} (h : Bk i gb w tg c0 c1 c2 c3 b l ne l2 nt) (hk : KeptE i gb w tg c0 c1 c2 c3 b l' w') :
    ∃ b' tg', Bk i gb w' tg' c0 c1 c2 c3 b' l' ne l2 nt ∧ Stp (Abook i) w tg w' tg' := by
  obtain ⟨we, re, tg', hG, hg, hW, hs⟩ := hk
  have hs' : Stp (Abook i) w tg w' tg' := hs.mono (by rintro U (h | h | h) <;> subst h <;> exact ⟨by simp, by simp⟩)
  exact ⟨_, tg', ⟨hG, hg, hW, h.T.step hs (by simp) (by simp) (by simp) (by simp), h.ME.step hs (by simp) (by simp), h.MT.step hs (by simp) (by simp), h.m, h.wm⟩, hs'⟩

theorem bk_keptT {i gb : Nat} {w w' : World} {tg : Tags} {c0 c1 c2 c3 : Value} {b : BV} {l : List (List Ent)} {ne : Nat} {l2 l2' : List (List ByteArray)} {nt : Nat} (h : Bk i gb w tg c0 c1 c2 c3 b l ne l2 nt) (hk : KeptT i gb w tg c0 c1 c2 c3 b l2' w') :
    ∃ b' tg', Bk i gb w' tg' c0 c1 c2 c3 b' l ne l2' nt ∧ Stp (Abook i) w tg w' tg' := by
  obtain ⟨we, re, tg', hG, hg, hW, hs⟩ := hk
  have hs' : Stp (Abook i) w tg w' tg' := hs.mono (by rintro U (h | h | h) <;> subst h <;> exact ⟨by simp, by simp⟩)
  exact ⟨_, tg', ⟨hG, hg, h.E.step hs (by simp) (by simp) (by simp) (by simp), hW, h.ME.step hs (by simp) (by simp), h.MT.step hs (by simp) (by simp), h.m, h.wm⟩, hs'⟩

set_option maxRecDepth 100000 in
set_option maxHeartbeats 1000000 in
theorem sameSaved_eq (t v : Int) (va vb : Value) (es : List Ent) (w : World) (hn : es.length ≤ 60) (ha : EntsIn w va es) (hb : EntsIn w vb es) :
    Calls Tryz.prog 43 #[.agg #[.int .i64 t, .int .i64 v, va], .agg #[.int .i64 t, .int .i64 v, vb]] w fun e w' => e = .returned (.bool true) ∧ Below w.heap.size w w' := by
  have HA := hide ha
  have HB := hide hb
  obtain ⟨a1, k1, rfl, _⟩ := ha
  obtain ⟨a2, k2, rfl, _⟩ := hb
  have hb2 := below_trans (below_alloc w (.cells #[.int .i64 t, .int .i64 v, .slice a1 es.length k1] 24)) (below_alloc _ (.cells #[.int .i64 t, .int .i64 v, .slice a2 es.length k2] 24))
  have H2 := hide hb2
  clear hb2
  go_enter Tryz.func43, Tryz.ntmps43
  go_wp2_with (go_at_call 87; refine (sameEntries_eq _ _ es _ (by omega) (by exact ents_below (unhide HA) (unhide H2)) (by exact ents_below (unhide HB) (unhide H2))).mono ?_; rintro e w3 ⟨rfl, m, rfl⟩)
  go_ret
  exact ⟨rfl, (unhide H2).trans ⟨rfl, rfl, rfl, Nat.le_refl _, fun _ _ => rfl⟩⟩

theorem num_any (k : Int) (w : World) : Calls Tryz.prog 13 #[.int .i64 k] w fun e w' => e = .returned (.int .i64 k) ∧ w' = w := by
  go_enter Tryz.func13, Tryz.ntmps13
  go_wp2
  go_ret
  exact ⟨rfl, rfl⟩

theorem Stp.drew1 (A : Nat × Nat → Prop) (w : World) (tg : Tags) : Stp A w tg w.drew tg := ⟨rfl, rfl, rfl, Nat.le_refl _, fun _ _ _ => ⟨rfl, rfl⟩⟩

theorem Gm.quiet {i gb nb rb : Nat} {w w' : World} {tg tg' : Tags} {id n : Int} {c : CN} {r : RN} {es : List Ent} {b : BV} {l : List (List Ent)} {ne : Nat} {l2 : List (List ByteArray)} {nt : Nat}
    (h : Gm i gb nb rb w tg id n c r es b l ne l2 nt) (hs : Stp (fun _ => False) w tg w' tg') : Gm i gb nb rb w' tg' id n c r es b l ne l2 nt := h.step hs (fun _ _ h => h) (fun h => h)

theorem Gm.c2 {i gb nb rb : Nat} {w : World} {tg : Tags} {id n : Int} {c : CN} {r : RN} {es : List Ent} {b : BV} {l : List (List Ent)} {ne : Nat} {l2 : List (List ByteArray)} {nt : Nat}
    (h : Gm i gb nb rb w tg id n c r es b l ne l2 nt) : w.cell? ⟨gb, 2, none⟩ = some (.pointer (some ⟨nb, 0, none⟩)) := h.B.G.c2
theorem Gm.c3 {i gb nb rb : Nat} {w : World} {tg : Tags} {id n : Int} {c : CN} {r : RN} {es : List Ent} {b : BV} {l : List (List Ent)} {ne : Nat} {l2 : List (List ByteArray)} {nt : Nat}
    (h : Gm i gb nb rb w tg id n c r es b l ne l2 nt) : w.cell? ⟨gb, 3, none⟩ = some (.pointer (some ⟨rb, 0, none⟩)) := h.B.G.c3

theorem eql_status (a b c d e : Int) (w : World) : (binOp .eql 97 (.agg #[.int .i64 a, .int .i64 b, .int .i64 c, .int .i64 d, .int .i64 e]) (.agg #[.int .i64 a, .int .i64 b, .int .i64 c, .int .i64 d, .int .i64 e])).run Tryz.prog w = .ok (.bool true) w := by
  have u3 := Tryz.underlying3
  have hS : Tryz.prog.underlying 97 = some (.struct (Tryz.prog.fieldsOf 97)) := by kernel_rfl
  have hp : Tryz.prog.stoodInHeld 97 = false := by kernel_rfl
  rw [run_eql_struct, show (10000 : Nat) = 9999 + 1 from rfl, run_equalIn_agg w 9999 97 _ _ hS hp]
  simp only [Program.fieldsOf, Tryz.underlying97]
  go_simp

theorem not_book (i k : Nat) (hi : i ≤ 1) : ¬ Abook i (1000 + 10 * i, k) := by
  rintro ⟨_, h⟩
  simp at h
  omega

theorem book0 (i k : Nat) : ¬ Abook i (0, k) := by
  rintro ⟨h, _⟩
  simp at h

theorem texts_nil (w : World) : TextsIn w (.slice none 0 0) [] := ⟨none, 0, rfl, fun _ => rfl, fun k s h => by simp at h⟩

end Go.Proofs.YteiecbkfganhnaaGreat
