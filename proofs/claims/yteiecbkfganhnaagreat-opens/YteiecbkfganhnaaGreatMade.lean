/- A game is made. -/
import Derived.Test.YteiecbkfganhnaaGreatGStep
import Derived.Test.YteiecbkfganhnaaGreatHand
namespace Go.Proofs.YteiecbkfganhnaaGreat
open Go.RowKit

/-- The roles of a new game's blocks. -/
def gameTag (i B nb rb gb : Nat) (v u : Value) (tg : Tags) : Tags := fun k =>
  if k < B then tg k else if k = nb then tN i else if v.ownBlock = some k then tNL i else if k = rb then tR i else if u.ownBlock = some k then tRL i else if k = gb then tG i else (0, 1)

/-- Behind what makes a game. -/
def GMade (i : Nat) (id n : Int) (es : List Ent) (w : World) (tg : Tags) (e : Ending) (w' : World) : Prop :=
  ∃ gb nb rb c r b tg', e = .returned (.tuple #[.pointer (some ⟨gb, 0, none⟩), .bool true]) ∧ Gm i gb nb rb w' tg' id n c r es b [] 0 [] 0 ∧ Stp (fun _ => False) w tg w' tg' ∧ Below w.heap.size w w'

theorem mk_game (i : Nat) {id n term vote : Int} {es : List Ent} {w w3 : World} {tg : Tags} {nb rb : Nat} {v u g nx mt hd : Value} (hb : Below w.heap.size w w3) (hnb : w.heap.size ≤ nb) (hrb : w.heap.size ≤ rb)
    (hN : NodeBlk w3 nb (cnRestart id n term vote v)) (hR : RefBlk w3 rb (rnRestart id n term vote u g nx mt hd)) (hv : w3.ownsRow w.heap.size 66 2 v es.length (eC es)) (hu : w3.ownsRow w.heap.size 66 2 u es.length (eC es))
    (hvu : ∀ x y, v.ownBlock = some x → u.ownBlock = some y → x ≠ y) (hlen : es.length ≤ 60) (hsz : ∀ e ∈ es, e.2.size ≤ 20) :
    GMade i id n es w tg (.returned (.tuple #[.pointer (some ⟨w3.heap.size, 0, none⟩), .bool true]))
      (w3.alloc (.cells #[.int .i64 id, .int .i64 n, .pointer (some ⟨nb, 0, none⟩), .pointer (some ⟨rb, 0, none⟩), .slice none 0 0, .slice none 0 0, .slice none 0 0, .slice none 0 0, .slice none 0 0, .slice none 0 0, .slice none 0 0, .slice none 0 0, .slice none 0 0] 53)) := by
  have hnl := hN.lt
  have hrl := hR.lt
  have hnr : nb ≠ rb := fun he => by
    have h1 := hN
    unfold NodeBlk at h1
    unfold RefBlk at hR
    rw [he, hR] at h1
    simp at h1
  have hvn : ∀ x, v.ownBlock = some x → x ≠ nb ∧ x ≠ rb := fun x hx => by
    rcases hv.2 with ⟨rfl, _⟩ | ⟨gg, cap, cur, rfl, _, hg, _⟩
    · simp [Value.ownBlock] at hx
    · simp [Value.ownBlock] at hx
      subst hx
      refine ⟨fun he => ?_, fun he => ?_⟩
      · unfold NodeBlk at hN; rw [← he, hg] at hN; simp at hN
      · unfold RefBlk at hR; rw [← he, hg] at hR; simp at hR
  have hun : ∀ x, u.ownBlock = some x → x ≠ nb ∧ x ≠ rb := fun x hx => by
    rcases hu.2 with ⟨rfl, _⟩ | ⟨gg, cap, cur, rfl, _, hg, _⟩
    · simp [Value.ownBlock] at hx
    · simp [Value.ownBlock] at hx
      subst hx
      refine ⟨fun he => ?_, fun he => ?_⟩
      · unfold NodeBlk at hN; rw [← he, hg] at hN; simp at hN
      · unfold RefBlk at hR; rw [← he, hg] at hR; simp at hR
  have hb' : Below w.heap.size w (w3.alloc (.cells #[.int .i64 id, .int .i64 n, .pointer (some ⟨nb, 0, none⟩), .pointer (some ⟨rb, 0, none⟩), .slice none 0 0, .slice none 0 0, .slice none 0 0, .slice none 0 0, .slice none 0 0, .slice none 0 0, .slice none 0 0, .slice none 0 0, .slice none 0 0] 53)) := hb.alloc hb.size _
  have hgw : ¬ w3.heap.size < w.heap.size := by have := hb.size; omega
  refine ⟨w3.heap.size, nb, rb, cnRestart id n term vote v, rnRestart id n term vote u g nx mt hd, ⟨.slice none 0 0, .slice none 0 0, .slice none 0 0, .slice none 0 0, .slice none 0 0, .slice none 0 0, .slice none 0 0, .slice none 0 0, .slice none 0 0⟩, gameTag i w.heap.size nb rb w3.heap.size v u tg, rfl, ?_, ⟨hb'.os, hb'.tape, hb'.output, hb'.size, fun k hk _ => ⟨hb'.block k hk, by simp [gameTag, hk]⟩⟩, hb'⟩
  refine { B := ⟨heap_alloc_new w3 _, ?_, waitE_nil _ _ _, waitT_nil _ _ _, ⟨[], Own.nil _ _ _ _ _, fun k v h => by simp at h⟩, ⟨[], Own.nil _ _ _ _ _, fun k v h => by simp at h⟩, rfl, rfl⟩,
           N := heap_under hN _, tn := ?_, R := heap_under hR _, tr := ?_, NL := ⟨owns_base (hv.alloc _) (Nat.zero_le _), fun x hx => ?_⟩, RL := ⟨owns_base (hu.alloc _) (Nat.zero_le _), fun x hx => ?_⟩,
           term := rfl, vote := rfl, role := rfl, leads := rfl, commit := rfl, rcommit := rfl, len := hlen, sz := hsz }
  · have h1 : ¬ w3.heap.size = nb := by omega
    have h2 : ¬ v.ownBlock = some w3.heap.size := fun h => by have := (hv.lt _ h).2; omega
    have h3 : ¬ w3.heap.size = rb := by omega
    have h4 : ¬ u.ownBlock = some w3.heap.size := fun h => by have := (hu.lt _ h).2; omega
    simp [gameTag, hgw, h1, h2, h3, h4]
  · have h1 : ¬ nb < w.heap.size := by omega
    simp [gameTag, h1]
  · have h1 : ¬ rb < w.heap.size := by omega
    have h2 : ¬ rb = nb := fun h => hnr h.symm
    have h3 : ¬ v.ownBlock = some rb := fun h => (hvn rb h).2 rfl
    simp [gameTag, h1, h2, h3]
  · replace hx : v.ownBlock = some x := hx
    have h1 : ¬ x < w.heap.size := by have := (hv.lt _ hx).1; omega
    have h2 := (hvn x hx).1
    simp [gameTag, h1, h2, hx]
  · replace hx : u.ownBlock = some x := hx
    have h1 : ¬ x < w.heap.size := by have := (hu.lt _ hx).1; omega
    have h2 := (hun x hx).1
    have h3 : ¬ v.ownBlock = some x := fun h => hvu x x h hx rfl
    have h4 := (hun x hx).2
    simp [gameTag, h1, h2, h3, h4, hx]

set_option maxRecDepth 100000 in
set_option maxHeartbeats 2000000 in
theorem opened_no (id n : Int) (w : World) (h : n < 1 ∨ 7 < n ∨ id < 0 ∨ n ≤ id) :
    Calls Tryz.prog 7 #[.int .i64 id, .int .i64 n] w fun e w' => e = .returned (.tuple #[.pointer none, .bool true]) ∧ Below w.heap.size w w' := by
  have H := hide h
  clear h
  go_enter Tryz.func7, Tryz.ntmps7
  go_wp2_with (first | (go_at_call 11; refine (open_no id n w (unhide H)).mono ?_; rintro e w1 ⟨rfl, hb1⟩; replace hb1 := hide hb1) | (go_at_call 12; refine (refOpen_no id n w1 (unhide H)).mono ?_; rintro e w2 ⟨rfl, rfl⟩) | (go_at_call 13; refine (num_any _ _).mono ?_; rintro e w3 ⟨rfl, rfl⟩))
  go_ret2
  exact ⟨rfl, unhide hb1⟩

theorem opened_game (i : Nat) {id n : Int} {w w1 w2 : World} {tg : Tags} {nb : Nat} {v : Value} (hnb : w.heap.size ≤ nb) (hN : NodeBlk w1 nb (cnRestart id n 0 (-1) v)) (hv : w1.ownsRow w.heap.size 66 2 v 0 (eC [])) (hb1 : Below w.heap.size w w1)
    (hR : ∃ g nx mt hd, RefBlk w2 w1.heap.size (rnOpen id n g nx mt hd)) (hb2 : Below w1.heap.size w1 w2) :
    GMade i id n [] w tg (.returned (.tuple #[.pointer (some ⟨w2.heap.size, 0, none⟩), .bool true]))
      (w2.alloc (.cells #[.int .i64 id, .int .i64 n, .pointer (some ⟨nb, 0, none⟩), .pointer (some ⟨w1.heap.size, 0, none⟩), .slice none 0 0, .slice none 0 0, .slice none 0 0, .slice none 0 0, .slice none 0 0, .slice none 0 0, .slice none 0 0, .slice none 0 0, .slice none 0 0] 53)) := by
  obtain ⟨g, nx, mt, hd, hR⟩ := hR
  exact mk_game i (es := []) (term := 0) (vote := -1) (u := .slice none 0 0) (below_trans hb1 hb2) hnb hb1.size ((hb2.block nb hN.lt).trans hN) hR (owns_below hv hb2) (World.ownsRow_nil _ _ _ _) (fun x y _ h => by simp [Value.ownBlock] at h) (by simp) (by intro e he; cases he)

set_option maxRecDepth 100000 in
set_option maxHeartbeats 2000000 in
theorem opened_ok (i : Nat) (id : Int) (n : Nat) (w : World) (tg : Tags) (hn1 : 1 ≤ n) (hn2 : n ≤ 7) (h0 : 0 ≤ id) (h1 : id < n) :
    Calls Tryz.prog 7 #[.int .i64 id, .int .i64 n] w fun e w' => GMade i id n [] w tg e w' := by
  have H0 := hide (And.intro hn1 (And.intro hn2 (And.intro h0 h1)))
  clear hn1 hn2 h0 h1
  go_enter Tryz.func7, Tryz.ntmps7
  go_wp2_with (first | (go_at_call 11; refine (open_okE id n w (unhide H0).1 (unhide H0).2.1 (unhide H0).2.2.1 (unhide H0).2.2.2).mono ?_; rintro e w1 ⟨nb, v, rfl, hm⟩; replace hm := hide hm) | (go_at_call 12; refine (refOpen_ok id n w1 (unhide H0).1 (unhide H0).2.1 (unhide H0).2.2.1 (unhide H0).2.2.2).mono ?_; rintro e w2 ⟨rfl, hR, hb2⟩; replace hR := hide hR; replace hb2 := hide hb2) | (go_at_call 13; refine (num_any _ _).mono ?_; rintro e w3 ⟨rfl, rfl⟩))
  go_ret2
  exact opened_game i (unhide hm).1 (unhide hm).2.1 (unhide hm).2.2.1 (unhide hm).2.2.2 (unhide hR) (unhide hb2)

end Go.Proofs.YteiecbkfganhnaaGreat
