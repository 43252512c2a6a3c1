/- A node of a statement's own: what its calls do to it, and to nothing that was there before. -/
import Derived.Test.YteiecbkfganhnaaPick
namespace Go.Proofs.Yteiecbkfganhnaa
open Go.RowKit Go.MuLone

/-- A node in the block nb; all below B is as it was in w0. -/
structure One (B : Nat) (w0 w : World) (nb : Nat) (s : Nd) : Prop where
  mem : ∃ lv, NB 0 w nb s lv ∧ NL w s lv ∧ ∀ x, lv.ownBlock = some x → B ≤ x
  nbB : B ≤ nb
  ok : Ok s
  below : Below B w0 w

abbrev ptr (b : Nat) : Value := .pointer (some ⟨b, 0, none⟩)

theorem One.lt {B : Nat} {w0 w : World} {nb : Nat} {s : Nd} (h : One B w0 w nb s) : B ≤ w.heap.size := by
  obtain ⟨lv, hN, _⟩ := h.mem
  have := hN.lt
  have := h.nbB
  omega

theorem One.quiet {B : Nat} {w0 w w' : World} {nb : Nat} {s : Nd} (h : One B w0 w nb s) (hb : Below w.heap.size w w') : One B w0 w' nb s := by
  obtain ⟨lv, hN, hL, hx⟩ := h.mem
  exact ⟨⟨lv, hN.below hb, hL.below hb, hx⟩, h.nbB, h.ok, h.below.trans (hb.mono h.lt)⟩

theorem ev_below {B nb : Nat} {lv lv' : Value} {w w' : World} (h : Ev nb lv lv' w w') (hn : B ≤ nb) (hl : ∀ x, lv.ownBlock = some x → B ≤ x) (hs : B ≤ w.heap.size) : Below B w w' ∧ ∀ x, lv'.ownBlock = some x → B ≤ x := by
  refine ⟨⟨h.os, h.tape, h.output, h.size, fun k hk => h.block k (by omega) (by omega) (fun hx => by have := hl k hx; omega)⟩, fun x hx => ?_⟩
  rcases h.own with h1 | h1
  · exact hl x (h1 ▸ hx)
  · have := h1 x hx; omega

theorem One.sent {B : Nat} {w0 w w' : World} {nb : Nat} {s : Nd} {lv : Value} {r : Nd × List Msg} {e : Ending} (h : One B w0 w nb s) (hx : ∀ x, lv.ownBlock = some x → B ≤ x) (hs : Sent 0 nb lv w r e w') (hok : Ok r.1) : ∃ v l, e = .returned v ∧ MsgsOut w' w.heap.size v r.2 l ∧ One B w0 w' nb r.1 := by
  obtain ⟨v, l, lv', he, hN, hL, hM, hV⟩ := hs
  obtain ⟨hb, hx'⟩ := ev_below hV h.nbB hx h.lt
  exact ⟨v, l, he, hM, ⟨lv', hN, hL, hx'⟩, h.nbB, hok, h.below.trans hb⟩

theorem one_made {id n : Nat} {term vote : Int} {es : List Ent} {w : World} {e : Ending} {w' : World} {B : Nat} {w0 : World} (h : NodeMade id n term vote es w e w') (hok : Ok (Nd.made id n term vote es)) (hb : Below B w0 w) (hB : B ≤ w.heap.size) :
    ∃ nb, e = .returned (.tuple #[ptr nb, .int .i64 0]) ∧ w.heap.size ≤ nb ∧ One B w0 w' nb (Nd.made id n term vote es) := by
  obtain ⟨nb, v, he, hnb, hN, hv, hbl⟩ := h
  exact ⟨nb, he, hnb, ⟨v, hN, owns_base hv (Nat.zero_le _), fun x hx => by have := (hv.lt x hx).1; omega⟩, by omega, hok, hb.trans (hbl.mono hB)⟩

theorem one_open (id n : Nat) (B : Nat) (w0 w : World) (hb : Below B w0 w) (hB : B ≤ w.heap.size) (h1 : 1 ≤ n) (h2 : n ≤ 7) (h3 : id < n) :
    Calls Try.prog 22 #[.int .i64 (id : Int), .int .i64 (n : Int)] w fun e w' => ∃ nb, e = .returned (.tuple #[ptr nb, .int .i64 0]) ∧ w.heap.size ≤ nb ∧ One B w0 w' nb (Nd.made id n 0 (-1) []) := by
  refine (open_ok id n w h1 h2 h3).mono ?_
  intro e w' h
  exact one_made h (Ok.made h1 h2 h3 (by simp [okE]; omega)) hb hB

theorem one_patience (t : Int) (B : Nat) (w0 w : World) (nb : Nat) (s : Nd) (h : One B w0 w nb s) (h1 : 1 ≤ t) (h2 : t ≤ 40) :
    Calls Try.prog 11 #[ptr nb, .int .i64 t] w fun e w' => e = .returned (.int .i64 0) ∧ One B w0 w' nb { s with pat := t } := by
  obtain ⟨lv, hN, hL, hx⟩ := h.mem
  refine (patience_ok nb s lv t w hN h1 h2).mono ?_
  rintro e w' ⟨rfl, rfl⟩
  have hE : Ew nb w (((w.setCell ⟨nb, 0, none⟩ (.int .i32 1)).setCell ⟨nb, 11, none⟩ (.int .i64 t)).setCell ⟨nb, 0, none⟩ (.int .i32 0)) := (((Ew.refl nb w).set 0 _).set 11 _).set 0 _
  exact ⟨rfl, ⟨lv, ((hN.setMu 1).setPat t).setMu 0, hL.ew hN hE, hx⟩, h.nbB, h.ok.setPat t h1 h2, h.below.trans (ev_below (Ev.ofEw (lv := lv) hE) h.nbB hx h.lt).1⟩

theorem one_tick (B : Nat) (w0 w : World) (nb : Nat) (s : Nd) (h : One B w0 w nb s) (he : s.elapsed < 4611686018427387904) :
    Calls Try.prog 20 #[ptr nb] w fun e w' => ∃ v l, e = .returned v ∧ MsgsOut w' w.heap.size v s.tick.2 l ∧ One B w0 w' nb s.tick.1 := by
  obtain ⟨lv, hN, hL, hx⟩ := h.mem
  refine (tick_any nb s lv w hN hL h.ok he).mono ?_
  intro e w' hs
  exact h.sent hx hs h.ok.tick

theorem one_propose (c : ByteArray) (B : Nat) (w0 w : World) (nb : Nat) (s : Nd) (h : One B w0 w nb s) :
    Calls Try.prog 15 #[ptr nb, .string c] w fun e w' => ∃ v l, e = .returned (.tuple #[.int .i64 (s.propose c).1, v, .int .i64 (s.propose c).2.2.2]) ∧ MsgsOut w' w.heap.size v (s.propose c).2.2.1 l ∧ One B w0 w' nb (s.propose c).2.1 := by
  obtain ⟨lv, hN, hL, hx⟩ := h.mem
  refine (propose_any nb s lv c w hN hL h.ok).mono ?_
  rintro e w' ⟨v, l, lv', he, hN', hL', hM, hV⟩
  obtain ⟨hb, hx'⟩ := ev_below hV h.nbB hx h.lt
  exact ⟨v, l, he, hM, ⟨lv', hN', hL', hx'⟩, h.nbB, h.ok.propose c, h.below.trans hb⟩

theorem one_status (B : Nat) (w0 w : World) (nb : Nat) (s : Nd) (h : One B w0 w nb s) :
    Calls Try.prog 10 #[ptr nb] w fun e w' => e = .returned (.agg #[.int .i64 s.role, .int .i64 s.term, .int .i64 s.leads, .int .i64 (s.commit : Int), .int .i64 (s.last : Int)]) ∧ Below w.heap.size w w' := by
  obtain ⟨lv, hN, hL, hx⟩ := h.mem
  obtain ⟨ao, cap, hf⟩ := hL.form
  exact status_any nb s lv ao s.log.length cap w hN hf

theorem one_committed (B : Nat) (w0 w : World) (nb : Nat) (s : Nd) (h : One B w0 w nb s) :
    Calls Try.prog 18 #[ptr nb] w fun e w' => ∃ v, e = .returned v ∧ w'.ownsRow w.heap.size 9 1 v s.cmds.length (tC s.cmds) ∧ Below w.heap.size w w' := by
  obtain ⟨lv, hN, hL, hx⟩ := h.mem
  exact committed_any nb s lv w hN hL h.ok.com h.ok.len

theorem one_saved (B : Nat) (w0 w : World) (nb : Nat) (s : Nd) (h : One B w0 w nb s) :
    Calls Try.prog 24 #[ptr nb] w fun e w' => ∃ v, e = .returned (.agg #[.int .i64 s.term, .int .i64 s.vote, v]) ∧ w'.ownsRow w.heap.size 78 2 v s.log.length (eC s.log) ∧ Below w.heap.size w w' := by
  obtain ⟨lv, hN, hL, hx⟩ := h.mem
  exact saved_any nb s lv s.log w hN hL.ents h.ok.len (okE_sizes h.ok.log)

theorem one_restart (B : Nat) (w0 w : World) (id n : Nat) (s : Nd) (v : Value) (hok : Ok s) (hb : Below B w0 w) (hB : B ≤ w.heap.size) (hid : s.id = id) (hn : s.n = n) (hv : EntsIn w v s.log) :
    Calls Try.prog 23 #[.int .i64 (id : Int), .int .i64 (n : Int), .agg #[.int .i64 s.term, .int .i64 s.vote, v]] w fun e w' => ∃ nb, e = .returned (.tuple #[ptr nb, .int .i64 0]) ∧ w.heap.size ≤ nb ∧ One B w0 w' nb (Nd.made id n s.term s.vote s.log) := by
  subst hid hn
  refine (restart_ok s.id s.n s.term s.vote v s.log w hok.n1 hok.n7 hok.id hv hok.saved).mono ?_
  intro e w' h
  exact one_made h (Ok.made hok.n1 hok.n7 hok.id hok.saved) hb hB

end Go.Proofs.Yteiecbkfganhnaa
