/- The program's node, as Opens speaks of it. -/
import Derived.Test.YteiecbkfganhnaaGreatNodeD
import Derived.LoopN
import Derived.Deep.Draws
import Derived.BigQuiet
import Derived.Deep.QuietTactic
namespace Go.Proofs.YteiecbkfganhnaaGreat
open Go.RowKit Go.MuLone

structure CN where
  s : Nd
  log : Value

abbrev CN.term (c : CN) : Int := c.s.term
abbrev CN.vote (c : CN) : Int := c.s.vote
abbrev CN.role (c : CN) : Int := c.s.role
abbrev CN.leads (c : CN) : Int := c.s.leads
abbrev CN.commit (c : CN) : Int := (c.s.commit : Int)
def CN.setPat (c : CN) (p : Int) : CN := ⟨{ c.s with pat := p }, c.log⟩

def NodeBlk (w : World) (nb : Nat) (c : CN) : Prop := w.heap[nb]? = some (.cells (ncells 0 c.s c.log) 80 (0, 0))
theorem NodeBlk.nb {w : World} {nb : Nat} {c : CN} (h : NodeBlk w nb c) : NB 0 w nb c.s c.log := h
theorem NodeBlk.lt {w : World} {nb : Nat} {c : CN} (h : NodeBlk w nb c) : nb < w.heap.size := (Array.getElem?_eq_some_iff.1 h).1

def cnRestart (id n term vote : Int) (log : Value) : CN := ⟨Nd.made id.toNat n.toNat term vote [], log⟩

/-- Behind a Restart that gives a node. -/
def NodeMadeE (id n term vote : Int) (es : List Ent) (w : World) (e : Ending) (w' : World) : Prop :=
  ∃ nb v, e = .returned (.tuple #[.pointer (some ⟨nb, 0, none⟩), .int .i64 0]) ∧ w.heap.size ≤ nb ∧ NodeBlk w' nb (cnRestart id n term vote v) ∧ w'.ownsRow w.heap.size 66 2 v es.length (eC es) ∧ Below w.heap.size w w'

theorem restart_okE (id : Int) (n : Nat) (term vote : Int) (lv : Value) (es : List Ent) (w : World) (hn1 : 1 ≤ n) (hn2 : n ≤ 7) (h0 : 0 ≤ id) (h1 : id < n) (hl : EntsIn w lv es)
    (h : ¬ (term < 0 ∨ 1000000 < term ∨ vote < -1 ∨ (n : Int) ≤ vote ∨ 60 < (es.length : Int) ∨ okE es 1 term = false)) :
    Calls Tryz.prog 15 #[.int .i64 id, .int .i64 (n : Int), .agg #[.int .i64 term, .int .i64 vote, lv]] w fun e w' => NodeMadeE id n term vote es w e w' := by
  obtain ⟨k, rfl⟩ := Int.eq_ofNat_of_zero_le h0
  refine (restart_ok k n term vote lv es w hn1 hn2 (by omega) hl h).mono ?_
  rintro e w' ⟨nb, v, he, hnb, hN, hv, hb⟩
  exact ⟨nb, v, he, hnb, hN, hv, hb⟩

theorem open_okE (id : Int) (n : Nat) (w : World) (hn1 : 1 ≤ n) (hn2 : n ≤ 7) (h0 : 0 ≤ id) (h1 : id < n) :
    Calls Tryz.prog 11 #[.int .i64 id, .int .i64 (n : Int)] w fun e w' => NodeMadeE id n 0 (-1) [] w e w' := by
  obtain ⟨k, rfl⟩ := Int.eq_ofNat_of_zero_le h0
  refine (open_ok k n w hn1 hn2 (by omega)).mono ?_
  rintro e w' ⟨nb, v, he, hnb, hN, hv, hb⟩
  exact ⟨nb, v, he, hnb, hN, hv, hb⟩

theorem saved_E (nb : Nat) (c : CN) (es : List Ent) (w : World) (h : NodeBlk w nb c) (hl : EntsIn w c.log es) (hn : es.length ≤ 60) (hs : ∀ e ∈ es, e.2.size ≤ 20) :
    Calls Tryz.prog 41 #[.pointer (some ⟨nb, 0, none⟩)] w fun e w' => ∃ v, e = .returned (.agg #[.int .i64 c.term, .int .i64 c.vote, v]) ∧ w'.ownsRow w.heap.size 66 2 v es.length (eC es) ∧ Below w.heap.size w w' :=
  saved_any nb c.s c.log es w h.nb hl hn hs

theorem status_E (nb : Nat) (c : CN) (vo : Option Addr) (n vc : Nat) (w : World) (h : NodeBlk w nb c) (hl : c.log = .slice vo n vc) :
    Calls Tryz.prog 45 #[.pointer (some ⟨nb, 0, none⟩)] w fun e w' => e = .returned (.agg #[.int .i64 c.role, .int .i64 c.term, .int .i64 c.leads, .int .i64 c.commit, .int .i64 n]) ∧ Below w.heap.size w w' :=
  status_any nb c.s c.log vo n vc w h.nb hl

set_option maxRecDepth 100000 in
set_option maxHeartbeats 1000000 in
theorem committed_0 (nb : Nat) (c : CN) (vo : Option Addr) (n vc : Nat) (w : World) (h : NodeBlk w nb c) (h1 : c.commit = 0) (hl : c.log = .slice vo n vc) :
    Calls Tryz.prog 47 #[.pointer (some ⟨nb, 0, none⟩)] w fun e w' => e = .returned (.slice none 0 0) ∧ Below w.heap.size w w' := by
  have c0 := h.nb.c0
  have f0 := h.nb.free 0
  have c6 := h.nb.c6
  rw [hl] at c6
  have c9 := h.nb.c9
  have h1' : (c.s.commit : Int) = 0 := h1
  rw [h1'] at c9
  have H := hide h.nb
  clear h h1 h1' hl
  go_enter_defers Tryz.func47, Tryz.ntmps47
  go_wp2_with (go_at_call 51; refine (lock_free muLib ⟨nb, 0, none⟩ _ c0 f0).mono ?_; rintro e w' ⟨rfl, rfl⟩)
  go_quiet (fail)
  go_wp2
  refine wp_loop_rounds 1 ?_
  rw [rounds_succ]
  go_wp2
  have hlk := lock_below (w1 := (w.setCell ⟨nb, 0, none⟩ (.int .i32 1)).drewN nq) (unhide H) ⟨rfl, rfl, rfl, Nat.le_refl _, fun _ _ => rfl⟩
  refine leaves_cons (f := 52) (args := #[.pointer (some ⟨nb, 0, none⟩)]) (by simp) (by simp [go_sem]) ?_
  refine (unlock_deferred muLib ⟨nb, 0, none⟩ .returning _ hlk.1.c0 (hlk.1.free 0)).mono ?_
  rintro e u' w'' ⟨rfl, rfl, rfl⟩
  exact ⟨_, results_tmp rfl _ _ _, rfl, hlk.2⟩

end Go.Proofs.YteiecbkfganhnaaGreat
