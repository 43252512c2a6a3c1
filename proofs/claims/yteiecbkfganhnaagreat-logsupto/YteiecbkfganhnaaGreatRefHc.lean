/- The document's node: stepAppend's code behind its first tests. -/
import Derived.Test.YteiecbkfganhnaaGreatKGStep
import Derived.Test.YteiecbkfganhnaaGreatKTake

namespace Go.Proofs.YteiecbkfganhnaaGreat

open Go.RowKit Go.MuLone

/-- What stands behind a region, along the body's rows. -/
def afterR (n : Nat) : Code → Option Code
  | .seq (.region k _ _) b => match Nat.beq k n with
    | true => some b
    | false => afterR n b
  | .seq _ b => afterR n b
  | _ => none

noncomputable def appRest : Code := (Tryz.f76.body.bind (afterR 15)).getD .skip

noncomputable def appLoop : Code := match appRest with
  | .seq a _ => a
  | c => c

noncomputable def appTail : Code := match appRest with
  | .seq _ b => b
  | c => c

/-- What is the same all along: the message's box, the node, where they lie. -/
structure AppS (rb : Nat) (s sA : Nd) (v : RV) (w : World) (eo : Option Addr) (ec : Nat) (mc : Int) (me : List Ent) (idx : Nat) (lo : Option Addr) (lc : Nat) : Prop where
  hec : me.length ≤ ec
  hl3 : me.length ≤ 3
  hc0 : 0 ≤ mc
  hc1 : mc ≤ 1000000
  hlt : rb < w.heap.size
  heb : ∀ w3 : World, Er rb v v w w3 → EntsIn w3 (.slice eo me.length ec) me
  hmb : ¬ v.has rb w.heap.size
  hs60 : s.last ≤ 60
  hcom : s.commit ≤ s.last
  hsum : (idx : Int) + (me.length : Int) ≤ 60
  hile : idx ≤ s.log.length
  eL : sA.log = s.log
  eC : sA.commit = s.commit
  hlv : v.lv = .slice lo s.log.length lc

end Go.Proofs.YteiecbkfganhnaaGreat
