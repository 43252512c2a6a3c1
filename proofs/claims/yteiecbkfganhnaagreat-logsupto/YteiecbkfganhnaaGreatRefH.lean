/- The document's node: stepAppend of a term that is no less. -/
import Derived.Test.YteiecbkfganhnaaGreatRefHf
import Derived.Test.YteiecbkfganhnaaGreatRefHn

namespace Go.Proofs.YteiecbkfganhnaaGreat

open Go.RowKit Go.MuLone

theorem refStepAppend_rest (rb : Nat) (s : Nd) (v : RV) (m : Msg) (w : World) (h : RB w rb s v []) (hok : Ok s) (hm : SoundM m s.id s.n) (eo : Option Addr) (ec : Nat) (he : EntsIn w (.slice eo m.ents.length ec) m.ents) (hec : m.ents.length ≤ ec) (hap : ∀ a, eo = some a → m.ents ≠ [] → ¬ v.has rb a.block) (h1 : ¬ m.term < s.term) (h2 : ¬ (m.term = s.term ∧ s.role = 3)) :
    Calls Tryz.prog 76 #[.pointer (some ⟨rb, 0, none⟩), magg m (.slice eo m.ents.length ec)] w fun e w' => e = .returned (.tuple #[]) ∧ RDid rb v [] w (s.stepAppend m) w' := by
  by_cases hf : (s.last : Int) < m.index ∨ s.termOf m.index.toNat ≠ m.logTerm
  · exact refStepAppend_far rb s v m w h hok hm eo ec he hec hap h1 h2 hf
  · exact refStepAppend_near rb s v m w h hok hm eo ec he hec hap h1 h2 hf

end Go.Proofs.YteiecbkfganhnaaGreat
