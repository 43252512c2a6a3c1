/- A region that draws its order, whose operations read and whose callees may make memory, but turn nothing old: one walk. -/
import Derived.Test.YteiecbkfganhnaaTick
namespace Go.Proofs.Yteiecbkfganhnaa
open Go.RowKit Go.MuLone

/-- A world behind W in which nothing old has turned. -/
structure BW (W : World) where
  wd : World
  below : Below W.heap.size W wd

theorem wp_region_below {P : Program} {id : Nat} {Q : Exit → Act → World → Prop} {a : Act} {w : World} {l : List Oper} (hm : P.follows .mixedOrders = true) (hB : Region.lexB .any l.toArray = true)
    (h : wpQuiet P l.toArray (fun w' => ∃ x : BW w, w' = x.wd) (fun a' => ∀ w', (∃ x : BW w, w' = x.wd) → Q .normal a' w') l a) : (Code.region id l.toArray true).wp P Q a w :=
  wp_region_quiet (C := fun w' => ∃ x : BW w, w' = x.wd) hm hB ⟨⟨w.drew, (Below.refl _ _).drew⟩, rfl⟩ (by simpa using h)

theorem BW.calls {P : Program} {f : FuncId} {args : Array Value} {W : World} {x : BW W} {v : Value} (h : Calls P f args x.wd fun e w' => e = .returned v ∧ Below x.wd.heap.size x.wd w') : Calls P f args x.wd fun e w'' => e = .returned v ∧ ∃ y : BW W, w'' = y.wd :=
  h.mono fun _ w' ⟨he, hb⟩ => ⟨he, ⟨w', x.below.trans (hb.mono x.below.size)⟩, rfl⟩

theorem BW.calls_drew {P : Program} {f : FuncId} {args : Array Value} {W : World} {x : BW W} {v : Value} (h : Calls P f args x.wd fun e w' => e = .returned v ∧ ∃ m, w' = x.wd.drewN m) : Calls P f args x.wd fun e w'' => e = .returned v ∧ ∃ y : BW W, w'' = y.wd :=
  h.mono fun _ _ ⟨he, m, hm⟩ => ⟨he, ⟨x.wd.drewN m, below_drewN x.below m⟩, hm⟩

theorem BW.calls_same {P : Program} {f : FuncId} {args : Array Value} {W : World} {x : BW W} {v : Value} (h : Calls P f args x.wd fun e w' => e = .returned v ∧ w' = x.wd) : Calls P f args x.wd fun e w'' => e = .returned v ∧ ∃ y : BW W, w'' = y.wd :=
  h.mono fun _ _ ⟨he, hm⟩ => ⟨he, x, hm⟩

theorem BW.cell {W : World} {b o : Nat} {v : Value} (h : W.cell? ⟨b, o, none⟩ = some v) : ∀ x : BW W, x.wd.cell? ⟨b, o, none⟩ = some v := fun x => (x.below.cell (p := ⟨b, o, none⟩) (block_lt_of_cell h)).trans h
theorem BW.nb {mu : Int} {W : World} {nb : Nat} {s : Nd} {lv : Value} (h : NB mu W nb s lv) (x : BW W) : NB mu x.wd nb s lv := h.below x.below
theorem BW.nl {W : World} {s : Nd} {lv : Value} (h : NL W s lv) (x : BW W) : NL x.wd s lv := h.below x.below
theorem BW.row {W : World} {b : Nat} {cs : Array Value} {t : TypeId} (h : W.heap[b]? = some (.cells cs t (0, 0))) (x : BW W) : x.wd.heap[b]? = some (.cells cs t (0, 0)) := (x.below.block b (Array.getElem?_eq_some_iff.1 h).1).trans h

end Go.Proofs.Yteiecbkfganhnaa
