/- Plain facts on entries and on this program's types. -/
import Derived.Test.YteiecbkfganhnaaProg
import Derived.Test.YteiecbkfganhnaaBase
import Derived.WalkKit
import Derived.WalkSpells
import Derived.WalkLawsBesides
import Derived.Deep.QuietTactic
import Derived.BigQuiet
import Derived.Laws.StructEq
import Derived.Laws.AppendOwnNone
import Derived.Laws.BytesArg
import Derived.KernelRfl
namespace Go.Proofs.Yteiecbkfganhnaa
open Go.RowKit

theorem infoEntry : (Try.prog.info? 78).map (fun i => (i.zero, i.size, i.bytes)) = some (some (.agg #[.int .i64 0, .string ⟨#[]⟩]), 2, 24) := by kernel_rfl

theorem eC_one (es : List Ent) : ∀ u ∈ eC es, u.oneCell' = true := by
  intro u hu
  simp only [eC, List.mem_flatMap] at hu
  obtain ⟨e, _, h⟩ := hu
  simp at h
  rcases h with rfl | rfl <;> rfl

end Go.Proofs.Yteiecbkfganhnaa
