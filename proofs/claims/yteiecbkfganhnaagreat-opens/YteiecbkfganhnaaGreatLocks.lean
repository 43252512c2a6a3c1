/- The lock's functions and types, by this program's numbers. -/
import Derived.Test.YteiecbkfganhnaaGreatProg
import Derived.Conc.MuLone
import Derived.KernelRfl
namespace Go.Proofs.YteiecbkfganhnaaGreat

abbrev muLink : Go.Conc.Locks.MuLink := { lock := 51, unlock := 52, ilock := 92, iunlock := 93, lockSlow := 127, unlockSlow := 130, disable := 123, enable := 125, acquire := 126, relMerge := 128, cas32 := 124, add32 := 129, tMutex := 75, tIMutex := 73, tPMutex := 113, tPIMutex := 125, tPI32 := 127, tUP := 129, tNoCopy := 70, tU32 := 71 }

theorem muLib : Go.Conc.Locks.MuLib Tryz.prog muLink :=
  ⟨Tryz.func51, Tryz.func52, Tryz.func92, Tryz.func93, Tryz.func123, Tryz.func125, Tryz.func126, Tryz.func128, Tryz.func124, Tryz.func129, Tryz.underlying73, Tryz.runUnderlying73, Tryz.sizeOf73, Tryz.isAgg73, Tryz.zeroValue73, Tryz.underlying75, Tryz.runUnderlying75, Tryz.sizeOf75, Tryz.isAgg75, Tryz.zeroValue75, Tryz.underlying113, Tryz.runUnderlying113, Tryz.sizeOf113, Tryz.isAgg113, Tryz.zeroValue113, Tryz.underlying125, Tryz.runUnderlying125, Tryz.sizeOf125, Tryz.isAgg125, Tryz.zeroValue125, Tryz.underlying127, Tryz.runUnderlying127, Tryz.sizeOf127, Tryz.isAgg127, Tryz.zeroValue127, Tryz.underlying129, Tryz.runUnderlying129, Tryz.sizeOf129, Tryz.isAgg129, Tryz.zeroValue129, Tryz.underlying70, Tryz.runUnderlying70, Tryz.sizeOf70, Tryz.isAgg70, Tryz.zeroValue70, Tryz.underlying21, Tryz.runUnderlying21, Tryz.sizeOf21, Tryz.isAgg21, Tryz.zeroValue21, (by kernel_rfl)⟩

end Go.Proofs.YteiecbkfganhnaaGreat
