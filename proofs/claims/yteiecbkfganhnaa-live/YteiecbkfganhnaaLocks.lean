/- The lock's functions and types, by this program's numbers. -/
import Derived.Test.YteiecbkfganhnaaProg
import Derived.Conc.MuLone
import Derived.KernelRfl
namespace Go.Proofs.Yteiecbkfganhnaa

abbrev muLink : Go.Conc.Locks.MuLink := { lock := 27, unlock := 28, ilock := 49, iunlock := 50, lockSlow := 78, unlockSlow := 81, disable := 74, enable := 76, acquire := 77, relMerge := 79, cas32 := 75, add32 := 80, tMutex := 71, tIMutex := 69, tPMutex := 86, tPIMutex := 101, tPI32 := 103, tUP := 105, tNoCopy := 66, tU32 := 67 }

theorem muLib : Go.Conc.Locks.MuLib Try.prog muLink :=
  ⟨Try.func27, Try.func28, Try.func49, Try.func50, Try.func74, Try.func76, Try.func77, Try.func79, Try.func75, Try.func80, Try.underlying69, Try.runUnderlying69, Try.sizeOf69, Try.isAgg69, Try.zeroValue69, Try.underlying71, Try.runUnderlying71, Try.sizeOf71, Try.isAgg71, Try.zeroValue71, Try.underlying86, Try.runUnderlying86, Try.sizeOf86, Try.isAgg86, Try.zeroValue86, Try.underlying101, Try.runUnderlying101, Try.sizeOf101, Try.isAgg101, Try.zeroValue101, Try.underlying103, Try.runUnderlying103, Try.sizeOf103, Try.isAgg103, Try.zeroValue103, Try.underlying105, Try.runUnderlying105, Try.sizeOf105, Try.isAgg105, Try.zeroValue105, Try.underlying66, Try.runUnderlying66, Try.sizeOf66, Try.isAgg66, Try.zeroValue66, Try.underlying21, Try.runUnderlying21, Try.sizeOf21, Try.isAgg21, Try.zeroValue21, (by kernel_rfl)⟩

end Go.Proofs.Yteiecbkfganhnaa
