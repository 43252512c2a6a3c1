/- The lock's functions and types, by this program's numbers. -/
import Derived.Test.YtnofhpnpllnmgaaProg
import Derived.Conc.MuLone
import Derived.KernelRfl
namespace Go.Proofs.Ytnofhpnpllnmgaa

abbrev muLink : Go.Conc.Locks.MuLink := { lock := 58, unlock := 59, ilock := 85, iunlock := 86, lockSlow := 99, unlockSlow := 102, disable := 95, enable := 97, acquire := 98, relMerge := 100, cas32 := 96, add32 := 101, tMutex := 82, tIMutex := 80, tPMutex := 119, tPIMutex := 124, tPI32 := 126, tUP := 128, tNoCopy := 77, tU32 := 78 }

theorem muLib : Go.Conc.Locks.MuLib Try.prog muLink :=
  ⟨Try.func58, Try.func59, Try.func85, Try.func86, Try.func95, Try.func97, Try.func98, Try.func100, Try.func96, Try.func101, Try.underlying80, Try.runUnderlying80, Try.sizeOf80, Try.isAgg80, Try.zeroValue80, Try.underlying82, Try.runUnderlying82, Try.sizeOf82, Try.isAgg82, Try.zeroValue82, Try.underlying119, Try.runUnderlying119, Try.sizeOf119, Try.isAgg119, Try.zeroValue119, Try.underlying124, Try.runUnderlying124, Try.sizeOf124, Try.isAgg124, Try.zeroValue124, Try.underlying126, Try.runUnderlying126, Try.sizeOf126, Try.isAgg126, Try.zeroValue126, Try.underlying128, Try.runUnderlying128, Try.sizeOf128, Try.isAgg128, Try.zeroValue128, Try.underlying77, Try.runUnderlying77, Try.sizeOf77, Try.isAgg77, Try.zeroValue77, Try.underlying21, Try.runUnderlying21, Try.sizeOf21, Try.isAgg21, Try.zeroValue21, (by kernel_rfl)⟩

end Go.Proofs.Ytnofhpnpllnmgaa
