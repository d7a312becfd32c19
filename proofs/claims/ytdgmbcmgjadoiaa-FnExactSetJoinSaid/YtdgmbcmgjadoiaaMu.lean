/- The numbers under which the program holds sync.Mutex, and that it holds it. -/
import Derived.Test.YtdgmbcmgjadoiaaProg
import Derived.Conc.MuLone
namespace Go.Proofs.Ytdgmbcmgjadoiaa
abbrev muLink : Go.Conc.Locks.MuLink := { lock := 70, unlock := 71, ilock := 80, iunlock := 81, lockSlow := 99, unlockSlow := 102, disable := 95, enable := 97, acquire := 98, relMerge := 100, cas32 := 96, add32 := 101, tMutex := 65, tIMutex := 63, tPMutex := 80, tPIMutex := 94, tPI32 := 96, tUP := 98, tNoCopy := 60, tU32 := 61 }
theorem muLib : Go.Conc.Locks.MuLib Try.prog muLink :=
  ⟨Try.func70, Try.func71, Try.func80, Try.func81, Try.func95, Try.func97, Try.func98, Try.func100, Try.func96, Try.func101, Try.underlying63, Try.runUnderlying63, Try.sizeOf63, Try.isAgg63, Try.zeroValue63, Try.underlying65, Try.runUnderlying65, Try.sizeOf65, Try.isAgg65, Try.zeroValue65, Try.underlying80, Try.runUnderlying80, Try.sizeOf80, Try.isAgg80, Try.zeroValue80, Try.underlying94, Try.runUnderlying94, Try.sizeOf94, Try.isAgg94, Try.zeroValue94, Try.underlying96, Try.runUnderlying96, Try.sizeOf96, Try.isAgg96, Try.zeroValue96, Try.underlying98, Try.runUnderlying98, Try.sizeOf98, Try.isAgg98, Try.zeroValue98, Try.underlying60, Try.runUnderlying60, Try.sizeOf60, Try.isAgg60, Try.zeroValue60, Try.underlying21, Try.runUnderlying21, Try.sizeOf21, Try.isAgg21, Try.zeroValue21, (by kernel_rfl)⟩
end Go.Proofs.Ytdgmbcmgjadoiaa
