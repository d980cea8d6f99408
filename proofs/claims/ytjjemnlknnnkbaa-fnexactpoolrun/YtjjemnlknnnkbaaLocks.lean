import Derived.Test.YtjjemnlknnnkbaaProg
import Derived.Conc.MuLib
import Derived.KernelRfl
namespace Go.Proofs.Ytjjemnlknnnkbaa
abbrev muLink : Go.Conc.Locks.MuLink := { lock := 53, unlock := 54, ilock := 59, iunlock := 60, lockSlow := 67, unlockSlow := 70, disable := 63, enable := 65, acquire := 66, relMerge := 68, cas32 := 64, add32 := 69, tMutex := 83, tIMutex := 81, tPMutex := 111, tPIMutex := 112, tPI32 := 114, tUP := 116, tNoCopy := 78, tU32 := 79 }
theorem muLib : Go.Conc.Locks.MuLib Try.prog muLink :=
  ⟨Try.func53, Try.func54, Try.func59, Try.func60, Try.func63, Try.func65, Try.func66, Try.func68, Try.func64, Try.func69, Try.underlying81, Try.runUnderlying81, Try.sizeOf81, Try.isAgg81, Try.zeroValue81, Try.underlying83, Try.runUnderlying83, Try.sizeOf83, Try.isAgg83, Try.zeroValue83, Try.underlying111, Try.runUnderlying111, Try.sizeOf111, Try.isAgg111, Try.zeroValue111, Try.underlying112, Try.runUnderlying112, Try.sizeOf112, Try.isAgg112, Try.zeroValue112, Try.underlying114, Try.runUnderlying114, Try.sizeOf114, Try.isAgg114, Try.zeroValue114, Try.underlying116, Try.runUnderlying116, Try.sizeOf116, Try.isAgg116, Try.zeroValue116, Try.underlying78, Try.runUnderlying78, Try.sizeOf78, Try.isAgg78, Try.zeroValue78, Try.underlying21, Try.runUnderlying21, Try.sizeOf21, Try.isAgg21, Try.zeroValue21, (by kernel_rfl)⟩
end Go.Proofs.Ytjjemnlknnnkbaa
