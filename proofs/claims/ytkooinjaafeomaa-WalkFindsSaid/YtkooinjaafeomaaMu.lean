/- The numbers under which this program holds the lock's functions and types, and that it holds them. No condition. -/
import Derived.Test.YtkooinjaafeomaaProg
import Derived.Conc.MuLone
import Derived.KernelRfl
namespace Go.Proofs
abbrev Try.muLink : Go.Conc.Locks.MuLink := { lock := 51, unlock := 52, ilock := 54, iunlock := 55, lockSlow := 62, unlockSlow := 65, disable := 58, enable := 60, acquire := 61, relMerge := 63, cas32 := 59, add32 := 64, tMutex := 80, tIMutex := 78, tPMutex := 104, tPIMutex := 107, tPI32 := 109, tUP := 111, tNoCopy := 72, tU32 := 74 }
theorem Try.muLib : Go.Conc.Locks.MuLib Try.prog Try.muLink :=
  ⟨Try.func51, Try.func52, Try.func54, Try.func55, Try.func58, Try.func60, Try.func61, Try.func63, Try.func59, Try.func64, Try.underlying78, Try.runUnderlying78, Try.sizeOf78, Try.isAgg78, Try.zeroValue78, Try.underlying80, Try.runUnderlying80, Try.sizeOf80, Try.isAgg80, Try.zeroValue80, Try.underlying104, Try.runUnderlying104, Try.sizeOf104, Try.isAgg104, Try.zeroValue104, Try.underlying107, Try.runUnderlying107, Try.sizeOf107, Try.isAgg107, Try.zeroValue107, Try.underlying109, Try.runUnderlying109, Try.sizeOf109, Try.isAgg109, Try.zeroValue109, Try.underlying111, Try.runUnderlying111, Try.sizeOf111, Try.isAgg111, Try.zeroValue111, Try.underlying72, Try.runUnderlying72, Try.sizeOf72, Try.isAgg72, Try.zeroValue72, Try.underlying21, Try.runUnderlying21, Try.sizeOf21, Try.isAgg21, Try.zeroValue21, (by kernel_rfl)⟩
end Go.Proofs
