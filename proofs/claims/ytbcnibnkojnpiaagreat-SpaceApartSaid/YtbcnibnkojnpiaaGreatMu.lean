/- The numbers under which this program holds the lock's functions and types, and that it holds them. No condition. -/
import Derived.Test.YtbcnibnkojnpiaaGreatProg
import Derived.Conc.MuLone
import Derived.KernelRfl
namespace Go.Proofs
abbrev Tryz.muLink : Go.Conc.Locks.MuLink := { lock := 108, unlock := 109, ilock := 111, iunlock := 112, lockSlow := 119, unlockSlow := 122, disable := 115, enable := 117, acquire := 118, relMerge := 120, cas32 := 116, add32 := 121, tMutex := 114, tIMutex := 112, tPMutex := 173, tPIMutex := 176, tPI32 := 178, tUP := 163, tNoCopy := 106, tU32 := 108 }
theorem Tryz.muLib : Go.Conc.Locks.MuLib Tryz.prog Tryz.muLink :=
  ⟨Tryz.func108, Tryz.func109, Tryz.func111, Tryz.func112, Tryz.func115, Tryz.func117, Tryz.func118, Tryz.func120, Tryz.func116, Tryz.func121, Tryz.underlying112, Tryz.runUnderlying112, Tryz.sizeOf112, Tryz.isAgg112, Tryz.zeroValue112, Tryz.underlying114, Tryz.runUnderlying114, Tryz.sizeOf114, Tryz.isAgg114, Tryz.zeroValue114, Tryz.underlying173, Tryz.runUnderlying173, Tryz.sizeOf173, Tryz.isAgg173, Tryz.zeroValue173, Tryz.underlying176, Tryz.runUnderlying176, Tryz.sizeOf176, Tryz.isAgg176, Tryz.zeroValue176, Tryz.underlying178, Tryz.runUnderlying178, Tryz.sizeOf178, Tryz.isAgg178, Tryz.zeroValue178, Tryz.underlying163, Tryz.runUnderlying163, Tryz.sizeOf163, Tryz.isAgg163, Tryz.zeroValue163, Tryz.underlying106, Tryz.runUnderlying106, Tryz.sizeOf106, Tryz.isAgg106, Tryz.zeroValue106, Tryz.underlying21, Tryz.runUnderlying21, Tryz.sizeOf21, Tryz.isAgg21, Tryz.zeroValue21, (by kernel_rfl)⟩
end Go.Proofs
