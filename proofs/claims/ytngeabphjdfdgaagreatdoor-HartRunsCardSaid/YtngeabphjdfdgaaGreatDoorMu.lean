/- The numbers under which this program holds the lock's functions and types, and that it holds them. No condition. -/
import Derived.Test.YtngeabphjdfdgaaGreatDoorProg
import Derived.Conc.MuLone
import Derived.KernelRfl
namespace Go.Proofs
abbrev Tryz.muLink : Go.Conc.Locks.MuLink := { lock := 111, unlock := 112, ilock := 115, iunlock := 116, lockSlow := 123, unlockSlow := 126, disable := 119, enable := 121, acquire := 122, relMerge := 124, cas32 := 120, add32 := 125, tMutex := 86, tIMutex := 84, tPMutex := 159, tPIMutex := 162, tPI32 := 164, tUP := 166, tNoCopy := 79, tU32 := 49 }
theorem Tryz.muLib : Go.Conc.Locks.MuLib Tryz.prog Tryz.muLink :=
  ⟨Tryz.func111, Tryz.func112, Tryz.func115, Tryz.func116, Tryz.func119, Tryz.func121, Tryz.func122, Tryz.func124, Tryz.func120, Tryz.func125, Tryz.underlying84, Tryz.runUnderlying84, Tryz.sizeOf84, Tryz.isAgg84, Tryz.zeroValue84, Tryz.underlying86, Tryz.runUnderlying86, Tryz.sizeOf86, Tryz.isAgg86, Tryz.zeroValue86, Tryz.underlying159, Tryz.runUnderlying159, Tryz.sizeOf159, Tryz.isAgg159, Tryz.zeroValue159, Tryz.underlying162, Tryz.runUnderlying162, Tryz.sizeOf162, Tryz.isAgg162, Tryz.zeroValue162, Tryz.underlying164, Tryz.runUnderlying164, Tryz.sizeOf164, Tryz.isAgg164, Tryz.zeroValue164, Tryz.underlying166, Tryz.runUnderlying166, Tryz.sizeOf166, Tryz.isAgg166, Tryz.zeroValue166, Tryz.underlying79, Tryz.runUnderlying79, Tryz.sizeOf79, Tryz.isAgg79, Tryz.zeroValue79, Tryz.underlying21, Tryz.runUnderlying21, Tryz.sizeOf21, Tryz.isAgg21, Tryz.zeroValue21, (by kernel_rfl)⟩
end Go.Proofs
