/- The numbers under which this program holds the lock's functions and types, and that it holds them. No condition. -/
import Derived.Test.YtngeabphjdfdgaaDoorProg
import Derived.Conc.MuLone
import Derived.KernelRfl
namespace Go.Proofs
abbrev Tryd.muLink : Go.Conc.Locks.MuLink := { lock := 70, unlock := 71, ilock := 77, iunlock := 78, lockSlow := 86, unlockSlow := 89, disable := 82, enable := 84, acquire := 85, relMerge := 87, cas32 := 83, add32 := 88, tMutex := 80, tIMutex := 78, tPMutex := 131, tPIMutex := 135, tPI32 := 137, tUP := 139, tNoCopy := 73, tU32 := 47 }
theorem Tryd.muLib : Go.Conc.Locks.MuLib Tryd.prog Tryd.muLink :=
  ⟨Tryd.func70, Tryd.func71, Tryd.func77, Tryd.func78, Tryd.func82, Tryd.func84, Tryd.func85, Tryd.func87, Tryd.func83, Tryd.func88, Tryd.underlying78, Tryd.runUnderlying78, Tryd.sizeOf78, Tryd.isAgg78, Tryd.zeroValue78, Tryd.underlying80, Tryd.runUnderlying80, Tryd.sizeOf80, Tryd.isAgg80, Tryd.zeroValue80, Tryd.underlying131, Tryd.runUnderlying131, Tryd.sizeOf131, Tryd.isAgg131, Tryd.zeroValue131, Tryd.underlying135, Tryd.runUnderlying135, Tryd.sizeOf135, Tryd.isAgg135, Tryd.zeroValue135, Tryd.underlying137, Tryd.runUnderlying137, Tryd.sizeOf137, Tryd.isAgg137, Tryd.zeroValue137, Tryd.underlying139, Tryd.runUnderlying139, Tryd.sizeOf139, Tryd.isAgg139, Tryd.zeroValue139, Tryd.underlying73, Tryd.runUnderlying73, Tryd.sizeOf73, Tryd.isAgg73, Tryd.zeroValue73, Tryd.underlying21, Tryd.runUnderlying21, Tryd.sizeOf21, Tryd.isAgg21, Tryd.zeroValue21, (by kernel_rfl)⟩
end Go.Proofs
