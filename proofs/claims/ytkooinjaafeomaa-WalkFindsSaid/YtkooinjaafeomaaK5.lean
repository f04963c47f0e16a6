/- Stage 4: the example's numbers. No condition. -/
import Derived.Test.YtkooinjaafeomaaK4
set_option linter.unusedVariables false
namespace Go.Proofs.Ytkooinjaafeomaa.P
open Go.RowKit Go.MuLone
def wShown (i : Nat) : WActV := match i with | 0 => ⟨0, 1025⟩ | 1 => ⟨256, 2049⟩ | _ => ⟨552, 3091⟩
def sShown : List UInt8 := stW wShown 3
theorem n1 : walkR 8 sShown 0 1287 1 = 0 := by decide +kernel
theorem n2 : walkV 8 sShown 0 1287 1 = 775 := by decide +kernel
theorem n3 : walkR 8 sShown 0 1287 2 = 3 := by decide +kernel
theorem n4 : walkR 8 sShown 0 1024 1 = 3 := by decide +kernel
theorem n5 : leafR 8 sShown 0 1280 = 0 := by decide +kernel
theorem n6 : leafV 8 sShown 0 1280 = 552 := by decide +kernel
end Go.Proofs.Ytkooinjaafeomaa.P
