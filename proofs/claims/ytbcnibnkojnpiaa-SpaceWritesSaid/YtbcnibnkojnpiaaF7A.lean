/- Stage 10: acts. No condition. -/
import Derived.Test.YtbcnibnkojnpiaaF8
import Derived.Test.YtbcnibnkojnpiaaS
import Derived.Deep.DeepCutAuto
import Derived.Deep.LoopGhost
set_option linter.unusedVariables false
namespace Go.Proofs.Ytbcnibnkojnpiaa.P
open Go.RowKit Go.MuLone Go.Maps
structure FActV where
  kind : Int
  n : Int
  at_ : Int
def FActV.ok (x : FActV) : Prop := i64 x.kind ∧ i64 x.n ∧ u64 x.at_
/-- The acts lie there. -/
def FActs (w : World) (bl off len : Nat) (f : Nat → FActV) : Prop :=
  ∀ i, i < len → (f i).ok ∧ w.cell? ⟨bl, off + i * 3, none⟩ = some (.int .i64 (f i).kind) ∧ w.cell? ⟨bl, off + i * 3 + 1, none⟩ = some (.int .i64 (f i).n) ∧ w.cell? ⟨bl, off + i * 3 + 2, none⟩ = some (.int .u64 (f i).at_)
section
open Go.ChangeShapes Go.WideShapes Go.Deep
variable {H : Type} {enc : TypeId × Value → H} {w : World} {base : Nat} {spare : Nat → Bool} {held : Bool}
end
end Go.Proofs.Ytbcnibnkojnpiaa.P
