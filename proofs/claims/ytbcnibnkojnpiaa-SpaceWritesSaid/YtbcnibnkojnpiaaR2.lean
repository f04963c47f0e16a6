/- Stage 3: the document's memory: Put, Store, Copy. No condition. -/
import Derived.Test.YtbcnibnkojnpiaaR1
import Derived.StillTailTactics
set_option linter.unusedVariables false
namespace Go.Proofs.Ytbcnibnkojnpiaa.P
open Go.RowKit Go.MuLone Go.Proofs.Ytbcnibnkojnpiaa.W
theorem RMemO.bytes {w w' : World} {rb vb : Nat} {s z : List UInt8} {t : Int} (h : RMemO w rb vb s t) (hc : Ch (· = vb) w w') (hl : z.length = s.length) (hb : w'.heap[vb]? = some (.cells (bys z) 5)) : RMemO w' rb vb z t :=
  ⟨by rw [hl]; exact hc.blk h.1 (fun e => h.2.1 e.symm), h.2.1, hb, by rw [hl]; exact h.2.2.2⟩
def RPutP (rb vb : Nat) (s : List UInt8) (t r : Int) (w : World) (e : Ending) (w' : World) : Prop :=
  e = .returned (.int .i64 r) ∧ RMemO w' rb vb s t ∧ Ch (fun x => x = rb ∨ some vb = some x) w w'
theorem arr_list (x : ByteArray) (i : Nat) (h : i < x.size) : x.data.toList[i]'(by simpa using h) = x[i] := rfl
end Go.Proofs.Ytbcnibnkojnpiaa.P
