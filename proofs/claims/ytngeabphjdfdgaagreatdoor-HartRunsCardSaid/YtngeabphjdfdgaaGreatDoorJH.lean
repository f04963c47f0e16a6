/- Stage 5: what the listed variables give. No condition. -/
import Derived.Test.YtngeabphjdfdgaaGreatDoorJO
import Derived.Test.YtngeabphjdfdgaaGreatDoorRows
import Derived.Lib.LaidTab
import Derived.MakeChecks
import Derived.Stop.LaidErr
set_option linter.unusedVariables false
set_option maxRecDepth 100000
namespace Go.Proofs.YtngeabphjdfdgaaGreatDoor.P
open Go.RowKit
abbrev laidL : List (String × DataW Unit) := Rows.hartStepsRow.laid
theorem gForms : Tryz.prog.globalNamed "binnacle/inst.forms" = some 1 := by kernel_rfl
theorem tForms : (Tryz.prog.globals[1]?).map (·.type) = some 128 := by kernel_rfl
theorem gPlain : Tryz.prog.globalNamed "binnacle/hart.plain" = some 0 := by kernel_rfl
theorem tPlain : (Tryz.prog.globals[0]?).map (·.type) = some 109 := by kernel_rfl
theorem ft_of_laid {W : World} (h : laidMetH Tryz.prog laidL W) : FT W := by
  rw [MakeChecks.laidMetH_plain _ _ _ (by kernel_rfl)] at h
  have ht : Lib.TabIs Tryz.prog W "binnacle/inst.forms" .u8 fmL := Lib.tabIs_of_head gForms tForms Tryz.underlying128 Tryz.underlying5 (by kernel_rfl) (by kernel_rfl) h
  intro k hk
  have := ht.cell gForms k hk
  rw [this]
  unfold fmT
  rw [List.getD_eq_getElem?_getD, List.getElem?_eq_getElem hk]
theorem pt_of_laid {W : World} (h : laidMetH Tryz.prog laidL W) : PT W := by
  rw [MakeChecks.laidMetH_plain _ _ _ (by kernel_rfl)] at h
  have h2 := h.tail
  have ht : Lib.TabIs Tryz.prog W "binnacle/hart.plain" .i64 aluL := Lib.tabIs_of_head (rest := []) gPlain tPlain Tryz.underlying109 Tryz.underlying3 (by kernel_rfl) (by kernel_rfl) h2
  intro k hk
  have := ht.cell gPlain k hk
  rw [this]
end Go.Proofs.YtngeabphjdfdgaaGreatDoor.P
