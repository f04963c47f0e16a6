/- Stage 6: the document's disk in memory: numbers, power. No condition. -/
import Derived.Test.YtlpcccpagmipnaaGreatD4
set_option linter.unusedVariables false
namespace Go.Proofs.YtlpcccpagmipnaaGreat.P
open Go.RowKit
theorem c_may (n : Int) (w : World) : Calls Tryz.prog 63 #[.int .i64 n] w fun e w' => e = .returned (.bool (decide (48 ≤ n) && decide (n ≤ 544))) ∧ w' = w := by
  by_cases h1 : 48 ≤ n
  · rw [decide_eq_true h1, Bool.true_and]
    go_enter Tryz.func63, Tryz.ntmps63
    go_wp2
    go_ret
    exact ⟨rfl, rfl⟩
  · rw [decide_eq_false h1, Bool.false_and]
    go_enter Tryz.func63, Tryz.ntmps63
    go_wp2
    go_ret
    exact ⟨rfl, rfl⟩
def powI (z : DState) : Int := bif z.counted then z.acts else -1
end Go.Proofs.YtlpcccpagmipnaaGreat.P
