/- Stage 12: the document's Size. No condition. -/
import Derived.Test.YtdlglnoffpnonaaPH
import Derived.Test.YtdlglnoffpnonaaPI
import Derived.Deep.DeepCutAuto
set_option linter.unusedVariables false
set_option linter.unusedSimpArgs false
set_option maxRecDepth 100000
namespace Go.Proofs.Ytdlglnoffpnonaa.P
open Go.RowKit Go.Proofs.Ytdlglnoffpnonaa.W
theorem r_pages12 (n : Nat) (hn : n ≤ 100000) (w : World) : Calls Try.prog 29 #[.int .i64 (n : Int)] w fun e w' => e = .returned (.int .i64 (pgN n : Nat)) ∧ w' = w := by
  obtain ⟨q, hq⟩ : ∃ q : Nat, n / 256 = q := ⟨_, rfl⟩
  have t1 : (n : Int).tdiv 256 = (q : Int) := by rw [Int.tdiv_eq_ediv_of_nonneg (by omega)]; omega
  have t2 : (n : Int).tmod 256 = ((n % 256 : Nat) : Int) := by rw [Int.tmod_eq_emod_of_nonneg (by omega)]; omega
  have w1 : IntKind.i64.wrap (q : Int) = (q : Int) := by rw [IntKind.wrap_i64]; omega
  have w2 : IntKind.i64.wrap ((q : Int) + 1) = (q : Int) + 1 := by rw [IntKind.wrap_i64]; omega
  have t3 : (n : Int) / 256 = (q : Int) := by omega
  obtain ⟨m, hm⟩ : ∃ m : Nat, n % 256 = m := ⟨_, rfl⟩
  rw [hm] at t2
  have w3 : IntKind.i64.wrap (m : Int) = (m : Int) := by rw [IntKind.wrap_i64]; omega
  have t4 : (n : Int) % 256 = (m : Int) := by omega
  by_cases h : 0 < m
  · have p1 : pgN n = q + 1 := by unfold pgN; omega
    rw [p1]
    have h2 : 0 < (m : Int) := by omega
    clear p1 hq hm hn
    go_enter Try.func29, Try.ntmps29
    go_wp2_with fail
    go_ret
    exact ⟨by go_num, rfl⟩
  · have p1 : pgN n = q := by unfold pgN; omega
    rw [p1]
    have h2 : ¬ 0 < (m : Int) := by omega
    clear p1 hq hm hn
    go_enter Try.func29, Try.ntmps29
    go_wp2_with fail
    go_ret
    exact ⟨by go_num, rfl⟩
end Go.Proofs.Ytdlglnoffpnonaa.P
