/- The contracts of stage 1's plainest calls: word.Low, word.Sign, and the reference's power, Low, Sign. -/
import Derived.Test.YtempdcbgbaglaaaChecked
import Derived.Test.YtempdcbgbaglaaaW1
import Derived.Handy
import Derived.Lib.Hide
set_option linter.unusedVariables false
namespace Go.Proofs.Ytempdcbgbaglaaa.W
open Go.RowKit

theorem ret_u64 {a b : Int} (h : a = b) : Ending.returned (.int .u64 a) = .returned (.int .u64 b) := by rw [h]
theorem ret_b {a b : Bool} (h : a = b) : Ending.returned (.bool a) = .returned (.bool b) := by rw [h]
theorem ret_2 {a b : Int} {c d : Bool} (h : a = b) (h2 : c = d) : Ending.returned (.tuple #[.int .u64 a, .bool c]) = .returned (.tuple #[.int .u64 b, .bool d]) := by rw [h, h2]

theorem c_low (v b : Int) (hv : word v) (w : World) :
    Calls Try.prog 16 #[.int .u64 v, .int .i64 b] w fun e w' => e = .returned (.int .u64 (lowF v b)) ∧ w' = w := by
  obtain ⟨ha, hb⟩ := hv
  by_cases h1 : b ≤ 0
  · go_enter Try.func16, Try.ntmps16
    go_wp2
    go_ret
    exact ⟨ret_u64 (by unfold lowF; rw [if_pos h1]), rfl⟩
  · by_cases h2 : 64 ≤ b
    · go_enter Try.func16, Try.ntmps16
      go_wp2
      go_ret
      exact ⟨ret_u64 (by unfold lowF; rw [if_neg (by omega), if_pos h2]), rfl⟩
    · go_enter Try.func16, Try.ntmps16
      go_wp2
      go_ret
      exact ⟨ret_u64 (low_impl v b ⟨ha, hb⟩ (by omega) (by omega)), rfl⟩

theorem c_sign (v b : Int) (hv : word v) (w : World) :
    Calls Try.prog 14 #[.int .u64 v, .int .i64 b] w fun e w' => e = .returned (.int .u64 (sgnF v b)) ∧ w' = w := by
  obtain ⟨ha, hb⟩ := hv
  by_cases h1 : b ≤ 0
  · go_enter Try.func14, Try.ntmps14
    go_wp2
    go_ret
    exact ⟨ret_u64 (by unfold sgnF; rw [if_pos h1]), rfl⟩
  · by_cases h2 : 64 ≤ b
    · go_enter Try.func14, Try.ntmps14
      go_wp2
      go_ret
      exact ⟨ret_u64 (by unfold sgnF; rw [if_neg (by omega), if_pos h2]), rfl⟩
    · go_enter Try.func14, Try.ntmps14
      go_wp2
      go_ret
      exact ⟨ret_u64 (sgn_impl v b ⟨ha, hb⟩ (by omega) (by omega)), rfl⟩

theorem pow_step (k : Nat) (h : k < 63) : IntKind.u64.wrap (2 ^ k * 2) = 2 ^ (k + 1) := by
  rw [show (2 : Int) ^ k * 2 = 2 ^ (k + 1) by rw [pow_split]; rfl]; exact pow_wrap _ (by omega)

set_option maxHeartbeats 400000 in
theorem c_power (n : Int) (h0 : 0 ≤ n) (h1 : n ≤ 63) (w : World) :
    Calls Try.prog 26 #[.int .i64 n] w fun e w' => e = .returned (.int .u64 (2 ^ n.toNat)) ∧ w' = w := by
  go_enter Try.func26, Try.ntmps26
  go_wp2
  go_loop [3, 4] (fun v i => ∃ k : Nat, (k : Int) ≤ n ∧ i = .int .i64 k ∧ v = .int .u64 (2 ^ k)) (fun _ i => 63 - (intOf i).toNat)
  case atStart => exact ⟨0, by omega, rfl, rfl⟩
  case round =>
    obtain ⟨k, hk, rfl, rfl⟩ := hrel
    by_cases hlt : (k : Int) < n
    · have hs := Lib.hid (pow_step k (by omega))
      go_wp2
      go_round
      case rel => exact ⟨k + 1, by omega, by go_num, by rw [hs.out]⟩
      case measure => simp [intOf]; omega
    · go_wp2
      go_ret
      obtain rfl : n = k := by omega
      exact ⟨rfl, rfl⟩
theorem wf_word {a : Int} (h : (Lit.int .u64 a).wf = true) : word a := by
  simp [Lit.wf, IntKind.min, IntKind.max, IntKind.bits, IntKind.signed] at h; exact ⟨by omega, by omega⟩
end Go.Proofs.Ytempdcbgbaglaaa.W
