/- Stage 1: the examples at the head of all statements. -/
import Derived.Test.YtempdcbgbaglaaaW14
import Derived.Test.YtempdcbgbaglaaaW11
set_option linter.unusedVariables false
namespace Go.Proofs.Ytempdcbgbaglaaa.W
open Go.RowKit
theorem wM : word 18446744073709551615 := ⟨by decide, by decide⟩
theorem w5 : word 5 := ⟨by decide, by decide⟩
theorem w7 : word 7 := ⟨by decide, by decide⟩
theorem w255 : word 255 := ⟨by decide, by decide⟩
theorem w258 : word 258 := ⟨by decide, by decide⟩
theorem x1 : sgnF 255 8 = 18446744073709551615 := by decide
theorem x2 : reckV 54 7 0 = 18446744073709551615 ∧ reckB 54 = true := by decide
theorem x3 : reckV 53 18446744073709551615 18446744073709551615 = 18446744073709551614 ∧ reckB 53 = true := by decide
theorem x4 : reckB 22 = false := by decide
theorem x5 : amoV 75 18446744073709551615 5 = 5 ∧ amoB 75 = true := by decide
theorem x6 : bytesF 258 2 = ⟨#[2, 1]⟩ := by decide
theorem s1 (w : World) : Calls Try.prog 14 #[.int .u64 255, .int .i64 8] w fun e w' => e = .returned (.int .u64 18446744073709551615) ∧ w' = w := by
  have := c_sign 255 8 w255 w; rwa [x1] at this
theorem s2 (w : World) : Calls Try.prog 18 #[.int .i64 54, .int .u64 7, .int .u64 0] w fun e w' => e = .returned (.tuple #[.int .u64 18446744073709551615, .bool true]) ∧ Gr w w' := by
  have := c_reckon 54 7 0 w7 w0 w; rwa [x2.1, x2.2] at this
theorem s3 (w : World) : Calls Try.prog 18 #[.int .i64 53, .int .u64 18446744073709551615, .int .u64 18446744073709551615] w fun e w' => e = .returned (.tuple #[.int .u64 18446744073709551614, .bool true]) ∧ Gr w w' := by
  have := c_reckon 53 18446744073709551615 18446744073709551615 wM wM w; rwa [x3.1, x3.2] at this
theorem s4 (w : World) : Calls Try.prog 18 #[.int .i64 22, .int .u64 1, .int .u64 1] w fun e w' => e = .returned (.tuple #[.int .u64 (reckV 22 1 1), .bool false]) ∧ Gr w w' := by
  have := c_reckon 22 1 1 w1 w1 w; rwa [x4] at this
theorem s5 (w : World) : Calls Try.prog 20 #[.int .i64 75, .int .u64 18446744073709551615, .int .u64 5] w fun e w' => e = .returned (.tuple #[.int .u64 5, .bool true]) ∧ w' = w := by
  have := c_amo 75 18446744073709551615 5 wM w5 w; rwa [x5.1, x5.2] at this
theorem s6 (w : World) : Calls Try.prog 22 #[.int .u64 258, .int .i64 2] w fun e w' => e = .returned (.string ⟨#[2, 1]⟩) ∧ Gr w w' := by
  have := c_bytes 258 2 w258 w; rwa [x6] at this
set_option maxHeartbeats 800000 in
theorem c_shown (w : World) : Calls Try.prog 13 #[] w fun e w' => e = .returned (.bool true) ∧ Gr w w' := by
  go_enter Try.func13, Try.ntmps13
  go_wp2_with fail
  refine (s1 _).mono ?_; rintro e w' ⟨rfl, rfl⟩
  go_wp2_with fail
  refine (s2 _).mono ?_; rintro e wa ⟨rfl, ha⟩
  go_wp2_with fail
  refine (s3 _).mono ?_; rintro e wb ⟨rfl, hb⟩
  go_wp2_with fail
  refine (s4 _).mono ?_; rintro e wc ⟨rfl, hc⟩
  go_wp2_with fail
  refine (s5 _).mono ?_; rintro e wd ⟨rfl, hd⟩
  go_wp2_with fail
  refine (s6 _).mono ?_; rintro e we ⟨rfl, he⟩
  go_wp2_with fail
  go_ret
  exact ⟨rfl, gtrans (gtrans (gtrans ha hb) hc) (hd ▸ he)⟩
end Go.Proofs.Ytempdcbgbaglaaa.W
