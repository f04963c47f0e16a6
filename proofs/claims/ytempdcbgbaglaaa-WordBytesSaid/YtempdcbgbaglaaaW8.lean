/- The contracts of stage 1's reference: Wide, Reckon. -/
import Derived.Test.YtempdcbgbaglaaaW7
set_option linter.unusedVariables false
namespace Go.Proofs.Ytempdcbgbaglaaa.W
open Go.RowKit
theorem c_shiftF (a n : Int) (ha : word a) (h0 : 0 ≤ n) (h1 : n ≤ 63) (w : World) :
    Calls Try.prog 37 #[.int .u64 a, .int .i64 n, .int .u64 (truF false)] w fun e w' => e = .returned (.int .u64 (a / 2 ^ n.toNat)) ∧ w' = w := c_shift0 a n ha h0 h1 w
theorem c_shiftT (a n : Int) (ha1 : 9223372036854775808 ≤ a) (ha2 : a < 18446744073709551616) (h0 : 0 ≤ n) (h1 : n ≤ 63) (w : World) :
    Calls Try.prog 37 #[.int .u64 a, .int .i64 n, .int .u64 (truF true)] w fun e w' => e = .returned (.int .u64 (sarN a n.toNat)) ∧ w' = w := c_shift1 a n ha1 ha2 h0 h1 w
theorem sar_neg (a b : Int) (h1 : 9223372036854775808 ≤ a) (h2 : a < 18446744073709551616) : sarN a (b % 64).toNat = sarF a b := by
  have := sarN_bd a (b % 64).toNat h1 h2; unfold sarN at *; unfold sarF; omega
theorem sar_pos (a b : Int) (h1 : ¬ 9223372036854775808 ≤ a) (h2 : 0 ≤ a) : a / 2 ^ (b % 64).toNat = sarF a b := by
  have e : s64 a = a := by unfold s64; rw [if_pos (by omega)]
  have := shr_word a (b % 64).toNat ⟨h2, by omega⟩
  unfold sarF; rw [e]; obtain ⟨q1, q2⟩ := this; omega
set_option maxRecDepth 100000 in
set_option maxHeartbeats 1600000 in
theorem c_Wide1 (op a b : Int) (ha : word a) (hb : word b) (w : World) (hs : op = 35 ∨ op = 36 ∨ op = 37 ∨ op = 38 ∨ op = 39 ∨ op = 40 ∨ op = 41 ∨ op = 43 ∨ op = 44 ∨ op = 50 ∨ op = 53 ∨ op = 54 ∨ op = 56) :
    Calls Try.prog 30 #[.int .i64 op, .int .u64 a, .int .u64 b] w fun e w' => e = .returned (.int .u64 (wideF op a b)) ∧ w' = w := by
  have Ha := Lib.hid ha
  have Hb := Lib.hid hb
  obtain ⟨ha1, ha2⟩ := ha
  obtain ⟨hb1, hb2⟩ := hb
  rcases hs with rfl | rfl | rfl | rfl | rfl | rfl | rfl | rfl | rfl | rfl | rfl | rfl | rfl
  all_goals
    go_enter Try.func30, Try.ntmps30
    go_wp2_with (first
      | (go_at_call 35; (refine (c_neg _ _).mono ?_); rintro e w' ⟨rfl, rfl⟩)
      | (go_at_call 26; refine (c_power _ (by omega) (by omega) _).mono ?_; rintro e w' ⟨rfl, rfl⟩)
      | (go_at_call 32; refine (c_less _ _ Ha.out Hb.out _).mono ?_; rintro e w' ⟨rfl, rfl⟩)
      | (go_at_call 36; refine (c_one _ _).mono ?_; rintro e w' ⟨rfl, rfl⟩)
      | (go_at_call 37; refine (c_shift0 _ _ Ha.out (by omega) (by omega) _).mono ?_; rintro e w' ⟨rfl, rfl⟩)
      | (go_at_call 38; refine (c_rhigh _ _ Ha.out Hb.out _).mono ?_; rintro e w' ⟨rfl, rfl⟩)
      | (go_at_call 39; refine (c_signed _ _ Ha.out Hb.out _).mono ?_; rintro e w' ⟨rfl, rfl⟩))
    go_ret
    refine ⟨ret_u64 ?_, rfl⟩
    first | rfl | (rw [wrap_mod]; rfl) | exact u64_xor _ _ ha1 ha2 hb1 hb2 | exact u64_or _ _ ha1 ha2 hb1 hb2 | exact u64_and _ _ ha1 ha2 hb1 hb2 | skip
set_option maxRecDepth 100000 in
set_option maxHeartbeats 1600000 in
theorem c_Wide2 (op a b : Int) (ha : word a) (hb : word b) (w : World) (hs : op = 42 ∨ op = 51 ∨ op = 52 ∨ op = 55 ∨ op = 57) :
    Calls Try.prog 30 #[.int .i64 op, .int .u64 a, .int .u64 b] w fun e w' => e = .returned (.int .u64 (wideF op a b)) ∧ w' = w := by
  have Ha := Lib.hid ha
  have Hb := Lib.hid hb
  obtain ⟨ha1, ha2⟩ := ha
  obtain ⟨hb1, hb2⟩ := hb
  have Hs := Lib.hid hs
  clear hs
  by_cases h1 : 9223372036854775808 ≤ a <;> by_cases h2 : 9223372036854775808 ≤ b
  all_goals by_cases hz : b = 0
  all_goals first | (exfalso; omega) | skip
  all_goals
    try (have hz1 : (b != 0) = true := by simpa using hz)
    try subst hz
    have hs := Hs.out
    clear Hs
    rcases hs with rfl | rfl | rfl | rfl | rfl
    all_goals
      go_enter Try.func30, Try.ntmps30
      go_wp2_with (first
        | (go_at_call 35; first | ((refine (c_neg_t _ (by omega) _).mono ?_); rintro e w' ⟨rfl, rfl⟩) | ((refine (c_neg_f _ (by omega) _).mono ?_); rintro e w' ⟨rfl, rfl⟩))
        | (go_at_call 36; refine (c_one _ _).mono ?_; rintro e w' ⟨rfl, rfl⟩)
        | (go_at_call 37; first | ((with_reducible (refine (c_shiftF _ _ Ha.out (by omega) (by omega) _).mono ?_)); rintro e w' ⟨rfl, rfl⟩) | ((with_reducible (refine (c_shiftT _ _ (by omega) (by omega) (by omega) (by omega) _).mono ?_)); rintro e w' ⟨rfl, rfl⟩))
        | (go_at_call 38; refine (c_rhigh _ _ Ha.out Hb.out _).mono ?_; rintro e w' ⟨rfl, rfl⟩)
        | (go_at_call 39; refine (c_signed _ _ Ha.out Hb.out _).mono ?_; rintro e w' ⟨rfl, rfl⟩))
      go_ret
      refine ⟨ret_u64 ?_, rfl⟩
      have hh := hi_word a _ Ha.out Hb.out
      obtain ⟨hh1, hh2⟩ := hh
      first
        | rfl
        | exact sar_neg _ _ (by omega) (by omega)
        | exact sar_pos _ _ (by omega) (by omega)
        | (simp [wideF, abF, divuF, remuF, wrap_mod]; done) | (simp [wideF, divuF, remuF, hz]; done)
        | (simp [wideF, abF, wrap_mod]; omega)
        | (simp [wideF]; (repeat' split) <;> omega)
        | exact sar_neg a 0 (by omega) (by omega)
        | (have e := sar_pos a 0 (by omega) (by omega); show a = sarF a 0; simpa using e)
theorem c_Wide (op a b : Int) (ha : word a) (hb : word b) (w : World) (h : isWide op = true) :
    Calls Try.prog 30 #[.int .i64 op, .int .u64 a, .int .u64 b] w fun e w' => e = .returned (.int .u64 (wideF op a b)) ∧ w' = w := by
  unfold isWide at h
  have hs := of_decide_eq_true h
  by_cases h2 : op = 42 ∨ op = 51 ∨ op = 52 ∨ op = 55 ∨ op = 57
  · exact c_Wide2 op a b ha hb w h2
  · exact c_Wide1 op a b ha hb w (by omega)
end Go.Proofs.Ytempdcbgbaglaaa.W
