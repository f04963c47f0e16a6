/- Stage 1: the walks of WordSigns, WordNarrow. -/
import Derived.Test.YtempdcbgbaglaaaW17
set_option linter.unusedVariables false
namespace Go.Proofs.Ytempdcbgbaglaaa.W
open Go.RowKit
theorem sgn_full (a n : Int) (h : n ≤ 0 ∨ 64 ≤ n) : sgnF a n = lowF a n := by
  unfold sgnF lowF
  rcases h with h | h
  · rw [if_pos h, if_pos h]
  · rw [if_neg (by omega), if_pos h, if_neg (by omega), if_pos h]
theorem low_full (a n : Int) (h : n ≤ 0 ∨ 64 ≤ n) : lowF (lowF a n) n = lowF a n := by
  unfold lowF
  rcases h with h | h
  · rw [if_pos h, if_pos h]
  · rw [if_neg (by omega), if_pos h, if_neg (by omega), if_pos h]
theorem sgn_mid (a n : Int) (h1 : 0 < n) (h2 : n < 64) : sgnF a n = if lowF a n < 2 ^ (n.toNat - 1) then lowF a n else lowF a n - 2 ^ n.toNat + 18446744073709551616 := by
  have e : lowF a n = a % 2 ^ n.toNat := by unfold lowF; rw [if_neg (by omega), if_neg (by omega)]
  rw [e]; unfold sgnF; rw [if_neg (by omega), if_neg (by omega)]
theorem low_mid (a n : Int) (h1 : 0 < n) (h2 : n < 64) : lowF a n = a % 2 ^ n.toNat := by unfold lowF; rw [if_neg (by omega), if_neg (by omega)]
theorem low_sgn (a n : Int) : lowF (sgnF a n) n = lowF a n := by
  by_cases h : n ≤ 0 ∨ 64 ≤ n
  · rw [sgn_full a n h, low_full a n h]
  · have h1 : 0 < n := by omega
    have h2 : n < 64 := by omega
    rw [sgn_mid a n h1 h2, low_mid a n h1 h2, low_mid _ n h1 h2]
    have p := pow_pos n.toNat
    have hM : (18446744073709551616 : Int) = 2 ^ n.toNat * 2 ^ (64 - n.toNat) := by rw [← pow_split, show n.toNat + (64 - n.toNat) = 64 by omega]; rfl
    split
    · exact Int.emod_emod ..
    · rw [hM, Int.add_mul_emod_self_left, Int.sub_emod, Int.emod_self, Int.sub_zero, Int.emod_emod, Int.emod_emod]
theorem sgn_sgn (a n : Int) : sgnF (sgnF a n) n = sgnF a n := by
  by_cases h : n ≤ 0 ∨ 64 ≤ n
  · rw [sgn_full _ n h, low_sgn, sgn_full a n h]
  · have h1 : 0 < n := by omega
    have h2 : n < 64 := by omega
    rw [sgn_mid (sgnF a n) n h1 h2, low_sgn, ← sgn_mid a n h1 h2]
theorem top_sgn (a n : Int) (h1 : 0 < n) (h2 : n < 64) : sgnF a n / 2 ^ n.toNat = 0 ∨ sgnF a n / 2 ^ n.toNat = 18446744073709551615 / 2 ^ n.toNat := by
  have p := pow_pos n.toNat
  have q0 := Int.emod_nonneg a (show (2 : Int) ^ n.toNat ≠ 0 by omega)
  have q1 := Int.emod_lt_of_pos a p
  have hM : (18446744073709551616 : Int) = 2 ^ (64 - n.toNat) * 2 ^ n.toNat := by rw [← pow_split, show 64 - n.toNat + n.toNat = 64 by omega]; rfl
  rw [sgn_mid a n h1 h2, low_mid a n h1 h2]
  generalize a % 2 ^ n.toNat = r at *
  split
  · left; exact Int.ediv_eq_zero_of_lt q0 q1
  · right
    have e1 : r - 2 ^ n.toNat + 18446744073709551616 = r + (2 ^ (64 - n.toNat) - 1) * 2 ^ n.toNat := by rw [hM, Int.sub_mul, Int.one_mul]; omega
    have e2 : (18446744073709551615 : Int) = (2 ^ n.toNat - 1) + (2 ^ (64 - n.toNat) - 1) * 2 ^ n.toNat := by
      rw [show (18446744073709551615 : Int) = 18446744073709551616 - 1 by decide, hM, Int.sub_mul, Int.one_mul]; omega
    rw [e1, e2, Int.add_mul_ediv_right _ _ (by omega), Int.add_mul_ediv_right _ _ (by omega), Int.ediv_eq_zero_of_lt q0 q1, Int.ediv_eq_zero_of_lt (by omega) (by omega)]
set_option maxHeartbeats 800000 in
theorem l_signs (a n : Int) (ha : word a) (w : World) :
    Calls Try.prog 11 #[.int .u64 a, .int .i64 n] w fun e w' => e = .returned (.bool true) ∧ Gr w w' := by
  have HA := Lib.hid ha
  have HS := Lib.hid (sgn_word a n ha)
  have E1 := Lib.hid (sgn_sgn a n)
  have E2 := Lib.hid (low_sgn a n)
  obtain ⟨t1, t2⟩ := sgn_word a n ha
  clear ha
  have hs : n ≤ 0 ∨ 64 ≤ n ∨ (0 < n ∧ n < 64) := by omega
  rcases hs with hs | hs | ⟨h1, h2⟩
  · go_enter Try.func11, Try.ntmps11
    go_wp2_with fail
    refine (c_shown _).mono ?_; rintro e w1 ⟨rfl, g1⟩
    go_wp2_with fail
    refine (c_sign _ _ HA.out _).mono ?_; rintro e w2 ⟨rfl, rfl⟩
    go_wp2_with fail
    refine (c_sign _ _ HS.out _).mono ?_; rintro e w3 ⟨rfl, rfl⟩
    go_wp2_with fail
    refine (c_low _ _ HS.out _).mono ?_; rintro e w4 ⟨rfl, rfl⟩
    go_wp2_with fail
    refine (c_low _ _ HA.out _).mono ?_; rintro e w5 ⟨rfl, rfl⟩
    rw [E1.out, E2.out]
    go_wp2_with fail
    go_ret
    exact ⟨ret_b (by simp), g1⟩
  · go_enter Try.func11, Try.ntmps11
    go_wp2_with fail
    refine (c_shown _).mono ?_; rintro e w1 ⟨rfl, g1⟩
    go_wp2_with fail
    refine (c_sign _ _ HA.out _).mono ?_; rintro e w2 ⟨rfl, rfl⟩
    go_wp2_with fail
    refine (c_sign _ _ HS.out _).mono ?_; rintro e w3 ⟨rfl, rfl⟩
    go_wp2_with fail
    refine (c_low _ _ HS.out _).mono ?_; rintro e w4 ⟨rfl, rfl⟩
    go_wp2_with fail
    refine (c_low _ _ HA.out _).mono ?_; rintro e w5 ⟨rfl, rfl⟩
    rw [E1.out, E2.out]
    go_wp2_with fail
    go_ret
    exact ⟨ret_b (by simp), g1⟩
  · have T := top_sgn a n h1 h2
    have HT := Lib.hid T
    have b1 : (sgnF a n / 2 ^ n.toNat == 0) = true ∨ ((sgnF a n / 2 ^ n.toNat == 0) = false ∧ (sgnF a n / 2 ^ n.toNat == 18446744073709551615 / 2 ^ n.toNat) = true) := by
      by_cases h : sgnF a n / 2 ^ n.toNat = 0
      · left; simpa using h
      · right; exact ⟨by simpa using h, by rcases T with T | T; exact absurd T h; simpa using T⟩
    clear T
    rcases b1 with b1 | ⟨b1, b2⟩
    all_goals
      go_enter Try.func11, Try.ntmps11
      go_wp2_with fail
      refine (c_shown _).mono ?_; rintro e w1 ⟨rfl, g1⟩
      go_wp2_with fail
      refine (c_sign _ _ HA.out _).mono ?_; rintro e w2 ⟨rfl, rfl⟩
      go_wp2_with fail
      refine (c_sign _ _ HS.out _).mono ?_; rintro e w3 ⟨rfl, rfl⟩
      go_wp2_with fail
      refine (c_low _ _ HS.out _).mono ?_; rintro e w4 ⟨rfl, rfl⟩
      go_wp2_with fail
      refine (c_low _ _ HA.out _).mono ?_; rintro e w5 ⟨rfl, rfl⟩
      rw [E1.out, E2.out]
      go_wp2_with fail
      go_ret
      exact ⟨ret_b (by simp), g1⟩
end Go.Proofs.Ytempdcbgbaglaaa.W
