/- The contracts of stage 1's reference: negative, less, size, signed, shift, high. -/
import Derived.Test.YtempdcbgbaglaaaW2
import Derived.Handy
set_option linter.unusedVariables false
namespace Go.Proofs.Ytempdcbgbaglaaa.W
open Go.RowKit
theorem c_neg (a : Int) (w : World) : Calls Try.prog 35 #[.int .u64 a] w fun e w' => e = .returned (.bool (decide (9223372036854775808 ≤ a))) ∧ w' = w := by
  go_enter Try.func35, Try.ntmps35
  go_wp2
  go_ret
  exact ⟨rfl, rfl⟩
theorem c_neg_t (a : Int) (h : 9223372036854775808 ≤ a) (w : World) : Calls Try.prog 35 #[.int .u64 a] w fun e w' => e = .returned (.bool true) ∧ w' = w := by
  have := c_neg a w; rwa [decide_eq_true h] at this
theorem c_neg_f (a : Int) (h : ¬ 9223372036854775808 ≤ a) (w : World) : Calls Try.prog 35 #[.int .u64 a] w fun e w' => e = .returned (.bool false) ∧ w' = w := by
  have := c_neg a w; rwa [decide_eq_false h] at this
theorem c_one (c : Bool) (w : World) : Calls Try.prog 36 #[.bool c] w fun e w' => e = .returned (.int .u64 (truF c)) ∧ w' = w := by
  cases c
  all_goals
    go_enter Try.func36, Try.ntmps36
    go_wp2
    go_ret
    exact ⟨rfl, rfl⟩
theorem c_less (a b : Int) (ha : word a) (hb : word b) (w : World) : Calls Try.prog 32 #[.int .u64 a, .int .u64 b] w fun e w' => e = .returned (.bool (decide (s64 a < s64 b))) ∧ w' = w := by
  by_cases h1 : 9223372036854775808 ≤ a <;> by_cases h2 : 9223372036854775808 ≤ b
  all_goals
    go_enter Try.func32, Try.ntmps32
    go_wp2_with (go_at_call 35; first | ((refine (c_neg_t _ (by omega) _).mono ?_); rintro e w' ⟨rfl, rfl⟩) | ((refine (c_neg_f _ (by omega) _).mono ?_); rintro e w' ⟨rfl, rfl⟩))
    go_ret
    refine ⟨ret_b ?_, rfl⟩
    obtain ⟨ha1, ha2⟩ := ha
    obtain ⟨hb1, hb2⟩ := hb
    unfold s64
    rw [Bool.eq_iff_iff]; simp only [decide_eq_true_eq, true_iff, false_iff, Bool.false_eq_true]
    (repeat' split) <;> omega
theorem c_size (a : Int) (ha : word a) (w : World) : Calls Try.prog 44 #[.int .u64 a] w fun e w' => e = .returned (.int .u64 (s64 a).natAbs) ∧ w' = w := by
  by_cases h1 : 9223372036854775808 ≤ a
  all_goals
    go_enter Try.func44, Try.ntmps44
    go_wp2_with (go_at_call 35; first | ((refine (c_neg_t _ (by omega) _).mono ?_); rintro e w' ⟨rfl, rfl⟩) | ((refine (c_neg_f _ (by omega) _).mono ?_); rintro e w' ⟨rfl, rfl⟩))
    go_ret
    refine ⟨ret_u64 ?_, rfl⟩
    obtain ⟨ha1, ha2⟩ := ha
    unfold s64
    try rw [wrap_mod]
    split <;> omega
theorem c_rlow (v b : Int) (hv : word v) (w : World) :
    Calls Try.prog 17 #[.int .u64 v, .int .i64 b] w fun e w' => e = .returned (.int .u64 (lowF v b)) ∧ w' = w := by
  obtain ⟨ha, hb⟩ := hv
  by_cases h1 : b ≤ 0
  · go_enter Try.func17, Try.ntmps17
    go_wp2
    go_ret
    exact ⟨ret_u64 (by unfold lowF; rw [if_pos h1]), rfl⟩
  · by_cases h2 : 64 ≤ b
    · go_enter Try.func17, Try.ntmps17
      go_wp2
      go_ret
      exact ⟨ret_u64 (by unfold lowF; rw [if_neg (by omega), if_pos h2]), rfl⟩
    · have hp : 0 < (2 : Int) ^ b.toNat := pow_pos _
      have hp2 : (2 : Int) ^ b.toNat ≠ 0 := by omega
      go_enter Try.func17, Try.ntmps17
      go_wp2_with (go_at_call 26; refine (c_power _ (by omega) (by omega) _).mono ?_; rintro e w' ⟨rfl, rfl⟩)
      go_ret
      exact ⟨ret_u64 (by unfold lowF; rw [if_neg (by omega), if_neg (by omega)]), rfl⟩
theorem c_rsign (v b : Int) (hv : word v) (w : World) :
    Calls Try.prog 15 #[.int .u64 v, .int .i64 b] w fun e w' => e = .returned (.int .u64 (sgnF v b)) ∧ w' = w := by
  have Hv := Lib.hid hv
  obtain ⟨ha, hb⟩ := hv
  by_cases h1 : b ≤ 0
  · go_enter Try.func15, Try.ntmps15
    go_wp2_with (go_at_call 17; refine (c_rlow _ _ Hv.out _).mono ?_; rintro e w' ⟨rfl, rfl⟩)
    go_ret
    exact ⟨ret_u64 (by unfold sgnF lowF; rw [if_pos h1, if_pos h1]), rfl⟩
  · by_cases h2 : 64 ≤ b
    · go_enter Try.func15, Try.ntmps15
      go_wp2_with (go_at_call 17; refine (c_rlow _ _ Hv.out _).mono ?_; rintro e w' ⟨rfl, rfl⟩)
      go_ret
      have e1 : lowF v b = v := by unfold lowF; rw [if_neg (by omega), if_pos h2]
      have e2 : sgnF v b = v := by unfold sgnF; rw [if_neg (by omega), if_pos h2]
      exact ⟨ret_u64 (by rw [e1, e2]), rfl⟩
    · have hl := Lib.hid (low_word v b Hv.out)
      have e0 := Lib.hid (show lowF v b = v % 2 ^ b.toNat from by unfold lowF; rw [if_neg (by omega), if_neg (by omega)])
      have p3 := Lib.hid (pow_lt64 b.toNat (by omega))
      have p4 := Lib.hid (pow_pos b.toNat)
      have e1 := Lib.hid (show (b - 1).toNat = b.toNat - 1 by omega)
      have e2 := Lib.hid (show sgnF v b = if lowF v b < 2 ^ (b.toNat - 1) then lowF v b else lowF v b - 2 ^ b.toNat + 18446744073709551616 from by
        unfold sgnF; rw [if_neg (by omega), if_neg (by omega), e0.out])
      go_enter Try.func15, Try.ntmps15
      go_wp2_with (first
        | (go_at_call 17; refine (c_rlow _ _ Hv.out _).mono ?_; rintro e w' ⟨rfl, rfl⟩)
        | (go_at_call 26; refine (c_power _ (by omega) (by omega) _).mono ?_; rintro e w' ⟨rfl, rfl⟩))
      all_goals
        go_ret
        refine ⟨ret_u64 ?_, rfl⟩
        rw [e2.out]
        have := hl.out.1; have := hl.out.2; have := p3.out; have := p4.out
        have h5 : lowF v b < 2 ^ b.toNat := by rw [e0.out]; exact Int.emod_lt_of_pos _ p4.out
        split
        · first | rfl | (exfalso; omega)
        · first | (rw [wrap_mod]; omega) | (exfalso; omega)
/-! ### shift -/
theorem pow_toNat (n : Int) (k : Nat) (h : n = k) : n.toNat = k := by omega
theorem shift0 (x : Int) (h : word x) : IntKind.u64.wrap (x / 2 + IntKind.u64.wrap 0) = x / 2 := by
  obtain ⟨h1, h2⟩ := h; rw [wrap_mod, wrap_mod]; omega
theorem div_div2 (a : Int) (k : Nat) : a / 2 ^ k / 2 = a / 2 ^ (k + 1) := by
  rw [Int.ediv_ediv_of_nonneg (Int.le_of_lt (pow_pos k)), pow_split]; rfl
/-- a word whose sign is below nought, moved to the right by k, its sign coming in -/
def sarN (a : Int) (k : Nat) : Int := s64 a / 2 ^ k + 18446744073709551616
theorem sarN_bd (a : Int) (k : Nat) (h1 : 9223372036854775808 ≤ a) (h2 : a < 18446744073709551616) : 9223372036854775808 ≤ sarN a k ∧ sarN a k < 18446744073709551616 := by
  have hs : s64 a = a - 18446744073709551616 := by unfold s64; rw [if_neg (by omega)]
  have p := pow_pos k
  unfold sarN; rw [hs]
  have l1 : (a - 18446744073709551616) / 2 ^ k < 0 := Int.ediv_neg_of_neg_of_pos (by omega) p
  have l2 : -9223372036854775808 ≤ (a - 18446744073709551616) / 2 ^ k := by
    rw [Int.le_ediv_iff_mul_le p]
    have : (1 : Int) ≤ 2 ^ k := by omega
    have := Int.mul_le_mul_of_nonneg_left this (show (0 : Int) ≤ 9223372036854775808 by decide)
    omega
  omega
theorem sarN_step (a : Int) (k : Nat) (h1 : 9223372036854775808 ≤ a) (h2 : a < 18446744073709551616) :
    sarN a k / 2 + 9223372036854775808 = sarN a (k + 1) := by
  have b1 := sarN_bd a k h1 h2
  have e : sarN a (k + 1) = (sarN a k - 18446744073709551616) / 2 + 18446744073709551616 := by
    unfold sarN; rw [← div_div2]; congr 2; omega
  rw [e]; omega
theorem c_shift0 (a n : Int) (ha : word a) (h0 : 0 ≤ n) (h1 : n ≤ 63) (w : World) :
    Calls Try.prog 37 #[.int .u64 a, .int .i64 n, .int .u64 0] w fun e w' => e = .returned (.int .u64 (a / 2 ^ n.toNat)) ∧ w' = w := by
  go_enter Try.func37, Try.ntmps37
  go_wp2
  go_loop [0, 7] (fun v i => ∃ k : Nat, (k : Int) ≤ n ∧ i = .int .i64 k ∧ v = .int .u64 (a / 2 ^ k)) (fun _ i => 63 - (intOf i).toNat)
  case atStart => exact ⟨0, by omega, rfl, by simp⟩
  case round =>
    obtain ⟨k, hk, rfl, rfl⟩ := hrel
    obtain ⟨w1, w2⟩ := shr_word a k ha
    have hs := Lib.hid (div_div2 a k)
    by_cases hlt : (k : Int) < n
    · go_wp2
      go_round
      case rel => exact ⟨k + 1, by omega, by go_num, by rw [← hs.out]⟩
      case measure => simp [intOf]; omega
    · go_wp2
      go_ret
      obtain rfl : n = k := by omega
      exact ⟨rfl, rfl⟩
theorem c_shift1 (a n : Int) (ha1 : 9223372036854775808 ≤ a) (ha2 : a < 18446744073709551616) (h0 : 0 ≤ n) (h1 : n ≤ 63) (w : World) :
    Calls Try.prog 37 #[.int .u64 a, .int .i64 n, .int .u64 1] w fun e w' => e = .returned (.int .u64 (sarN a n.toNat)) ∧ w' = w := by
  go_enter Try.func37, Try.ntmps37
  go_wp2
  go_loop [0, 7] (fun v i => ∃ k : Nat, (k : Int) ≤ n ∧ i = .int .i64 k ∧ v = .int .u64 (sarN a k)) (fun _ i => 63 - (intOf i).toNat)
  case atStart => exact ⟨0, by omega, rfl, by
    have : sarN a 0 = a := by unfold sarN s64; rw [if_neg (by omega)]; simp
    rw [this]⟩
  case round =>
    obtain ⟨k, hk, rfl, rfl⟩ := hrel
    obtain ⟨w1, w2⟩ := sarN_bd a k ha1 ha2
    have hs := Lib.hid (sarN_step a k ha1 ha2)
    by_cases hlt : (k : Int) < n
    · go_wp2
      go_round
      case rel => exact ⟨k + 1, by omega, by go_num, by rw [← hs.out]⟩
      case measure => simp [intOf]; omega
    · go_wp2
      go_ret
      obtain rfl : n = k := by omega
      exact ⟨rfl, rfl⟩
/-! ### high: by adding a shifted, bit by bit of b -/
def topF (a p : Int) : Int := a * p / 18446744073709551616
def lwF (a p : Int) : Int := a * p % 18446744073709551616
theorem ap_bd (a b : Int) (k : Nat) (hk : 0 < k) (ha : word a) (hb : word b) : 0 ≤ a * (b / 2 ^ k) ∧ a * (b / 2 ^ k) ≤ 170141183460469231704017187605319778305 := by
  obtain ⟨a1, a2⟩ := ha
  obtain ⟨b1, b2⟩ := hb
  have n1 : 0 ≤ b / 2 ^ k := Int.ediv_nonneg b1 (Int.le_of_lt (pow_pos k))
  have n2 : b / 2 ^ k ≤ 9223372036854775807 := by
    have e : (2 : Int) ^ k = 2 * 2 ^ (k - 1) := by rw [show (2 : Int) * 2 ^ (k - 1) = 2 ^ 1 * 2 ^ (k - 1) from rfl, ← pow_split]; congr 1; omega
    rw [e, ← Int.ediv_ediv_of_nonneg (by decide)]
    have := Int.ediv_le_self (2 ^ (k - 1)) (show 0 ≤ b / 2 by omega)
    omega
  have m1 : a * (b / 2 ^ k) ≤ 18446744073709551615 * 9223372036854775807 := Int.mul_le_mul (by omega) n2 n1 (by decide)
  exact ⟨Int.mul_nonneg a1 n1, by omega⟩
theorem bit_step (b : Int) (k : Nat) : b / 2 ^ k = b / 2 ^ (k + 1) * 2 + b / 2 ^ k % 2 := by
  rw [← div_div2]; omega
theorem hi_top (X : Int) (h0 : 0 ≤ X) (h1 : X < 170141183460469231731687303715884105728) :
    IntKind.u64.wrap (IntKind.u64.wrap (X / 18446744073709551616 * 2) + X % 18446744073709551616 / 9223372036854775808) = X * 2 / 18446744073709551616 := by
  rw [wrap_mod, wrap_mod]; omega
theorem hi_low (X : Int) : IntKind.u64.wrap (X % 18446744073709551616 * 2) = X * 2 % 18446744073709551616 := by
  rw [wrap_mod]; omega
theorem t_top (X : Int) (h0 : 0 ≤ X) (h1 : X < 170141183460469231731687303715884105728) :
    X / 18446744073709551616 * 2 + X % 18446744073709551616 / 9223372036854775808 = X * 2 / 18446744073709551616 := by omega
theorem t_low (X : Int) : X % 18446744073709551616 * 2 % 18446744073709551616 = X * 2 % 18446744073709551616 := by omega
theorem t_carry (Y a : Int) (ha : word a) (h : (Y % 18446744073709551616 + a) % 18446744073709551616 < Y % 18446744073709551616) :
    Y / 18446744073709551616 + 1 = (Y + a) / 18446744073709551616 := by
  obtain ⟨h1, h2⟩ := ha
  have : 18446744073709551616 ≤ Y % 18446744073709551616 + a := by omega
  omega
theorem t_nocarry (Y a : Int) (ha : word a) (h : Y % 18446744073709551616 ≤ (Y % 18446744073709551616 + a) % 18446744073709551616) :
    Y / 18446744073709551616 = (Y + a) / 18446744073709551616 := by
  obtain ⟨h1, h2⟩ := ha
  have : Y % 18446744073709551616 + a < 18446744073709551616 := by omega
  omega
theorem t_sum (Y a : Int) : (Y % 18446744073709551616 + a) % 18446744073709551616 = (Y + a) % 18446744073709551616 := by omega
theorem t_bd (Y a : Int) (h0 : 0 ≤ Y) (h1 : Y < 340282366920938463463374607431768211456) : Y / 18446744073709551616 < 18446744073709551616 ∧ 0 ≤ Y / 18446744073709551616 := by omega
set_option maxHeartbeats 800000 in
theorem c_rhigh (a b : Int) (ha : word a) (hb : word b) (w : World) :
    Calls Try.prog 38 #[.int .u64 a, .int .u64 b] w fun e w' => e = .returned (.int .u64 (hiF a b)) ∧ w' = w := by
  have Ha := Lib.hid ha
  have Hb := Lib.hid hb
  obtain ⟨ha1, ha2⟩ := ha
  obtain ⟨hb1, hb2⟩ := hb
  go_enter Try.func38, Try.ntmps38
  go_wp2
  go_loop [5, 6, 7] (fun t l i => ∃ k : Nat, k ≤ 64 ∧ i = .int .i64 ((k : Int) - 1) ∧ t = .int .u64 (topF a (b / 2 ^ k)) ∧ l = .int .u64 (lwF a (b / 2 ^ k))) (fun _ _ i => (intOf i + 1).toNat)
  case atStart =>
    have e : b / 2 ^ 64 = 0 := Int.ediv_eq_zero_of_lt hb1 hb2
    exact ⟨64, by omega, rfl, by rw [e]; simp [topF], by rw [e]; simp [lwF]⟩
  case round =>
    obtain ⟨k, hk, rfl, rfl, rfl⟩ := hrel
    rcases k with _ | k
    · go_wp2
      go_ret
      exact ⟨ret_u64 (by simp [topF, hiF]), rfl⟩
    · have p1 := pow_pos k
      have p2 : ¬ (2 : Int) ^ k = 0 := by omega
      have HX := Lib.hid (ap_bd a b (k + 1) (by omega) Ha.out Hb.out)
      have HB := Lib.hid (bit_step b k)
      have hbk : 0 ≤ b / 2 ^ k := Int.ediv_nonneg hb1 (by omega)
      have HT := Lib.hid (show topF a (b / 2 ^ (k + 1)) = a * (b / 2 ^ (k + 1)) / 18446744073709551616 from rfl)
      have HL := Lib.hid (show lwF a (b / 2 ^ (k + 1)) = a * (b / 2 ^ (k + 1)) % 18446744073709551616 from rfl)
      have t1 : 0 ≤ topF a (b / 2 ^ (k + 1)) := by have := HX.out; rw [HT.out]; omega
      have t2 : topF a (b / 2 ^ (k + 1)) < 9223372036854775808 := by have := HX.out; rw [HT.out]; omega
      have l1 : 0 ≤ lwF a (b / 2 ^ (k + 1)) := by rw [HL.out]; omega
      have l2 : lwF a (b / 2 ^ (k + 1)) < 18446744073709551616 := by rw [HL.out]; omega
      by_cases hbit : b / 2 ^ k % 2 = 1
      · have hb' : (b / 2 ^ k % 2 == 1) = true := by simpa using hbit
        have HE := Lib.hid (show a * (b / 2 ^ k) = a * (b / 2 ^ (k + 1)) * 2 + a from by rw [HB.out, hbit, Int.mul_add, Int.mul_one, Int.mul_assoc])
        clear hbit
        go_wp2_with (go_at_call 26; refine (c_power _ (by omega) (by omega) _).mono ?_; rintro e w' ⟨rfl, rfl⟩)
        all_goals
          refine ⟨⟨k, by omega, rfl, congrArg _ ?_, congrArg _ ?_⟩, by simp [intOf]⟩
          all_goals
            have h1 := HX.out; have h2 := HT.out; have h3 := HL.out; have h4 := HE.out
            simp only [wrap_mod, topF, lwF] at *
            rw [h4]
            generalize a * (b / 2 ^ (k + 1)) = X at *
            have e1 := t_top X h1.1 (by omega)
            have e2 := t_low X
            have e3 := t_sum (X * 2) a
            simp only [e1, e2] at *
            first
              | exact e3
              | exact t_nocarry _ _ ⟨ha1, ha2⟩ (by assumption)
              | (have e4 := t_carry (X * 2) a ⟨ha1, ha2⟩ (by assumption); clear e1 e2 e3; rw [e4]; omega)
      · have hb' : (b / 2 ^ k % 2 == 1) = false := by simpa using hbit
        have HE := Lib.hid (show a * (b / 2 ^ k) = a * (b / 2 ^ (k + 1)) * 2 from by
          rw [HB.out, show b / 2 ^ k % 2 = 0 by omega, Int.add_zero, Int.mul_assoc])
        clear hbit
        go_wp2_with (go_at_call 26; refine (c_power _ (by omega) (by omega) _).mono ?_; rintro e w' ⟨rfl, rfl⟩)
        refine ⟨⟨k, by omega, rfl, congrArg _ ?_, congrArg _ ?_⟩, by simp [intOf]⟩
        all_goals
          have h1 := HX.out; have h2 := HT.out; have h3 := HL.out; have h4 := HE.out
          try simp only [wrap_mod]
          simp only [topF, lwF]
          rw [h4]
          generalize a * (b / 2 ^ (k + 1)) = X at *
          first | exact t_top X h1.1 (by omega) | exact t_low X
end Go.Proofs.Ytempdcbgbaglaaa.W
