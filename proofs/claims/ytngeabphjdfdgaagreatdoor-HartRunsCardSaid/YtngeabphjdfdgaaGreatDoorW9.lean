/- The contracts of stage 1's reference: negative, less, size, signed, shift, high. -/
import Derived.Test.YtngeabphjdfdgaaGreatDoorW4
import Derived.Handy
set_option linter.unusedVariables false
namespace Go.Proofs.YtngeabphjdfdgaaGreatDoor.W
open Go.RowKit
theorem c_neg (a : Int) (w : World) : Calls Tryz.prog 97 #[.int .u64 a] w fun e w' => e = .returned (.bool (decide (9223372036854775808 ≤ a))) ∧ w' = w := by
  go_enter Tryz.func97, Tryz.ntmps97
  go_wp2
  go_ret
  exact ⟨rfl, rfl⟩
theorem c_neg_t (a : Int) (h : 9223372036854775808 ≤ a) (w : World) : Calls Tryz.prog 97 #[.int .u64 a] w fun e w' => e = .returned (.bool true) ∧ w' = w := by
  have := c_neg a w; rwa [decide_eq_true h] at this
theorem c_neg_f (a : Int) (h : ¬ 9223372036854775808 ≤ a) (w : World) : Calls Tryz.prog 97 #[.int .u64 a] w fun e w' => e = .returned (.bool false) ∧ w' = w := by
  have := c_neg a w; rwa [decide_eq_false h] at this
theorem c_one (c : Bool) (w : World) : Calls Tryz.prog 98 #[.bool c] w fun e w' => e = .returned (.int .u64 (truF c)) ∧ w' = w := by
  cases c
  all_goals
    go_enter Tryz.func98, Tryz.ntmps98
    go_wp2
    go_ret
    exact ⟨rfl, rfl⟩
theorem c_less (a b : Int) (ha : word a) (hb : word b) (w : World) : Calls Tryz.prog 99 #[.int .u64 a, .int .u64 b] w fun e w' => e = .returned (.bool (decide (s64 a < s64 b))) ∧ w' = w := by
  by_cases h1 : 9223372036854775808 ≤ a <;> by_cases h2 : 9223372036854775808 ≤ b
  all_goals
    go_enter Tryz.func99, Tryz.ntmps99
    go_wp2_with (go_at_call 97; first | ((refine (c_neg_t _ (by omega) _).mono ?_); rintro e w' ⟨rfl, rfl⟩) | ((refine (c_neg_f _ (by omega) _).mono ?_); rintro e w' ⟨rfl, rfl⟩))
    go_ret
    refine ⟨ret_b ?_, rfl⟩
    obtain ⟨ha1, ha2⟩ := ha
    obtain ⟨hb1, hb2⟩ := hb
    unfold s64
    rw [Bool.eq_iff_iff]; simp only [decide_eq_true_eq, true_iff, false_iff, Bool.false_eq_true]
    (repeat' split) <;> omega
theorem c_size (a : Int) (ha : word a) (w : World) : Calls Tryz.prog 109 #[.int .u64 a] w fun e w' => e = .returned (.int .u64 (s64 a).natAbs) ∧ w' = w := by
  by_cases h1 : 9223372036854775808 ≤ a
  all_goals
    go_enter Tryz.func109, Tryz.ntmps109
    go_wp2_with (go_at_call 97; first | ((refine (c_neg_t _ (by omega) _).mono ?_); rintro e w' ⟨rfl, rfl⟩) | ((refine (c_neg_f _ (by omega) _).mono ?_); rintro e w' ⟨rfl, rfl⟩))
    go_ret
    refine ⟨ret_u64 ?_, rfl⟩
    obtain ⟨ha1, ha2⟩ := ha
    unfold s64
    try rw [wrap_mod]
    split <;> omega
theorem c_rlow (v b : Int) (hv : word v) (w : World) :
    Calls Tryz.prog 83 #[.int .u64 v, .int .i64 b] w fun e w' => e = .returned (.int .u64 (lowF v b)) ∧ w' = w := by
  obtain ⟨ha, hb⟩ := hv
  by_cases h1 : b ≤ 0
  · go_enter Tryz.func83, Tryz.ntmps83
    go_wp2
    go_ret
    exact ⟨ret_u64 (by unfold lowF; rw [if_pos h1]), rfl⟩
  · by_cases h2 : 64 ≤ b
    · go_enter Tryz.func83, Tryz.ntmps83
      go_wp2
      go_ret
      exact ⟨ret_u64 (by unfold lowF; rw [if_neg (by omega), if_pos h2]), rfl⟩
    · have hp : 0 < (2 : Int) ^ b.toNat := pow_pos _
      have hp2 : (2 : Int) ^ b.toNat ≠ 0 := by omega
      go_enter Tryz.func83, Tryz.ntmps83
      go_wp2_with (go_at_call 96; refine (c_power _ (by omega) (by omega) _).mono ?_; rintro e w' ⟨rfl, rfl⟩)
      go_ret
      exact ⟨ret_u64 (by unfold lowF; rw [if_neg (by omega), if_neg (by omega)]), rfl⟩
theorem c_rsign (v b : Int) (hv : word v) (w : World) :
    Calls Tryz.prog 81 #[.int .u64 v, .int .i64 b] w fun e w' => e = .returned (.int .u64 (sgnF v b)) ∧ w' = w := by
  have Hv := Lib.hid hv
  obtain ⟨ha, hb⟩ := hv
  by_cases h1 : b ≤ 0
  · go_enter Tryz.func81, Tryz.ntmps81
    go_wp2_with (go_at_call 83; refine (c_rlow _ _ Hv.out _).mono ?_; rintro e w' ⟨rfl, rfl⟩)
    go_ret
    exact ⟨ret_u64 (by unfold sgnF lowF; rw [if_pos h1, if_pos h1]), rfl⟩
  · by_cases h2 : 64 ≤ b
    · go_enter Tryz.func81, Tryz.ntmps81
      go_wp2_with (go_at_call 83; refine (c_rlow _ _ Hv.out _).mono ?_; rintro e w' ⟨rfl, rfl⟩)
      go_ret
      have e1 : lowF v b = v := by unfold lowF; rw [if_neg (by omega), if_pos h2]
      have e2 : sgnF v b = v := by unfold sgnF; rw [if_neg (by omega), if_pos h2]
      exact ⟨ret_u64 (by rw [e1, e2]), rfl⟩
    · have hl := Lib.hid (low_word v b Hv.out)
      have e0 := Lib.hid (show lowF v b = v % 2 ^ b.toNat from by unfold lowF; rw [if_neg (by omega), if_neg (by omega)])
      have p3 := Lib.hid (pow_lt64 b.toNat (by omega))
      have p4 := Lib.hid (pow_pos b.toNat)
      have e1 := Lib.hid (show (b - 1).toNat = b.toNat - 1 by omega)
      have e2 := Lib.hid (show sgnF v b = if lowF v b < 2 ^ (b.toNat - 1) then lowF v b else lowF v b - 2 ^ b.toNat + 18446744073709551616 from by
        unfold sgnF; rw [if_neg (by omega), if_neg (by omega), e0.out])
      go_enter Tryz.func81, Tryz.ntmps81
      go_wp2_with (first
        | (go_at_call 83; refine (c_rlow _ _ Hv.out _).mono ?_; rintro e w' ⟨rfl, rfl⟩)
        | (go_at_call 96; refine (c_power _ (by omega) (by omega) _).mono ?_; rintro e w' ⟨rfl, rfl⟩))
      all_goals
        go_ret
        refine ⟨ret_u64 ?_, rfl⟩
        rw [e2.out]
        have := hl.out.1; have := hl.out.2; have := p3.out; have := p4.out
        have h5 : lowF v b < 2 ^ b.toNat := by rw [e0.out]; exact Int.emod_lt_of_pos _ p4.out
        split
        · first | rfl | (exfalso; omega)
        · first | (rw [wrap_mod]; omega) | (exfalso; omega)
/-! ### shift -/
theorem pow_toNat (n : Int) (k : Nat) (h : n = k) : n.toNat = k := by omega
theorem shift0 (x : Int) (h : word x) : IntKind.u64.wrap (x / 2 + IntKind.u64.wrap 0) = x / 2 := by
  obtain ⟨h1, h2⟩ := h; rw [wrap_mod, wrap_mod]; omega
theorem div_div2 (a : Int) (k : Nat) : a / 2 ^ k / 2 = a / 2 ^ (k + 1) := by
  rw [Int.ediv_ediv_of_nonneg (Int.le_of_lt (pow_pos k)), pow_split]; rfl
/-- a word whose sign is below nought, moved to the right by k, its sign coming in -/
def sarN (a : Int) (k : Nat) : Int := s64 a / 2 ^ k + 18446744073709551616
theorem sarN_bd (a : Int) (k : Nat) (h1 : 9223372036854775808 ≤ a) (h2 : a < 18446744073709551616) : 9223372036854775808 ≤ sarN a k ∧ sarN a k < 18446744073709551616 := by
  have hs : s64 a = a - 18446744073709551616 := by unfold s64; rw [if_neg (by omega)]
  have p := pow_pos k
  unfold sarN; rw [hs]
  have l1 : (a - 18446744073709551616) / 2 ^ k < 0 := Int.ediv_neg_of_neg_of_pos (by omega) p
  have l2 : -9223372036854775808 ≤ (a - 18446744073709551616) / 2 ^ k := by
    rw [Int.le_ediv_iff_mul_le p]
    have : (1 : Int) ≤ 2 ^ k := by omega
    have := Int.mul_le_mul_of_nonneg_left this (show (0 : Int) ≤ 9223372036854775808 by decide)
    omega
  omega
theorem sarN_step (a : Int) (k : Nat) (h1 : 9223372036854775808 ≤ a) (h2 : a < 18446744073709551616) :
    sarN a k / 2 + 9223372036854775808 = sarN a (k + 1) := by
  have b1 := sarN_bd a k h1 h2
  have e : sarN a (k + 1) = (sarN a k - 18446744073709551616) / 2 + 18446744073709551616 := by
    unfold sarN; rw [← div_div2]; congr 2; omega
  rw [e]; omega
theorem c_shift0 (a n : Int) (ha : word a) (h0 : 0 ≤ n) (h1 : n ≤ 63) (w : World) :
    Calls Tryz.prog 100 #[.int .u64 a, .int .i64 n, .int .u64 0] w fun e w' => e = .returned (.int .u64 (a / 2 ^ n.toNat)) ∧ w' = w := by
  go_enter Tryz.func100, Tryz.ntmps100
  go_wp2
  go_loop [0, 7] (fun v i => ∃ k : Nat, (k : Int) ≤ n ∧ i = .int .i64 k ∧ v = .int .u64 (a / 2 ^ k)) (fun _ i => 63 - (intOf i).toNat)
  case atStart => exact ⟨0, by omega, rfl, by simp⟩
  case round =>
    obtain ⟨k, hk, rfl, rfl⟩ := hrel
    obtain ⟨w1, w2⟩ := shr_word a k ha
    have hs := Lib.hid (div_div2 a k)
    by_cases hlt : (k : Int) < n
    · go_wp2
      go_round
      case rel => exact ⟨k + 1, by omega, by go_num, by rw [← hs.out]⟩
      case measure => simp [intOf]; omega
    · go_wp2
      go_ret
      obtain rfl : n = k := by omega
      exact ⟨rfl, rfl⟩
theorem c_shift1 (a n : Int) (ha1 : 9223372036854775808 ≤ a) (ha2 : a < 18446744073709551616) (h0 : 0 ≤ n) (h1 : n ≤ 63) (w : World) :
    Calls Tryz.prog 100 #[.int .u64 a, .int .i64 n, .int .u64 1] w fun e w' => e = .returned (.int .u64 (sarN a n.toNat)) ∧ w' = w := by
  go_enter Tryz.func100, Tryz.ntmps100
  go_wp2
  go_loop [0, 7] (fun v i => ∃ k : Nat, (k : Int) ≤ n ∧ i = .int .i64 k ∧ v = .int .u64 (sarN a k)) (fun _ i => 63 - (intOf i).toNat)
  case atStart => exact ⟨0, by omega, rfl, by
    have : sarN a 0 = a := by unfold sarN s64; rw [if_neg (by omega)]; simp
    rw [this]⟩
  case round =>
    obtain ⟨k, hk, rfl, rfl⟩ := hrel
    obtain ⟨w1, w2⟩ := sarN_bd a k ha1 ha2
    have hs := Lib.hid (sarN_step a k ha1 ha2)
    by_cases hlt : (k : Int) < n
    · go_wp2
      go_round
      case rel => exact ⟨k + 1, by omega, by go_num, by rw [← hs.out]⟩
      case measure => simp [intOf]; omega
    · go_wp2
      go_ret
      obtain rfl : n = k := by omega
      exact ⟨rfl, rfl⟩
/-! ### high: by adding a shifted, bit by bit of b -/
def topF (a p : Int) : Int := a * p / 18446744073709551616
def lwF (a p : Int) : Int := a * p % 18446744073709551616
theorem ap_bd (a b : Int) (k : Nat) (hk : 0 < k) (ha : word a) (hb : word b) : 0 ≤ a * (b / 2 ^ k) ∧ a * (b / 2 ^ k) ≤ 170141183460469231704017187605319778305 := by
  obtain ⟨a1, a2⟩ := ha
  obtain ⟨b1, b2⟩ := hb
  have n1 : 0 ≤ b / 2 ^ k := Int.ediv_nonneg b1 (Int.le_of_lt (pow_pos k))
  have n2 : b / 2 ^ k ≤ 9223372036854775807 := by
    have e : (2 : Int) ^ k = 2 * 2 ^ (k - 1) := by rw [show (2 : Int) * 2 ^ (k - 1) = 2 ^ 1 * 2 ^ (k - 1) from rfl, ← pow_split]; congr 1; omega
    rw [e, ← Int.ediv_ediv_of_nonneg (by decide)]
    have := Int.ediv_le_self (2 ^ (k - 1)) (show 0 ≤ b / 2 by omega)
    omega
  have m1 : a * (b / 2 ^ k) ≤ 18446744073709551615 * 9223372036854775807 := Int.mul_le_mul (by omega) n2 n1 (by decide)
  exact ⟨Int.mul_nonneg a1 n1, by omega⟩
theorem bit_step (b : Int) (k : Nat) : b / 2 ^ k = b / 2 ^ (k + 1) * 2 + b / 2 ^ k % 2 := by
  rw [← div_div2]; omega
theorem hi_top (X : Int) (h0 : 0 ≤ X) (h1 : X < 170141183460469231731687303715884105728) :
    IntKind.u64.wrap (IntKind.u64.wrap (X / 18446744073709551616 * 2) + X % 18446744073709551616 / 9223372036854775808) = X * 2 / 18446744073709551616 := by
  rw [wrap_mod, wrap_mod]; omega
theorem hi_low (X : Int) : IntKind.u64.wrap (X % 18446744073709551616 * 2) = X * 2 % 18446744073709551616 := by
  rw [wrap_mod]; omega
theorem t_top (X : Int) (h0 : 0 ≤ X) (h1 : X < 170141183460469231731687303715884105728) :
    X / 18446744073709551616 * 2 + X % 18446744073709551616 / 9223372036854775808 = X * 2 / 18446744073709551616 := by omega
theorem t_low (X : Int) : X % 18446744073709551616 * 2 % 18446744073709551616 = X * 2 % 18446744073709551616 := by omega
theorem t_carry (Y a : Int) (ha : word a) (h : (Y % 18446744073709551616 + a) % 18446744073709551616 < Y % 18446744073709551616) :
    Y / 18446744073709551616 + 1 = (Y + a) / 18446744073709551616 := by
  obtain ⟨h1, h2⟩ := ha
  have : 18446744073709551616 ≤ Y % 18446744073709551616 + a := by omega
  omega
theorem t_nocarry (Y a : Int) (ha : word a) (h : Y % 18446744073709551616 ≤ (Y % 18446744073709551616 + a) % 18446744073709551616) :
    Y / 18446744073709551616 = (Y + a) / 18446744073709551616 := by
  obtain ⟨h1, h2⟩ := ha
  have : Y % 18446744073709551616 + a < 18446744073709551616 := by omega
  omega
theorem t_sum (Y a : Int) : (Y % 18446744073709551616 + a) % 18446744073709551616 = (Y + a) % 18446744073709551616 := by omega
theorem t_bd (Y a : Int) (h0 : 0 ≤ Y) (h1 : Y < 340282366920938463463374607431768211456) : Y / 18446744073709551616 < 18446744073709551616 ∧ 0 ≤ Y / 18446744073709551616 := by omega
set_option maxHeartbeats 800000 in
theorem c_rhigh (a b : Int) (ha : word a) (hb : word b) (w : World) :
    Calls Tryz.prog 101 #[.int .u64 a, .int .u64 b] w fun e w' => e = .returned (.int .u64 (hiF a b)) ∧ w' = w := by
  have Ha := Lib.hid ha
  have Hb := Lib.hid hb
  obtain ⟨ha1, ha2⟩ := ha
  obtain ⟨hb1, hb2⟩ := hb
  go_enter Tryz.func101, Tryz.ntmps101
  go_wp2
  go_loop [5, 6, 7] (fun t l i => ∃ k : Nat, k ≤ 64 ∧ i = .int .i64 ((k : Int) - 1) ∧ t = .int .u64 (topF a (b / 2 ^ k)) ∧ l = .int .u64 (lwF a (b / 2 ^ k))) (fun _ _ i => (intOf i + 1).toNat)
  case atStart =>
    have e : b / 2 ^ 64 = 0 := Int.ediv_eq_zero_of_lt hb1 hb2
    exact ⟨64, by omega, rfl, by rw [e]; simp [topF], by rw [e]; simp [lwF]⟩
  case round =>
    obtain ⟨k, hk, rfl, rfl, rfl⟩ := hrel
    rcases k with _ | k
    · go_wp2
      go_ret
      exact ⟨ret_u64 (by simp [topF, hiF]), rfl⟩
    · have p1 := pow_pos k
      have p2 : ¬ (2 : Int) ^ k = 0 := by omega
      have HX := Lib.hid (ap_bd a b (k + 1) (by omega) Ha.out Hb.out)
      have HB := Lib.hid (bit_step b k)
      have hbk : 0 ≤ b / 2 ^ k := Int.ediv_nonneg hb1 (by omega)
      have HT := Lib.hid (show topF a (b / 2 ^ (k + 1)) = a * (b / 2 ^ (k + 1)) / 18446744073709551616 from rfl)
      have HL := Lib.hid (show lwF a (b / 2 ^ (k + 1)) = a * (b / 2 ^ (k + 1)) % 18446744073709551616 from rfl)
      have t1 : 0 ≤ topF a (b / 2 ^ (k + 1)) := by have := HX.out; rw [HT.out]; omega
      have t2 : topF a (b / 2 ^ (k + 1)) < 9223372036854775808 := by have := HX.out; rw [HT.out]; omega
      have l1 : 0 ≤ lwF a (b / 2 ^ (k + 1)) := by rw [HL.out]; omega
      have l2 : lwF a (b / 2 ^ (k + 1)) < 18446744073709551616 := by rw [HL.out]; omega
      by_cases hbit : b / 2 ^ k % 2 = 1
      · have hb' : (b / 2 ^ k % 2 == 1) = true := by simpa using hbit
        have HE := Lib.hid (show a * (b / 2 ^ k) = a * (b / 2 ^ (k + 1)) * 2 + a from by rw [HB.out, hbit, Int.mul_add, Int.mul_one, Int.mul_assoc])
        clear hbit
        go_wp2_with (go_at_call 96; refine (c_power _ (by omega) (by omega) _).mono ?_; rintro e w' ⟨rfl, rfl⟩)
        all_goals
          refine ⟨⟨k, by omega, rfl, congrArg _ ?_, congrArg _ ?_⟩, by simp [intOf]⟩
          all_goals
            have h1 := HX.out; have h2 := HT.out; have h3 := HL.out; have h4 := HE.out
            simp only [wrap_mod, topF, lwF] at *
            rw [h4]
            generalize a * (b / 2 ^ (k + 1)) = X at *
            have e1 := t_top X h1.1 (by omega)
            have e2 := t_low X
            have e3 := t_sum (X * 2) a
            simp only [e1, e2] at *
            first
              | exact e3
              | exact t_nocarry _ _ ⟨ha1, ha2⟩ (by assumption)
              | (have e4 := t_carry (X * 2) a ⟨ha1, ha2⟩ (by assumption); clear e1 e2 e3; rw [e4]; omega)
      · have hb' : (b / 2 ^ k % 2 == 1) = false := by simpa using hbit
        have HE := Lib.hid (show a * (b / 2 ^ k) = a * (b / 2 ^ (k + 1)) * 2 from by
          rw [HB.out, show b / 2 ^ k % 2 = 0 by omega, Int.add_zero, Int.mul_assoc])
        clear hbit
        go_wp2_with (go_at_call 96; refine (c_power _ (by omega) (by omega) _).mono ?_; rintro e w' ⟨rfl, rfl⟩)
        refine ⟨⟨k, by omega, rfl, congrArg _ ?_, congrArg _ ?_⟩, by simp [intOf]⟩
        all_goals
          have h1 := HX.out; have h2 := HT.out; have h3 := HL.out; have h4 := HE.out
          try simp only [wrap_mod]
          simp only [topF, lwF]
          rw [h4]
          generalize a * (b / 2 ^ (k + 1)) = X at *
          first | exact t_top X h1.1 (by omega) | exact t_low X
end Go.Proofs.YtngeabphjdfdgaaGreatDoor.W
namespace Go.Proofs.YtngeabphjdfdgaaGreatDoor.W
open Go.RowKit
def nA (a : Int) : Int := ((s64 a).natAbs : Int)
theorem nA_bd (a : Int) (h : word a) : 0 ≤ nA a ∧ nA a ≤ 9223372036854775808 := by
  obtain ⟨h1, h2⟩ := h; unfold nA s64; split <;> omega
theorem nA_pos (b : Int) (h : word b) (h0 : b ≠ 0) : 1 ≤ nA b := by
  obtain ⟨h1, h2⟩ := h; unfold nA s64; split <;> omega
theorem s64_neg (a : Int) (h : word a) : s64 a < 0 ↔ 9223372036854775808 ≤ a := by
  obtain ⟨h1, h2⟩ := h; unfold s64; split <;> omega
theorem div_pp (a b : Int) (ha : word a) (hb : word b) (h0 : b ≠ 0) (h : (9223372036854775808 ≤ a) = (9223372036854775808 ≤ b)) : nA a / nA b = divF a b := by
  have e1 := s64_neg a ha; have e2 := s64_neg b hb
  have q := nA_bd a ha; have q2 := nA_pos b hb h0
  have hq : nA a / nA b ≤ nA a := Int.ediv_le_self _ q.1
  have hq0 : 0 ≤ nA a / nA b := Int.ediv_nonneg q.1 (by omega)
  have e : (s64 a).tdiv (s64 b) = nA a / nA b := by
    by_cases hs : 9223372036854775808 ≤ a
    · have hs2 : 9223372036854775808 ≤ b := by rw [← h]; exact hs
      rw [← Int.neg_tdiv_neg, Int.tdiv_eq_ediv_of_nonneg (by omega), show nA a = - s64 a from by unfold nA; omega, show nA b = - s64 b from by unfold nA; omega]
    · have hs2 : ¬ 9223372036854775808 ≤ b := by rw [← h]; exact hs
      rw [Int.tdiv_eq_ediv_of_nonneg (by omega), show nA a = s64 a from by unfold nA; omega, show nA b = s64 b from by unfold nA; omega]
  unfold divF; rw [if_neg h0, e]; omega
theorem div_pn (a b : Int) (ha : word a) (hb : word b) (h0 : b ≠ 0) (h : ¬ ((9223372036854775808 ≤ a) ↔ (9223372036854775808 ≤ b))) : IntKind.u64.wrap (-(nA a / nA b)) = divF a b := by
  have e1 := s64_neg a ha; have e2 := s64_neg b hb
  have e : (s64 a).tdiv (s64 b) = -(nA a / nA b) := by
    by_cases hs : 9223372036854775808 ≤ a
    · have hs2 : ¬ 9223372036854775808 ≤ b := fun h2 => h ⟨fun _ => h2, fun _ => hs⟩
      rw [← Int.neg_neg (s64 a), Int.neg_tdiv, Int.tdiv_eq_ediv_of_nonneg (by omega), show nA a = - s64 a from by unfold nA; omega, show nA b = s64 b from by unfold nA; omega]
    · have hs2 : 9223372036854775808 ≤ b := Classical.byContradiction fun h2 => h ⟨fun h3 => absurd h3 hs, fun h3 => absurd h3 h2⟩
      rw [← Int.neg_neg (s64 b), Int.tdiv_neg, Int.tdiv_eq_ediv_of_nonneg (by omega), show nA a = s64 a from by unfold nA; omega, show nA b = - s64 b from by unfold nA; omega]
  unfold divF; rw [if_neg h0, e, wrap_mod]
theorem rem_p (a b : Int) (ha : word a) (hb : word b) (h0 : b ≠ 0) (h : ¬ 9223372036854775808 ≤ a) : nA a % nA b = remF a b := by
  have e1 := s64_neg a ha
  have q := nA_bd a ha; have q2 := nA_pos b hb h0; have q3 := nA_bd b hb
  have hq := Int.emod_lt_of_pos (nA a) (show 0 < nA b by omega)
  have hq0 := Int.emod_nonneg (nA a) (show nA b ≠ 0 by omega)
  have e : (s64 a).tmod (s64 b) = nA a % nA b := by
    rw [Int.tmod_eq_emod_of_nonneg (by omega), show nA a = s64 a from by unfold nA; omega]
    by_cases hs : s64 b < 0
    · rw [show nA b = - s64 b from by unfold nA; omega, Int.emod_neg]
    · rw [show nA b = s64 b from by unfold nA; omega]
  unfold remF; rw [if_neg h0, e]; omega
theorem rem_n (a b : Int) (ha : word a) (hb : word b) (h0 : b ≠ 0) (h : 9223372036854775808 ≤ a) : IntKind.u64.wrap (-(nA a % nA b)) = remF a b := by
  have e1 := s64_neg a ha
  have e : (s64 a).tmod (s64 b) = -(nA a % nA b) := by
    rw [← Int.neg_neg (s64 a), Int.neg_tmod, Int.tmod_eq_emod_of_nonneg (by omega), show nA a = - s64 a from by unfold nA; omega]
    by_cases hs : s64 b < 0
    · rw [show nA b = - s64 b from by unfold nA; omega, Int.emod_neg]
    · rw [show nA b = s64 b from by unfold nA; omega]
  unfold remF; rw [if_neg h0, e, wrap_mod]
theorem c_size' (a : Int) (ha : word a) (w : World) : Calls Tryz.prog 109 #[.int .u64 a] w fun e w' => e = .returned (.int .u64 (nA a)) ∧ w' = w := c_size a ha w
theorem ret_22 {a b c d : Int} (h : a = b) (h2 : c = d) : Ending.returned (.tuple #[.int .u64 a, .int .u64 c]) = .returned (.tuple #[.int .u64 b, .int .u64 d]) := by rw [h, h2]
set_option maxHeartbeats 800000 in
theorem c_signed (a b : Int) (ha : word a) (hb : word b) (w : World) :
    Calls Tryz.prog 102 #[.int .u64 a, .int .u64 b] w fun e w' => e = .returned (.tuple #[.int .u64 (divF a b), .int .u64 (remF a b)]) ∧ w' = w := by
  have Ha := Lib.hid ha
  have Hb := Lib.hid hb
  by_cases h0 : b = 0
  · subst h0
    clear ha hb
    go_enter Tryz.func102, Tryz.ntmps102
    go_wp2
    go_ret2
    exact ⟨ret_22 rfl rfl, rfl⟩
  · obtain ⟨n1, n2⟩ := nA_bd a ha
    obtain ⟨n3, n4⟩ := nA_bd b hb
    have n5 := nA_pos b hb h0
    have n6 : ¬ nA b = 0 := by omega
    have n7 : 0 ≤ nA a / nA b := Int.ediv_nonneg n1 (by omega)
    have n8 : 0 ≤ nA a % nA b := Int.emod_nonneg _ (by omega)
    have h0' : (b == 0) = false := by simpa using h0
    clear ha hb
    have H0 := Lib.hid h0
    by_cases h1 : 9223372036854775808 ≤ a <;> by_cases h2 : 9223372036854775808 ≤ b
    all_goals
      go_enter Tryz.func102, Tryz.ntmps102
      go_wp2_with (first
        | (go_at_call 109; refine (c_size' _ (by with_reducible first | exact Ha.out | exact Hb.out) _).mono ?_; rintro e w' ⟨rfl, rfl⟩)
        | (go_at_call 97; first | ((refine (c_neg_t _ (by omega) _).mono ?_); rintro e w' ⟨rfl, rfl⟩) | ((refine (c_neg_f _ (by omega) _).mono ?_); rintro e w' ⟨rfl, rfl⟩)))
      go_ret2
      refine ⟨ret_22 ?_ ?_, rfl⟩
      · first
          | exact div_pp a b Ha.out Hb.out H0.out (by simp only [eq_iff_iff]; omega)
          | exact div_pn a b Ha.out Hb.out H0.out (by omega)
      · first
          | exact rem_p a b Ha.out Hb.out H0.out (by omega)
          | exact rem_n a b Ha.out Hb.out H0.out (by omega)
end Go.Proofs.YtngeabphjdfdgaaGreatDoor.W
namespace Go.Proofs.YtngeabphjdfdgaaGreatDoor.W
open Go.RowKit
theorem c_shiftF (a n : Int) (ha : word a) (h0 : 0 ≤ n) (h1 : n ≤ 63) (w : World) :
    Calls Tryz.prog 100 #[.int .u64 a, .int .i64 n, .int .u64 (truF false)] w fun e w' => e = .returned (.int .u64 (a / 2 ^ n.toNat)) ∧ w' = w := c_shift0 a n ha h0 h1 w
theorem c_shiftT (a n : Int) (ha1 : 9223372036854775808 ≤ a) (ha2 : a < 18446744073709551616) (h0 : 0 ≤ n) (h1 : n ≤ 63) (w : World) :
    Calls Tryz.prog 100 #[.int .u64 a, .int .i64 n, .int .u64 (truF true)] w fun e w' => e = .returned (.int .u64 (sarN a n.toNat)) ∧ w' = w := c_shift1 a n ha1 ha2 h0 h1 w
theorem sar_neg (a b : Int) (h1 : 9223372036854775808 ≤ a) (h2 : a < 18446744073709551616) : sarN a (b % 64).toNat = sarF a b := by
  have := sarN_bd a (b % 64).toNat h1 h2; unfold sarN at *; unfold sarF; omega
theorem sar_pos (a b : Int) (h1 : ¬ 9223372036854775808 ≤ a) (h2 : 0 ≤ a) : a / 2 ^ (b % 64).toNat = sarF a b := by
  have e : s64 a = a := by unfold s64; rw [if_pos (by omega)]
  have := shr_word a (b % 64).toNat ⟨h2, by omega⟩
  unfold sarF; rw [e]; obtain ⟨q1, q2⟩ := this; omega
set_option maxRecDepth 100000 in
set_option maxHeartbeats 1600000 in
theorem c_Wide1 (op a b : Int) (ha : word a) (hb : word b) (w : World) (hs : op = 35 ∨ op = 36 ∨ op = 37 ∨ op = 38 ∨ op = 39 ∨ op = 40 ∨ op = 41 ∨ op = 43 ∨ op = 44 ∨ op = 50 ∨ op = 53 ∨ op = 54 ∨ op = 56) :
    Calls Tryz.prog 82 #[.int .i64 op, .int .u64 a, .int .u64 b] w fun e w' => e = .returned (.int .u64 (wideF op a b)) ∧ w' = w := by
  have Ha := Lib.hid ha
  have Hb := Lib.hid hb
  obtain ⟨ha1, ha2⟩ := ha
  obtain ⟨hb1, hb2⟩ := hb
  rcases hs with rfl | rfl | rfl | rfl | rfl | rfl | rfl | rfl | rfl | rfl | rfl | rfl | rfl
  all_goals
    go_enter Tryz.func82, Tryz.ntmps82
    go_wp2_with (first
      | (go_at_call 97; (refine (c_neg _ _).mono ?_); rintro e w' ⟨rfl, rfl⟩)
      | (go_at_call 96; refine (c_power _ (by omega) (by omega) _).mono ?_; rintro e w' ⟨rfl, rfl⟩)
      | (go_at_call 99; refine (c_less _ _ Ha.out Hb.out _).mono ?_; rintro e w' ⟨rfl, rfl⟩)
      | (go_at_call 98; refine (c_one _ _).mono ?_; rintro e w' ⟨rfl, rfl⟩)
      | (go_at_call 100; refine (c_shift0 _ _ Ha.out (by omega) (by omega) _).mono ?_; rintro e w' ⟨rfl, rfl⟩)
      | (go_at_call 101; refine (c_rhigh _ _ Ha.out Hb.out _).mono ?_; rintro e w' ⟨rfl, rfl⟩)
      | (go_at_call 102; refine (c_signed _ _ Ha.out Hb.out _).mono ?_; rintro e w' ⟨rfl, rfl⟩))
    go_ret
    refine ⟨ret_u64 ?_, rfl⟩
    first | rfl | (rw [wrap_mod]; rfl) | exact u64_xor _ _ ha1 ha2 hb1 hb2 | exact u64_or _ _ ha1 ha2 hb1 hb2 | exact u64_and _ _ ha1 ha2 hb1 hb2 | skip
set_option maxRecDepth 100000 in
set_option maxHeartbeats 1600000 in
theorem c_Wide2 (op a b : Int) (ha : word a) (hb : word b) (w : World) (hs : op = 42 ∨ op = 51 ∨ op = 52 ∨ op = 55 ∨ op = 57) :
    Calls Tryz.prog 82 #[.int .i64 op, .int .u64 a, .int .u64 b] w fun e w' => e = .returned (.int .u64 (wideF op a b)) ∧ w' = w := by
  have Ha := Lib.hid ha
  have Hb := Lib.hid hb
  obtain ⟨ha1, ha2⟩ := ha
  obtain ⟨hb1, hb2⟩ := hb
  have Hs := Lib.hid hs
  clear hs
  by_cases h1 : 9223372036854775808 ≤ a <;> by_cases h2 : 9223372036854775808 ≤ b
  all_goals by_cases hz : b = 0
  all_goals first | (exfalso; omega) | skip
  all_goals
    try (have hz1 : (b != 0) = true := by simpa using hz)
    try subst hz
    have hs := Hs.out
    clear Hs
    rcases hs with rfl | rfl | rfl | rfl | rfl
    all_goals
      go_enter Tryz.func82, Tryz.ntmps82
      go_wp2_with (first
        | (go_at_call 97; first | ((refine (c_neg_t _ (by omega) _).mono ?_); rintro e w' ⟨rfl, rfl⟩) | ((refine (c_neg_f _ (by omega) _).mono ?_); rintro e w' ⟨rfl, rfl⟩))
        | (go_at_call 98; refine (c_one _ _).mono ?_; rintro e w' ⟨rfl, rfl⟩)
        | (go_at_call 100; first | ((with_reducible (refine (c_shiftF _ _ Ha.out (by omega) (by omega) _).mono ?_)); rintro e w' ⟨rfl, rfl⟩) | ((with_reducible (refine (c_shiftT _ _ (by omega) (by omega) (by omega) (by omega) _).mono ?_)); rintro e w' ⟨rfl, rfl⟩))
        | (go_at_call 101; refine (c_rhigh _ _ Ha.out Hb.out _).mono ?_; rintro e w' ⟨rfl, rfl⟩)
        | (go_at_call 102; refine (c_signed _ _ Ha.out Hb.out _).mono ?_; rintro e w' ⟨rfl, rfl⟩))
      go_ret
      refine ⟨ret_u64 ?_, rfl⟩
      have hh := hi_word a _ Ha.out Hb.out
      obtain ⟨hh1, hh2⟩ := hh
      first
        | rfl
        | exact sar_neg _ _ (by omega) (by omega)
        | exact sar_pos _ _ (by omega) (by omega)
        | (simp [wideF, abF, divuF, remuF, wrap_mod]; done) | (simp [wideF, divuF, remuF, hz]; done)
        | (simp [wideF, abF, wrap_mod]; omega)
        | (simp [wideF]; (repeat' split) <;> omega)
        | exact sar_neg a 0 (by omega) (by omega)
        | (have e := sar_pos a 0 (by omega) (by omega); show a = sarF a 0; simpa using e)
theorem c_Wide (op a b : Int) (ha : word a) (hb : word b) (w : World) (h : isWide op = true) :
    Calls Tryz.prog 82 #[.int .i64 op, .int .u64 a, .int .u64 b] w fun e w' => e = .returned (.int .u64 (wideF op a b)) ∧ w' = w := by
  unfold isWide at h
  have hs := of_decide_eq_true h
  by_cases h2 : op = 42 ∨ op = 51 ∨ op = 52 ∨ op = 55 ∨ op = 57
  · exact c_Wide2 op a b ha hb w h2
  · exact c_Wide1 op a b ha hb w (by omega)
end Go.Proofs.YtngeabphjdfdgaaGreatDoor.W
namespace Go.Proofs.YtngeabphjdfdgaaGreatDoor.W
open Go.RowKit
theorem r32_word (b : Int) : word (b % 32) := ⟨by omega, by omega⟩
theorem sg32 (b : Int) : sgnF (b % 32) 32 = b % 32 := by
  unfold sgnF; rw [if_neg (by decide), if_neg (by decide), show (2 : Int) ^ (32 : Int).toNat = 4294967296 from rfl, show (2 : Int) ^ ((32 : Int).toNat - 1) = 2147483648 from rfl]
  rw [if_pos (by omega)]; omega
theorem lw32 (b : Int) : lowF (b % 32) 32 = b % 32 := by
  unfold lowF; rw [if_neg (by decide), if_neg (by decide), show (2 : Int) ^ (32 : Int).toNat = 4294967296 from rfl]; omega
set_option maxRecDepth 100000 in
set_option maxHeartbeats 1600000 in
theorem c_rreckon_t (op a b : Int) (ha : word a) (hb : word b) (w : World) (h : 35 ≤ op ∧ op ≤ 62) :
    Calls Tryz.prog 53 #[.int .i64 op, .int .u64 a, .int .u64 b] w fun e w' => e = .returned (.tuple #[.int .u64 (reckV op a b), .bool true]) ∧ Gr w w' := by
  have hs : op = 35 ∨ op = 36 ∨ op = 37 ∨ op = 38 ∨ op = 39 ∨ op = 40 ∨ op = 41 ∨ op = 42 ∨ op = 43 ∨ op = 44 ∨ op = 45 ∨ op = 46 ∨ op = 47 ∨ op = 48 ∨ op = 49 ∨ op = 50 ∨ op = 51 ∨ op = 52 ∨ op = 53 ∨ op = 54 ∨ op = 55 ∨ op = 56 ∨ op = 57 ∨ op = 58 ∨ op = 59 ∨ op = 60 ∨ op = 61 ∨ op = 62 := by omega
  clear h
  have Ha := Lib.hid ha
  have Hb := Lib.hid hb
  have Hsb := Lib.hid (sgn_word b 32 hb)
  have Hlb := Lib.hid (low_word b 32 hb)
  have Hsa := Lib.hid (sgn_word a 32 ha)
  have Hla := Lib.hid (low_word a 32 ha)
  have H5 := Lib.hid (r32_word b)
  have H5s := Lib.hid (sgn_word _ 32 (r32_word b))
  have H5l := Lib.hid (low_word _ 32 (r32_word b))
  obtain ⟨hb1, hb2⟩ := hb
  rcases hs with rfl | rfl | rfl | rfl | rfl | rfl | rfl | rfl | rfl | rfl | rfl | rfl | rfl | rfl | rfl | rfl | rfl | rfl | rfl | rfl | rfl | rfl | rfl | rfl | rfl | rfl | rfl | rfl
  all_goals
    go_enter Tryz.func53, Tryz.ntmps53
    go_wp2_with (first
      | (go_at_call 82; refine (c_Wide _ _ _ (by with_reducible first | exact Ha.out | exact Hsa.out | exact Hla.out) (by with_reducible first | exact Hb.out | exact Hsb.out | exact Hlb.out | exact H5s.out | exact H5l.out) _ (by decide)).mono ?_; rintro e w1 ⟨rfl, rfl⟩)
      | (go_at_call 83; refine (c_rlow _ _ (by with_reducible first | exact Ha.out | exact Hb.out | exact H5.out) _).mono ?_; rintro e w1 ⟨rfl, rfl⟩)
      | (go_at_call 81; refine (c_rsign _ _ (by with_reducible first | exact Ha.out | exact Hb.out | exact H5.out | exact wide_word _ _ _ (by first | exact Ha.out | exact Hsa.out | exact Hla.out) (by first | exact Hb.out | exact Hsb.out | exact Hlb.out | exact H5s.out | exact H5l.out)) _).mono ?_; rintro e w1 ⟨rfl, rfl⟩))
    go_ret2
    refine ⟨ret_2 ?_ rfl, by go_grown⟩
    first | rfl | (rw [sg32]; rfl) | (rw [lw32]; rfl)
theorem c_rreckon_f (op a b : Int) (w : World) (h : ¬ (35 ≤ op ∧ op ≤ 62)) :
    Calls Tryz.prog 53 #[.int .i64 op, .int .u64 a, .int .u64 b] w fun e w' => e = .returned (.tuple #[.int .u64 0, .bool false]) ∧ Gr w w' := by
  by_cases h1 : op < 35
  · have e1 : decide (op < 35) = true := by simpa using h1
    go_enter Tryz.func53, Tryz.ntmps53
    go_wp2
    go_ret2
    exact ⟨rfl, Gr.refl _⟩
  · have e1 : decide (op < 35) = false := by simpa using h1
    have e2 : decide (62 < op) = true := by simp; omega
    go_enter Tryz.func53, Tryz.ntmps53
    go_wp2
    go_ret2
    exact ⟨rfl, Gr.refl _⟩
theorem reckB_t (op : Int) (h : 35 ≤ op ∧ op ≤ 62) : reckB op = true := by
  unfold reckB isWide isNarrow; simp; omega
theorem reckB_f (op a b : Int) (h : ¬ (35 ≤ op ∧ op ≤ 62)) : reckB op = false ∧ reckV op a b = 0 := by
  have h1 : isWide op = false := by unfold isWide; simp; omega
  have h2 : isNarrow op = false := by unfold isNarrow; simp; omega
  exact ⟨by unfold reckB; rw [h1, h2]; rfl, by unfold reckV; rw [if_neg (by simp [h1]), if_neg (by simp [h2])]⟩
theorem c_rreckon (op a b : Int) (ha : word a) (hb : word b) (w : World) :
    Calls Tryz.prog 53 #[.int .i64 op, .int .u64 a, .int .u64 b] w fun e w' => e = .returned (.tuple #[.int .u64 (reckV op a b), .bool (reckB op)]) ∧ Gr w w' := by
  by_cases h : 35 ≤ op ∧ op ≤ 62
  · rw [reckB_t op h]; exact c_rreckon_t op a b ha hb w h
  · obtain ⟨e1, e2⟩ := reckB_f op a b h
    rw [e1, e2]; exact c_rreckon_f op a b w h
end Go.Proofs.YtngeabphjdfdgaaGreatDoor.W
