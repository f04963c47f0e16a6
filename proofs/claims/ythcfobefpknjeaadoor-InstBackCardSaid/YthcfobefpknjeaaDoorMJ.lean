/- Stage 2: the document's bits of a word, numbers with a sign. No condition. -/
import Derived.Test.YthcfobefpknjeaaDoorMB
import Derived.Test.YthcfobefpknjeaaDoorD1
set_option linter.unusedVariables false
set_option linter.unusedSimpArgs false
set_option maxRecDepth 100000
namespace Go.Proofs.YthcfobefpknjeaaDoor.P
open Go.RowKit
def atN (x : Int) (n m : Nat) : Int := x / 2 ^ n % 2 ^ m
theorem atN_in (x : Int) (n m : Nat) (h : m ≤ 32) : 0 ≤ atN x n m ∧ atN x n m < 4294967296 := by
  unfold atN
  have hp : (0 : Int) < 2 ^ m := Int.pow_pos (by decide)
  have h2 : ((2 ^ m : Nat) : Int) ≤ ((2 ^ 32 : Nat) : Int) := Int.ofNat_le.2 (Nat.pow_le_pow_right (by decide) h)
  have h3 : (2 : Int) ^ m ≤ 4294967296 := by simpa using h2
  exact ⟨Int.emod_nonneg _ (Int.ne_of_gt hp), Int.lt_of_lt_of_le (Int.emod_lt_of_pos _ hp) h3⟩
theorem atN_zero (x : Int) (n : Nat) : atN x n 0 = 0 := by unfold atN; simp [Int.emod_one]
theorem div_in (x : Int) (hx : u32 x) (n : Nat) : 0 ≤ x / 2 ^ n ∧ x / 2 ^ n < 4294967296 := by
  obtain ⟨h0, h1⟩ := hx
  obtain ⟨y, rfl⟩ : ∃ y : Nat, x = (y : Int) := ⟨x.toNat, by omega⟩
  rw [show ((2 : Int) ^ n) = ((2 ^ n : Nat) : Int) by simp, ← Int.natCast_ediv]
  have h2 : y / 2 ^ n ≤ y := Nat.div_le_self _ _
  generalize y / 2 ^ n = z at *
  omega
theorem atN_succ (x : Int) (n m : Nat) : atN x n (m + 1) = atN x (n + 1) m * 2 + x / 2 ^ n % 2 := by
  unfold atN
  rw [Int.pow_succ 2 n, ← Int.ediv_ediv_of_nonneg (by exact Int.pow_nonneg (by decide))]
  generalize x / 2 ^ n = y
  rw [Int.pow_succ]
  have hp : (0 : Int) < 2 ^ m := Int.pow_pos (by decide)
  generalize (2 : Int) ^ m = p at *
  have a := Int.mul_ediv_add_emod y 2
  have b := Int.mul_ediv_add_emod (y / 2) p
  have c := Int.emod_nonneg (y / 2) (Int.ne_of_gt hp)
  have d := Int.emod_lt_of_pos (y / 2) hp
  generalize y / 2 / p = q at *
  generalize y / 2 % p = r at *
  have hy : y = (r * 2 + y % 2) + (p * 2) * q := by
    have : (p * 2) * q = 2 * (p * q) := by rw [Int.mul_comm p 2, Int.mul_assoc]
    omega
  generalize y % 2 = s at *
  conv => lhs; rw [hy]
  rw [Int.add_mul_emod_self_left]
  apply Int.emod_eq_of_lt <;> omega
theorem and_one {y : Int} (h0 : 0 ≤ y) (h1 : y < 4294967296) : bits .and .u32 y 1 = y % 2 := by
  obtain ⟨n, rfl⟩ : ∃ n : Nat, y = (n : Int) := ⟨y.toNat, by omega⟩
  have := u32_and_nat n 1 (by omega) (by decide)
  rw [Nat.and_one_is_mod] at this
  rw [show ((n : Int) % 2) = ((n % 2 : Nat) : Int) by omega]
  exact this
set_option maxHeartbeats 1600000 in
theorem r_atN (x : Int) (hx : u32 x) (n m : Nat) (hs : n + m ≤ 32) (w : World) : Calls Tryd.prog 47 #[.int .u32 x, .int .i64 n, .int .i64 m] w fun e w' => e = .returned (.int .i64 (atN x n m)) ∧ w' = w := by
  have HX := Lib.hid hx
  obtain ⟨x0, x1⟩ := hx
  go_enter Tryd.func47, Tryd.ntmps47
  go_wp2_with fail
  go_loopw [7, 8] (fun v i wr => ∃ j : Nat, j ≤ m ∧ v = .int .i64 (atN x (n + j) (m - j)) ∧ i = .int .i64 ((j : Int) - 1) ∧ w = wr) (fun _ i _ => (intOf i + 1).toNat)
  case atStart => exact ⟨m, Nat.le_refl _, by rw [Nat.sub_self, atN_zero], by go_num, by first | rfl | trivial⟩
  case round =>
    obtain ⟨j, hj, rfl, rfl, rfl⟩ := hrel
    cases j with
    | zero =>
      have dl : decide ((0 : Int) ≤ ((0 : Nat) : Int) - 1) = false := by decide
      go_wp2_with fail
      go_ret
      exact ⟨rfl, rfl⟩
    | succ j =>
      have hV := atN_in x (n + (j + 1)) (m - (j + 1)) (by omega)
      have hY := div_in x HX.out (n + j)
      have ha := and_one hY.1 hY.2
      have e : atN x (n + j) (m - j) = atN x (n + (j + 1)) (m - (j + 1)) * 2 + x / 2 ^ (n + j) % 2 := by
        rw [show m - j = (m - (j + 1)) + 1 by omega, atN_succ]; rfl
      have hc : ((j + 1 : Nat) : Int) - 1 = (j : Int) := by omega
      rw [hc]
      go_wp2_with fail
      go_roundw
      case rel => exact ⟨j, by omega, by rw [e], by go_num, by first | rfl | trivial⟩
      case measure => simp [intOf]
theorem r_at (x n m : Int) (hx : u32 x) (hs : 0 ≤ n ∧ 0 ≤ m ∧ n + m ≤ 32) (w : World) : Calls Tryd.prog 47 #[.int .u32 x, .int .i64 n, .int .i64 m] w fun e w' => e = .returned (.int .i64 (atN x n.toNat m.toNat)) ∧ w' = w := by
  have := r_atN x hx n.toNat m.toNat (by omega) w
  rw [Int.toNat_of_nonneg hs.1, Int.toNat_of_nonneg hs.2.1] at this
  exact this
def sgN (v : Int) (n : Nat) : Int := bif decide (v < 2 ^ (n - 1)) then v else v - 2 ^ n
theorem r_signed (v n : Int) (hn : n = 12 ∨ n = 20) (hv : 0 ≤ v ∧ v < 4294967296) (w : World) : Calls Tryd.prog 48 #[.int .i64 v, .int .i64 n] w fun e w' => e = .returned (.int .i64 (sgN v n.toNat)) ∧ w' = w := by
  obtain ⟨v0, v1⟩ := hv
  rcases hn with rfl | rfl
  · by_cases h : v < 2048
    · have e : sgN v 12 = v := by unfold sgN; rw [decide_eq_true (by omega)]; rfl
      have d : decide ((2048 : Int) ≤ v) = false := decide_eq_false (by omega)
      rw [show (12 : Int).toNat = 12 from rfl, e]
      go_enter Tryd.func48, Tryd.ntmps48
      go_wp2
      all_goals
        go_ret
        exact ⟨rfl, rfl⟩
    · have e : sgN v 12 = v - 4096 := by unfold sgN; rw [decide_eq_false (by omega)]; rfl
      have d : decide ((2048 : Int) ≤ v) = true := decide_eq_true (by omega)
      rw [show (12 : Int).toNat = 12 from rfl, e]
      go_enter Tryd.func48, Tryd.ntmps48
      go_wp2
      all_goals
        go_ret
        exact ⟨ret_i (by omega), rfl⟩
  · by_cases h : v < 524288
    · have e : sgN v 20 = v := by unfold sgN; rw [decide_eq_true (by omega)]; rfl
      have d : decide ((524288 : Int) ≤ v) = false := decide_eq_false (by omega)
      rw [show (20 : Int).toNat = 20 from rfl, e]
      go_enter Tryd.func48, Tryd.ntmps48
      go_wp2
      all_goals
        go_ret
        exact ⟨rfl, rfl⟩
    · have e : sgN v 20 = v - 1048576 := by unfold sgN; rw [decide_eq_false (by omega)]; rfl
      have d : decide ((524288 : Int) ≤ v) = true := decide_eq_true (by omega)
      rw [show (20 : Int).toNat = 20 from rfl, e]
      go_enter Tryd.func48, Tryd.ntmps48
      go_wp2
      all_goals
        go_ret
        exact ⟨ret_i (by omega), rfl⟩
end Go.Proofs.YthcfobefpknjeaaDoor.P
