/- Stage 2: the document's bits of a word, numbers with a sign. No condition. -/
import Derived.Test.YtngeabphjdfdgaaDoorMB
import Derived.Test.YtngeabphjdfdgaaDoorD1
set_option linter.unusedVariables false
set_option linter.unusedSimpArgs false
set_option maxRecDepth 100000
namespace Go.Proofs.YtngeabphjdfdgaaDoor.P
open Go.RowKit
def atN (x : Int) (n m : Nat) : Int := x / 2 ^ n % 2 ^ m
theorem atN_in (x : Int) (n m : Nat) (h : m ≤ 32) : 0 ≤ atN x n m ∧ atN x n m < 4294967296 := by
  unfold atN
  have hp : (0 : Int) < 2 ^ m := Int.pow_pos (by decide)
  have h2 : ((2 ^ m : Nat) : Int) ≤ ((2 ^ 32 : Nat) : Int) := Int.ofNat_le.2 (Nat.pow_le_pow_right (by decide) h)
  have h3 : (2 : Int) ^ m ≤ 4294967296 := by simpa using h2
  exact ⟨Int.emod_nonneg _ (Int.ne_of_gt hp), Int.lt_of_lt_of_le (Int.emod_lt_of_pos _ hp) h3⟩
theorem atN_zero (x : Int) (n : Nat) : atN x n 0 = 0 := by unfold atN; simp [Int.emod_one]
theorem div_in (x : Int) (hx : u32 x) (n : Nat) : 0 ≤ x / 2 ^ n ∧ x / 2 ^ n < 4294967296 := by
  obtain ⟨h0, h1⟩ := hx
  obtain ⟨y, rfl⟩ : ∃ y : Nat, x = (y : Int) := ⟨x.toNat, by omega⟩
  rw [show ((2 : Int) ^ n) = ((2 ^ n : Nat) : Int) by simp, ← Int.natCast_ediv]
  have h2 : y / 2 ^ n ≤ y := Nat.div_le_self _ _
  generalize y / 2 ^ n = z at *
  omega
theorem atN_succ (x : Int) (n m : Nat) : atN x n (m + 1) = atN x (n + 1) m * 2 + x / 2 ^ n % 2 := by
  unfold atN
  rw [Int.pow_succ 2 n, ← Int.ediv_ediv_of_nonneg (by exact Int.pow_nonneg (by decide))]
  generalize x / 2 ^ n = y
  rw [Int.pow_succ]
  have hp : (0 : Int) < 2 ^ m := Int.pow_pos (by decide)
  generalize (2 : Int) ^ m = p at *
  have a := Int.mul_ediv_add_emod y 2
  have b := Int.mul_ediv_add_emod (y / 2) p
  have c := Int.emod_nonneg (y / 2) (Int.ne_of_gt hp)
  have d := Int.emod_lt_of_pos (y / 2) hp
  generalize y / 2 / p = q at *
  generalize y / 2 % p = r at *
  have hy : y = (r * 2 + y % 2) + (p * 2) * q := by
    have : (p * 2) * q = 2 * (p * q) := by rw [Int.mul_comm p 2, Int.mul_assoc]
    omega
  generalize y % 2 = s at *
  conv => lhs; rw [hy]
  rw [Int.add_mul_emod_self_left]
  apply Int.emod_eq_of_lt <;> omega
theorem and_one {y : Int} (h0 : 0 ≤ y) (h1 : y < 4294967296) : bits .and .u32 y 1 = y % 2 := by
  obtain ⟨n, rfl⟩ : ∃ n : Nat, y = (n : Int) := ⟨y.toNat, by omega⟩
  have := u32_and_nat n 1 (by omega) (by decide)
  rw [Nat.and_one_is_mod] at this
  rw [show ((n : Int) % 2) = ((n % 2 : Nat) : Int) by omega]
  exact this
def sgN (v : Int) (n : Nat) : Int := bif decide (v < 2 ^ (n - 1)) then v else v - 2 ^ n
end Go.Proofs.YtngeabphjdfdgaaDoor.P
