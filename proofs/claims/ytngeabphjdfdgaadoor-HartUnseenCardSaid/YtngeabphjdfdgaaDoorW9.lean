/- The contracts of stage 1's reference: negative, less, size, signed, shift, high. -/
import Derived.Test.YtngeabphjdfdgaaDoorW4
import Derived.Handy
set_option linter.unusedVariables false
namespace Go.Proofs.YtngeabphjdfdgaaDoor.W
open Go.RowKit
/-! ### shift -/
theorem pow_toNat (n : Int) (k : Nat) (h : n = k) : n.toNat = k := by omega
theorem shift0 (x : Int) (h : word x) : IntKind.u64.wrap (x / 2 + IntKind.u64.wrap 0) = x / 2 := by
  obtain ⟨h1, h2⟩ := h; rw [wrap_mod, wrap_mod]; omega
theorem div_div2 (a : Int) (k : Nat) : a / 2 ^ k / 2 = a / 2 ^ (k + 1) := by
  rw [Int.ediv_ediv_of_nonneg (Int.le_of_lt (pow_pos k)), pow_split]; rfl
/-- a word whose sign is below nought, moved to the right by k, its sign coming in -/
def sarN (a : Int) (k : Nat) : Int := s64 a / 2 ^ k + 18446744073709551616
theorem sarN_bd (a : Int) (k : Nat) (h1 : 9223372036854775808 ≤ a) (h2 : a < 18446744073709551616) : 9223372036854775808 ≤ sarN a k ∧ sarN a k < 18446744073709551616 := by
  have hs : s64 a = a - 18446744073709551616 := by unfold s64; rw [if_neg (by omega)]
  have p := pow_pos k
  unfold sarN; rw [hs]
  have l1 : (a - 18446744073709551616) / 2 ^ k < 0 := Int.ediv_neg_of_neg_of_pos (by omega) p
  have l2 : -9223372036854775808 ≤ (a - 18446744073709551616) / 2 ^ k := by
    rw [Int.le_ediv_iff_mul_le p]
    have : (1 : Int) ≤ 2 ^ k := by omega
    have := Int.mul_le_mul_of_nonneg_left this (show (0 : Int) ≤ 9223372036854775808 by decide)
    omega
  omega
theorem sarN_step (a : Int) (k : Nat) (h1 : 9223372036854775808 ≤ a) (h2 : a < 18446744073709551616) :
    sarN a k / 2 + 9223372036854775808 = sarN a (k + 1) := by
  have b1 := sarN_bd a k h1 h2
  have e : sarN a (k + 1) = (sarN a k - 18446744073709551616) / 2 + 18446744073709551616 := by
    unfold sarN; rw [← div_div2]; congr 2; omega
  rw [e]; omega
/-! ### high: by adding a shifted, bit by bit of b -/
def topF (a p : Int) : Int := a * p / 18446744073709551616
def lwF (a p : Int) : Int := a * p % 18446744073709551616
theorem ap_bd (a b : Int) (k : Nat) (hk : 0 < k) (ha : word a) (hb : word b) : 0 ≤ a * (b / 2 ^ k) ∧ a * (b / 2 ^ k) ≤ 170141183460469231704017187605319778305 := by
  obtain ⟨a1, a2⟩ := ha
  obtain ⟨b1, b2⟩ := hb
  have n1 : 0 ≤ b / 2 ^ k := Int.ediv_nonneg b1 (Int.le_of_lt (pow_pos k))
  have n2 : b / 2 ^ k ≤ 9223372036854775807 := by
    have e : (2 : Int) ^ k = 2 * 2 ^ (k - 1) := by rw [show (2 : Int) * 2 ^ (k - 1) = 2 ^ 1 * 2 ^ (k - 1) from rfl, ← pow_split]; congr 1; omega
    rw [e, ← Int.ediv_ediv_of_nonneg (by decide)]
    have := Int.ediv_le_self (2 ^ (k - 1)) (show 0 ≤ b / 2 by omega)
    omega
  have m1 : a * (b / 2 ^ k) ≤ 18446744073709551615 * 9223372036854775807 := Int.mul_le_mul (by omega) n2 n1 (by decide)
  exact ⟨Int.mul_nonneg a1 n1, by omega⟩
theorem bit_step (b : Int) (k : Nat) : b / 2 ^ k = b / 2 ^ (k + 1) * 2 + b / 2 ^ k % 2 := by
  rw [← div_div2]; omega
theorem hi_top (X : Int) (h0 : 0 ≤ X) (h1 : X < 170141183460469231731687303715884105728) :
    IntKind.u64.wrap (IntKind.u64.wrap (X / 18446744073709551616 * 2) + X % 18446744073709551616 / 9223372036854775808) = X * 2 / 18446744073709551616 := by
  rw [wrap_mod, wrap_mod]; omega
theorem hi_low (X : Int) : IntKind.u64.wrap (X % 18446744073709551616 * 2) = X * 2 % 18446744073709551616 := by
  rw [wrap_mod]; omega
theorem t_top (X : Int) (h0 : 0 ≤ X) (h1 : X < 170141183460469231731687303715884105728) :
    X / 18446744073709551616 * 2 + X % 18446744073709551616 / 9223372036854775808 = X * 2 / 18446744073709551616 := by omega
theorem t_low (X : Int) : X % 18446744073709551616 * 2 % 18446744073709551616 = X * 2 % 18446744073709551616 := by omega
theorem t_carry (Y a : Int) (ha : word a) (h : (Y % 18446744073709551616 + a) % 18446744073709551616 < Y % 18446744073709551616) :
    Y / 18446744073709551616 + 1 = (Y + a) / 18446744073709551616 := by
  obtain ⟨h1, h2⟩ := ha
  have : 18446744073709551616 ≤ Y % 18446744073709551616 + a := by omega
  omega
theorem t_nocarry (Y a : Int) (ha : word a) (h : Y % 18446744073709551616 ≤ (Y % 18446744073709551616 + a) % 18446744073709551616) :
    Y / 18446744073709551616 = (Y + a) / 18446744073709551616 := by
  obtain ⟨h1, h2⟩ := ha
  have : Y % 18446744073709551616 + a < 18446744073709551616 := by omega
  omega
theorem t_sum (Y a : Int) : (Y % 18446744073709551616 + a) % 18446744073709551616 = (Y + a) % 18446744073709551616 := by omega
theorem t_bd (Y a : Int) (h0 : 0 ≤ Y) (h1 : Y < 340282366920938463463374607431768211456) : Y / 18446744073709551616 < 18446744073709551616 ∧ 0 ≤ Y / 18446744073709551616 := by omega
end Go.Proofs.YtngeabphjdfdgaaDoor.W
namespace Go.Proofs.YtngeabphjdfdgaaDoor.W
open Go.RowKit
def nA (a : Int) : Int := ((s64 a).natAbs : Int)
theorem nA_bd (a : Int) (h : word a) : 0 ≤ nA a ∧ nA a ≤ 9223372036854775808 := by
  obtain ⟨h1, h2⟩ := h; unfold nA s64; split <;> omega
theorem nA_pos (b : Int) (h : word b) (h0 : b ≠ 0) : 1 ≤ nA b := by
  obtain ⟨h1, h2⟩ := h; unfold nA s64; split <;> omega
theorem s64_neg (a : Int) (h : word a) : s64 a < 0 ↔ 9223372036854775808 ≤ a := by
  obtain ⟨h1, h2⟩ := h; unfold s64; split <;> omega
theorem div_pp (a b : Int) (ha : word a) (hb : word b) (h0 : b ≠ 0) (h : (9223372036854775808 ≤ a) = (9223372036854775808 ≤ b)) : nA a / nA b = divF a b := by
  have e1 := s64_neg a ha; have e2 := s64_neg b hb
  have q := nA_bd a ha; have q2 := nA_pos b hb h0
  have hq : nA a / nA b ≤ nA a := Int.ediv_le_self _ q.1
  have hq0 : 0 ≤ nA a / nA b := Int.ediv_nonneg q.1 (by omega)
  have e : (s64 a).tdiv (s64 b) = nA a / nA b := by
    by_cases hs : 9223372036854775808 ≤ a
    · have hs2 : 9223372036854775808 ≤ b := by rw [← h]; exact hs
      rw [← Int.neg_tdiv_neg, Int.tdiv_eq_ediv_of_nonneg (by omega), show nA a = - s64 a from by unfold nA; omega, show nA b = - s64 b from by unfold nA; omega]
    · have hs2 : ¬ 9223372036854775808 ≤ b := by rw [← h]; exact hs
      rw [Int.tdiv_eq_ediv_of_nonneg (by omega), show nA a = s64 a from by unfold nA; omega, show nA b = s64 b from by unfold nA; omega]
  unfold divF; rw [if_neg h0, e]; omega
theorem div_pn (a b : Int) (ha : word a) (hb : word b) (h0 : b ≠ 0) (h : ¬ ((9223372036854775808 ≤ a) ↔ (9223372036854775808 ≤ b))) : IntKind.u64.wrap (-(nA a / nA b)) = divF a b := by
  have e1 := s64_neg a ha; have e2 := s64_neg b hb
  have e : (s64 a).tdiv (s64 b) = -(nA a / nA b) := by
    by_cases hs : 9223372036854775808 ≤ a
    · have hs2 : ¬ 9223372036854775808 ≤ b := fun h2 => h ⟨fun _ => h2, fun _ => hs⟩
      rw [← Int.neg_neg (s64 a), Int.neg_tdiv, Int.tdiv_eq_ediv_of_nonneg (by omega), show nA a = - s64 a from by unfold nA; omega, show nA b = s64 b from by unfold nA; omega]
    · have hs2 : 9223372036854775808 ≤ b := Classical.byContradiction fun h2 => h ⟨fun h3 => absurd h3 hs, fun h3 => absurd h3 h2⟩
      rw [← Int.neg_neg (s64 b), Int.tdiv_neg, Int.tdiv_eq_ediv_of_nonneg (by omega), show nA a = s64 a from by unfold nA; omega, show nA b = - s64 b from by unfold nA; omega]
  unfold divF; rw [if_neg h0, e, wrap_mod]
theorem rem_p (a b : Int) (ha : word a) (hb : word b) (h0 : b ≠ 0) (h : ¬ 9223372036854775808 ≤ a) : nA a % nA b = remF a b := by
  have e1 := s64_neg a ha
  have q := nA_bd a ha; have q2 := nA_pos b hb h0; have q3 := nA_bd b hb
  have hq := Int.emod_lt_of_pos (nA a) (show 0 < nA b by omega)
  have hq0 := Int.emod_nonneg (nA a) (show nA b ≠ 0 by omega)
  have e : (s64 a).tmod (s64 b) = nA a % nA b := by
    rw [Int.tmod_eq_emod_of_nonneg (by omega), show nA a = s64 a from by unfold nA; omega]
    by_cases hs : s64 b < 0
    · rw [show nA b = - s64 b from by unfold nA; omega, Int.emod_neg]
    · rw [show nA b = s64 b from by unfold nA; omega]
  unfold remF; rw [if_neg h0, e]; omega
theorem rem_n (a b : Int) (ha : word a) (hb : word b) (h0 : b ≠ 0) (h : 9223372036854775808 ≤ a) : IntKind.u64.wrap (-(nA a % nA b)) = remF a b := by
  have e1 := s64_neg a ha
  have e : (s64 a).tmod (s64 b) = -(nA a % nA b) := by
    rw [← Int.neg_neg (s64 a), Int.neg_tmod, Int.tmod_eq_emod_of_nonneg (by omega), show nA a = - s64 a from by unfold nA; omega]
    by_cases hs : s64 b < 0
    · rw [show nA b = - s64 b from by unfold nA; omega, Int.emod_neg]
    · rw [show nA b = s64 b from by unfold nA; omega]
  unfold remF; rw [if_neg h0, e, wrap_mod]
theorem ret_22 {a b c d : Int} (h : a = b) (h2 : c = d) : Ending.returned (.tuple #[.int .u64 a, .int .u64 c]) = .returned (.tuple #[.int .u64 b, .int .u64 d]) := by rw [h, h2]
end Go.Proofs.YtngeabphjdfdgaaDoor.W
namespace Go.Proofs.YtngeabphjdfdgaaDoor.W
open Go.RowKit
theorem sar_neg (a b : Int) (h1 : 9223372036854775808 ≤ a) (h2 : a < 18446744073709551616) : sarN a (b % 64).toNat = sarF a b := by
  have := sarN_bd a (b % 64).toNat h1 h2; unfold sarN at *; unfold sarF; omega
theorem sar_pos (a b : Int) (h1 : ¬ 9223372036854775808 ≤ a) (h2 : 0 ≤ a) : a / 2 ^ (b % 64).toNat = sarF a b := by
  have e : s64 a = a := by unfold s64; rw [if_pos (by omega)]
  have := shr_word a (b % 64).toNat ⟨h2, by omega⟩
  unfold sarF; rw [e]; obtain ⟨q1, q2⟩ := this; omega
end Go.Proofs.YtngeabphjdfdgaaDoor.W
namespace Go.Proofs.YtngeabphjdfdgaaDoor.W
open Go.RowKit
theorem r32_word (b : Int) : word (b % 32) := ⟨by omega, by omega⟩
theorem sg32 (b : Int) : sgnF (b % 32) 32 = b % 32 := by
  unfold sgnF; rw [if_neg (by decide), if_neg (by decide), show (2 : Int) ^ (32 : Int).toNat = 4294967296 from rfl, show (2 : Int) ^ ((32 : Int).toNat - 1) = 2147483648 from rfl]
  rw [if_pos (by omega)]; omega
theorem lw32 (b : Int) : lowF (b % 32) 32 = b % 32 := by
  unfold lowF; rw [if_neg (by decide), if_neg (by decide), show (2 : Int) ^ (32 : Int).toNat = 4294967296 from rfl]; omega
theorem reckB_t (op : Int) (h : 35 ≤ op ∧ op ≤ 62) : reckB op = true := by
  unfold reckB isWide isNarrow; simp; omega
theorem reckB_f (op a b : Int) (h : ¬ (35 ≤ op ∧ op ≤ 62)) : reckB op = false ∧ reckV op a b = 0 := by
  have h1 : isWide op = false := by unfold isWide; simp; omega
  have h2 : isNarrow op = false := by unfold isNarrow; simp; omega
  exact ⟨by unfold reckB; rw [h1, h2]; rfl, by unfold reckV; rw [if_neg (by simp [h1]), if_neg (by simp [h2])]⟩
end Go.Proofs.YtngeabphjdfdgaaDoor.W
