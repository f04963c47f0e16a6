/- Plain mathematics of stage 1 (words): what the calls of package word answer, as functions of integers. -/
import Derived.WalkKit
import Derived.Deep.Draws
set_option linter.unusedVariables false
namespace Go.Proofs.YtlpcccpagmipnaaGreat.W
open Go.RowKit

def lowF (v b : Int) : Int := if b ≤ 0 then 0 else if 64 ≤ b then v else v % 2 ^ b.toNat
def sgnF (v b : Int) : Int := if b ≤ 0 then 0 else if 64 ≤ b then v else
  if v % 2 ^ b.toNat < 2 ^ (b.toNat - 1) then v % 2 ^ b.toNat else v % 2 ^ b.toNat - 2 ^ b.toNat + 18446744073709551616
/-- the number with a sign that a word is -/
def s64 (a : Int) : Int := if a < 9223372036854775808 then a else a - 18446744073709551616
def word (a : Int) : Prop := 0 ≤ a ∧ a < 18446744073709551616

theorem wrap_mod (a : Int) : IntKind.u64.wrap a = a % 18446744073709551616 := IntKind.wrap_u64 a
theorem wrap64_s (a : Int) (h : word a) : wrap64 a = s64 a := by
  obtain ⟨h1, h2⟩ := h; unfold wrap64 s64; split <;> omega
theorem pow_pos (n : Nat) : (0 : Int) < 2 ^ n := Int.pow_pos (by decide)
theorem pow_le (n m : Nat) (h : n ≤ m) : (2 : Int) ^ n ≤ 2 ^ m := by
  rcases Nat.lt_or_eq_of_le h with h | h
  · exact Int.le_of_lt (Int.pow_lt_pow_of_lt (by decide) h)
  · subst h; exact Int.le_refl _
theorem pow_split (n m : Nat) : (2 : Int) ^ (n + m) = 2 ^ n * 2 ^ m := Int.pow_add ..
theorem pow_lt64 (n : Nat) (h : n ≤ 63) : (2 : Int) ^ n ≤ 9223372036854775808 := pow_le n 63 h
theorem pow_wrap (n : Nat) (h : n ≤ 63) : IntKind.u64.wrap (2 ^ n) = 2 ^ n := by
  rw [wrap_mod]; have := pow_lt64 n h; have := pow_pos n; omega
theorem mask_wrap (n : Nat) (h : n ≤ 63) : IntKind.u64.wrap (IntKind.u64.wrap (2 ^ n) - 1) = 2 ^ n - 1 := by
  rw [pow_wrap n h, wrap_mod]; have := pow_lt64 n h; have := pow_pos n; omega
theorem natpow (n : Nat) : ((2 : Int) ^ n).toNat = 2 ^ n := toNat_two_pow n
theorem and_mask (v : Int) (n : Nat) (h : n ≤ 63) (hv : word v) : bits .and .u64 v (2 ^ n - 1) = v % 2 ^ n := by
  have h1 := pow_lt64 n h; have h2 := pow_pos n
  rw [u64_and v _ hv.1 hv.2 (by omega) (by omega)]
  obtain ⟨x, rfl⟩ := Int.eq_ofNat_of_zero_le hv.1
  have e : ((2 : Int) ^ n - 1).toNat = 2 ^ n - 1 := by have := natpow n; omega
  rw [e, Int.toNat_natCast, Nat.and_two_pow_sub_one_eq_mod]
  simp
theorem low_impl (v : Int) (b : Int) (hv : word v) (h1 : 0 < b) (h2 : b < 64) :
    bits .and .u64 v (IntKind.u64.wrap (IntKind.u64.wrap (2 ^ b.toNat) - 1)) = lowF v b := by
  rw [mask_wrap _ (by omega), and_mask _ _ (by omega) hv]
  unfold lowF; rw [if_neg (by omega), if_neg (by omega)]
theorem low_word (v b : Int) (hv : word v) : word (lowF v b) := by
  unfold lowF; split
  · exact ⟨by omega, by omega⟩
  · split
    · exact hv
    · have h2 := pow_pos b.toNat
      have h1 := pow_lt64 b.toNat (by omega)
      have := Int.emod_nonneg v (show (2 : Int) ^ b.toNat ≠ 0 by omega)
      have := Int.emod_lt_of_pos v h2
      exact ⟨by omega, by omega⟩
/-- a shift to the left and an arithmetic one back keep the low bits with their sign -/
theorem sgn_impl (v : Int) (b : Int) (hv : word v) (h1 : 0 < b) (h2 : b < 64) :
    IntKind.u64.wrap (wrap64 (IntKind.u64.wrap (v * 2 ^ (64 - b).toNat)) / 2 ^ (64 - b).toNat) = sgnF v b := by
  obtain ⟨n, rfl⟩ := Int.eq_ofNat_of_zero_le (show 0 ≤ b by omega)
  have hn : n < 64 := by omega
  have hn0 : 0 < n := by omega
  have e : (64 - (n : Int)).toNat = 64 - n := by omega
  rw [e]
  have hM : (18446744073709551616 : Int) = 2 ^ n * 2 ^ (64 - n) := by rw [← pow_split, show n + (64 - n) = 64 by omega]; rfl
  have hH : (9223372036854775808 : Int) = 2 ^ (n - 1) * 2 ^ (64 - n) := by rw [← pow_split, show n - 1 + (64 - n) = 63 by omega]; rfl
  have hn2 : (2 : Int) ^ n = 2 * 2 ^ (n - 1) := by rw [show (2 : Int) * 2 ^ (n - 1) = 2 ^ 1 * 2 ^ (n - 1) from rfl, ← pow_split]; congr 1; omega
  have p1 := pow_pos (64 - n); have p2 := pow_pos (n - 1); have p3 := pow_pos n; have p4 := pow_lt64 n (by omega)
  have w1 : IntKind.u64.wrap (v * 2 ^ (64 - n)) = v % 2 ^ n * 2 ^ (64 - n) := by
    rw [wrap_mod, hM, Int.mul_comm v, Int.mul_comm (2 ^ n), Int.mul_emod_mul_of_pos _ _ p1, Int.mul_comm]
  have r1 := Int.emod_nonneg v (show (2 : Int) ^ n ≠ 0 by omega)
  have r2 := Int.emod_lt_of_pos v p3
  rw [w1]
  generalize hr : v % 2 ^ n = r at *
  have wr : word (r * 2 ^ (64 - n)) := ⟨Int.mul_nonneg r1 (by omega), by rw [hM]; exact Int.mul_lt_mul_of_pos_right r2 p1⟩
  rw [wrap64_s _ wr]
  unfold sgnF
  rw [if_neg (show ¬ (n : Int) ≤ 0 by omega), if_neg (show ¬ (64 : Int) ≤ n by omega), Int.toNat_natCast, hr]
  unfold s64
  by_cases hlt : r < 2 ^ (n - 1)
  · have : r * 2 ^ (64 - n) < 9223372036854775808 := by rw [hH]; exact Int.mul_lt_mul_of_pos_right hlt p1
    rw [if_pos this, if_pos hlt, Int.mul_ediv_cancel _ (by omega), wrap_mod]
    omega
  · have : ¬ r * 2 ^ (64 - n) < 9223372036854775808 := by
      rw [hH]; intro h; exact hlt (Int.lt_of_mul_lt_mul_right h (by omega))
    rw [if_neg this, if_neg hlt, hM, ← Int.sub_mul, Int.mul_ediv_cancel _ (by omega), wrap_mod, ← hM]
    omega
theorem sgn_word (v b : Int) (hv : word v) : word (sgnF v b) := by
  unfold sgnF; split
  · exact ⟨by omega, by omega⟩
  · split
    · exact hv
    · have h2 := pow_pos b.toNat
      have h1 := pow_lt64 b.toNat (by omega)
      have := Int.emod_nonneg v (show (2 : Int) ^ b.toNat ≠ 0 by omega)
      have := Int.emod_lt_of_pos v h2
      split
      · exact ⟨by omega, by omega⟩
      · rename_i h0 h64 hh
        have : (2 : Int) ^ b.toNat = 2 * 2 ^ (b.toNat - 1) := by rw [show (2 : Int) * 2 ^ (b.toNat - 1) = 2 ^ 1 * 2 ^ (b.toNat - 1) from rfl, ← pow_split]; congr 1; omega
        exact ⟨by omega, by omega⟩

theorem shr_word (a : Int) (n : Nat) (h : word a) : word (a / 2 ^ n) :=
  ⟨Int.ediv_nonneg h.1 (Int.le_of_lt (pow_pos n)), Int.lt_of_le_of_lt (Int.ediv_le_self _ h.1) h.2⟩

/-- nothing that was there has changed -/
abbrev Gr (w w' : World) : Prop := Below w.heap.size w w'
theorem Gr.refl (w : World) : Gr w w := Below.refl _ _
theorem Gr.drewN {W w' : World} (h : Gr W w') (n : Nat) : Gr W (w'.drewN n) := ⟨h.os, h.tape, h.output, h.size, h.block⟩
theorem gtrans {a b c : World} (h : Gr a b) (k : Gr b c) : Gr a c := Below.trans h (Below.mono k h.size)
/-! ### what Reckon answers -/
def M : Int := 18446744073709551616
def shrF (a b : Int) : Int := a / 2 ^ (b % 64).toNat
def sarF (a b : Int) : Int := (s64 a / 2 ^ (b % 64).toNat) % 18446744073709551616
def shlF (a b : Int) : Int := (a * 2 ^ (b % 64).toNat) % 18446744073709551616
def hiF (a b : Int) : Int := a * b / 18446744073709551616
def abF (a b : Int) : Int := if a < 9223372036854775808 then 0 else b
def divF (a b : Int) : Int := if b = 0 then 18446744073709551615 else ((s64 a).tdiv (s64 b)) % 18446744073709551616
def remF (a b : Int) : Int := if b = 0 then a else ((s64 a).tmod (s64 b)) % 18446744073709551616
def divuF (a b : Int) : Int := if b = 0 then 18446744073709551615 else a / b
def remuF (a b : Int) : Int := if b = 0 then a else a % b
def xorF (a b : Int) : Int := ((a.toNat ^^^ b.toNat : Nat) : Int)
def orF (a b : Int) : Int := ((a.toNat ||| b.toNat : Nat) : Int)
def andF (a b : Int) : Int := ((a.toNat &&& b.toNat : Nat) : Int)
def truF (c : Bool) : Int := if c then 1 else 0
def wideF (op a b : Int) : Int :=
  if op = 35 then (a + b) % 18446744073709551616 else if op = 36 then (a - b) % 18446744073709551616
  else if op = 37 then shlF a b else if op = 38 then truF (decide (s64 a < s64 b)) else if op = 39 then truF (decide (a < b))
  else if op = 40 then xorF a b else if op = 41 then shrF a b else if op = 42 then sarF a b else if op = 43 then orF a b else if op = 44 then andF a b
  else if op = 50 then (a * b) % 18446744073709551616 else if op = 51 then (hiF a b - abF a b - abF b a) % 18446744073709551616
  else if op = 52 then (hiF a b - abF a b) % 18446744073709551616 else if op = 53 then hiF a b
  else if op = 54 then divF a b else if op = 55 then divuF a b else if op = 56 then remF a b else if op = 57 then remuF a b else 0
def isWide (op : Int) : Bool := decide ((35 ≤ op ∧ op ≤ 44) ∨ (50 ≤ op ∧ op ≤ 57))
def isNarrow (op : Int) : Bool := decide ((45 ≤ op ∧ op ≤ 49) ∨ (58 ≤ op ∧ op ≤ 62))
def widened (op : Int) : Int := if op = 45 then 35 else if op = 46 then 36 else if op = 47 then 37 else if op = 48 then 41 else if op = 49 then 42
  else if op = 58 then 50 else if op = 59 then 54 else if op = 60 then 55 else if op = 61 then 56 else 57
def takeF (op v : Int) : Int := if op = 48 ∨ op = 60 ∨ op = 62 then lowF v 32 else sgnF v 32
def takeB (op v : Int) : Int := if op = 47 ∨ op = 48 ∨ op = 49 then v % 32 else takeF op v
def reckV (op a b : Int) : Int := if isWide op then wideF op a b else if isNarrow op then sgnF (wideF (widened op) (takeF op a) (takeB op b)) 32 else 0
def reckB (op : Int) : Bool := isWide op || isNarrow op
theorem w_prod (x y : Int) : word (x % 4294967296 * (y % 4294967296)) := by
  have r1 := Int.emod_nonneg x (show (4294967296 : Int) ≠ 0 by decide)
  have r2 := Int.emod_lt_of_pos x (show (0 : Int) < 4294967296 by decide)
  have r3 := Int.emod_nonneg y (show (4294967296 : Int) ≠ 0 by decide)
  have r4 := Int.emod_lt_of_pos y (show (0 : Int) < 4294967296 by decide)
  have hm := Int.mul_nonneg r1 r3
  have hl : x % 4294967296 * (y % 4294967296) ≤ 4294967295 * 4294967295 := Int.mul_le_mul (by omega) (by omega) r3 (by decide)
  exact ⟨hm, by omega⟩
theorem hi_parts (a1 a0 b1 b0 : Int) (h1 : 0 ≤ a1) (h2 : a1 < 4294967296) (h3 : 0 ≤ a0) (h4 : a0 < 4294967296) (h5 : 0 ≤ b1) (h6 : b1 < 4294967296) (h7 : 0 ≤ b0) (h8 : b0 < 4294967296) :
    IntKind.u64.wrap (IntKind.u64.wrap (IntKind.u64.wrap (a1 * b1 + a1 * b0 / 4294967296) + a0 * b1 / 4294967296) +
        IntKind.u64.wrap (IntKind.u64.wrap (a0 * b0 / 4294967296 + lowF (a1 * b0) 32) + lowF (a0 * b1) 32) / 4294967296) =
    (a1 * 4294967296 + a0) * (b1 * 4294967296 + b0) / 18446744073709551616 := by
  have e : (a1 * 4294967296 + a0) * (b1 * 4294967296 + b0) = a1 * b1 * 18446744073709551616 + (a1 * b0 + a0 * b1) * 4294967296 + a0 * b0 := by
    rw [Int.add_mul, Int.mul_add, Int.mul_add]
    have e1 : a1 * 4294967296 * (b1 * 4294967296) = a1 * b1 * 18446744073709551616 := by
      rw [Int.mul_assoc, Int.mul_left_comm 4294967296, ← Int.mul_assoc]; rfl
    have e2 : a1 * 4294967296 * b0 = a1 * b0 * 4294967296 := by rw [Int.mul_assoc, Int.mul_comm 4294967296, ← Int.mul_assoc]
    have e3 : a0 * (b1 * 4294967296) = a0 * b1 * 4294967296 := by rw [← Int.mul_assoc]
    rw [e1, e2, e3]; omega
  rw [e]
  have m1 : a1 * b1 ≤ 4294967295 * 4294967295 := Int.mul_le_mul (by omega) (by omega) h5 (by decide)
  have m2 : a1 * b0 ≤ 4294967295 * 4294967295 := Int.mul_le_mul (by omega) (by omega) h7 (by decide)
  have m3 : a0 * b1 ≤ 4294967295 * 4294967295 := Int.mul_le_mul (by omega) (by omega) h5 (by decide)
  have m4 : a0 * b0 ≤ 4294967295 * 4294967295 := Int.mul_le_mul (by omega) (by omega) h7 (by decide)
  have n1 := Int.mul_nonneg h1 h5
  have n2 := Int.mul_nonneg h1 h7
  have n3 := Int.mul_nonneg h3 h5
  have n4 := Int.mul_nonneg h3 h7
  simp only [wrap_mod, show ∀ v, lowF v 32 = v % 4294967296 from fun v => rfl]
  generalize a1 * b1 = s at *; generalize a1 * b0 = q at *; generalize a0 * b1 = r at *; generalize a0 * b0 = p at *
  omega
theorem hi_val (a b : Int) (ha : word a) (hb : word b) :
    IntKind.u64.wrap (IntKind.u64.wrap (IntKind.u64.wrap (a / 4294967296 % 4294967296 * (b / 4294967296 % 4294967296) +
        a / 4294967296 % 4294967296 * (b % 4294967296) / 4294967296) + a % 4294967296 * (b / 4294967296 % 4294967296) / 4294967296) +
        IntKind.u64.wrap (IntKind.u64.wrap (a % 4294967296 * (b % 4294967296) / 4294967296 + lowF (a / 4294967296 % 4294967296 * (b % 4294967296)) 32) +
              lowF (a % 4294967296 * (b / 4294967296 % 4294967296)) 32) / 4294967296) = hiF a b := by
  obtain ⟨ha1, ha2⟩ := ha
  obtain ⟨hb1, hb2⟩ := hb
  rw [hi_parts _ _ _ _ (by omega) (by omega) (by omega) (by omega) (by omega) (by omega) (by omega) (by omega)]
  unfold hiF
  rw [show a / 4294967296 % 4294967296 * 4294967296 + a % 4294967296 = a by omega, show b / 4294967296 % 4294967296 * 4294967296 + b % 4294967296 = b by omega]
theorem hi_word (a b : Int) (ha : word a) (hb : word b) : word (hiF a b) := by
  obtain ⟨ha1, ha2⟩ := ha
  obtain ⟨hb1, hb2⟩ := hb
  have m1 : a * b ≤ 18446744073709551615 * 18446744073709551615 := Int.mul_le_mul (by omega) (by omega) hb1 (by decide)
  have n1 := Int.mul_nonneg ha1 hb1
  unfold hiF
  generalize a * b = p at *
  exact ⟨by omega, by omega⟩
theorem div_m1 (a : Int) (ha : word a) : IntKind.u64.wrap (-a) = divF a 18446744073709551615 := by
  have e : s64 18446744073709551615 = -1 := by decide
  unfold divF; rw [if_neg (by decide), e, Int.tdiv_neg, Int.tdiv_one, wrap_mod]
  obtain ⟨h1, h2⟩ := ha; unfold s64; split <;> omega
theorem div_gen (a b : Int) (ha : word a) (hb : word b) (h : b ≠ 0) : IntKind.u64.wrap (wrap64 ((wrap64 a).tdiv (wrap64 b))) = divF a b := by
  unfold divF; rw [if_neg h, wrap64_s a ha, wrap64_s b hb, wrap_mod]
  generalize (s64 a).tdiv (s64 b) = x
  unfold wrap64; omega
theorem rem_m1 (a : Int) : 0 = remF a 18446744073709551615 := by
  have e : s64 18446744073709551615 = -1 := by decide
  unfold remF; rw [if_neg (by decide), e, Int.tmod_neg, Int.tmod_one]; rfl
theorem rem_gen (a b : Int) (ha : word a) (hb : word b) (h : b ≠ 0) : IntKind.u64.wrap ((wrap64 a).tmod (wrap64 b)) = remF a b := by
  unfold remF; rw [if_neg h, wrap64_s a ha, wrap64_s b hb, wrap_mod]
theorem mod_word (x : Int) : word (x % 18446744073709551616) := ⟨by omega, by omega⟩
theorem ite_word (c : Prop) [Decidable c] (x y : Int) (hx : word x) (hy : word y) : word (if c then x else y) := by split <;> assumption
theorem bit_word (f : Bool → Bool → Bool) (a b : Nat) (ha : a < 2 ^ 64) (hb : b < 2 ^ 64) (h0 : f false false = false) : Nat.bitwise f a b < 2 ^ 64 := Nat.bitwise_lt_two_pow ha hb
theorem xor_word (a b : Int) (ha : word a) (hb : word b) : word (xorF a b) := by
  obtain ⟨a1, a2⟩ := ha; obtain ⟨b1, b2⟩ := hb
  have := Nat.xor_lt_two_pow (n := 64) (show a.toNat < 2 ^ 64 by omega) (show b.toNat < 2 ^ 64 by omega)
  unfold xorF; exact ⟨by omega, by omega⟩
theorem or_word (a b : Int) (ha : word a) (hb : word b) : word (orF a b) := by
  obtain ⟨a1, a2⟩ := ha; obtain ⟨b1, b2⟩ := hb
  have := Nat.or_lt_two_pow (n := 64) (show a.toNat < 2 ^ 64 by omega) (show b.toNat < 2 ^ 64 by omega)
  unfold orF; exact ⟨by omega, by omega⟩
theorem and_word (a b : Int) (ha : word a) (hb : word b) : word (andF a b) := by
  obtain ⟨a1, a2⟩ := ha; obtain ⟨b1, b2⟩ := hb
  have := Nat.and_lt_two_pow (n := 64) a.toNat (show b.toNat < 2 ^ 64 by omega)
  unfold andF; exact ⟨by omega, by omega⟩
theorem w0 : word 0 := ⟨by decide, by decide⟩
theorem w1 : word 1 := ⟨by decide, by decide⟩
theorem tru_word (c : Bool) : word (truF c) := by cases c <;> exact ⟨by decide, by decide⟩
theorem div_word (a b : Int) : word (divF a b) := by unfold divF; exact ite_word _ _ _ ⟨by decide, by decide⟩ (mod_word _)
theorem divu_word (a b : Int) (ha : word a) (hb : word b) : word (divuF a b) := by
  obtain ⟨a1, a2⟩ := ha; obtain ⟨b1, b2⟩ := hb
  unfold divuF; exact ite_word _ _ _ ⟨by decide, by decide⟩ ⟨Int.ediv_nonneg a1 b1, Int.lt_of_le_of_lt (Int.ediv_le_self _ a1) a2⟩
theorem rem_word (a b : Int) (ha : word a) : word (remF a b) := by unfold remF; exact ite_word _ _ _ ha (mod_word _)
theorem remu_word (a b : Int) (ha : word a) (hb : word b) : word (remuF a b) := by
  obtain ⟨a1, a2⟩ := ha; obtain ⟨b1, b2⟩ := hb
  unfold remuF; split
  · exact ⟨a1, a2⟩
  · have := Int.emod_lt_of_pos a (show 0 < b by omega)
    exact ⟨Int.emod_nonneg _ (by omega), by omega⟩
theorem wide_word (op a b : Int) (ha : word a) (hb : word b) : word (wideF op a b) := by
  unfold wideF
  repeat' (with_reducible refine ite_word _ _ _ ?_ ?_)
  all_goals first
    | exact mod_word _ | exact tru_word _ | exact xor_word _ _ ha hb | exact or_word _ _ ha hb | exact and_word _ _ ha hb | exact hi_word _ _ ha hb | exact w0
    | exact div_word _ _ | exact divu_word _ _ ha hb | exact rem_word _ _ ha | exact remu_word _ _ ha hb | exact shr_word _ _ ha
end Go.Proofs.YtlpcccpagmipnaaGreat.W
