/- Stage 2: two words of one opcode: what they differ in: plain facts. No condition. -/
import Derived.Test.YthcfobefpknjeaaDoorB7
set_option linter.unusedVariables false
set_option linter.unusedSimpArgs false
namespace Go.Proofs.YthcfobefpknjeaaDoor.P
open Go.RowKit
theorem xor_parts (n u v x y : Nat) (hu : u < 2 ^ n) (hv : v < 2 ^ n) : (u + 2 ^ n * x) ^^^ (v + 2 ^ n * y) = (u ^^^ v) + 2 ^ n * (x ^^^ y) := by
  have huv : u ^^^ v < 2 ^ n := Nat.xor_lt_two_pow hu hv
  apply Nat.eq_of_testBit_eq
  intro j
  rw [Nat.testBit_xor, Nat.add_comm u, Nat.add_comm v, Nat.add_comm (u ^^^ v), Nat.testBit_two_pow_mul_add x hu j, Nat.testBit_two_pow_mul_add y hv j, Nat.testBit_two_pow_mul_add (x ^^^ y) huv j]
  by_cases h : j < n
  · rw [if_pos h, if_pos h, if_pos h, Nat.testBit_xor]
  · rw [if_neg h, if_neg h, if_neg h, Nat.testBit_xor]
theorem pk_xor : ∀ (ws us vs : List Nat), okk ws us → okk ws vs → pk ws us ^^^ pk ws vs = pk ws (List.zipWith (· ^^^ ·) us vs)
  | [], [], [], _, _ => rfl
  | n :: ws, u :: us, v :: vs, hu, hv => by
    have := xor_parts n u v (pk ws us) (pk ws vs) hu.1 hv.1
    rw [pk_xor ws us vs hu.2 hv.2] at this
    exact this
  | [], _ :: _, _, h, _ => h.elim
  | [], [], _ :: _, _, h => h.elim
  | _ :: _, [], _, h, _ => h.elim
  | _ :: _, _ :: _, [], _, h => h.elim
theorem xor_i64 : ∀ x : Nat, x < 32 → ∀ y : Nat, y < 32 → bits .xor .i64 (x : Int) (y : Int) = ((x ^^^ y : Nat) : Int) := by decide +kernel
theorem xor_lt32 (x y : Nat) (hx : x < 32) (hy : y < 32) : x ^^^ y < 32 := Nat.xor_lt_two_pow (n := 5) hx hy
/-- The registers apart. -/
theorem regs_xor (G r a b p q s : Nat) (hG : G < 4294967296) (hr : r < 32) (ha : a < 32) (hb : b < 32) (hp : p < 32) (hq : q < 32) (hs : s < 32)
    (h1 : G / 128 % 32 = 0 ∨ (r = 0 ∧ p = 0)) (h2 : G / 32768 % 32 = 0 ∨ (a = 0 ∧ q = 0)) (h3 : G / 1048576 % 32 = 0 ∨ (b = 0 ∧ s = 0)) :
    bits .xor .u32 ((G + r * 128 + a * 32768 + b * 1048576 : Nat) : Int) ((G + p * 128 + q * 32768 + s * 1048576 : Nat) : Int) = (((r ^^^ p) * 128 + (a ^^^ q) * 32768 + (b ^^^ s) * 1048576 : Nat) : Int) := by
  have e1 : G + r * 128 + a * 32768 + b * 1048576 = pk [7, 5, 3, 5, 5, 7] [G % 128, G / 128 % 32 + r, G / 4096 % 8, G / 32768 % 32 + a, G / 1048576 % 32 + b, G / 33554432] := by
    simp only [pk, Nat.reducePow]; omega
  have e2 : G + p * 128 + q * 32768 + s * 1048576 = pk [7, 5, 3, 5, 5, 7] [G % 128, G / 128 % 32 + p, G / 4096 % 8, G / 32768 % 32 + q, G / 1048576 % 32 + s, G / 33554432] := by
    simp only [pk, Nat.reducePow]; omega
  have o1 : okk [7, 5, 3, 5, 5, 7] [G % 128, G / 128 % 32 + r, G / 4096 % 8, G / 32768 % 32 + a, G / 1048576 % 32 + b, G / 33554432] := by
    simp only [okk, Nat.reducePow, and_true]; omega
  have o2 : okk [7, 5, 3, 5, 5, 7] [G % 128, G / 128 % 32 + p, G / 4096 % 8, G / 32768 % 32 + q, G / 1048576 % 32 + s, G / 33554432] := by
    simp only [okk, Nat.reducePow, and_true]; omega
  have l1 := pk_lt _ _ o1
  have l2 := pk_lt _ _ o2
  rw [← e1] at l1
  rw [← e2] at l2
  rw [u32_xor_nat _ _ (by simpa using l1) (by simpa using l2), e1, e2, pk_xor _ _ _ o1 o2]
  congr 1
  have x1 : (G / 128 % 32 + r) ^^^ (G / 128 % 32 + p) = r ^^^ p := by
    rcases h1 with h | ⟨h, k⟩
    · rw [h, Nat.zero_add, Nat.zero_add]
    · rw [h, k, Nat.xor_self, Nat.xor_self]
  have x2 : (G / 32768 % 32 + a) ^^^ (G / 32768 % 32 + q) = a ^^^ q := by
    rcases h2 with h | ⟨h, k⟩
    · rw [h, Nat.zero_add, Nat.zero_add]
    · rw [h, k, Nat.xor_self, Nat.xor_self]
  have x3 : (G / 1048576 % 32 + b) ^^^ (G / 1048576 % 32 + s) = b ^^^ s := by
    rcases h3 with h | ⟨h, k⟩
    · rw [h, Nat.zero_add, Nat.zero_add]
    · rw [h, k, Nat.xor_self, Nat.xor_self]
  simp only [List.zipWith, pk, Nat.reducePow, Nat.xor_self, x1, x2, x3]
  omega
/-- What is no register in a word. -/
def restF (k : Nat) (i : Int) : Int := fixT k + encI (fmT k) (i % 4294967296)
theorem enc_rest (k : Nat) (rd a b i : Int) : encF k rd a b i = restF k i + rd * 128 + a * 32768 + b * 1048576 := by
  unfold encF restF; omega
theorem rest_facts (k : Nat) (hk : k < 88) (h1 : 1 ≤ k) (i : Int) (hj : mayI (fmT k) i = true) :
    0 ≤ restF k i ∧ restF k i < 4294967296 ∧ ((fmT k ≠ 66 ∧ fmT k ≠ 83 ∧ fmT k ≠ 78) → restF k i / 128 % 32 = 0) ∧ ((fmT k ≠ 85 ∧ fmT k ≠ 74 ∧ fmT k ≠ 78) → restF k i / 32768 % 32 = 0) ∧ ((fmT k = 66 ∨ fmT k = 83 ∨ fmT k = 82 ∨ fmT k = 65) → restF k i / 1048576 % 32 = 0) := by
  have hx := fix_u32 k hk
  have hu := fix_u k hk
  have hi := fix_i k hk
  have hh := fix_h k hk
  have hv := fix_v k hk
  have ha := fix_a k hk
  unfold restF
  rcases fm_cases k hk h1 with hf | hf | hf | hf | hf | hf | hf | hf | hf | hf
  all_goals
    rw [hf] at hu hi hh hv ha hj ⊢
    simp only [encI, Int.reduceEq, if_false, if_true]
    simp [mayI] at hj hu hi hh hv ha
    generalize fixT k = f at *
    have q0 : 0 ≤ i % 4294967296 / 4096 % 2 ∧ i % 4294967296 / 4096 % 2 < 2 := by omega
    have q1 : 0 ≤ i % 4294967296 / 32 % 64 ∧ i % 4294967296 / 32 % 64 < 64 := by omega
    have q2 : 0 ≤ i % 4294967296 / 2 % 16 ∧ i % 4294967296 / 2 % 16 < 16 := by omega
    have q3 : 0 ≤ i % 4294967296 / 2048 % 2 ∧ i % 4294967296 / 2048 % 2 < 2 := by omega
    refine ⟨by omega, by omega, fun h => (by first | omega | (exfalso; simp at h; done) | (clear hj; generalize i % 4294967296 / 4096 % 2 = m0 at *; generalize i % 4294967296 / 32 % 64 = m1 at *; generalize i % 4294967296 / 2 % 16 = m2 at *; generalize i % 4294967296 / 2048 % 2 = m3 at *; omega)), fun h => (by first | omega | (exfalso; simp at h; done) | (clear hj; generalize i % 4294967296 / 4096 % 2 = m0 at *; generalize i % 4294967296 / 32 % 64 = m1 at *; generalize i % 4294967296 / 2 % 16 = m2 at *; generalize i % 4294967296 / 2048 % 2 = m3 at *; omega)), fun h => (by first | omega | (exfalso; simp at h; done) | (clear hj; generalize i % 4294967296 / 4096 % 2 = m0 at *; generalize i % 4294967296 / 32 % 64 = m1 at *; generalize i % 4294967296 / 2 % 16 = m2 at *; generalize i % 4294967296 / 2048 % 2 = m3 at *; omega))⟩
end Go.Proofs.YthcfobefpknjeaaDoor.P
