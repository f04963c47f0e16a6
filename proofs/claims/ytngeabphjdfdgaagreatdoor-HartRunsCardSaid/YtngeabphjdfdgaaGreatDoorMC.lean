/- Stage 2: the document's fields put together: plain sums. No condition. -/
import Derived.Test.YtngeabphjdfdgaaGreatDoorMA
import Derived.Test.YtngeabphjdfdgaaGreatDoorMB
set_option linter.unusedVariables false
set_option linter.unusedSimpArgs false
set_option maxRecDepth 100000
namespace Go.Proofs.YtngeabphjdfdgaaGreatDoor.P
open Go.RowKit
def fldI (v n m t : Int) : Int := fldN v n.toNat m.toNat t.toNat
theorem r_field (v n m t : Int) (hv : i64 v) (hs : 0 ≤ n ∧ n ≤ 63 ∧ 0 ≤ m ∧ 0 ≤ t ∧ m + t ≤ 32) (w : World) : Calls Tryz.prog 78 #[.int .i64 v, .int .i64 n, .int .i64 m, .int .i64 t] w fun e w' => e = .returned (.int .u32 (fldI v n m t)) ∧ w' = w := by
  have := r_fieldN v hv n.toNat m.toNat t.toNat (by omega) (by omega) w
  rw [Int.toNat_of_nonneg hs.1, Int.toNat_of_nonneg hs.2.2.1, Int.toNat_of_nonneg hs.2.2.2.1] at this
  exact this
theorem rc_in : ∀ k : Nat, k < 88 → 0 ≤ rcT k ∧ rcT k < 4294967296 := by decide +kernel
theorem r3_in : ∀ k : Nat, k < 88 → 0 ≤ r3T k ∧ r3T k < 8 := by decide +kernel
theorem r7_in : ∀ k : Nat, k < 88 → 0 ≤ r7T k ∧ r7T k < 64 := by decide +kernel
theorem fix_is : ∀ k : Nat, k < 88 → 1 ≤ k → fixT k = (if fmT k = 85 ∨ fmT k = 74 ∨ fmT k = 78 then rcT k else rcT k + r3T k * 4096 + (if fmT k = 65 then r7T k * 134217728 else if fmT k = 82 ∨ fmT k = 72 ∨ fmT k = 86 then r7T k * 33554432 else 0)) := by decide +kernel
theorem rc_small : ∀ k : Nat, k < 88 → fmT k ≠ 78 → rcT k < 128 := by decide +kernel
theorem r7_a : ∀ k : Nat, k < 88 → fmT k = 65 → r7T k < 32 := by decide +kernel
theorem fldI_in (v n m t : Int) (h : 0 ≤ m ∧ 0 ≤ t ∧ m + t ≤ 32) : 0 ≤ fldI v n m t ∧ fldI v n m t < 4294967296 := by
  unfold fldI
  obtain ⟨a, b⟩ := fld_in v n.toNat m.toNat t.toNat
  refine ⟨a, Int.lt_of_lt_of_le b ?_⟩
  have h2 : ((2 ^ (t.toNat + m.toNat) : Nat) : Int) ≤ ((2 ^ 32 : Nat) : Int) := Int.ofNat_le.2 (Nat.pow_le_pow_right (by decide) (by omega))
  simpa using h2
theorem enc_sum_85 (k : Nat) (hk : k < 88) (h1 : 1 ≤ k) (hv : fmT k = 85) (rd a b i : Int) (hi : i64 i) (hm : mayF (k : Int) rd a b i = true) (hrd : 0 ≤ rd ∧ rd < 32) (ha : 0 ≤ a ∧ a < 32) (hb : 0 ≤ b ∧ b < 32) : rcT k + fldI rd 0 5 7 + fldI i 12 20 12 = encF k rd a b i ∧ encF k rd a b i < 4294967296 := by
  rw [may_in hk h1, hv] at hm
  generalize resB k = q at hm
  simp only [mayR, mayI, fitsB, oneB, Int.reduceEq, if_false, if_true, Bool.and_eq_true, Bool.or_eq_true, decide_eq_true_eq, Bool.true_and, Bool.false_and, Bool.and_true, Bool.not_true, Bool.not_false, Bool.false_or, Bool.true_or, Bool.or_false, Bool.false_eq_true, or_false, false_and, true_and, and_true, reduceCtorEq] at hm
  have hf := fix_is k hk h1
  rw [hv] at hf
  simp only [Int.reduceEq, or_false, false_or, or_true, true_or, if_false, if_true] at hf
  have e0 := rc_in k hk
  have e3 := r3_in k hk
  have e7 := r7_in k hk
  have ec := rc_small k hk (by rw [hv]; decide)
  unfold i64 at hi
  unfold encF encI
  rw [hv, hf]
  simp only [Int.reduceEq, if_false, if_true]
  clear hf hv
  generalize rcT k = rc at *
  generalize r3T k = f3 at *
  generalize r7T k = f7 at *
  try simp only [fldI, fldN, hv64, Int.reduceToNat, Nat.reducePow, Int.reducePow]
  omega
theorem enc_sum_74 (k : Nat) (hk : k < 88) (h1 : 1 ≤ k) (hv : fmT k = 74) (rd a b i : Int) (hi : i64 i) (hm : mayF (k : Int) rd a b i = true) (hrd : 0 ≤ rd ∧ rd < 32) (ha : 0 ≤ a ∧ a < 32) (hb : 0 ≤ b ∧ b < 32) : rcT k + fldI rd 0 5 7 + fldI i 20 1 31 + fldI i 1 10 21 + fldI i 11 1 20 + fldI i 12 8 12 = encF k rd a b i ∧ encF k rd a b i < 4294967296 := by
  rw [may_in hk h1, hv] at hm
  generalize resB k = q at hm
  simp only [mayR, mayI, fitsB, oneB, Int.reduceEq, if_false, if_true, Bool.and_eq_true, Bool.or_eq_true, decide_eq_true_eq, Bool.true_and, Bool.false_and, Bool.and_true, Bool.not_true, Bool.not_false, Bool.false_or, Bool.true_or, Bool.or_false, Bool.false_eq_true, or_false, false_and, true_and, and_true, reduceCtorEq] at hm
  have hf := fix_is k hk h1
  rw [hv] at hf
  simp only [Int.reduceEq, or_false, false_or, or_true, true_or, if_false, if_true] at hf
  have e0 := rc_in k hk
  have e3 := r3_in k hk
  have e7 := r7_in k hk
  have ec := rc_small k hk (by rw [hv]; decide)
  unfold i64 at hi
  unfold encF encI
  rw [hv, hf]
  simp only [Int.reduceEq, if_false, if_true]
  clear hf hv
  generalize rcT k = rc at *
  generalize r3T k = f3 at *
  generalize r7T k = f7 at *
  try simp only [fldI, fldN, hv64, Int.reduceToNat, Nat.reducePow, Int.reducePow]
  omega
theorem enc_sum_73 (k : Nat) (hk : k < 88) (h1 : 1 ≤ k) (hv : fmT k = 73) (rd a b i : Int) (hi : i64 i) (hm : mayF (k : Int) rd a b i = true) (hrd : 0 ≤ rd ∧ rd < 32) (ha : 0 ≤ a ∧ a < 32) (hb : 0 ≤ b ∧ b < 32) : rcT k + fldI rd 0 5 7 + fldI (r3T k) 0 3 12 + fldI a 0 5 15 + fldI i 0 12 20 = encF k rd a b i ∧ encF k rd a b i < 4294967296 := by
  rw [may_in hk h1, hv] at hm
  generalize resB k = q at hm
  simp only [mayR, mayI, fitsB, oneB, Int.reduceEq, if_false, if_true, Bool.and_eq_true, Bool.or_eq_true, decide_eq_true_eq, Bool.true_and, Bool.false_and, Bool.and_true, Bool.not_true, Bool.not_false, Bool.false_or, Bool.true_or, Bool.or_false, Bool.false_eq_true, or_false, false_and, true_and, and_true, reduceCtorEq] at hm
  have hf := fix_is k hk h1
  rw [hv] at hf
  simp only [Int.reduceEq, or_false, false_or, or_true, true_or, if_false, if_true] at hf
  have e0 := rc_in k hk
  have e3 := r3_in k hk
  have e7 := r7_in k hk
  have ec := rc_small k hk (by rw [hv]; decide)
  unfold i64 at hi
  unfold encF encI
  rw [hv, hf]
  simp only [Int.reduceEq, if_false, if_true]
  clear hf hv
  generalize rcT k = rc at *
  generalize r3T k = f3 at *
  generalize r7T k = f7 at *
  try simp only [fldI, fldN, hv64, Int.reduceToNat, Nat.reducePow, Int.reducePow]
  omega
theorem enc_sum_66 (k : Nat) (hk : k < 88) (h1 : 1 ≤ k) (hv : fmT k = 66) (rd a b i : Int) (hi : i64 i) (hm : mayF (k : Int) rd a b i = true) (hrd : 0 ≤ rd ∧ rd < 32) (ha : 0 ≤ a ∧ a < 32) (hb : 0 ≤ b ∧ b < 32) : rcT k + fldI (r3T k) 0 3 12 + fldI a 0 5 15 + fldI b 0 5 20 + fldI i 12 1 31 + fldI i 5 6 25 + fldI i 1 4 8 + fldI i 11 1 7 = encF k rd a b i ∧ encF k rd a b i < 4294967296 := by
  rw [may_in hk h1, hv] at hm
  generalize resB k = q at hm
  simp only [mayR, mayI, fitsB, oneB, Int.reduceEq, if_false, if_true, Bool.and_eq_true, Bool.or_eq_true, decide_eq_true_eq, Bool.true_and, Bool.false_and, Bool.and_true, Bool.not_true, Bool.not_false, Bool.false_or, Bool.true_or, Bool.or_false, Bool.false_eq_true, or_false, false_and, true_and, and_true, reduceCtorEq] at hm
  have hf := fix_is k hk h1
  rw [hv] at hf
  simp only [Int.reduceEq, or_false, false_or, or_true, true_or, if_false, if_true] at hf
  have e0 := rc_in k hk
  have e3 := r3_in k hk
  have e7 := r7_in k hk
  have ec := rc_small k hk (by rw [hv]; decide)
  unfold i64 at hi
  unfold encF encI
  rw [hv, hf]
  simp only [Int.reduceEq, if_false, if_true]
  clear hf hv
  generalize rcT k = rc at *
  generalize r3T k = f3 at *
  generalize r7T k = f7 at *
  try simp only [fldI, fldN, hv64, Int.reduceToNat, Nat.reducePow, Int.reducePow]
  omega
theorem enc_sum_83 (k : Nat) (hk : k < 88) (h1 : 1 ≤ k) (hv : fmT k = 83) (rd a b i : Int) (hi : i64 i) (hm : mayF (k : Int) rd a b i = true) (hrd : 0 ≤ rd ∧ rd < 32) (ha : 0 ≤ a ∧ a < 32) (hb : 0 ≤ b ∧ b < 32) : rcT k + fldI (r3T k) 0 3 12 + fldI a 0 5 15 + fldI b 0 5 20 + fldI i 5 7 25 + fldI i 0 5 7 = encF k rd a b i ∧ encF k rd a b i < 4294967296 := by
  rw [may_in hk h1, hv] at hm
  generalize resB k = q at hm
  simp only [mayR, mayI, fitsB, oneB, Int.reduceEq, if_false, if_true, Bool.and_eq_true, Bool.or_eq_true, decide_eq_true_eq, Bool.true_and, Bool.false_and, Bool.and_true, Bool.not_true, Bool.not_false, Bool.false_or, Bool.true_or, Bool.or_false, Bool.false_eq_true, or_false, false_and, true_and, and_true, reduceCtorEq] at hm
  have hf := fix_is k hk h1
  rw [hv] at hf
  simp only [Int.reduceEq, or_false, false_or, or_true, true_or, if_false, if_true] at hf
  have e0 := rc_in k hk
  have e3 := r3_in k hk
  have e7 := r7_in k hk
  have ec := rc_small k hk (by rw [hv]; decide)
  unfold i64 at hi
  unfold encF encI
  rw [hv, hf]
  simp only [Int.reduceEq, if_false, if_true]
  clear hf hv
  generalize rcT k = rc at *
  generalize r3T k = f3 at *
  generalize r7T k = f7 at *
  try simp only [fldI, fldN, hv64, Int.reduceToNat, Nat.reducePow, Int.reducePow]
  omega
theorem enc_sum_72 (k : Nat) (hk : k < 88) (h1 : 1 ≤ k) (hv : fmT k = 72) (rd a b i : Int) (hi : i64 i) (hm : mayF (k : Int) rd a b i = true) (hrd : 0 ≤ rd ∧ rd < 32) (ha : 0 ≤ a ∧ a < 32) (hb : 0 ≤ b ∧ b < 32) : rcT k + fldI rd 0 5 7 + fldI (r3T k) 0 3 12 + fldI a 0 5 15 + fldI i 0 6 20 + fldI (r7T k) 0 7 25 = encF k rd a b i ∧ encF k rd a b i < 4294967296 := by
  rw [may_in hk h1, hv] at hm
  generalize resB k = q at hm
  simp only [mayR, mayI, fitsB, oneB, Int.reduceEq, if_false, if_true, Bool.and_eq_true, Bool.or_eq_true, decide_eq_true_eq, Bool.true_and, Bool.false_and, Bool.and_true, Bool.not_true, Bool.not_false, Bool.false_or, Bool.true_or, Bool.or_false, Bool.false_eq_true, or_false, false_and, true_and, and_true, reduceCtorEq] at hm
  have hf := fix_is k hk h1
  rw [hv] at hf
  simp only [Int.reduceEq, or_false, false_or, or_true, true_or, if_false, if_true] at hf
  have e0 := rc_in k hk
  have e3 := r3_in k hk
  have e7 := r7_in k hk
  have ec := rc_small k hk (by rw [hv]; decide)
  unfold i64 at hi
  unfold encF encI
  rw [hv, hf]
  simp only [Int.reduceEq, if_false, if_true]
  clear hf hv
  generalize rcT k = rc at *
  generalize r3T k = f3 at *
  generalize r7T k = f7 at *
  try simp only [fldI, fldN, hv64, Int.reduceToNat, Nat.reducePow, Int.reducePow]
  omega
theorem enc_sum_86 (k : Nat) (hk : k < 88) (h1 : 1 ≤ k) (hv : fmT k = 86) (rd a b i : Int) (hi : i64 i) (hm : mayF (k : Int) rd a b i = true) (hrd : 0 ≤ rd ∧ rd < 32) (ha : 0 ≤ a ∧ a < 32) (hb : 0 ≤ b ∧ b < 32) : rcT k + fldI rd 0 5 7 + fldI (r3T k) 0 3 12 + fldI a 0 5 15 + fldI i 0 5 20 + fldI (r7T k) 0 7 25 = encF k rd a b i ∧ encF k rd a b i < 4294967296 := by
  rw [may_in hk h1, hv] at hm
  generalize resB k = q at hm
  simp only [mayR, mayI, fitsB, oneB, Int.reduceEq, if_false, if_true, Bool.and_eq_true, Bool.or_eq_true, decide_eq_true_eq, Bool.true_and, Bool.false_and, Bool.and_true, Bool.not_true, Bool.not_false, Bool.false_or, Bool.true_or, Bool.or_false, Bool.false_eq_true, or_false, false_and, true_and, and_true, reduceCtorEq] at hm
  have hf := fix_is k hk h1
  rw [hv] at hf
  simp only [Int.reduceEq, or_false, false_or, or_true, true_or, if_false, if_true] at hf
  have e0 := rc_in k hk
  have e3 := r3_in k hk
  have e7 := r7_in k hk
  have ec := rc_small k hk (by rw [hv]; decide)
  unfold i64 at hi
  unfold encF encI
  rw [hv, hf]
  simp only [Int.reduceEq, if_false, if_true]
  clear hf hv
  generalize rcT k = rc at *
  generalize r3T k = f3 at *
  generalize r7T k = f7 at *
  try simp only [fldI, fldN, hv64, Int.reduceToNat, Nat.reducePow, Int.reducePow]
  omega
theorem enc_sum_82 (k : Nat) (hk : k < 88) (h1 : 1 ≤ k) (hv : fmT k = 82) (rd a b i : Int) (hi : i64 i) (hm : mayF (k : Int) rd a b i = true) (hrd : 0 ≤ rd ∧ rd < 32) (ha : 0 ≤ a ∧ a < 32) (hb : 0 ≤ b ∧ b < 32) : rcT k + fldI rd 0 5 7 + fldI (r3T k) 0 3 12 + fldI a 0 5 15 + fldI b 0 5 20 + fldI (r7T k) 0 7 25 = encF k rd a b i ∧ encF k rd a b i < 4294967296 := by
  rw [may_in hk h1, hv] at hm
  generalize resB k = q at hm
  simp only [mayR, mayI, fitsB, oneB, Int.reduceEq, if_false, if_true, Bool.and_eq_true, Bool.or_eq_true, decide_eq_true_eq, Bool.true_and, Bool.false_and, Bool.and_true, Bool.not_true, Bool.not_false, Bool.false_or, Bool.true_or, Bool.or_false, Bool.false_eq_true, or_false, false_and, true_and, and_true, reduceCtorEq] at hm
  have hf := fix_is k hk h1
  rw [hv] at hf
  simp only [Int.reduceEq, or_false, false_or, or_true, true_or, if_false, if_true] at hf
  have e0 := rc_in k hk
  have e3 := r3_in k hk
  have e7 := r7_in k hk
  have ec := rc_small k hk (by rw [hv]; decide)
  unfold i64 at hi
  unfold encF encI
  rw [hv, hf]
  simp only [Int.reduceEq, if_false, if_true]
  clear hf hv
  generalize rcT k = rc at *
  generalize r3T k = f3 at *
  generalize r7T k = f7 at *
  try simp only [fldI, fldN, hv64, Int.reduceToNat, Nat.reducePow, Int.reducePow]
  omega
theorem enc_sum_65 (k : Nat) (hk : k < 88) (h1 : 1 ≤ k) (hv : fmT k = 65) (rd a b i : Int) (hi : i64 i) (hm : mayF (k : Int) rd a b i = true) (hrd : 0 ≤ rd ∧ rd < 32) (ha : 0 ≤ a ∧ a < 32) (hb : 0 ≤ b ∧ b < 32) : rcT k + fldI rd 0 5 7 + fldI (r3T k) 0 3 12 + fldI a 0 5 15 + fldI b 0 5 20 + fldI i 0 2 25 + fldI (r7T k) 0 5 27 = encF k rd a b i ∧ encF k rd a b i < 4294967296 := by
  rw [may_in hk h1, hv] at hm
  generalize resB k = q at hm
  simp only [mayR, mayI, fitsB, oneB, Int.reduceEq, if_false, if_true, Bool.and_eq_true, Bool.or_eq_true, decide_eq_true_eq, Bool.true_and, Bool.false_and, Bool.and_true, Bool.not_true, Bool.not_false, Bool.false_or, Bool.true_or, Bool.or_false, Bool.false_eq_true, or_false, false_and, true_and, and_true, reduceCtorEq] at hm
  have hf := fix_is k hk h1
  rw [hv] at hf
  simp only [Int.reduceEq, or_false, false_or, or_true, true_or, if_false, if_true] at hf
  have e0 := rc_in k hk
  have e3 := r3_in k hk
  have e7 := r7_in k hk
  have ec := rc_small k hk (by rw [hv]; decide)
  have e9 := r7_a k hk hv
  unfold i64 at hi
  unfold encF encI
  rw [hv, hf]
  simp only [Int.reduceEq, if_false, if_true]
  clear hf hv
  generalize rcT k = rc at *
  generalize r3T k = f3 at *
  generalize r7T k = f7 at *
  try simp only [fldI, fldN, hv64, Int.reduceToNat, Nat.reducePow, Int.reducePow]
  omega
theorem enc_sum_78 (k : Nat) (hk : k < 88) (h1 : 1 ≤ k) (hv : fmT k = 78) (rd a b i : Int) (hi : i64 i) (hm : mayF (k : Int) rd a b i = true) (hrd : 0 ≤ rd ∧ rd < 32) (ha : 0 ≤ a ∧ a < 32) (hb : 0 ≤ b ∧ b < 32) : rcT k = encF k rd a b i ∧ encF k rd a b i < 4294967296 := by
  rw [may_in hk h1, hv] at hm
  generalize resB k = q at hm
  simp only [mayR, mayI, fitsB, oneB, Int.reduceEq, if_false, if_true, Bool.and_eq_true, Bool.or_eq_true, decide_eq_true_eq, Bool.true_and, Bool.false_and, Bool.and_true, Bool.not_true, Bool.not_false, Bool.false_or, Bool.true_or, Bool.or_false, Bool.false_eq_true, or_false, false_and, true_and, and_true, reduceCtorEq] at hm
  have hf := fix_is k hk h1
  rw [hv] at hf
  simp only [Int.reduceEq, or_false, false_or, or_true, true_or, if_false, if_true] at hf
  have e0 := rc_in k hk
  have e3 := r3_in k hk
  have e7 := r7_in k hk
  skip
  unfold i64 at hi
  unfold encF encI
  rw [hv, hf]
  simp only [Int.reduceEq, if_false, if_true]
  clear hf hv
  generalize rcT k = rc at *
  generalize r3T k = f3 at *
  generalize r7T k = f7 at *
  try simp only [fldI, fldN, hv64, Int.reduceToNat, Nat.reducePow, Int.reducePow]
  omega
end Go.Proofs.YtngeabphjdfdgaaGreatDoor.P
