/- Stage 2: words and their instructions: what a word's fields are. No condition. -/
import Derived.Test.YtngeabphjdfdgaaDoorDP
import Derived.Test.YtngeabphjdfdgaaDoorMJ
set_option linter.unusedVariables false
set_option linter.unusedSimpArgs false
set_option maxRecDepth 100000
namespace Go.Proofs.YtngeabphjdfdgaaDoor.P
open Go.RowKit
def fitD (f x : Int) : Int := if f = 66 ∨ f = 83 ∨ f = 78 then 0 else x / 128 % 32
def fitA (f x : Int) : Int := if f = 85 ∨ f = 74 ∨ f = 78 then 0 else x / 32768 % 32
def fitB (f : Int) (q : Bool) (x : Int) : Int := if f = 66 ∨ f = 83 ∨ f = 82 then x / 1048576 % 32 else if f = 65 then (bif q then 0 else x / 1048576 % 32) else 0
def fitI (f x : Int) : Int :=
  if f = 85 then sgN (x / 4096 % 1048576) 20 * 4096 else
  if f = 74 then sgN (x / 2147483648 % 2 * 524288 + x / 4096 % 256 * 2048 + x / 1048576 % 2 * 1024 + x / 2097152 % 1024) 20 * 2 else
  if f = 73 then sgN (x / 1048576 % 4096) 12 else
  if f = 66 then sgN (x / 2147483648 % 2 * 2048 + x / 128 % 2 * 1024 + x / 33554432 % 64 * 16 + x / 256 % 16) 12 * 2 else
  if f = 83 then sgN (x / 33554432 % 128 * 32 + x / 128 % 32) 12 else
  if f = 72 then x / 1048576 % 64 else
  if f = 86 then x / 1048576 % 32 else
  if f = 65 then x / 33554432 % 4 else 0
theorem sg20 (v : Int) : (v < 524288 ∧ sgN v 20 = v) ∨ (524288 ≤ v ∧ sgN v 20 = v - 1048576) := by
  unfold sgN
  by_cases h : v < 524288
  · exact .inl ⟨h, by rw [decide_eq_true (by omega)]; rfl⟩
  · exact .inr ⟨by omega, by rw [decide_eq_false (by omega)]; rfl⟩
theorem sg12 (v : Int) : (v < 2048 ∧ sgN v 12 = v) ∨ (2048 ≤ v ∧ sgN v 12 = v - 4096) := by
  unfold sgN
  by_cases h : v < 2048
  · exact .inl ⟨h, by rw [decide_eq_true (by omega)]; rfl⟩
  · exact .inr ⟨by omega, by rw [decide_eq_false (by omega)]; rfl⟩
theorem fldR_85 (x : Int) (hx : u32 x) : fldR 85 x = fitI 85 x := by
  obtain ⟨x0, x1⟩ := hx
  unfold fldR fitI
  simp only [Int.reduceEq, if_false, if_true]
  obtain ⟨s, hs⟩ : ∃ s : Nat, x / 2147483648 % 2 = (s : Int) := ⟨(x / 2147483648 % 2).toNat, by omega⟩
  obtain ⟨p, hp⟩ : ∃ s : Nat, x / 4096 % 524288 = (s : Int) := ⟨(x / 4096 % 524288).toNat, by omega⟩
  rw [orI (x := (-(x / 2147483648 % 2) * 2147483648)) (y := (x / 4096 % 524288 * 4096)) [12, 19, 33] [0, 0, s * 8589934591] [0, p, 0] (by simp only [okk, Nat.reducePow, and_true]; omega) (by simp only [okk, Nat.reducePow, and_true]; omega) (by simp [dj]) (by decide) (by simp only [pk, Nat.reducePow]; omega) (by simp only [pk, Nat.reducePow]; omega) (by omega)]
  rcases sg20 (x / 4096 % 1048576) with ⟨g1, g2⟩ | ⟨g1, g2⟩ <;> rw [g2] <;> omega
theorem fldR_74 (x : Int) (hx : u32 x) : fldR 74 x = fitI 74 x := by
  obtain ⟨x0, x1⟩ := hx
  unfold fldR fitI
  simp only [Int.reduceEq, if_false, if_true]
  obtain ⟨s, hs⟩ : ∃ s : Nat, x / 2147483648 % 2 = (s : Int) := ⟨(x / 2147483648 % 2).toNat, by omega⟩
  obtain ⟨p, hp⟩ : ∃ s : Nat, x / 2097152 % 1024 = (s : Int) := ⟨(x / 2097152 % 1024).toNat, by omega⟩
  obtain ⟨q, hq⟩ : ∃ s : Nat, x / 1048576 % 2 = (s : Int) := ⟨(x / 1048576 % 2).toNat, by omega⟩
  obtain ⟨r, hr⟩ : ∃ s : Nat, x / 4096 % 256 = (s : Int) := ⟨(x / 4096 % 256).toNat, by omega⟩
  rw [orI (x := (-(x / 2147483648 % 2) * 1048576)) (y := (x / 2097152 % 1024 * 2)) [1, 10, 1, 8, 44] [0, 0, 0, 0, s * 17592186044415] [0, p, 0, 0, 0] (by simp only [okk, Nat.reducePow, and_true]; omega) (by simp only [okk, Nat.reducePow, and_true]; omega) (by simp [dj]) (by decide) (by simp only [pk, Nat.reducePow]; omega) (by simp only [pk, Nat.reducePow]; omega) (by omega)]
  rw [orI (x := ((-(x / 2147483648 % 2) * 1048576) + (x / 2097152 % 1024 * 2))) (y := (x / 1048576 % 2 * 2048)) [1, 10, 1, 8, 44] [0, p, 0, 0, s * 17592186044415] [0, 0, q, 0, 0] (by simp only [okk, Nat.reducePow, and_true]; omega) (by simp only [okk, Nat.reducePow, and_true]; omega) (by simp [dj]) (by decide) (by simp only [pk, Nat.reducePow]; omega) (by simp only [pk, Nat.reducePow]; omega) (by omega)]
  rw [orI (x := (((-(x / 2147483648 % 2) * 1048576) + (x / 2097152 % 1024 * 2)) + (x / 1048576 % 2 * 2048))) (y := (x / 4096 % 256 * 4096)) [1, 10, 1, 8, 44] [0, p, q, 0, s * 17592186044415] [0, 0, 0, r, 0] (by simp only [okk, Nat.reducePow, and_true]; omega) (by simp only [okk, Nat.reducePow, and_true]; omega) (by simp [dj]) (by decide) (by simp only [pk, Nat.reducePow]; omega) (by simp only [pk, Nat.reducePow]; omega) (by omega)]
  rcases sg20 (x / 2147483648 % 2 * 524288 + x / 4096 % 256 * 2048 + x / 1048576 % 2 * 1024 + x / 2097152 % 1024) with ⟨g1, g2⟩ | ⟨g1, g2⟩ <;> rw [g2] <;> omega
theorem fldR_73 (x : Int) (hx : u32 x) : fldR 73 x = fitI 73 x := by
  obtain ⟨x0, x1⟩ := hx
  unfold fldR fitI
  simp only [Int.reduceEq, if_false, if_true]
  obtain ⟨s, hs⟩ : ∃ s : Nat, x / 2147483648 % 2 = (s : Int) := ⟨(x / 2147483648 % 2).toNat, by omega⟩
  obtain ⟨p, hp⟩ : ∃ s : Nat, x / 1048576 % 2048 = (s : Int) := ⟨(x / 1048576 % 2048).toNat, by omega⟩
  rw [orI (x := (-(x / 2147483648 % 2) * 2048)) (y := (x / 1048576 % 2048)) [11, 53] [0, s * 9007199254740991] [p, 0] (by simp only [okk, Nat.reducePow, and_true]; omega) (by simp only [okk, Nat.reducePow, and_true]; omega) (by simp [dj]) (by decide) (by simp only [pk, Nat.reducePow]; omega) (by simp only [pk, Nat.reducePow]; omega) (by omega)]
  rcases sg12 (x / 1048576 % 4096) with ⟨g1, g2⟩ | ⟨g1, g2⟩ <;> rw [g2] <;> omega
theorem fldR_66 (x : Int) (hx : u32 x) : fldR 66 x = fitI 66 x := by
  obtain ⟨x0, x1⟩ := hx
  unfold fldR fitI
  simp only [Int.reduceEq, if_false, if_true]
  obtain ⟨s, hs⟩ : ∃ s : Nat, x / 2147483648 % 2 = (s : Int) := ⟨(x / 2147483648 % 2).toNat, by omega⟩
  obtain ⟨p, hp⟩ : ∃ s : Nat, x / 33554432 % 64 = (s : Int) := ⟨(x / 33554432 % 64).toNat, by omega⟩
  obtain ⟨q, hq⟩ : ∃ s : Nat, x / 256 % 16 = (s : Int) := ⟨(x / 256 % 16).toNat, by omega⟩
  obtain ⟨r, hr⟩ : ∃ s : Nat, x / 128 % 2 = (s : Int) := ⟨(x / 128 % 2).toNat, by omega⟩
  rw [orI (x := (-(x / 2147483648 % 2) * 4096)) (y := (x / 33554432 % 64 * 32)) [1, 4, 6, 1, 52] [0, 0, 0, 0, s * 4503599627370495] [0, 0, p, 0, 0] (by simp only [okk, Nat.reducePow, and_true]; omega) (by simp only [okk, Nat.reducePow, and_true]; omega) (by simp [dj]) (by decide) (by simp only [pk, Nat.reducePow]; omega) (by simp only [pk, Nat.reducePow]; omega) (by omega)]
  rw [orI (x := ((-(x / 2147483648 % 2) * 4096) + (x / 33554432 % 64 * 32))) (y := (x / 256 % 16 * 2)) [1, 4, 6, 1, 52] [0, 0, p, 0, s * 4503599627370495] [0, q, 0, 0, 0] (by simp only [okk, Nat.reducePow, and_true]; omega) (by simp only [okk, Nat.reducePow, and_true]; omega) (by simp [dj]) (by decide) (by simp only [pk, Nat.reducePow]; omega) (by simp only [pk, Nat.reducePow]; omega) (by omega)]
  rw [orI (x := (((-(x / 2147483648 % 2) * 4096) + (x / 33554432 % 64 * 32)) + (x / 256 % 16 * 2))) (y := (x / 128 % 2 * 2048)) [1, 4, 6, 1, 52] [0, q, p, 0, s * 4503599627370495] [0, 0, 0, r, 0] (by simp only [okk, Nat.reducePow, and_true]; omega) (by simp only [okk, Nat.reducePow, and_true]; omega) (by simp [dj]) (by decide) (by simp only [pk, Nat.reducePow]; omega) (by simp only [pk, Nat.reducePow]; omega) (by omega)]
  rcases sg12 (x / 2147483648 % 2 * 2048 + x / 128 % 2 * 1024 + x / 33554432 % 64 * 16 + x / 256 % 16) with ⟨g1, g2⟩ | ⟨g1, g2⟩ <;> rw [g2] <;> omega
theorem fldR_83 (x : Int) (hx : u32 x) : fldR 83 x = fitI 83 x := by
  obtain ⟨x0, x1⟩ := hx
  unfold fldR fitI
  simp only [Int.reduceEq, if_false, if_true]
  obtain ⟨s, hs⟩ : ∃ s : Nat, x / 2147483648 % 2 = (s : Int) := ⟨(x / 2147483648 % 2).toNat, by omega⟩
  obtain ⟨p, hp⟩ : ∃ s : Nat, x / 33554432 % 64 = (s : Int) := ⟨(x / 33554432 % 64).toNat, by omega⟩
  obtain ⟨q, hq⟩ : ∃ s : Nat, x / 128 % 32 = (s : Int) := ⟨(x / 128 % 32).toNat, by omega⟩
  rw [orI (x := (-(x / 2147483648 % 2) * 2048)) (y := (x / 33554432 % 64 * 32)) [5, 6, 53] [0, 0, s * 9007199254740991] [0, p, 0] (by simp only [okk, Nat.reducePow, and_true]; omega) (by simp only [okk, Nat.reducePow, and_true]; omega) (by simp [dj]) (by decide) (by simp only [pk, Nat.reducePow]; omega) (by simp only [pk, Nat.reducePow]; omega) (by omega)]
  rw [orI (x := ((-(x / 2147483648 % 2) * 2048) + (x / 33554432 % 64 * 32))) (y := (x / 128 % 32)) [5, 6, 53] [0, p, s * 9007199254740991] [q, 0, 0] (by simp only [okk, Nat.reducePow, and_true]; omega) (by simp only [okk, Nat.reducePow, and_true]; omega) (by simp [dj]) (by decide) (by simp only [pk, Nat.reducePow]; omega) (by simp only [pk, Nat.reducePow]; omega) (by omega)]
  have z0 : x / 2147483648 = x / 33554432 / 64 := by omega
  have z1 : x / 33554432 % 128 = x / 2147483648 % 2 * 64 + x / 33554432 % 64 := by rw [z0]; omega
  have hq2 : q < 32 := by omega
  have hp2 : p < 64 := by omega
  have hs2 : s < 2 := by omega
  rw [z1, hs, hp, hq]
  clear z1 z0 hs hp hq x0 x1
  rcases sg12 (((s : Int) * 64 + (p : Int)) * 32 + (q : Int)) with ⟨g1, g2⟩ | ⟨g1, g2⟩ <;> rw [g2] <;> omega
theorem jS (s c d e : Int) (h0 : 0 ≤ s ∧ s < 2) (h1 : 0 ≤ c ∧ c < 256) (h2 : 0 ≤ d ∧ d < 2) (h3 : 0 ≤ e ∧ e < 1024) : sgN (s * 524288 + c * 2048 + d * 1024 + e) 20 * 2 = c * 4096 + d * 2048 + e * 2 - s * 1048576 := by
  rcases sg20 (s * 524288 + c * 2048 + d * 1024 + e) with ⟨g1, g2⟩ | ⟨g1, g2⟩ <;> rw [g2] <;> omega
theorem jI (s c d e y : Int) (h0 : 0 ≤ s ∧ s < 2) (h1 : 0 ≤ c ∧ c < 256) (h2 : 0 ≤ d ∧ d < 2) (h3 : 0 ≤ e ∧ e < 1024) (hy : y = c * 4096 + d * 2048 + e * 2 - s * 1048576) : encI 74 (y % 4294967296) = s * 2147483648 + e * 2097152 + d * 1048576 + c * 4096 := by
  unfold encI
  simp only [Int.reduceEq, if_false, if_true]
  have hs : s = 0 ∨ s = 1 := by omega
  have a1 : y % 4294967296 / 1048576 % 2 = s := by rcases hs with rfl | rfl <;> omega
  have a2 : y % 4294967296 / 2 % 1024 = e := by omega
  have a3 : y % 4294967296 / 2048 % 2 = d := by omega
  have a4 : y % 4294967296 / 4096 % 256 = c := by omega
  rw [a1, a2, a3, a4]
theorem bS (s r p q : Int) (h0 : 0 ≤ s ∧ s < 2) (h1 : 0 ≤ r ∧ r < 2) (h2 : 0 ≤ p ∧ p < 64) (h3 : 0 ≤ q ∧ q < 16) : sgN (s * 2048 + r * 1024 + p * 16 + q) 12 * 2 = r * 2048 + p * 32 + q * 2 - s * 4096 := by
  rcases sg12 (s * 2048 + r * 1024 + p * 16 + q) with ⟨g1, g2⟩ | ⟨g1, g2⟩ <;> rw [g2] <;> omega
theorem bI (s r p q y : Int) (h0 : 0 ≤ s ∧ s < 2) (h1 : 0 ≤ r ∧ r < 2) (h2 : 0 ≤ p ∧ p < 64) (h3 : 0 ≤ q ∧ q < 16) (hy : y = r * 2048 + p * 32 + q * 2 - s * 4096) : encI 66 (y % 4294967296) = s * 2147483648 + p * 33554432 + q * 256 + r * 128 := by
  unfold encI
  simp only [Int.reduceEq, if_false, if_true]
  have hs : s = 0 ∨ s = 1 := by omega
  have a1 : y % 4294967296 / 4096 % 2 = s := by rcases hs with rfl | rfl <;> omega
  have a2 : y % 4294967296 / 32 % 64 = p := by omega
  have a3 : y % 4294967296 / 2 % 16 = q := by omega
  have a4 : y % 4294967296 / 2048 % 2 = r := by omega
  rw [a1, a2, a3, a4]
theorem sI (h l : Int) (h0 : 0 ≤ h ∧ h < 128) (h1 : 0 ≤ l ∧ l < 32) : encI 83 (sgN (h * 32 + l) 12 % 4294967296) = h * 33554432 + l * 128 := by
  unfold encI
  simp only [Int.reduceEq, if_false, if_true]
  rcases sg12 (h * 32 + l) with ⟨g1, g2⟩ | ⟨g1, g2⟩
  · rw [g2]
    have a1 : (h * 32 + l) % 4294967296 / 32 % 128 = h := by omega
    have a2 : (h * 32 + l) % 4294967296 % 32 = l := by omega
    rw [a1, a2]
  · rw [g2]
    have a1 : (h * 32 + l - 4096) % 4294967296 / 32 % 128 = h := by omega
    have a2 : (h * 32 + l - 4096) % 4294967296 % 32 = l := by omega
    rw [a1, a2]
theorem fldR_is (k : Nat) (hk : k < 88) (h1 : 1 ≤ k) (x : Int) (hx : u32 x) : fldR (fmT k) x = fitI (fmT k) x := by
  rcases fm_cases k hk h1 with hv | hv | hv | hv | hv | hv | hv | hv | hv | hv <;> rw [hv]
  · exact fldR_85 x hx
  · exact fldR_74 x hx
  · exact fldR_73 x hx
  · exact fldR_66 x hx
  · exact fldR_83 x hx
  all_goals rfl
theorem fitD_in (f x : Int) : 0 ≤ fitD f x ∧ fitD f x < 32 := by unfold fitD; split <;> omega
theorem fitA_in (f x : Int) : 0 ≤ fitA f x ∧ fitA f x < 32 := by unfold fitA; split <;> omega
theorem fitB_in (f : Int) (q : Bool) (x : Int) : 0 ≤ fitB f q x ∧ fitB f q x < 32 := by
  unfold fitB
  split
  · omega
  · split
    · cases q <;> simp only [cond_true, cond_false] <;> omega
    · omega
theorem fitI_in (k : Nat) (hk : k < 88) (h1 : 1 ≤ k) (x : Int) (hx : u32 x) : i64 (fitI (fmT k) x) := by
  obtain ⟨x0, x1⟩ := hx
  unfold i64
  rcases fm_cases k hk h1 with hv | hv | hv | hv | hv | hv | hv | hv | hv | hv
  all_goals
    rw [hv]
    unfold fitI
    simp only [Int.reduceEq, if_false, if_true]
  · rcases sg20 (x / 4096 % 1048576) with ⟨g1, g2⟩ | ⟨g1, g2⟩ <;> rw [g2] <;> omega
  · rcases sg20 (x / 2147483648 % 2 * 524288 + x / 4096 % 256 * 2048 + x / 1048576 % 2 * 1024 + x / 2097152 % 1024) with ⟨g1, g2⟩ | ⟨g1, g2⟩ <;> rw [g2] <;> omega
  · rcases sg12 (x / 1048576 % 4096) with ⟨g1, g2⟩ | ⟨g1, g2⟩ <;> rw [g2] <;> omega
  · rcases sg12 (x / 2147483648 % 2 * 2048 + x / 128 % 2 * 1024 + x / 33554432 % 64 * 16 + x / 256 % 16) with ⟨g1, g2⟩ | ⟨g1, g2⟩ <;> rw [g2] <;> omega
  · rcases sg12 (x / 33554432 % 128 * 32 + x / 128 % 32) with ⟨g1, g2⟩ | ⟨g1, g2⟩ <;> rw [g2] <;> omega
  all_goals omega
set_option maxHeartbeats 1600000 in
/-- What a word would be is an instruction. -/
theorem fit_may (k : Nat) (hk : k < 88) (h1 : 1 ≤ k) (x : Int) (hx : u32 x) : mayF (k : Int) (fitD (fmT k) x) (fitA (fmT k) x) (fitB (fmT k) (resB k) x) (fitI (fmT k) x) = true := by
  rw [may_in hk h1]
  generalize resB k = q
  obtain ⟨x0, x1⟩ := hx
  rcases fm_cases k hk h1 with hv | hv | hv | hv | hv | hv | hv | hv | hv | hv
  all_goals
    rw [hv]
    clear hv hk h1
    unfold fitI fitD fitA fitB
    simp only [mayR, mayI, fitsB, oneB, Int.reduceEq, or_false, false_or, or_true, true_or, if_false, if_true, Bool.and_eq_true, Bool.or_eq_true, decide_eq_true_eq, Bool.true_and, Bool.false_and, Bool.and_true, Bool.not_true, Bool.not_false, Bool.false_or, Bool.true_or, Bool.or_false, Bool.false_eq_true, or_false, false_and, true_and, and_true, reduceCtorEq]
  · rcases sg20 (x / 4096 % 1048576) with ⟨g1, g2⟩ | ⟨g1, g2⟩ <;> rw [g2] <;> omega
  · rcases sg20 (x / 2147483648 % 2 * 524288 + x / 4096 % 256 * 2048 + x / 1048576 % 2 * 1024 + x / 2097152 % 1024) with ⟨g1, g2⟩ | ⟨g1, g2⟩ <;> rw [g2] <;> omega
  · rcases sg12 (x / 1048576 % 4096) with ⟨g1, g2⟩ | ⟨g1, g2⟩ <;> rw [g2] <;> omega
  · rcases sg12 (x / 2147483648 % 2 * 2048 + x / 128 % 2 * 1024 + x / 33554432 % 64 * 16 + x / 256 % 16) with ⟨g1, g2⟩ | ⟨g1, g2⟩ <;> rw [g2] <;> omega
  · rcases sg12 (x / 33554432 % 128 * 32 + x / 128 % 32) with ⟨g1, g2⟩ | ⟨g1, g2⟩ <;> rw [g2] <;> omega
  · omega
  · omega
  · omega
  · cases q <;> simp only [cond_true, cond_false, Bool.not_true, Bool.not_false, Bool.false_eq_true, false_and, or_false, true_and, and_true] <;> omega
  all_goals decide
set_option maxHeartbeats 1600000 in
/-- A word is that of what it would be just where its fixed bits are the opcode's. -/
theorem fit_enc (k : Nat) (hk : k < 88) (h1 : 1 ≤ k) (x : Int) (hx : u32 x) : (encF k (fitD (fmT k) x) (fitA (fmT k) x) (fitB (fmT k) (resB k) x) (fitI (fmT k) x) == x) = matB x k := by
  unfold matB encF
  rw [mat_is k hk h1 x hx, Bool.eq_iff_iff, beq_iff_eq, beq_iff_eq]
  generalize resB k = q
  generalize fixT k = c
  obtain ⟨x0, x1⟩ := hx
  rcases fm_cases k hk h1 with hv | hv | hv | hv | hv | hv | hv | hv | hv | hv
  all_goals
    rw [hv]
    clear hv hk h1
    unfold fitI fitD fitA fitB okM
    simp only [Int.reduceEq, or_false, false_or, or_true, true_or, if_false, if_true]
  · unfold encI; simp only [Int.reduceEq, if_false, if_true]; rcases sg20 (x / 4096 % 1048576) with ⟨g1, g2⟩ | ⟨g1, g2⟩ <;> rw [g2] <;> omega
  · rw [jI (x / 2147483648 % 2) (x / 4096 % 256) (x / 1048576 % 2) (x / 2097152 % 1024) _ (by omega) (by omega) (by omega) (by omega) (jS _ _ _ _ (by omega) (by omega) (by omega) (by omega))]; omega
  · unfold encI; simp only [Int.reduceEq, if_false, if_true]; rcases sg12 (x / 1048576 % 4096) with ⟨g1, g2⟩ | ⟨g1, g2⟩ <;> rw [g2] <;> omega
  · rw [bI (x / 2147483648 % 2) (x / 128 % 2) (x / 33554432 % 64) (x / 256 % 16) _ (by omega) (by omega) (by omega) (by omega) (bS _ _ _ _ (by omega) (by omega) (by omega) (by omega))]; omega
  · rw [sI (x / 33554432 % 128) (x / 128 % 32) (by omega) (by omega)]; omega
  · unfold encI; simp only [Int.reduceEq, if_false, if_true]; omega
  · unfold encI; simp only [Int.reduceEq, if_false, if_true]; omega
  · unfold encI; simp only [Int.reduceEq, if_false, if_true]; omega
  · unfold encI; simp only [Int.reduceEq, if_false, if_true]; cases q <;> simp only [cond_true, cond_false] <;> omega
  · unfold encI; simp only [Int.reduceEq, if_false, if_true]; omega
end Go.Proofs.YtngeabphjdfdgaaDoor.P
