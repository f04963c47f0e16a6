/- Stage 2: two words of one opcode differ in their registers: plain facts. No condition. -/
import Derived.Test.YthcfobefpknjeaaDoorG1
set_option linter.unusedVariables false
set_option linter.unusedSimpArgs false
namespace Go.Proofs.YthcfobefpknjeaaDoor.P
open Go.RowKit
/-- Which registers an instruction may have. -/
theorem may_regs {f : Int} {res : Bool} {rd a b : Int} (hf : f = 85 ∨ f = 74 ∨ f = 73 ∨ f = 66 ∨ f = 83 ∨ f = 72 ∨ f = 86 ∨ f = 82 ∨ f = 65 ∨ f = 78) (h : mayR f res rd a b = true) :
    (0 ≤ rd ∧ rd < 32) ∧ (0 ≤ a ∧ a < 32) ∧ (0 ≤ b ∧ b < 32) ∧ ((f ≠ 66 ∧ f ≠ 83 ∧ f ≠ 78) ∨ rd = 0) ∧ ((f ≠ 85 ∧ f ≠ 74 ∧ f ≠ 78) ∨ a = 0) ∧ ((f = 66 ∨ f = 83 ∨ f = 82 ∨ f = 65) ∨ b = 0) := by
  rcases hf with rfl | rfl | rfl | rfl | rfl | rfl | rfl | rfl | rfl | rfl
  · obtain ⟨f1, f2, f3⟩ := fits_yes (p := true) (q := false) (r := false) h
    have := one_yes f1; have := one_no f2; have := one_no f3; omega
  · obtain ⟨f1, f2, f3⟩ := fits_yes (p := true) (q := false) (r := false) h
    have := one_yes f1; have := one_no f2; have := one_no f3; omega
  · obtain ⟨f1, f2, f3⟩ := fits_yes (p := true) (q := true) (r := false) h
    have := one_yes f1; have := one_yes f2; have := one_no f3; omega
  · obtain ⟨f1, f2, f3⟩ := fits_yes (p := false) (q := true) (r := true) h
    have := one_no f1; have := one_yes f2; have := one_yes f3; omega
  · obtain ⟨f1, f2, f3⟩ := fits_yes (p := false) (q := true) (r := true) h
    have := one_no f1; have := one_yes f2; have := one_yes f3; omega
  · obtain ⟨f1, f2, f3⟩ := fits_yes (p := true) (q := true) (r := false) h
    have := one_yes f1; have := one_yes f2; have := one_no f3; omega
  · obtain ⟨f1, f2, f3⟩ := fits_yes (p := true) (q := true) (r := false) h
    have := one_yes f1; have := one_yes f2; have := one_no f3; omega
  · obtain ⟨f1, f2, f3⟩ := fits_yes (p := true) (q := true) (r := true) h
    have := one_yes f1; have := one_yes f2; have := one_yes f3; omega
  · obtain ⟨f1, f2, f3⟩ := fits_yes (p := true) (q := true) (r := !res) h
    have := one_yes f1; have := one_yes f2; have := one_yes f3; omega
  · obtain ⟨f1, f2, f3⟩ := fits_yes (p := false) (q := false) (r := false) h
    have := one_no f1; have := one_no f2; have := one_no f3; omega
def xI (x y n : Int) : Int := bits .xor .i64 x y % 4294967296 * n % 4294967296
theorem or_regs (xr xa xb : Nat) (hr : xr < 32) (ha : xa < 32) (hb : xb < 32) : bits .or .u32 (bits .or .u32 (bits .or .u32 0 ((xr : Int) * 128)) ((xa : Int) * 32768)) ((xb : Int) * 1048576) = ((xr * 128 + xa * 32768 + xb * 1048576 : Nat) : Int) := by
  rw [or00 (x := (xr : Int) * 128) (by omega) (by omega)]
  rw [orS [7, 5, 3, 5, 5, 7] [0, xr, 0, 0, 0, 0] [0, 0, 0, xa, 0, 0] (x := (xr : Int) * 128) (y := (xa : Int) * 32768) (by simp only [okk, Nat.reducePow, and_true]; omega) (by simp only [okk, Nat.reducePow, and_true]; omega) (by simp [dj]) (by decide) (by simp only [pk, Nat.reducePow]; omega) (by simp only [pk, Nat.reducePow]; omega)]
  rw [orS [7, 5, 3, 5, 5, 7] [0, xr, 0, xa, 0, 0] [0, 0, 0, 0, xb, 0] (x := (xr : Int) * 128 + (xa : Int) * 32768) (y := (xb : Int) * 1048576) (by simp only [okk, Nat.reducePow, and_true]; omega) (by simp only [okk, Nat.reducePow, and_true]; omega) (by simp [dj]) (by decide) (by simp only [pk, Nat.reducePow]; omega) (by simp only [pk, Nat.reducePow]; omega)]
  omega
theorem xI_nat (x y : Nat) (hx : x < 32) (hy : y < 32) (n : Int) (hn : 0 ≤ n) (hn2 : n ≤ 1048576) : xI (x : Int) (y : Int) n = ((x ^^^ y : Nat) : Int) * n := by
  unfold xI
  rw [xor_i64 x hx y hy]
  have := xor_lt32 x y hx hy
  generalize x ^^^ y = z at *
  rw [show (z : Int) % 4294967296 = z by omega]
  have h1 : 0 ≤ (z : Int) * n := Int.mul_nonneg (by omega) hn
  have h2 : (z : Int) * n ≤ 31 * 1048576 := Int.mul_le_mul (by omega) hn2 hn (by omega)
  exact Int.emod_eq_of_lt h1 (Int.lt_of_le_of_lt h2 (by decide))
theorem regs_val (k : Nat) (hk : k < 88) (h1 : 1 ≤ k) (rd a b i p q s : Int) (m1 : mayF (k : Int) rd a b i = true) (m2 : mayF (k : Int) p q s i = true) :
    bits .xor .u32 (encF k rd a b i) (encF k p q s i) = bits .or .u32 (bits .or .u32 (bits .or .u32 0 (xI rd p 128)) (xI a q 32768)) (xI b s 1048576) := by
  rw [may_in hk h1, Bool.and_eq_true] at m1 m2
  have hf := fm_cases k hk h1
  obtain ⟨r1, r2, r3, r4, r5, r6⟩ := may_regs hf m1.1
  obtain ⟨t1, t2, t3, t4, t5, t6⟩ := may_regs hf m2.1
  obtain ⟨g1, g2, g3, g4, g5⟩ := rest_facts k hk h1 i m1.2
  rw [enc_rest, enc_rest]
  obtain ⟨G, hG⟩ : ∃ G : Nat, restF k i = (G : Int) := ⟨(restF k i).toNat, by omega⟩
  rw [hG] at g1 g2 g3 g4 g5 ⊢
  obtain ⟨r, rfl⟩ : ∃ n : Nat, rd = (n : Int) := ⟨rd.toNat, by omega⟩
  obtain ⟨a', rfl⟩ : ∃ n : Nat, a = (n : Int) := ⟨a.toNat, by omega⟩
  obtain ⟨b', rfl⟩ : ∃ n : Nat, b = (n : Int) := ⟨b.toNat, by omega⟩
  obtain ⟨p', rfl⟩ : ∃ n : Nat, p = (n : Int) := ⟨p.toNat, by omega⟩
  obtain ⟨q', rfl⟩ : ∃ n : Nat, q = (n : Int) := ⟨q.toNat, by omega⟩
  obtain ⟨s', rfl⟩ : ∃ n : Nat, s = (n : Int) := ⟨s.toNat, by omega⟩
  rw [xI_nat r p' (by omega) (by omega) 128 (by omega) (by omega), xI_nat a' q' (by omega) (by omega) 32768 (by omega) (by omega), xI_nat b' s' (by omega) (by omega) 1048576 (by omega) (by omega)]
  rw [or_regs _ _ _ (xor_lt32 _ _ (by omega) (by omega)) (xor_lt32 _ _ (by omega) (by omega)) (xor_lt32 _ _ (by omega) (by omega))]
  rw [← regs_xor G r a' b' p' q' s' (by omega) (by omega) (by omega) (by omega) (by omega) (by omega) (by omega)
    (by rcases r4 with h | h; · exact .inl (by have := g3 h; omega)
        · rcases t4 with h' | h'; · exact .inl (by have := g3 h'; omega)
          · exact .inr ⟨by omega, by omega⟩)
    (by rcases r5 with h | h; · exact .inl (by have := g4 h; omega)
        · rcases t5 with h' | h'; · exact .inl (by have := g4 h'; omega)
          · exact .inr ⟨by omega, by omega⟩)
    (by rcases r6 with h | h; · exact .inl (by have := g5 h; omega)
        · rcases t6 with h' | h'; · exact .inl (by have := g5 h'; omega)
          · exact .inr ⟨by omega, by omega⟩)]
  congr 1
theorem xI_self (x : Int) (h : 0 ≤ x ∧ x < 32) (n : Int) (hn : 0 ≤ n) (hn2 : n ≤ 1048576) : xI x x n = 0 := by
  obtain ⟨m, rfl⟩ : ∃ m : Nat, x = (m : Int) := ⟨x.toNat, by omega⟩
  rw [xI_nat m m (by omega) (by omega) n hn hn2, Nat.xor_self]
  exact Int.zero_mul n
end Go.Proofs.YthcfobefpknjeaaDoor.P
