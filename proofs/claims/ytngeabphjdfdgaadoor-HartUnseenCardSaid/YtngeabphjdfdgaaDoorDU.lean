/- Stage 2: every word's fields. No condition. -/
import Derived.Test.YtngeabphjdfdgaaDoorDQ
import Derived.Test.YtngeabphjdfdgaaDoorD3
import Derived.Test.YtngeabphjdfdgaaDoorD4
import Derived.Test.YtngeabphjdfdgaaDoorD5
set_option linter.unusedVariables false
set_option linter.unusedSimpArgs false
set_option maxRecDepth 100000
namespace Go.Proofs.YtngeabphjdfdgaaDoor.P
open Go.RowKit
theorem ret_iv {k a b c i a' b' c' i' : Int} (h1 : a = a') (h2 : b = b') (h3 : c = c') (h4 : i = i') : Ending.returned (iv k a b c i) = .returned (iv k a' b' c' i') := by rw [h1, h2, h3, h4]
theorem fix_res : ∀ k : Nat, k < 88 → resB k = true → fixT k / 1048576 % 32 = 0 := by decide +kernel
theorem fix_from : ∀ k : Nat, k < 88 → 1 ≤ k → fromF (fixT k % 128) ≤ k ∧ k ≤ toF (fixT k % 128) := by decide +kernel
theorem mat_from {k : Nat} (hk : k < 88) (h1 : 1 ≤ k) {x : Int} (hx : u32 x) (h : matB x k = true) : fromF (x % 128) ≤ k ∧ k ≤ toF (x % 128) := by
  have e : x % 128 = fixT k % 128 := by
    unfold matB at h
    rw [mat_is k hk h1 x hx, beq_iff_eq] at h
    obtain ⟨x0, x1⟩ := hx
    generalize resB k = q at h
    unfold okM at h
    rcases fm_cases k hk h1 with hv | hv | hv | hv | hv | hv | hv | hv | hv | hv
    all_goals
      rw [hv] at h
      simp only [Int.reduceEq, or_false, false_or, or_true, true_or, if_false, if_true] at h
      cases q <;> (try simp only [cond_true, cond_false] at h) <;> omega
  rw [e]
  exact fix_from k hk h1
theorem mat_res {k : Nat} (hk : k < 88) (h1 : 1 ≤ k) {x : Int} (hx : u32 x) (h : matB x k = true) (hv : fmT k = 65) : x / 1048576 % 32 = (bif resB k then 0 else x / 1048576 % 32) := by
  cases hq : resB k with
  | false => rfl
  | true =>
    have hf := fix_res k hk hq
    unfold matB at h
    rw [mat_is k hk h1 x hx, beq_iff_eq, hv, hq] at h
    obtain ⟨x0, x1⟩ := hx
    unfold okM at h
    simp only [Int.reduceEq, or_false, false_or, or_true, true_or, if_false, if_true, cond_true] at h
    rw [cond_true]
    omega
theorem c_fields (k : Nat) (hk : k < 88) (h1 : 1 ≤ k) (x : Int) (hx : u32 x) (hm : matB x k = true) (w : World) (hF : FT w) : Calls Tryd.prog 39 #[.int .i64 (k : Int), .int .u32 x] w fun e w' => e = .returned (iv (k : Int) (fitD (fmT k) x) (fitA (fmT k) x) (fitB (fmT k) (resB k) x) (fitI (fmT k) x)) ∧ Gr w w' := by
  have ef := fldR_is k hk h1 x hx
  rcases fm_cases k hk h1 with hv | hv | hv | hv | hv | hv | hv | hv | hv | hv
  · refine (c_fld_85 k hk h1 hv x hx w hF).mono ?_; rintro e w' ⟨rfl, g⟩; rw [← ef, hv]; exact ⟨rfl, g⟩
  · refine (c_fld_74 k hk h1 hv x hx w hF).mono ?_; rintro e w' ⟨rfl, g⟩; rw [← ef, hv]; exact ⟨rfl, g⟩
  · refine (c_fld_73 k hk h1 hv x hx w hF).mono ?_; rintro e w' ⟨rfl, g⟩; rw [← ef, hv]; exact ⟨rfl, g⟩
  · refine (c_fld_66 k hk h1 hv x hx w hF).mono ?_; rintro e w' ⟨rfl, g⟩; rw [← ef, hv]; exact ⟨rfl, g⟩
  · refine (c_fld_83 k hk h1 hv x hx w hF).mono ?_; rintro e w' ⟨rfl, g⟩; rw [← ef, hv]; exact ⟨rfl, g⟩
  · refine (c_fld_72 k hk h1 hv x hx w hF).mono ?_; rintro e w' ⟨rfl, g⟩; rw [← ef, hv]; exact ⟨rfl, g⟩
  · refine (c_fld_86 k hk h1 hv x hx w hF).mono ?_; rintro e w' ⟨rfl, g⟩; rw [← ef, hv]; exact ⟨rfl, g⟩
  · refine (c_fld_82 k hk h1 hv x hx w hF).mono ?_; rintro e w' ⟨rfl, g⟩; rw [← ef, hv]; exact ⟨rfl, g⟩
  · have hr := mat_res hk h1 hx hm hv
    refine (c_fld_65 k hk h1 hv x hx w hF).mono ?_; rintro e w' ⟨rfl, g⟩; rw [← ef, hv]; exact ⟨ret_iv rfl rfl hr rfl, g⟩
  · refine (c_fld_78 k hk h1 hv x hx w hF).mono ?_; rintro e w' ⟨rfl, g⟩; rw [← ef, hv]; exact ⟨rfl, g⟩
/-- The opcode of a word; 0: none. -/
def decK (x : Int) : Nat := ((List.range 88).find? (fun k => decide (1 ≤ k) && matB x k)).getD 0
theorem find_range {p : Nat → Bool} : ∀ (n : Nat), ((List.range n).find? p = none ∧ ∀ j, j < n → p j = false) ∨ ∃ k, (List.range n).find? p = some k ∧ k < n ∧ p k = true ∧ ∀ j, j < k → p j = false
  | 0 => .inl ⟨rfl, fun j h => absurd h (Nat.not_lt_zero _)⟩
  | n + 1 => by
    rw [List.range_succ, List.find?_append]
    rcases find_range (p := p) n with ⟨h, hn⟩ | ⟨k, h, hk, hp, hl⟩
    · rw [h, Option.none_or]
      cases hp : p n with
      | false =>
        refine .inl ⟨by simp [List.find?, hp], fun j hj => ?_⟩
        by_cases e : j = n
        · rw [e]; exact hp
        · exact hn j (by omega)
      | true => exact .inr ⟨n, by simp [List.find?, hp], by omega, hp, hn⟩
    · rw [h]
      exact .inr ⟨k, rfl, by omega, hp, hl⟩
theorem decK_cases (x : Int) : (decK x = 0 ∧ ∀ j, 1 ≤ j → j < 88 → matB x j = false) ∨ (1 ≤ decK x ∧ decK x < 88 ∧ matB x (decK x) = true ∧ ∀ j, 1 ≤ j → j < decK x → matB x j = false) := by
  unfold decK
  rcases find_range (p := fun k => decide (1 ≤ k) && matB x k) 88 with ⟨h, hn⟩ | ⟨k, h, hk, hp, hl⟩
  · rw [h]
    refine .inl ⟨rfl, fun j h1 h2 => ?_⟩
    have := hn j h2
    rw [decide_eq_true h1, Bool.true_and] at this
    exact this
  · rw [h]
    rw [Bool.and_eq_true, decide_eq_true_eq] at hp
    refine .inr ⟨hp.1, hk, hp.2, fun j h1 h2 => ?_⟩
    have := hl j h2
    rw [decide_eq_true h1, Bool.true_and] at this
    exact this
def decV (x : Int) : Value := if decK x = 0 then iv 0 0 0 0 0 else iv (decK x : Int) (fitD (fmT (decK x)) x) (fitA (fmT (decK x)) x) (fitB (fmT (decK x)) (resB (decK x)) x) (fitI (fmT (decK x)) x)
def decE (x : Int) : Int := if decK x = 0 then 2 else 0
end Go.Proofs.YtngeabphjdfdgaaDoor.P
