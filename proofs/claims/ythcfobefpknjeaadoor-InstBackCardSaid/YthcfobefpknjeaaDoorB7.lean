/- Stage 2: an instruction's word, whatever instruction. No condition. -/
import Derived.Test.YthcfobefpknjeaaDoorB6
set_option linter.unusedVariables false
set_option linter.unusedSimpArgs false
set_option maxRecDepth 100000
namespace Go.Proofs.YthcfobefpknjeaaDoor.P
open Go.RowKit
theorem one_yes {n : Int} {b : Bool} (h : oneB n b = true) : 0 ≤ n ∧ n < 32 := by
  unfold oneB at h
  rw [Bool.or_eq_true, Bool.and_eq_true, Bool.and_eq_true, decide_eq_true_eq, decide_eq_true_eq, decide_eq_true_eq] at h
  omega
theorem one_no {n : Int} (h : oneB n false = true) : n = 0 := by
  unfold oneB at h
  rw [Bool.or_eq_true, decide_eq_true_eq] at h
  rcases h with h | h
  · exact h
  · cases h
theorem fits_yes {rd a b : Int} {p q r : Bool} (h : fitsB rd a b p q r = true) : oneB rd p = true ∧ oneB a q = true ∧ oneB b r = true := by
  unfold fitsB at h
  rw [Bool.and_eq_true, Bool.and_eq_true] at h
  exact ⟨h.1.1, h.1.2, h.2⟩
def encV (op rd a b i : Int) : Int := bif mayF op rd a b i then encF op.toNat rd a b i else 0
def encE (op rd a b i : Int) : Int := bif mayF op rd a b i then 0 else 2
theorem may_op {op rd a b i : Int} (h : mayF op rd a b i = true) : ∃ k : Nat, op = (k : Int) ∧ k < 88 ∧ 1 ≤ k ∧ mayR (fmT k) (resB k) rd a b = true ∧ mayI (fmT k) i = true := by
  by_cases ho : op < 1 ∨ 87 < op
  · exfalso
    unfold mayF at h
    rw [Bool.and_eq_true, Bool.and_eq_true, Bool.and_eq_true, decide_eq_true_eq, decide_eq_true_eq] at h
    omega
  · obtain ⟨k, rfl⟩ : ∃ k : Nat, op = (k : Int) := ⟨op.toNat, by omega⟩
    rw [may_in (by omega) (by omega), Bool.and_eq_true] at h
    exact ⟨k, rfl, by omega, by omega, h.1, h.2⟩
theorem c_enc_no (op rd a b i : Int) (hi : i64 i) (hm : mayF op rd a b i = false) (w : World) (hF : FT w) : Calls Tryd.prog 13 #[iv op rd a b i] w fun e w' => e = .returned (.tuple #[.int .u32 0, .int .i64 2]) ∧ Gr w w' := by
  have gb : Gr w (w.alloc (.cells #[.int .i64 op, .int .i64 rd, .int .i64 a, .int .i64 b, .int .i64 i] 23)) := (Gr.refl w).alloc (Nat.le_refl _) _
  have CM : Hid (∀ w1, Gr w w1 → Calls Tryd.prog 11 #[iv op rd a b i] w1 fun e w' => e = .returned (.bool false) ∧ Gr w1 w') := Lib.hid (fun w1 g => by have := c_may op rd a b i hi w1 (hF.gr g); rw [hm] at this; exact this)
  have GB := Lib.hid gb
  clear hF hm gb
  go_enter Tryd.func13, Tryd.ntmps13
  go_wp2_with (first
    | (go_at_call 11; refine (CM.out _ GB.out).mono ?_; rintro e w2 ⟨rfl, g2⟩))
  go_ret2
  exact ⟨rfl, gtrans GB.out g2⟩
theorem c_encode (op rd a b i : Int) (hi : i64 i) (w : World) (hF : FT w) : Calls Tryd.prog 13 #[iv op rd a b i] w fun e w' => e = .returned (.tuple #[.int .u32 (encV op rd a b i), .int .i64 (encE op rd a b i)]) ∧ Gr w w' := by
  cases hm : mayF op rd a b i with
  | false =>
    unfold encV encE
    rw [hm]
    exact c_enc_no op rd a b i hi hm w hF
  | true =>
    unfold encV encE
    rw [hm]
    obtain ⟨k, rfl, hk, h1, hr, hj⟩ := may_op hm
    rw [cond_true, cond_true, Int.toNat_natCast]
    rcases fm_cases k hk h1 with hv | hv | hv | hv | hv | hv | hv | hv | hv | hv
    all_goals rw [hv] at hr hj
    · obtain ⟨f1, f2, f3⟩ := fits_yes (p := true) (q := false) (r := false) hr
      obtain rfl := one_no f2
      obtain rfl := one_no f3
      exact c_enc_85 k hk h1 hv rd i hi hm (one_yes f1) w hF
    · obtain ⟨f1, f2, f3⟩ := fits_yes (p := true) (q := false) (r := false) hr
      obtain rfl := one_no f2
      obtain rfl := one_no f3
      exact c_enc_74 k hk h1 hv rd i hi hm (one_yes f1) w hF
    · obtain ⟨f1, f2, f3⟩ := fits_yes (p := true) (q := true) (r := false) hr
      obtain rfl := one_no f3
      exact c_enc_73 k hk h1 hv rd a i hi hm (one_yes f1) (one_yes f2) w hF
    · obtain ⟨f1, f2, f3⟩ := fits_yes (p := false) (q := true) (r := true) hr
      obtain rfl := one_no f1
      exact c_enc_66 k hk h1 hv a b i hi hm (one_yes f2) (one_yes f3) w hF
    · obtain ⟨f1, f2, f3⟩ := fits_yes (p := false) (q := true) (r := true) hr
      obtain rfl := one_no f1
      exact c_enc_83 k hk h1 hv a b i hi hm (one_yes f2) (one_yes f3) w hF
    · obtain ⟨f1, f2, f3⟩ := fits_yes (p := true) (q := true) (r := false) hr
      obtain rfl := one_no f3
      exact c_enc_72 k hk h1 hv rd a i hi (by have := hj; simp [mayI] at this; omega) hm (one_yes f1) (one_yes f2) w hF
    · obtain ⟨f1, f2, f3⟩ := fits_yes (p := true) (q := true) (r := false) hr
      obtain rfl := one_no f3
      exact c_enc_86 k hk h1 hv rd a i hi (by have := hj; simp [mayI] at this; omega) hm (one_yes f1) (one_yes f2) w hF
    · obtain ⟨f1, f2, f3⟩ := fits_yes (p := true) (q := true) (r := true) hr
      exact c_enc_82 k hk h1 hv rd a b i hi hm (one_yes f1) (one_yes f2) (one_yes f3) w hF
    · obtain ⟨f1, f2, f3⟩ := fits_yes (p := true) (q := true) (r := !resB k) hr
      exact c_enc_65 k hk h1 hv rd a b i hi (by have := hj; simp [mayI] at this; omega) hm (one_yes f1) (one_yes f2) (one_yes f3) w hF
    · obtain ⟨f1, f2, f3⟩ := fits_yes (p := false) (q := false) (r := false) hr
      obtain rfl := one_no f1
      obtain rfl := one_no f2
      obtain rfl := one_no f3
      exact c_enc_78 k hk h1 hv i hi hm w hF
end Go.Proofs.YthcfobefpknjeaaDoor.P
