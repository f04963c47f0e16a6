/- Stage 2: the document's Encode is the program's; InstWords. No condition. -/
import Derived.Test.YthcfobefpknjeaaDoorMD
import Derived.Test.YthcfobefpknjeaaDoorME
import Derived.Test.YthcfobefpknjeaaDoorMF
import Derived.Test.YthcfobefpknjeaaDoorMH
set_option linter.unusedVariables false
set_option linter.unusedSimpArgs false
set_option maxRecDepth 100000
namespace Go.Proofs.YthcfobefpknjeaaDoor.P
open Go.RowKit
theorem r_enc_no (op rd a b i : Int) (hi : i64 i) (hm : mayF op rd a b i = false) (w : World) : Calls Tryd.prog 14 #[iv op rd a b i] w fun e w' => e = .returned (.tuple #[.int .u32 0, .int .i64 2]) ∧ Gr w w' := by
  have gb : Gr w (w.alloc (.cells #[.int .i64 op, .int .i64 rd, .int .i64 a, .int .i64 b, .int .i64 i] 23)) := (Gr.refl w).alloc (Nat.le_refl _) _
  have CM : Hid (∀ w1, Calls Tryd.prog 12 #[iv op rd a b i] w1 fun e w' => e = .returned (.bool false) ∧ Gr w1 w') := Lib.hid (fun w1 => by have := r_may op rd a b i hi w1; rw [hm] at this; exact this)
  have GB := Lib.hid gb
  clear hm gb
  go_enter Tryd.func14, Tryd.ntmps14
  go_wp2_with (first
    | (go_at_call 12; refine (CM.out _).mono ?_; rintro e w2 ⟨rfl, g2⟩))
  go_ret2
  exact ⟨rfl, gtrans GB.out g2⟩
theorem one_in {n : Int} {b : Bool} (h : oneB n b = true) : 0 ≤ n ∧ n < 32 := by
  unfold oneB at h
  rw [Bool.or_eq_true, Bool.and_eq_true, Bool.and_eq_true, decide_eq_true_eq, decide_eq_true_eq, decide_eq_true_eq] at h
  omega
theorem may_regs {f rd a b : Int} {q : Bool} (h : mayR f q rd a b = true) : (0 ≤ rd ∧ rd < 32) ∧ (0 ≤ a ∧ a < 32) ∧ (0 ≤ b ∧ b < 32) := by
  have key : ∀ p r s : Bool, fitsB rd a b p r s = true → (0 ≤ rd ∧ rd < 32) ∧ (0 ≤ a ∧ a < 32) ∧ (0 ≤ b ∧ b < 32) := fun p r s e => by
    obtain ⟨x, y, z⟩ := fits_yes e
    exact ⟨one_in x, one_in y, one_in z⟩
  unfold mayR at h
  repeat' split at h
  all_goals exact key _ _ _ h
theorem r_encode (op rd a b i : Int) (hi : i64 i) (w : World) : Calls Tryd.prog 14 #[iv op rd a b i] w fun e w' => e = .returned (.tuple #[.int .u32 (encV op rd a b i), .int .i64 (encE op rd a b i)]) ∧ Gr w w' := by
  cases hm : mayF op rd a b i with
  | false =>
    unfold encV encE
    rw [hm]
    exact r_enc_no op rd a b i hi hm w
  | true =>
    unfold encV encE
    rw [hm]
    obtain ⟨k, rfl, hk, h1, hr, hj⟩ := may_op hm
    rw [cond_true, cond_true, Int.toNat_natCast]
    obtain ⟨x, y, z⟩ := may_regs hr
    rcases fm_cases k hk h1 with hv | hv | hv | hv | hv | hv | hv | hv | hv | hv
    · exact r_enc_85 k hk h1 hv rd a b i hi hm x y z w
    · exact r_enc_74 k hk h1 hv rd a b i hi hm x y z w
    · exact r_enc_73 k hk h1 hv rd a b i hi hm x y z w
    · exact r_enc_66 k hk h1 hv rd a b i hi hm x y z w
    · exact r_enc_83 k hk h1 hv rd a b i hi hm x y z w
    · exact r_enc_72 k hk h1 hv rd a b i hi hm x y z w
    · exact r_enc_86 k hk h1 hv rd a b i hi hm x y z w
    · exact r_enc_82 k hk h1 hv rd a b i hi hm x y z w
    · exact r_enc_65 k hk h1 hv rd a b i hi hm x y z w
    · exact r_enc_78 k hk h1 hv rd a b i hi hm x y z w
end Go.Proofs.YthcfobefpknjeaaDoor.P
