/- Stage 2: the mask of an opcode; may it be? No condition. -/
import Derived.Test.YthcfobefpknjeaaDoorB2
set_option linter.unusedVariables false
set_option maxRecDepth 50000
namespace Go.Proofs.YthcfobefpknjeaaDoor.P
open Go.RowKit
def maskL : List Int := [4294967295, 127, 127, 127, 28799, 28799, 28799, 28799, 28799, 28799, 28799, 28799, 28799, 28799, 28799, 28799, 28799, 28799, 28799, 28799, 28799, 28799, 28799, 28799, 28799, 28799, 28799, 28799, 4227887231, 4227887231, 4227887231, 28799, 4261441663, 4261441663, 4261441663, 4261441663, 4261441663, 4261441663, 4261441663, 4261441663, 4261441663, 4261441663, 4261441663, 4261441663, 4261441663, 4261441663, 4261441663, 4261441663, 4261441663, 4261441663, 4261441663, 4261441663, 4261441663, 4261441663, 4261441663, 4261441663, 4261441663, 4261441663, 4261441663, 4261441663, 4261441663, 4261441663, 4261441663, 4294967295, 4294967295, 4294967295, 4193284223, 4160778367, 4160778367, 4160778367, 4160778367, 4160778367, 4160778367, 4160778367, 4160778367, 4160778367, 4160778367, 4193284223, 4160778367, 4160778367, 4160778367, 4160778367, 4160778367, 4160778367, 4160778367, 4160778367, 4160778367, 4160778367]
def maskT (k : Nat) : Int := maskL.getD k 0
theorem mask_u32 : ∀ k : Nat, k < 88 → 0 ≤ maskT k ∧ maskT k < 4294967296 := by decide +kernel
theorem tmod_no {i m : Int} (hm : 0 < m) (h : ¬ i % m = 0) : (i.tmod m == 0) = false := by
  apply beq_eq_false_iff_ne.2
  intro e
  exact h (Int.emod_eq_zero_of_dvd (Int.dvd_of_tmod_eq_zero e))
theorem tmod_yes {i m : Int} (hm : 0 < m) (h : i % m = 0) : (i.tmod m == 0) = true := by
  have : i.tmod m = 0 := Int.tmod_eq_zero_of_dvd (Int.dvd_of_emod_eq_zero h)
  rw [this]; rfl
set_option maxHeartbeats 800000 in
theorem c_mask (k : Nat) (hk : k < 88) (h1 : 1 ≤ k) (w : World) (hF : FT w) : Calls Tryd.prog 32 #[.int .i64 (k : Int)] w fun e w' => e = .returned (.int .u32 (maskT k)) ∧ Gr w w' := by
  have hc := hF k hk
  clear hF
  have hm := fm_cases k hk h1
  rcases hm with hv | hv | hv | hv | hv | hv | hv | hv | hv | hv
  all_goals
    have HV := Lib.hid hv
    rw [hv] at hc
    clear hv
  rotate_left 8
  · have CR := Lib.hid (c_reserves (k : Int))
    by_cases hr : k = 66 ∨ k = 77
    · have er : (decide ((k : Int) = 66) || decide ((k : Int) = 77)) = true := by
        rcases hr with rfl | rfl <;> rfl
      rw [er] at CR
      have HR := Lib.hid hr
      clear hr er
      go_enter Tryd.func32, Tryd.ntmps32
      go_wp2_with (go_at_call 24; refine (CR.out _).mono ?_; rintro e w1 ⟨rfl, rfl⟩)
      go_ret
      refine ⟨ret_u32 ?_, by go_grown⟩
      have hr := HR.out
      rcases hr with rfl | rfl <;> decide +kernel
    · have er : (decide ((k : Int) = 66) || decide ((k : Int) = 77)) = false := by
        rw [decide_eq_false (by omega), decide_eq_false (by omega)]; rfl
      rw [er] at CR
      have HR := Lib.hid hr
      clear hr er
      go_enter Tryd.func32, Tryd.ntmps32
      go_wp2_with (go_at_call 24; refine (CR.out _).mono ?_; rintro e w1 ⟨rfl, rfl⟩)
      go_ret
      refine ⟨ret_u32 ?_, by go_grown⟩
      exact (by decide +kernel : ∀ k : Nat, k < 88 → fmT k = 65 → ¬ (k = 66 ∨ k = 77) → (4160778367 : Int) = maskT k) k hk HV.out HR.out
  all_goals
    go_enter Tryd.func32, Tryd.ntmps32
    go_wp2
    go_ret
    refine ⟨ret_u32 ?_, by go_grown⟩
    first
      | exact (by decide +kernel : ∀ k : Nat, k < 88 → fmT k = 78 → (4294967295 : Int) = maskT k) k hk HV.out
      | exact (by decide +kernel : ∀ k : Nat, k < 88 → fmT k = 85 → (127 : Int) = maskT k) k hk HV.out
      | exact (by decide +kernel : ∀ k : Nat, k < 88 → fmT k = 74 → (127 : Int) = maskT k) k hk HV.out
      | exact (by decide +kernel : ∀ k : Nat, k < 88 → fmT k = 73 → (28799 : Int) = maskT k) k hk HV.out
      | exact (by decide +kernel : ∀ k : Nat, k < 88 → fmT k = 66 → (28799 : Int) = maskT k) k hk HV.out
      | exact (by decide +kernel : ∀ k : Nat, k < 88 → fmT k = 83 → (28799 : Int) = maskT k) k hk HV.out
      | exact (by decide +kernel : ∀ k : Nat, k < 88 → fmT k = 72 → (4227887231 : Int) = maskT k) k hk HV.out
      | exact (by decide +kernel : ∀ k : Nat, k < 88 → fmT k = 86 → (4261441663 : Int) = maskT k) k hk HV.out
      | exact (by decide +kernel : ∀ k : Nat, k < 88 → fmT k = 82 → (4261441663 : Int) = maskT k) k hk HV.out
end Go.Proofs.YthcfobefpknjeaaDoor.P
