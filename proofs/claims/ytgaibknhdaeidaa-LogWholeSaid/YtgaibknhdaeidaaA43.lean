/- Stage 7: what holds of a disk stays, whatever it is asked: plain facts. No condition. -/
import Derived.Test.YtgaibknhdaeidaaA42
set_option linter.unusedVariables false
set_option maxRecDepth 50000
namespace Go.Proofs.Ytgaibknhdaeidaa.P
open Go.RowKit
theorem wz_redoL : ∀ (hs : List Int) (k : Nat) (z : DState), WZ z → WZ (redoL k hs z).2
  | [], _, z, h => h
  | i :: hs, k, z, h => by
    unfold redoL
    cases decide (readR z (2 + (k : Int)) = 0) with
    | false => exact h
    | true =>
      rw [cond_true]
      by_cases e : (stepD z (.wr (32 + i) (readB z (2 + (k : Int))))).1 = 0
      · rw [thenE_ok e]; exact wz_redoL hs (k + 1) _ (wz_step z h _)
      · rw [thenE_no e]; exact wz_step z h _
theorem wz_openQ (z : DState) (h : WZ z) : WZ (openQ z).2 := by
  unfold openQ
  cases decide (readR z 1 = 0) with
  | false => exact h
  | true =>
    rw [cond_true]
    cases parseH (readB z 1) ((z.safe.length : Int) - 32) with
    | none => exact h
    | some hs =>
      show WZ (redoF hs z).2
      unfold redoF
      cases decide (hs.length = 0) with
      | true => exact h
      | false =>
        rw [cond_false]
        have h1 := wz_redoL hs 0 z h
        by_cases e : (redoL 0 hs z).1 = 0
        · rw [thenE_ok e]
          by_cases e2 : (stepD (redoL 0 hs z).2 .fl).1 = 0
          · rw [thenE_ok e2]; exact wz_exec _ _ (wz_step _ h1 _)
          · rw [thenE_no e2]; exact wz_step _ h1 _
        · rw [thenE_no e]; exact h1
theorem len_redoL : ∀ (hs : List Int) (k : Nat) (z : DState), (redoL k hs z).2.safe.length = z.safe.length ∧ (redoL k hs z).2.wait.length ≤ z.wait.length + hs.length
  | [], _, z => ⟨rfl, by show z.wait.length ≤ _; omega⟩
  | i :: hs, k, z => by
    unfold redoL
    rw [List.length_cons]
    cases decide (readR z (2 + (k : Int)) = 0) with
    | false => exact ⟨rfl, by show z.wait.length ≤ _; omega⟩
    | true =>
      rw [cond_true]
      have a := step_len z (.wr (32 + i) (readB z (2 + (k : Int))))
      have b := step_wait z (.wr (32 + i) (readB z (2 + (k : Int))))
      by_cases e : (stepD z (.wr (32 + i) (readB z (2 + (k : Int))))).1 = 0
      · rw [thenE_ok e]
        have c := len_redoL hs (k + 1) (stepD z (.wr (32 + i) (readB z (2 + (k : Int))))).2
        exact ⟨c.1.trans a, by omega⟩
      · rw [thenE_no e]; exact ⟨a, by omega⟩
theorem len_openQ (z : DState) : (openQ z).2.safe.length = z.safe.length ∧ (openQ z).2.wait.length ≤ z.wait.length + 40 := by
  unfold openQ
  cases decide (readR z 1 = 0) with
  | false => exact ⟨rfl, by show z.wait.length ≤ _; omega⟩
  | true =>
    rw [cond_true]
    cases hp : parseH (readB z 1) ((z.safe.length : Int) - 32) with
    | none => exact ⟨rfl, by show z.wait.length ≤ _; omega⟩
    | some hs =>
      show (redoF hs z).2.safe.length = _ ∧ (redoF hs z).2.wait.length ≤ _
      have h30 := (parse_some hp).1
      unfold redoF
      cases decide (hs.length = 0) with
      | true => exact ⟨rfl, by show z.wait.length ≤ _; omega⟩
      | false =>
        rw [cond_false]
        have h1 := len_redoL hs 0 z
        by_cases e : (redoL 0 hs z).1 = 0
        · rw [thenE_ok e]
          have a := step_len (redoL 0 hs z).2 .fl
          have b := step_wait (redoL 0 hs z).2 .fl
          by_cases e2 : (stepD (redoL 0 hs z).2 .fl).1 = 0
          · rw [thenE_ok e2]
            have c := exec_len (pointOps []) (stepD (redoL 0 hs z).2 .fl).2
            have d := exec_wait (pointOps []) (stepD (redoL 0 hs z).2 .fl).2
            have p2 : (pointOps []).length = 2 := rfl
            rw [p2] at d
            exact ⟨c.trans (a.trans h1.1), by omega⟩
          · rw [thenE_no e2]; exact ⟨a.trans h1.1, by omega⟩
        · rw [thenE_no e]; exact ⟨h1.1, by omega⟩
end Go.Proofs.Ytgaibknhdaeidaa.P
