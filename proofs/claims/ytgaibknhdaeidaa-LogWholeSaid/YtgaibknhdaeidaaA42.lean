/- Stage 7: sizes stay whatever a disk is asked; a round of crash, power and opening: plain facts. No condition. -/
import Derived.Test.YtgaibknhdaeidaaA41
set_option linter.unusedVariables false
set_option maxRecDepth 50000
namespace Go.Proofs.Ytgaibknhdaeidaa.P
open Go.RowKit
theorem actZ_sw (z : DState) : (actZ z).safe = z.safe ∧ (actZ z).wait = z.wait := by
  unfold actZ
  cases z.counted with
  | false => exact ⟨rfl, rfl⟩
  | true => cases decide (z.acts = 0) <;> exact ⟨rfl, rfl⟩
theorem sz_step (z : DState) (h : SZ z) (o : DOp) : SZ (stepD z o).2 := by
  obtain ⟨a1, a2⟩ := actZ_sw z
  cases o with
  | wr i s =>
    show SZ (writeZ z i s)
    unfold writeZ
    cases z.off with
    | true => exact h
    | false =>
      cases hh : (hasB z i && decide (s.size = 64)) with
      | false => exact h
      | true =>
        rw [Bool.and_eq_true, decide_eq_true_eq] at hh
        cases actB z with
        | true =>
          refine ⟨fun t ht => h.1 t (by rw [← a1]; exact ht), fun x hx => ?_⟩
          rcases List.mem_append.1 hx with e | e
          · exact h.2 x (by rw [← a2]; exact e)
          · rw [List.mem_singleton.1 e]; exact hh.2
        | false => exact ⟨fun t ht => h.1 t (by rw [← a1]; exact ht), fun x hx => h.2 x (by rw [← a2]; exact hx)⟩
  | fl =>
    show SZ (flushZ z)
    unfold flushZ
    cases z.off with
    | true => exact h
    | false =>
      cases actB z with
      | true => exact ⟨fun t ht => sz_set _ _ _ h.1 h.2 _ t ht, fun x hx => by cases hx⟩
      | false => exact ⟨fun t ht => h.1 t (by rw [← a1]; exact ht), fun x hx => h.2 x (by rw [← a2]; exact hx)⟩
theorem sz_execA : ∀ (l : List DOp) (z : DState), SZ z → SZ (exec l z).2
  | [], z, h => h
  | o :: l, z, h => by
    rw [exec_cons]
    by_cases e : (stepD z o).1 = 0
    · rw [thenE_ok e]; exact sz_execA l _ (sz_step z h o)
    · rw [thenE_no e]; exact sz_step z h o
theorem sz_redoL : ∀ (hs : List Int) (k : Nat) (z : DState), SZ z → SZ (redoL k hs z).2
  | [], _, z, h => h
  | i :: hs, k, z, h => by
    unfold redoL
    cases decide (readR z (2 + (k : Int)) = 0) with
    | false => exact h
    | true =>
      rw [cond_true]
      by_cases e : (stepD z (.wr (32 + i) (readB z (2 + (k : Int))))).1 = 0
      · rw [thenE_ok e]; exact sz_redoL hs (k + 1) _ (sz_step z h _)
      · rw [thenE_no e]; exact sz_step z h _
theorem sz_crash (z : DState) (h : SZ z) (K : Int) : SZ (crashZ z K) := ⟨fun t ht => sz_set _ _ _ h.1 h.2 _ t ht, fun x hx => by cases hx⟩
theorem sz_pow (z : DState) (h : SZ z) (k : Int) : SZ (powZ z k) := h
theorem sz_openQ (z : DState) (h : SZ z) : SZ (openQ z).2 := by
  unfold openQ
  cases decide (readR z 1 = 0) with
  | false => exact h
  | true =>
    rw [cond_true]
    cases parseH (readB z 1) ((z.safe.length : Int) - 32) with
    | none => exact h
    | some hs =>
      show SZ (redoF hs z).2
      unfold redoF
      cases decide (hs.length = 0) with
      | true => exact h
      | false =>
        rw [cond_false]
        have h1 := sz_redoL hs 0 z h
        by_cases e : (redoL 0 hs z).1 = 0
        · rw [thenE_ok e]
          by_cases e2 : (stepD (redoL 0 hs z).2 .fl).1 = 0
          · rw [thenE_ok e2]; exact sz_execA _ _ (sz_step _ h1 _)
          · rw [thenE_no e2]; exact sz_step _ h1 _
        · rw [thenE_no e]; exact h1
end Go.Proofs.Ytgaibknhdaeidaa.P
