/- Stage 14: who lives has its turn: the distance to it. No condition. -/
import Derived.Test.YtfegnppilhfghaaT15
import Derived.Deep.MidRow
import Derived.Deep.RegionHeld3
import Derived.Deep.DeepCutAuto
set_option linter.unusedVariables false
namespace Go.Proofs.Ytfegnppilhfghaa.P
open Go.RowKit
theorem nx_reach (T : Nat → RowV) (B : Nat → Bool) (a p : Nat) (hl : livesB T p = true) (hb : B p = false) : ∀ f i j, i ≤ j → j < i + f → (a + 1 + j) % 8 = p → ∃ j', i ≤ j' ∧ j' ≤ j ∧ nx T B a f i = (((a + 1 + j') % 8 : Nat) : Int)
  | 0, i, j, h1, h2, h3 => by omega
  | f + 1, i, j, h1, h2, h3 => by
    rw [nx]; split
    · exact ⟨i, Nat.le_refl _, h1, rfl⟩
    · rename_i h
      have hne : i ≠ j := by
        intro e; subst e
        apply h; rw [h3]; exact ⟨hl, hb⟩
      obtain ⟨j', g1, g2, g3⟩ := nx_reach T B a p hl hb f (i + 1) j (by omega) (by omega) h3
      exact ⟨j', by omega, g2, g3⟩
/-- How many places from x on p comes. -/
def dst (p : Nat) (x : Int) : Nat := (((p : Int) - x - 1) % 8).toNat
theorem next_dst (T : Nat → RowV) (B : Nat → Bool) (p : Nat) (hp : p < 8) (hl : livesB T p = true) (hb : B p = false) (x : Int) :
    ∃ m : Nat, m < 8 ∧ nextV T x B = (m : Int) ∧ (m = p ∨ dst p m < dst p x) := by
  obtain ⟨a, ha⟩ : ∃ a, a = (x % 8).toNat := ⟨_, rfl⟩
  have h1 : (a + 1 + dst p x) % 8 = p := by unfold dst; omega
  have h2 : dst p x < 8 := by unfold dst; omega
  obtain ⟨j', g1, g2, g3⟩ := nx_reach T B a p hl hb 8 0 (dst p x) (by omega) (by omega) h1
  refine ⟨(a + 1 + j') % 8, by omega, ?_, ?_⟩
  · unfold nextV; rw [← ha]; exact g3
  · by_cases e : j' = dst p x
    · left; rw [e]; exact h1
    · right
      have : dst p (((a + 1 + j') % 8 : Nat) : Int) = dst p x - j' - 1 := by unfold dst at *; omega
      omega
/-- The cells of what TableFair is asked of. -/
def fc (T : Nat → RowV) (B : Nat → Bool) (a p : Int) : Array Value := tc T ++ bc B ++ #[.int .i64 a, .int .i64 p]
theorem fc_size (T : Nat → RowV) (B : Nat → Bool) (a p : Int) : (fc T B a p).size = 42 := by
  unfold fc; rw [Array.size_append, Array.size_append, tc_size, bc_size]; rfl
theorem fc_tab (T : Nat → RowV) (B : Nat → Bool) (a p : Int) (j : Nat) (v : Value) (h : (tc T).toList[j]? = some v) : (fc T B a p)[j]? = some v := by
  have hj : j < 32 := by
    have := (List.getElem?_eq_some_iff.1 h).1
    rwa [Array.length_toList, tc_size] at this
  unfold fc
  rw [Array.append_assoc, Array.getElem?_append_left (by rw [tc_size]; exact hj)]
  rw [Array.getElem?_toList] at h; exact h
theorem fc_busy (T : Nat → RowV) (B : Nat → Bool) (a p : Int) (j : Nat) (v : Value) (h : (bc B).toList[j]? = some v) : (fc T B a p)[32 + j]? = some v := by
  have hj : j < 8 := by
    have := (List.getElem?_eq_some_iff.1 h).1
    rwa [Array.length_toList, bc_size] at this
  unfold fc
  rw [Array.append_assoc, Array.getElem?_append_right (by rw [tc_size]; omega), tc_size, Array.getElem?_append_left (by rw [bc_size]; omega)]
  have : 32 + j - 32 = j := by omega
  rw [this]; rw [Array.getElem?_toList] at h; exact h
theorem fc_a (T : Nat → RowV) (B : Nat → Bool) (a p : Int) : (fc T B a p)[40]? = some (.int .i64 a) := by
  have e : (tc T ++ bc B).size = 40 := by rw [Array.size_append, tc_size, bc_size]
  unfold fc
  rw [Array.getElem?_append_right (by omega), e]; rfl
theorem fc_p (T : Nat → RowV) (B : Nat → Bool) (a p : Int) : (fc T B a p)[41]? = some (.int .i64 p) := by
  have e : (tc T ++ bc B).size = 40 := by rw [Array.size_append, tc_size, bc_size]
  unfold fc
  rw [Array.getElem?_append_right (by omega), e]; rfl
end Go.Proofs.Ytfegnppilhfghaa.P
