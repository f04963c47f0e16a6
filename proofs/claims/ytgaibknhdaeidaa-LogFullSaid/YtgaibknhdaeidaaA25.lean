/- Stage 7: LogFull: plain facts. No condition. -/
import Derived.Test.YtgaibknhdaeidaaA23
set_option linter.unusedVariables false
set_option maxRecDepth 50000
namespace Go.Proofs.Ytgaibknhdaeidaa.P
open Go.RowKit
def fullS (x : ByteArray) (k : Nat) : List (Int × ByteArray) := (List.range k).map fun (j : Nat) => ((j : Int), x)
theorem fullS_len (x : ByteArray) (k : Nat) : (fullS x k).length = k := by unfold fullS; rw [List.length_map, List.length_range]
theorem fullS_lt {x : ByteArray} {k : Nat} : ∀ y ∈ fullS x k, 0 ≤ y.1 ∧ y.1 < (k : Int) := fun y hy => by
  unfold fullS at hy
  obtain ⟨j, hj, rfl⟩ := List.mem_map.1 hy
  have := List.mem_range.1 hj
  show 0 ≤ (j : Int) ∧ (j : Int) < k
  omega
theorem fullS_succ (x : ByteArray) (k : Nat) : fullS x (k + 1) = fullS x k ++ [((k : Int), x)] := by
  unfold fullS; rw [List.range_succ, List.map_append]; rfl
theorem put_end (i : Int) (s : ByteArray) : ∀ l : List (Int × ByteArray), (∀ y ∈ l, y.1 < i) → putS i s l = l ++ [(i, s)]
  | [], _ => rfl
  | x :: l, h => by
    unfold putS
    rw [if_pos (h x (List.mem_cons_self ..)), put_end i s l (fun y hy => h y (List.mem_cons_of_mem _ hy))]; rfl
theorem look_far (i : Int) : ∀ l : List (Int × ByteArray), (∀ y ∈ l, y.1 ≠ i) → lookS i l = none
  | [], _ => rfl
  | x :: l, h => by
    unfold lookS
    rw [if_neg (h x (List.mem_cons_self ..)), look_far i l (fun y hy => h y (List.mem_cons_of_mem _ hy))]
def zF : DState := newZ (List.replicate 100 z64)
theorem zF_len : zF.safe.length = 100 := List.length_replicate
theorem full_set (x : ByteArray) (hx : x.size = 64) (k : Nat) (hk : k < 60) : setR false 100 (fullS x (min k 30)) k x = (bif decide (k < 30) then 0 else 4) ∧ setSt (setR false 100 (fullS x (min k 30)) k x) (fullS x (min k 30)) k x = fullS x (min (k + 1) 30) := by
  have hr : refF false 100 (k : Int) = 0 := by
    unfold refF
    rw [cond_false, decide_eq_true (by omega : (0 : Int) ≤ k), decide_eq_true (by show (k : Int) < 100 - 32; omega)]; rfl
  have hl : lookS (k : Int) (fullS x (min k 30)) = none := look_far _ _ (fun y hy => by have := fullS_lt y hy; omega)
  have hv : setR false 100 (fullS x (min k 30)) k x = (bif decide (k < 30) then 0 else 4) := by
    unfold setR
    rw [hr, decide_eq_true hx, hl, fullS_len]
    show (bif decide (30 ≤ min k 30) then (4 : Int) else 0) = _
    by_cases h : k < 30
    · rw [decide_eq_true h, decide_eq_false (by omega)]; rfl
    · rw [decide_eq_false h, decide_eq_true (by omega)]; rfl
  refine ⟨hv, ?_⟩
  rw [hv]
  unfold setSt
  by_cases h : k < 30
  · rw [decide_eq_true h]
    show putS _ _ _ = _
    rw [show min (k + 1) 30 = k + 1 by omega, show min k 30 = k by omega, fullS_succ, put_end _ _ _ (fun y hy => by have := fullS_lt y hy; omega)]
  · rw [decide_eq_false h]
    show fullS x _ = _
    rw [show min (k + 1) 30 = min k 30 by omega]
theorem rising_full (x : ByteArray) : ∀ k, Rising (fullS x k) := by
  have key : ∀ (l : List (Int × ByteArray)) (i : Int) (s : ByteArray), Rising l → (∀ y ∈ l, y.1 < i) → Rising (l ++ [(i, s)]) := fun l i s hr h => by
    rw [← put_end i s l h]; exact rising_put i s l hr
  intro k
  induction k with
  | zero => trivial
  | succ k ih => rw [fullS_succ]; exact key _ _ _ ih (fun y hy => (fullS_lt y hy).2)
theorem full_again (x y : ByteArray) (hy : y.size = 64) (k : Nat) (hk : k ≤ 30) : setR false 100 (fullS x k) 0 y = 0 ∧ (putS 0 y (fullS x k)).length = max k 1 ∧ lookS 0 (putS 0 y (fullS x k)) = some y := by
  have hr : refF false 100 0 = 0 := rfl
  refine ⟨?_, ?_, ?_⟩
  · unfold setR
    rw [hr, decide_eq_true hy, fullS_len]
    cases k with
    | zero => rfl
    | succ k =>
      have : lookS 0 (fullS x (k + 1)) = some x := by
        unfold fullS; rw [List.range_succ_eq_map]; rfl
      rw [this]; rfl
  · rw [put_len _ _ _ (rising_full x k), fullS_len]
    cases k with
    | zero => rfl
    | succ k =>
      have : lookS 0 (fullS x (k + 1)) = some x := by
        unfold fullS; rw [List.range_succ_eq_map]; rfl
      rw [this]
      show k + 1 = _
      omega
  · rw [look_put _ _ _ _ (rising_full x k), if_pos rfl]
end Go.Proofs.Ytgaibknhdaeidaa.P
