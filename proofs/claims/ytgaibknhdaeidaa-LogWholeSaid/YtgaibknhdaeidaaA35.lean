/- Stage 7: two transactions in one or one behind the other: plain facts. No condition. -/
import Derived.Test.YtgaibknhdaeidaaA34
set_option linter.unusedVariables false
set_option maxRecDepth 50000
namespace Go.Proofs.Ytgaibknhdaeidaa.P
open Go.RowKit
def oneV (n : Nat) (i : Int) (x : Int × ByteArray) : Option ByteArray := if refF false n x.1 = 0 ∧ x.1 = i then some (secF x.2) else none
def lastV (n : Nat) (i : Int) : List (Int × ByteArray) → Option ByteArray
  | [] => none
  | x :: P => (lastV n i P).or (oneV n i x)
theorem look_step {n : Nat} {st : List (Int × ByteArray)} (h : okSt n st) (hl : st.length < 30) (x : Int × ByteArray) (i : Int) : lookS i (stepS n st x) = (oneV n i x).or (lookS i st) := by
  unfold stepS oneV
  by_cases hr : refF false n x.1 = 0
  · have h0 : setR false n st x.1 (secF x.2) = 0 := by
      unfold setR
      rw [hr, decide_eq_true rfl, cond_true, decide_eq_true (secF_size _), cond_true]
      cases (lookS x.1 st).isSome with
      | true => rfl
      | false => rw [cond_false, decide_eq_false (by omega)]; rfl
    unfold setSt
    rw [h0, decide_eq_true rfl, cond_true, look_put _ _ _ _ h.1]
    by_cases hi : x.1 = i
    · rw [if_pos hi, if_pos ⟨hr, hi⟩]; rfl
    · rw [if_neg hi, if_neg (fun k => hi k.2)]; rfl
  · have h0 : setR false n st x.1 (secF x.2) = refF false n x.1 := by
      unfold setR; rw [decide_eq_false hr, cond_false]
    unfold setSt
    rw [h0, decide_eq_false hr, cond_false, if_neg (fun k => hr k.1)]; rfl
theorem step_few {n : Nat} {st : List (Int × ByteArray)} (h : okSt n st) (x : Int × ByteArray) : (stepS n st x).length ≤ st.length + 1 := by
  unfold stepS setSt
  cases decide (setR false n st x.1 (secF x.2) = 0) with
  | false => show st.length ≤ _; omega
  | true =>
    show (putS _ _ _).length ≤ _
    rw [put_len _ _ _ h.1]
    cases (lookS x.1 st).isSome with
    | true => show st.length ≤ _; omega
    | false => show st.length + 1 ≤ _; omega
theorem look_sets (n : Nat) (i : Int) : ∀ (P st : List (Int × ByteArray)), okSt n st → st.length + P.length ≤ 30 → lookS i (setsF n st P) = (lastV n i P).or (lookS i st) ∧ (setsF n st P).length ≤ st.length + P.length
  | [], st, _, _ => ⟨rfl, by show st.length ≤ _; omega⟩
  | x :: P, st, h, hl => by
    rw [List.length_cons] at hl
    have hf := step_few h x
    obtain ⟨i1, i2⟩ := look_sets n i P (stepS n st x) (ok_step h x) (by omega)
    have e : setsF n st (x :: P) = setsF n (stepS n st x) P := rfl
    rw [e, i1, look_step h (by omega) x i, List.length_cons]
    refine ⟨?_, by omega⟩
    show _ = ((lastV n i P).or (oneV n i x)).or (lookS i st)
    cases lastV n i P <;> cases oneV n i x <;> rfl
theorem group_homes {A B : List (Int × ByteArray)} (ha : A.length ≤ 14) (hb : B.length ≤ 14) :
    homeL false (commZ (setsF 60 (setsF 60 [] A) B) zG) [] 28 = homeL false (commZ (setsF 60 [] B) (commZ (setsF 60 [] A) zG)) [] 28 := by
  have cG : Clean zG 60 := clean_new 60 (by omega) (by omega)
  have oA : okSt 60 (setsF 60 [] A) := ok_sets _ _ (ok_nil 60)
  have oB : okSt 60 (setsF 60 [] B) := ok_sets _ _ (ok_nil 60)
  have oAB : okSt 60 (setsF 60 (setsF 60 [] A) B) := ok_sets _ _ oA
  obtain ⟨c1, _, k1⟩ := comm_clean cG (by omega) oAB
  obtain ⟨c2, _, k2⟩ := comm_clean cG (by omega) oA
  obtain ⟨c3, _, k3⟩ := comm_clean c2 (by omega) oB
  unfold homeL
  refine List.map_congr_left fun i hi => ?_
  have hi2 := List.mem_range.1 hi
  have lA := look_sets 60 (i : Int) A [] (ok_nil 60) (by simp; omega)
  have lB := look_sets 60 (i : Int) B [] (ok_nil 60) (by simp; omega)
  have lAB := look_sets 60 (i : Int) B (setsF 60 [] A) oA (by have := lA.2; simp at this; omega)
  rw [get_clean c1 [] i (by omega), get_clean c3 [] i (by omega), k1 i (by omega), k3 i (by omega), k2 i (by omega), lAB.1, lB.1, lA.1]
  cases lastV 60 (i : Int) B <;> cases lastV 60 (i : Int) A <;> rfl
end Go.Proofs.Ytgaibknhdaeidaa.P
