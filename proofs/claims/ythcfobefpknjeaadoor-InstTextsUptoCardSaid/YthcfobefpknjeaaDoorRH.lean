/- Stage 2: the parts of a text that was written: plain facts. No condition. -/
import Derived.Test.YthcfobefpknjeaaDoorRE
import Derived.Test.YthcfobefpknjeaaDoorTC
import Derived.Test.YthcfobefpknjeaaDoorR1
set_option linter.unusedVariables false
set_option linter.unusedSimpArgs false
set_option maxRecDepth 100000
namespace Go.Proofs.YthcfobefpknjeaaDoor.P
open Go.RowKit
def toks : List UInt8 → List UInt8 → List (List UInt8)
  | [], cur => if cur = [] then [] else [cur]
  | c :: r, cur => bif inC c then toks r (cur ++ [c]) else (if cur = [] then toks r [] else cur :: toks r [])
theorem toks_cons (c : UInt8) (r cur : List UInt8) : toks (c :: r) cur = bif inC c then toks r (cur ++ [c]) else (if cur = [] then toks r [] else cur :: toks r []) := rfl
theorem toks_nil (cur : List UInt8) : toks [] cur = if cur = [] then [] else [cur] := rfl
theorem toks_inv (l : List UInt8) : ∀ i, i ≤ l.length → (pS l i).1 ++ toks (l.drop i) ((l.take i).drop (pS l i).2) = toks l []
  | 0, _ => by show [] ++ toks (l.drop 0) ((l.take 0).drop 0) = toks l []; simp
  | i + 1, h => by
    have ih := toks_inv l i (by omega)
    have hf := pS_from l i
    have hi : i < l.length := by omega
    rw [List.drop_eq_getElem_cons hi, toks_cons] at ih
    have hin : inP l i = inC l[i] := by unfold inP; rw [List.getElem?_eq_getElem hi]
    have ht : l.take (i + 1) = l.take i ++ [l[i]] := List.take_succ_eq_append_getElem hi
    unfold pS
    rw [hin]
    cases hc : inC l[i] with
    | true =>
      rw [hc, cond_true] at ih
      rw [cond_true, ht, List.drop_append_of_le_length (by rw [List.length_take]; omega)]
      exact ih
    | false =>
      rw [hc, cond_false] at ih
      rw [cond_false]
      have hcur : ((l.take i).drop (pS l i).2 = []) ↔ ¬ (pS l i).2 < i := by
        rw [List.drop_eq_nil_iff, List.length_take]; omega
      have hz : (l.take (i + 1)).drop (i + 1) = [] := by rw [List.drop_eq_nil_iff, List.length_take]; omega
      by_cases hlt : (pS l i).2 < i
      · rw [if_neg (fun e => (hcur.1 e) hlt)] at ih
        rw [decide_eq_true hlt, cond_true]
        show ((pS l i).1 ++ [(l.take i).drop (pS l i).2]) ++ toks (l.drop (i + 1)) ((l.take (i + 1)).drop (i + 1)) = _
        rw [hz, List.append_assoc]
        exact ih
      · rw [if_pos (hcur.2 hlt)] at ih
        rw [decide_eq_false hlt, cond_false]
        show (pS l i).1 ++ toks (l.drop (i + 1)) ((l.take (i + 1)).drop (i + 1)) = _
        rw [hz]
        exact ih
theorem parts_toks (l : List UInt8) : partsL l = toks l [] := by
  have ih := toks_inv l l.length (Nat.le_refl _)
  have hin : inP l l.length = false := by unfold inP; rw [List.getElem?_eq_none (Nat.le_refl _)]
  rw [List.drop_length, toks_nil] at ih
  have hf := pS_from l l.length
  unfold partsL
  show (pS l (l.length + 1)).1 = _
  unfold pS
  rw [hin, cond_false]
  have hcur : ((l.take l.length).drop (pS l l.length).2 = []) ↔ ¬ (pS l l.length).2 < l.length := by
    rw [List.drop_eq_nil_iff, List.length_take]; omega
  by_cases hlt : (pS l l.length).2 < l.length
  · rw [if_neg (fun e => (hcur.1 e) hlt)] at ih
    rw [decide_eq_true hlt, cond_true]
    exact ih
  · rw [if_pos (hcur.2 hlt), List.append_nil] at ih
    rw [decide_eq_false hlt, cond_false]
    exact ih
def AllIn (l : List UInt8) : Prop := ∀ c ∈ l, inC c = true
def NoIn (l : List UInt8) : Prop := ∀ c ∈ l, inC c = false
theorem toks_in : ∀ (t r cur : List UInt8), AllIn t → toks (t ++ r) cur = toks r (cur ++ t)
  | [], r, cur, _ => by simp
  | c :: t, r, cur, h => by
    rw [List.cons_append]
    rw [toks_cons, h c List.mem_cons_self, cond_true, toks_in t r _ (fun x hx => h x (List.mem_cons_of_mem _ hx)), List.append_assoc]
    rfl
theorem toks_sep : ∀ (p r : List UInt8), NoIn p → toks (p ++ r) [] = toks r []
  | [], r, _ => rfl
  | c :: p, r, h => by
    rw [List.cons_append]
    rw [toks_cons, h c List.mem_cons_self, cond_false, if_pos rfl]
    exact toks_sep p r (fun x hx => h x (List.mem_cons_of_mem _ hx))
theorem toks_one (t p r : List UInt8) (ht : AllIn t) (h0 : t ≠ []) (hp : NoIn p) (hp0 : p ≠ []) : toks (t ++ (p ++ r)) [] = t :: toks r [] := by
  rw [toks_in t _ [] ht, List.nil_append]
  match p, hp0, hp with
  | c :: p, _, hp =>
    rw [List.cons_append]
    rw [toks_cons, hp c List.mem_cons_self, cond_false, if_neg h0, toks_sep p r (fun x hx => hp x (List.mem_cons_of_mem _ hx))]
theorem toks_last (t : List UInt8) (ht : AllIn t) (h0 : t ≠ []) : toks t [] = [t] := by
  have := toks_in t [] [] ht
  rw [List.append_nil, List.nil_append] at this
  rw [this, toks_nil, if_neg h0]
theorem toks_end (t p : List UInt8) (ht : AllIn t) (h0 : t ≠ []) (hp : NoIn p) (hp0 : p ≠ []) : toks (t ++ p) [] = [t] := by
  have := toks_one t p [] ht h0 hp hp0
  rw [List.append_nil] at this
  exact this
theorem in_dig (u : Nat) : AllIn (Lib.decDigits u) := by
  intro c hc
  have := dig_in u c hc
  unfold inC
  rw [decide_eq_true this.1, decide_eq_true this.2]
  simp
theorem in_D (u : Nat) : AllIn (D u) := by
  intro c hc
  unfold D at hc
  rw [List.mem_cons] at hc
  rcases hc with rfl | hc
  · rfl
  · exact in_dig u c hc
theorem in_itoa (i : Int) : AllIn (Lib.itoa i) := by
  intro c hc
  rcases itoa_in i c hc with h | h
  · unfold inC; rw [decide_eq_true h]; simp
  · unfold inC; rw [decide_eq_true h.1, decide_eq_true h.2]; simp
theorem in_nmE : ∀ k : Nat, k < 88 → ∀ e : Nat, e < 4 → ((nmE k e).all inC) = true := by decide +kernel
theorem nmE_ne : ∀ k : Nat, k < 88 → 1 ≤ k → ∀ e : Nat, e < 4 → nmE k e ≠ [] := by decide +kernel
theorem dec_len (k : Nat) : ∀ u : Nat, 1 ≤ k → u < 10 ^ k → (Lib.decDigits u).length ≤ k := by
  induction k with
  | zero => intro u h _; omega
  | succ k ih =>
    intro u _ hu
    by_cases h : u < 10
    · rw [Lib.decDigits_one h]; simp
    · rw [dec_step u h, List.length_append]
      have hk : 1 ≤ k := by
        rcases Nat.eq_zero_or_pos k with e | e
        · subst e; simp at hu; omega
        · exact e
      have := ih (u / 10) hk (by rw [Nat.pow_succ] at hu; omega)
      simp
      omega
theorem all_dig (u : Nat) : allD (Lib.decDigits u) = true := allD_iff.2 (dig_in u)
theorem mi_dig (u : Nat) : mi1 (Lib.decDigits u) = false := by
  match h : Lib.decDigits u with
  | [] => rfl
  | c :: r =>
    have := dig_in u c (by rw [h]; exact List.mem_cons_self)
    unfold mi1
    refine decide_eq_false (fun e => ?_)
    rw [e] at this
    have e2 : (45 : UInt8).toNat = 45 := rfl
    omega
theorem l2_dig (u : Nat) : l2 (Lib.decDigits u) = Lib.decDigits u := l2_no (mi_dig u)
theorem num_D (n : Nat) (h : n < 32) : numD (mi1 (l1 (D n))) (l2 (l1 (D n))) = (n : Int) := by
  have e : l1 (D n) = Lib.decDigits n := rfl
  rw [e, mi_dig, l2_dig]
  unfold numD
  rw [if_neg, all_dig, digV_dec]
  · rfl
  · rintro (h2 | h2)
    · exact dec_ne n h2
    · have := dec_len 2 n (by decide) (by omega); omega
theorem num_I (i : Int) (h : -100000000000 < i ∧ i < 100000000000) : numD (mi1 (l1 (Lib.itoa i))) (l2 (l1 (Lib.itoa i))) = i := by
  by_cases h0 : i < 0
  · obtain ⟨u, rfl⟩ : ∃ u : Nat, i = -(u : Int) := ⟨i.natAbs, by omega⟩
    rw [Lib.itoa_neg u (by omega)]
    have e1 : l1 (45 :: Lib.decDigits u) = 45 :: Lib.decDigits u := rfl
    have e2 : mi1 (45 :: Lib.decDigits u) = true := rfl
    have e3 : l2 (45 :: Lib.decDigits u) = Lib.decDigits u := rfl
    rw [e1, e2, e3]
    unfold numD
    rw [if_neg, all_dig, digV_dec]
    · rfl
    · rintro (h2 | h2)
      · exact dec_ne u h2
      · have := dec_len 11 u (by decide) (by omega); omega
  · obtain ⟨u, rfl⟩ : ∃ u : Nat, i = (u : Int) := ⟨i.toNat, by omega⟩
    rw [Lib.itoa_nonneg]
    have e1 : l1 (Lib.decDigits u) = Lib.decDigits u := by
      match h : Lib.decDigits u with
      | [] => rfl
      | c :: r =>
        have := dig_in u c (by rw [h]; exact List.mem_cons_self)
        show (if c = 120 then r else c :: r) = c :: r
        rw [if_neg]
        intro e
        rw [e] at this
        have e2 : (120 : UInt8).toNat = 120 := rfl
        omega
    rw [e1, mi_dig, l2_dig]
    unfold numD
    rw [if_neg, all_dig, digV_dec]
    · rfl
    · rintro (h2 | h2)
      · exact dec_ne u h2
      · have := dec_len 11 u (by decide) (by omega); omega
end Go.Proofs.YthcfobefpknjeaaDoor.P
