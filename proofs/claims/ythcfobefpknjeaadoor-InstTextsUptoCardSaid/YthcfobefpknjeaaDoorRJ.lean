/- Stage 2: the instruction that was written is among those that are tried: plain facts. No condition. -/
import Derived.Test.YthcfobefpknjeaaDoorRH
import Derived.Test.YthcfobefpknjeaaDoorTL
set_option linter.unusedVariables false
set_option linter.unusedSimpArgs false
set_option maxRecDepth 100000
namespace Go.Proofs.YthcfobefpknjeaaDoor.P
open Go.RowKit
def numL (x : List UInt8) : Int := numD (mi1 (l1 x)) (l2 (l1 x))
def nV (T : List (List UInt8)) (j : Nat) : Int := match T[j + 1]? with | some x => numL x | none => 0
def cand7 (op p q r : Int) : List Ins := [⟨op, 0, 0, 0, 0⟩, ⟨op, p, 0, 0, q⟩, ⟨op, p, q, 0, r⟩, ⟨op, p, r, 0, q⟩, ⟨op, 0, p, q, r⟩, ⟨op, 0, r, p, q⟩, ⟨op, p, q, r, 0⟩]
def cand2 (op p q r j : Int) : List Ins := [⟨op, p, r, q, j⟩, ⟨op, p, q, 0, j⟩]
def candL (op p q r : Int) : List Ins := cand7 op p q r ++ (cand2 op p q r 0 ++ (cand2 op p q r 1 ++ (cand2 op p q r 2 ++ cand2 op p q r 3)))
theorem may_rng (k : Nat) (hk : k < 88) (h1 : 1 ≤ k) (rd a b i : Int) (hm : mayF (k : Int) rd a b i = true) : -100000000000 < i ∧ i < 100000000000 := by
  rw [may_in hk h1] at hm
  generalize resB k = q at *
  rcases fm_cases k hk h1 with hv | hv | hv | hv | hv | hv | hv | hv | hv | hv
  all_goals
    rw [hv] at hm
    simp only [mayR, mayI, Int.reduceEq, if_false, if_true, Bool.and_eq_true, decide_eq_true_eq] at hm
    omega
theorem D_ne (n : Nat) : D n ≠ [] := by unfold D; exact List.cons_ne_nil _ _
theorem itoa_ne2 (i : Int) : Lib.itoa i ≠ [] := by
  by_cases h0 : i < 0
  · obtain ⟨u, rfl⟩ : ∃ u : Nat, i = -(u : Int) := ⟨i.natAbs, by omega⟩
    rw [Lib.itoa_neg u (by omega)]; exact List.cons_ne_nil _ _
  · obtain ⟨u, rfl⟩ : ∃ u : Nat, i = (u : Int) := ⟨i.toNat, by omega⟩
    rw [Lib.itoa_nonneg]; exact dec_ne u
theorem no_of {l : List UInt8} (h : (l.all (fun c => !inC c)) = true) : NoIn l := by
  intro c hc
  have := List.all_eq_true.1 h c hc
  simpa using this
theorem tk1 (t r : List UInt8) (ht : AllIn t) (h0 : t ≠ []) : toks (t ++ 32 :: r) [] = t :: toks r [] := toks_one t [32] r ht h0 (no_of (by decide)) (by decide)
theorem tk2 (t r : List UInt8) (ht : AllIn t) (h0 : t ≠ []) : toks (t ++ 44 :: 32 :: r) [] = t :: toks r [] := toks_one t [44, 32] r ht h0 (no_of (by decide)) (by decide)
theorem tk3 (t r : List UInt8) (ht : AllIn t) (h0 : t ≠ []) : toks (t ++ 40 :: r) [] = t :: toks r [] := toks_one t [40] r ht h0 (no_of (by decide)) (by decide)
theorem tk4 (t r : List UInt8) (ht : AllIn t) (h0 : t ≠ []) : toks (t ++ 44 :: 32 :: 40 :: r) [] = t :: toks r [] := toks_one t [44, 32, 40] r ht h0 (no_of (by decide)) (by decide)
theorem tk5 (t : List UInt8) (ht : AllIn t) (h0 : t ≠ []) : toks (t ++ [41]) [] = [t] := toks_end t [41] ht h0 (no_of (by decide)) (by decide)
theorem name_inP (k : Nat) (hk : k < 88) (e : Nat) (he : e < 4) : AllIn (nmE k e) := fun c hc => List.all_eq_true.1 (in_nmE k hk e he) c hc
theorem in_cand (k : Nat) (hk : k < 88) (h1 : 1 ≤ k) (rd a b : Nat) (i : Int) (hm : mayF (k : Int) rd a b i = true) (hrd : rd < 32) (ha : a < 32) (hb : b < 32) :
    (1 ≤ (toks (textL k rd a b i) []).length ∧ (toks (textL k rd a b i) []).length ≤ 4) ∧ (⟨(k : Int), (rd : Int), (a : Int), (b : Int), i⟩ : Ins) ∈ candL k (nV (toks (textL k rd a b i) []) 0) (nV (toks (textL k rd a b i) []) 1) (nV (toks (textL k rd a b i) []) 2) := by
  have m := may_fields k hk h1 _ _ _ _ hm
  have hr := may_rng k hk h1 _ _ _ _ hm
  have he := eF_in k i (fun e => ⟨(m.2.2.2.2.1 e).1, (m.2.2.2.2.1 e).2.1⟩)
  have hN := name_inP k hk _ he
  have hN0 := nmE_ne k hk h1 _ he
  have nI : numL (Lib.itoa i) = i := num_I i hr
  have n1 : numL (D rd) = (rd : Int) := num_D rd hrd
  have n2 : numL (D a) = (a : Int) := num_D a ha
  have n3 : numL (D b) = (b : Int) := num_D b hb
  clear hm
  unfold textL
  generalize nmE k (eF k i) = N at *
  have T2 := fun n r => tk2 (D n) r (in_D n) (D_ne n)
  have T3 := fun r => tk3 (Lib.itoa i) r (in_itoa i) (itoa_ne2 i)
  have T4 := fun n r => tk4 (D n) r (in_D n) (D_ne n)
  have T5 := fun n => tk5 (D n) (in_D n) (D_ne n)
  have T6 := fun n => toks_last (D n) (in_D n) (D_ne n)
  have T7 := toks_last (Lib.itoa i) (in_itoa i) (itoa_ne2 i)
  have T1 := fun r => tk1 N r hN hN0
  have T0 := toks_last N hN hN0
  have V3 : ∀ x y z : List UInt8, nV [N, x, y, z] 0 = numL x ∧ nV [N, x, y, z] 1 = numL y ∧ nV [N, x, y, z] 2 = numL z := fun _ _ _ => ⟨rfl, rfl, rfl⟩
  have V2 : ∀ x y : List UInt8, nV [N, x, y] 0 = numL x ∧ nV [N, x, y] 1 = numL y ∧ nV [N, x, y] 2 = 0 := fun _ _ => ⟨rfl, rfl, rfl⟩
  have V0 : nV [N] 0 = 0 ∧ nV [N] 1 = 0 ∧ nV [N] 2 = 0 := ⟨rfl, rfl, rfl⟩
  unfold argL
  rcases fm_cases k hk h1 with hv | hv | hv | hv | hv | hv | hv | hv | hv | hv
  all_goals
    rw [hv] at m ⊢
    simp only [Int.reduceEq, or_false, false_or, or_true, true_or, if_false, if_true, false_implies, true_implies, true_and, and_true] at m ⊢
  · rw [T1, T2, T7]
    refine ⟨⟨by simp, by simp⟩, ?_⟩
    rw [(V2 _ _).1, (V2 _ _).2.1, (V2 _ _).2.2, n1, nI]
    obtain ⟨ma, mb⟩ := m
    rw [ma, mb]
    simp [candL, cand7]
  · rw [T1, T2, T7]
    refine ⟨⟨by simp, by simp⟩, ?_⟩
    rw [(V2 _ _).1, (V2 _ _).2.1, (V2 _ _).2.2, n1, nI]
    obtain ⟨ma, mb⟩ := m
    rw [ma, mb]
    simp [candL, cand7]
  · cases hl : loadB k with
    | false =>
      rw [cond_false, T1, T2, T2, T7]
      refine ⟨⟨by simp, by simp⟩, ?_⟩
      rw [(V3 _ _ _).1, (V3 _ _ _).2.1, (V3 _ _ _).2.2, n1, n2, nI, m]
      simp [candL, cand7]
    | true =>
      rw [cond_true, T1, T2, T3, T5]
      refine ⟨⟨by simp, by simp⟩, ?_⟩
      rw [(V3 _ _ _).1, (V3 _ _ _).2.1, (V3 _ _ _).2.2, n1, n2, nI, m]
      simp [candL, cand7]
  · rw [T1, T2, T2, T7]
    refine ⟨⟨by simp, by simp⟩, ?_⟩
    rw [(V3 _ _ _).1, (V3 _ _ _).2.1, (V3 _ _ _).2.2, n2, n3, nI, m]
    simp [candL, cand7]
  · rw [T1, T2, T3, T5]
    refine ⟨⟨by simp, by simp⟩, ?_⟩
    rw [(V3 _ _ _).1, (V3 _ _ _).2.1, (V3 _ _ _).2.2, n2, n3, nI, m]
    simp [candL, cand7]
  · cases hl : loadB k with
    | false =>
      rw [cond_false, T1, T2, T2, T7]
      refine ⟨⟨by simp, by simp⟩, ?_⟩
      rw [(V3 _ _ _).1, (V3 _ _ _).2.1, (V3 _ _ _).2.2, n1, n2, nI, m]
      simp [candL, cand7]
    | true =>
      rw [cond_true, T1, T2, T3, T5]
      refine ⟨⟨by simp, by simp⟩, ?_⟩
      rw [(V3 _ _ _).1, (V3 _ _ _).2.1, (V3 _ _ _).2.2, n1, n2, nI, m]
      simp [candL, cand7]
  · cases hl : loadB k with
    | false =>
      rw [cond_false, T1, T2, T2, T7]
      refine ⟨⟨by simp, by simp⟩, ?_⟩
      rw [(V3 _ _ _).1, (V3 _ _ _).2.1, (V3 _ _ _).2.2, n1, n2, nI, m]
      simp [candL, cand7]
    | true =>
      rw [cond_true, T1, T2, T3, T5]
      refine ⟨⟨by simp, by simp⟩, ?_⟩
      rw [(V3 _ _ _).1, (V3 _ _ _).2.1, (V3 _ _ _).2.2, n1, n2, nI, m]
      simp [candL, cand7]
  · rw [T1, T2, T2, T6]
    refine ⟨⟨by simp, by simp⟩, ?_⟩
    rw [(V3 _ _ _).1, (V3 _ _ _).2.1, (V3 _ _ _).2.2, n1, n2, n3, m]
    simp [candL, cand7]
  · have hi4 : i = 0 ∨ i = 1 ∨ i = 2 ∨ i = 3 := by omega
    cases hl : resB k with
    | false =>
      rw [cond_false, T1, T2, T4, T5]
      refine ⟨⟨by simp, by simp⟩, ?_⟩
      rw [(V3 _ _ _).1, (V3 _ _ _).2.1, (V3 _ _ _).2.2, n1, n2, n3]
      rcases hi4 with h | h | h | h <;> rw [h] <;> simp [candL, cand7, cand2]
    | true =>
      rw [cond_true, T1, T4, T5]
      refine ⟨⟨by simp, by simp⟩, ?_⟩
      rw [(V2 _ _).1, (V2 _ _).2.1, (V2 _ _).2.2, n1, n2, m.2.2 hl]
      rcases hi4 with h | h | h | h <;> rw [h] <;> simp [candL, cand7, cand2]
  · rw [List.append_nil, T0]
    refine ⟨⟨by simp, by simp⟩, ?_⟩
    obtain ⟨ma, mb, mc, md⟩ := m
    rw [ma, mb, mc, md]
    simp [candL, cand7]
end Go.Proofs.YthcfobefpknjeaaDoor.P
namespace Go.Proofs.YthcfobefpknjeaaDoor.P
open Go.RowKit
def hasT (s : ByteArray) (x : Ins) : Bool := mayF x.op x.rd x.a x.b x.i && decide (textV x.op x.rd x.a x.b x.i = s)
theorem bL_back {l m : List UInt8} (h : bL l = bL m) : l = m := by
  have := congrArg (fun b : ByteArray => b.data.toList) h
  simpa [bL] using this
theorem found_is {s : ByteArray} {x : Ins} (h : hasT s x = true) (hi : i64 x.i) : parX s = x ∧ parE s = 0 := by
  unfold hasT at h
  rw [Bool.and_eq_true, decide_eq_true_eq] at h
  obtain ⟨hm, ht⟩ := h
  obtain ⟨op, rd, a, b, i⟩ := x
  simp only at hm ht hi
  obtain ⟨k, p, q, r, rfl, rfl, rfl, rfl, hk, h1, hp, hq, hr⟩ := may_nat hm
  unfold textV at ht
  rw [hm, cond_true] at ht
  simp only [Int.toNat_natCast] at ht
  subst ht
  exact par_back k hk h1 p q r i hm hp hq hr hi
theorem par_in {l : List UInt8} (h : parB (bL l) = true) : (1 ≤ (toks l []).length ∧ (toks l []).length ≤ 4) ∧ ∃ (k : Nat) (x : Ins), 1 ≤ k ∧ k < 88 ∧ x ∈ candL k (nV (toks l []) 0) (nV (toks l []) 1) (nV (toks l []) 2) ∧ hasT (bL l) x = true := by
  unfold parB at h
  rw [Bool.and_eq_true, Bool.and_eq_true, decide_eq_true_eq, decide_eq_true_eq] at h
  obtain ⟨_, hm, ht⟩ := h
  have hh : hasT (bL l) (guessT (bL l)) = true := by unfold hasT; rw [hm, Bool.true_and, decide_eq_true_eq]; exact ht
  generalize guessT (bL l) = x at *
  obtain ⟨op, rd, a, b, i⟩ := x
  simp only at hm ht
  obtain ⟨k, p, q, r, rfl, rfl, rfl, rfl, hk, h1, hp, hq, hr⟩ := may_nat hm
  unfold textV at ht
  rw [hm, cond_true] at ht
  simp only [Int.toNat_natCast] at ht
  have e : textL k p q r i = l := bL_back ht
  have := in_cand k hk h1 p q r i hm hp hq hr
  rw [e] at this
  exact ⟨this.1, k, _, h1, hk, this.2, hh⟩
theorem par_none {l : List UInt8} (h : ∀ (k : Nat), 1 ≤ k → k < 88 → ∀ x ∈ candL k (nV (toks l []) 0) (nV (toks l []) 1) (nV (toks l []) 2), hasT (bL l) x = false) : parB (bL l) = false := by
  cases hb : parB (bL l) with
  | false => rfl
  | true =>
    obtain ⟨_, k, x, h1, hk, hx, hT⟩ := par_in hb
    rw [h k h1 hk x hx] at hT
    cases hT
theorem par_bad {l : List UInt8} (h : (toks l []).length = 0 ∨ 4 < (toks l []).length) : parB (bL l) = false := by
  cases hb : parB (bL l) with
  | false => rfl
  | true => have := (par_in hb).1; omega
theorem par_no {s : ByteArray} (h : parB s = false) : parX s = ⟨0, 0, 0, 0, 0⟩ ∧ parE s = 2 := by
  unfold parX parE
  rw [h]
  exact ⟨rfl, rfl⟩
theorem has_no {s : ByteArray} {x : Ins} (h : hasT s x = false) : encE x.op x.rd x.a x.b x.i = 0 → ¬ textV x.op x.rd x.a x.b x.i = s := by
  unfold hasT at h
  unfold encE
  cases hm : mayF x.op x.rd x.a x.b x.i with
  | false => intro e; cases e
  | true => rw [hm, Bool.true_and, decide_eq_false_iff_not] at h; exact fun _ => h
theorem has_yes {s : ByteArray} {x : Ins} (h : encE x.op x.rd x.a x.b x.i = 0 ∧ textV x.op x.rd x.a x.b x.i = s) : hasT s x = true := by
  unfold hasT
  obtain ⟨h1, h2⟩ := h
  unfold encE at h1
  cases hm : mayF x.op x.rd x.a x.b x.i with
  | false => rw [hm] at h1; cases h1
  | true => rw [Bool.true_and, decide_eq_true_eq]; exact h2
theorem numL_in (x : List UInt8) : -1000000000000 < numL x ∧ numL x < 1000000000000 := by
  unfold numL numD
  split
  · omega
  · rename_i h
    cases hd : allD (l2 (l1 x)) with
    | false => rw [cond_false]; omega
    | true =>
      have := digV_lt (l2 (l1 x)) (allD_iff.1 hd)
      have h2 : (l2 (l1 x)).length ≤ 12 := by omega
      have h3 := Nat.pow_le_pow_right (by decide : 0 < 10) h2
      rw [cond_true]
      cases mi1 (l1 x)
      · rw [cond_false]; omega
      · rw [cond_true]; omega
theorem nV_in (T : List (List UInt8)) (j : Nat) : -1000000000000 < nV T j ∧ nV T j < 1000000000000 := by
  unfold nV
  cases T[j + 1]? with
  | none => exact ⟨by decide, by decide⟩
  | some x => exact numL_in x
end Go.Proofs.YthcfobefpknjeaaDoor.P
