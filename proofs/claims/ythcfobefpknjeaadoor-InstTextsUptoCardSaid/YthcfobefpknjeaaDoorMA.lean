/- Stage 2: the document's May is the program's. No condition. -/
import Derived.Test.YthcfobefpknjeaaDoorM4
import Derived.Test.YthcfobefpknjeaaDoorM8
set_option linter.unusedVariables false
set_option linter.unusedSimpArgs false
set_option maxRecDepth 100000
namespace Go.Proofs.YthcfobefpknjeaaDoor.P
open Go.RowKit
theorem may_eq_85 (q : Bool) (rd a b i : Int) (hr : regB rd = true) (ha : regB a = true) (hb : regB b = true) : (mayR 85 q rd a b && mayI 85 i) = (decide (a = 0) && decide (b = 0) && withinF i (-2147483648) 2147479552 4096) := by
  unfold regB at hr ha hb
  rw [Bool.and_eq_true, decide_eq_true_eq, decide_eq_true_eq] at hr ha hb
  rw [Bool.eq_iff_iff]
  simp only [mayR, mayI, fitsB, oneB, withinF, Int.reduceEq, if_false, if_true, Bool.and_eq_true, Bool.or_eq_true, decide_eq_true_eq, Bool.true_and, Bool.false_and, Bool.and_true, Bool.not_true, Bool.not_false, Bool.false_or, Bool.true_or, Bool.or_false, Bool.false_eq_true, or_false, false_and, true_and, and_true, reduceCtorEq]
  all_goals omega
theorem may_eq_74 (q : Bool) (rd a b i : Int) (hr : regB rd = true) (ha : regB a = true) (hb : regB b = true) : (mayR 74 q rd a b && mayI 74 i) = (decide (a = 0) && decide (b = 0) && withinF i (-1048576) 1048574 2) := by
  unfold regB at hr ha hb
  rw [Bool.and_eq_true, decide_eq_true_eq, decide_eq_true_eq] at hr ha hb
  rw [Bool.eq_iff_iff]
  simp only [mayR, mayI, fitsB, oneB, withinF, Int.reduceEq, if_false, if_true, Bool.and_eq_true, Bool.or_eq_true, decide_eq_true_eq, Bool.true_and, Bool.false_and, Bool.and_true, Bool.not_true, Bool.not_false, Bool.false_or, Bool.true_or, Bool.or_false, Bool.false_eq_true, or_false, false_and, true_and, and_true, reduceCtorEq]
  all_goals omega
theorem may_eq_73 (q : Bool) (rd a b i : Int) (hr : regB rd = true) (ha : regB a = true) (hb : regB b = true) : (mayR 73 q rd a b && mayI 73 i) = (decide (b = 0) && withinF i (-2048) 2047 1) := by
  unfold regB at hr ha hb
  rw [Bool.and_eq_true, decide_eq_true_eq, decide_eq_true_eq] at hr ha hb
  rw [Bool.eq_iff_iff]
  simp only [mayR, mayI, fitsB, oneB, withinF, Int.reduceEq, if_false, if_true, Bool.and_eq_true, Bool.or_eq_true, decide_eq_true_eq, Bool.true_and, Bool.false_and, Bool.and_true, Bool.not_true, Bool.not_false, Bool.false_or, Bool.true_or, Bool.or_false, Bool.false_eq_true, or_false, false_and, true_and, and_true, reduceCtorEq]
  all_goals omega
theorem may_eq_66 (q : Bool) (rd a b i : Int) (hr : regB rd = true) (ha : regB a = true) (hb : regB b = true) : (mayR 66 q rd a b && mayI 66 i) = (decide (rd = 0) && withinF i (-4096) 4094 2) := by
  unfold regB at hr ha hb
  rw [Bool.and_eq_true, decide_eq_true_eq, decide_eq_true_eq] at hr ha hb
  rw [Bool.eq_iff_iff]
  simp only [mayR, mayI, fitsB, oneB, withinF, Int.reduceEq, if_false, if_true, Bool.and_eq_true, Bool.or_eq_true, decide_eq_true_eq, Bool.true_and, Bool.false_and, Bool.and_true, Bool.not_true, Bool.not_false, Bool.false_or, Bool.true_or, Bool.or_false, Bool.false_eq_true, or_false, false_and, true_and, and_true, reduceCtorEq]
  all_goals omega
theorem may_eq_83 (q : Bool) (rd a b i : Int) (hr : regB rd = true) (ha : regB a = true) (hb : regB b = true) : (mayR 83 q rd a b && mayI 83 i) = (decide (rd = 0) && withinF i (-2048) 2047 1) := by
  unfold regB at hr ha hb
  rw [Bool.and_eq_true, decide_eq_true_eq, decide_eq_true_eq] at hr ha hb
  rw [Bool.eq_iff_iff]
  simp only [mayR, mayI, fitsB, oneB, withinF, Int.reduceEq, if_false, if_true, Bool.and_eq_true, Bool.or_eq_true, decide_eq_true_eq, Bool.true_and, Bool.false_and, Bool.and_true, Bool.not_true, Bool.not_false, Bool.false_or, Bool.true_or, Bool.or_false, Bool.false_eq_true, or_false, false_and, true_and, and_true, reduceCtorEq]
  all_goals omega
theorem may_eq_72 (q : Bool) (rd a b i : Int) (hr : regB rd = true) (ha : regB a = true) (hb : regB b = true) : (mayR 72 q rd a b && mayI 72 i) = (decide (b = 0) && withinF i 0 63 1) := by
  unfold regB at hr ha hb
  rw [Bool.and_eq_true, decide_eq_true_eq, decide_eq_true_eq] at hr ha hb
  rw [Bool.eq_iff_iff]
  simp only [mayR, mayI, fitsB, oneB, withinF, Int.reduceEq, if_false, if_true, Bool.and_eq_true, Bool.or_eq_true, decide_eq_true_eq, Bool.true_and, Bool.false_and, Bool.and_true, Bool.not_true, Bool.not_false, Bool.false_or, Bool.true_or, Bool.or_false, Bool.false_eq_true, or_false, false_and, true_and, and_true, reduceCtorEq]
  all_goals omega
theorem may_eq_86 (q : Bool) (rd a b i : Int) (hr : regB rd = true) (ha : regB a = true) (hb : regB b = true) : (mayR 86 q rd a b && mayI 86 i) = (decide (b = 0) && withinF i 0 31 1) := by
  unfold regB at hr ha hb
  rw [Bool.and_eq_true, decide_eq_true_eq, decide_eq_true_eq] at hr ha hb
  rw [Bool.eq_iff_iff]
  simp only [mayR, mayI, fitsB, oneB, withinF, Int.reduceEq, if_false, if_true, Bool.and_eq_true, Bool.or_eq_true, decide_eq_true_eq, Bool.true_and, Bool.false_and, Bool.and_true, Bool.not_true, Bool.not_false, Bool.false_or, Bool.true_or, Bool.or_false, Bool.false_eq_true, or_false, false_and, true_and, and_true, reduceCtorEq]
  all_goals omega
theorem may_eq_82 (q : Bool) (rd a b i : Int) (hr : regB rd = true) (ha : regB a = true) (hb : regB b = true) : (mayR 82 q rd a b && mayI 82 i) = (decide (i = 0) && true) := by
  unfold regB at hr ha hb
  rw [Bool.and_eq_true, decide_eq_true_eq, decide_eq_true_eq] at hr ha hb
  rw [Bool.eq_iff_iff]
  simp only [mayR, mayI, fitsB, oneB, withinF, Int.reduceEq, if_false, if_true, Bool.and_eq_true, Bool.or_eq_true, decide_eq_true_eq, Bool.true_and, Bool.false_and, Bool.and_true, Bool.not_true, Bool.not_false, Bool.false_or, Bool.true_or, Bool.or_false, Bool.false_eq_true, or_false, false_and, true_and, and_true, reduceCtorEq]
  all_goals omega
theorem may_eq_65 (q : Bool) (rd a b i : Int) (hr : regB rd = true) (ha : regB a = true) (hb : regB b = true) : (mayR 65 q rd a b && mayI 65 i) = (withinF i 0 3 1 && (!q || decide (b = 0))) := by
  unfold regB at hr ha hb
  rw [Bool.and_eq_true, decide_eq_true_eq, decide_eq_true_eq] at hr ha hb
  rw [Bool.eq_iff_iff]
  cases q <;> simp only [mayR, mayI, fitsB, oneB, withinF, Int.reduceEq, if_false, if_true, Bool.and_eq_true, Bool.or_eq_true, decide_eq_true_eq, Bool.true_and, Bool.false_and, Bool.and_true, Bool.not_true, Bool.not_false, Bool.false_or, Bool.true_or, Bool.or_false, Bool.false_eq_true, or_false, false_and, true_and, and_true, reduceCtorEq] <;> omega
theorem may_eq_78 (q : Bool) (rd a b i : Int) (hr : regB rd = true) (ha : regB a = true) (hb : regB b = true) : (mayR 78 q rd a b && mayI 78 i) = (decide (rd = 0) && decide (a = 0) && decide (b = 0) && decide (i = 0) && true) := by
  unfold regB at hr ha hb
  rw [Bool.and_eq_true, decide_eq_true_eq, decide_eq_true_eq] at hr ha hb
  rw [Bool.eq_iff_iff]
  simp only [mayR, mayI, fitsB, oneB, withinF, Int.reduceEq, if_false, if_true, Bool.and_eq_true, Bool.or_eq_true, decide_eq_true_eq, Bool.true_and, Bool.false_and, Bool.and_true, Bool.not_true, Bool.not_false, Bool.false_or, Bool.true_or, Bool.or_false, Bool.false_eq_true, or_false, false_and, true_and, and_true, reduceCtorEq]
  all_goals omega
theorem may_no (f : Int) (q : Bool) (rd a b : Int) (h : (regB rd && regB a && regB b) = false) : mayR f q rd a b = false := by
  have key : ∀ p r s : Bool, fitsB rd a b p r s = false := by
    intro p r s
    cases e : fitsB rd a b p r s with
    | false => rfl
    | true =>
      exfalso
      unfold fitsB at e
      rw [Bool.and_eq_true, Bool.and_eq_true] at e
      have o : ∀ (n : Int) (b : Bool), oneB n b = true → regB n = true := by
        intro n b hn
        unfold oneB at hn
        unfold regB
        rw [Bool.or_eq_true, Bool.and_eq_true, Bool.and_eq_true, decide_eq_true_eq, decide_eq_true_eq, decide_eq_true_eq] at hn
        rw [Bool.and_eq_true, decide_eq_true_eq, decide_eq_true_eq]
        omega
      rw [o _ _ e.1.1, o _ _ e.1.2, o _ _ e.2] at h
      exact absurd h (by decide)
  unfold mayR
  repeat' split
  all_goals exact key _ _ _
theorem r_may (op rd a b i : Int) (hi : i64 i) (w : World) : Calls Tryd.prog 12 #[iv op rd a b i] w fun e w' => e = .returned (.bool (mayF op rd a b i)) ∧ Gr w w' := by
  by_cases ho : op < 1 ∨ 87 < op
  · have e : mayF op rd a b i = false := by
      unfold mayF
      rcases ho with h | h
      · rw [decide_eq_false (by omega : ¬ 1 ≤ op)]; rfl
      · rw [decide_eq_false (by omega : ¬ op ≤ 87), Bool.and_false]; rfl
    rw [e]
    exact r_may_out op rd a b i ho w
  · obtain ⟨k, rfl⟩ : ∃ k : Nat, op = (k : Int) := ⟨op.toNat, by omega⟩
    have hk : k < 88 := by omega
    have h1 : 1 ≤ k := by omega
    rw [may_in hk h1]
    cases hg : (regB rd && regB a && regB b) with
    | false =>
      rw [may_no _ _ _ _ _ hg, Bool.false_and]
      exact r_may_bad k hk h1 rd a b i w hg
    | true =>
      rw [Bool.and_eq_true, Bool.and_eq_true] at hg
      rcases fm_cases k hk h1 with hv | hv | hv | hv | hv | hv | hv | hv | hv | hv
      · rw [hv, may_eq_85 _ _ _ _ _ hg.1.1 hg.1.2 hg.2]
        exact r_may_85 k hk h1 hv rd a b i hi w hg.1.1 hg.1.2 hg.2
      · rw [hv, may_eq_74 _ _ _ _ _ hg.1.1 hg.1.2 hg.2]
        exact r_may_74 k hk h1 hv rd a b i hi w hg.1.1 hg.1.2 hg.2
      · rw [hv, may_eq_73 _ _ _ _ _ hg.1.1 hg.1.2 hg.2]
        exact r_may_73 k hk h1 hv rd a b i hi w hg.1.1 hg.1.2 hg.2
      · rw [hv, may_eq_66 _ _ _ _ _ hg.1.1 hg.1.2 hg.2]
        exact r_may_66 k hk h1 hv rd a b i hi w hg.1.1 hg.1.2 hg.2
      · rw [hv, may_eq_83 _ _ _ _ _ hg.1.1 hg.1.2 hg.2]
        exact r_may_83 k hk h1 hv rd a b i hi w hg.1.1 hg.1.2 hg.2
      · rw [hv, may_eq_72 _ _ _ _ _ hg.1.1 hg.1.2 hg.2]
        exact r_may_72 k hk h1 hv rd a b i hi w hg.1.1 hg.1.2 hg.2
      · rw [hv, may_eq_86 _ _ _ _ _ hg.1.1 hg.1.2 hg.2]
        exact r_may_86 k hk h1 hv rd a b i hi w hg.1.1 hg.1.2 hg.2
      · rw [hv, may_eq_82 _ _ _ _ _ hg.1.1 hg.1.2 hg.2]
        exact r_may_82 k hk h1 hv rd a b i hi w hg.1.1 hg.1.2 hg.2
      · rw [hv, may_eq_65 _ _ _ _ _ hg.1.1 hg.1.2 hg.2]
        exact r_may_65 k hk h1 hv rd a b i hi w hg.1.1 hg.1.2 hg.2
      · rw [hv, may_eq_78 _ _ _ _ _ hg.1.1 hg.1.2 hg.2]
        exact r_may_78 k hk h1 hv rd a b i hi w hg.1.1 hg.1.2 hg.2
end Go.Proofs.YthcfobefpknjeaaDoor.P
