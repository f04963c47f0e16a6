/- Stage 2: InstApart. No condition. -/
import Derived.Test.YthcfobefpknjeaaDoorTE
set_option linter.unusedVariables false
set_option linter.unusedSimpArgs false
set_option maxRecDepth 100000
namespace Go.Proofs.YthcfobefpknjeaaDoor.P
open Go.RowKit
theorem tlist (x : ByteArray) : x.toList = x.data.toList := Go.ByteArray.toList_eq x
theorem apart_vals {op rd a b i op' rd' a' b' i' : Int} (hm : mayF op rd a b i = true) (hm' : mayF op' rd' a' b' i' = true) (hne : ¬ (op = op' ∧ rd = rd' ∧ a = a' ∧ b = b' ∧ i = i')) :
    (encV op rd a b i != encV op' rd' a' b' i') = true ∧ ¬ (textV op rd a b i).toList = (textV op' rd' a' b' i').toList := by
  obtain ⟨k, p, q, r, rfl, rfl, rfl, rfl, hk, h1, hp, hq, hr⟩ := may_nat hm
  obtain ⟨k', p', q', r', rfl, rfl, rfl, rfl, hk', h1', hp', hq', hr'⟩ := may_nat hm'
  unfold encV textV
  rw [hm, hm']
  simp only [cond_true, Int.toNat_natCast]
  refine ⟨?_, ?_⟩
  · rw [bne_iff_ne]
    intro h
    obtain ⟨rfl, e1, e2, e3, e4⟩ := word_inj hk h1 hk' h1' hm hm' h
    exact hne ⟨rfl, e1, e2, e3, e4⟩
  · intro h
    rw [tlist, tlist] at h
    obtain ⟨rfl, e1, e2, e3, e4⟩ := text_inj hk h1 hk' h1' hm hm' h
    exact hne ⟨rfl, by rw [e1], by rw [e2], by rw [e3], e4⟩
theorem encE_yes {op rd a b i : Int} (hm : mayF op rd a b i = true) : encE op rd a b i = 0 := by unfold encE; rw [hm]; rfl
theorem encE_no {op rd a b i : Int} (hm : mayF op rd a b i = false) : encE op rd a b i = 2 := by unfold encE; rw [hm]; rfl
theorem l_apart (w : World) (hF : FT w) (hM : ML w) (hT : TBw w) (op rd a b i op' rd' a' b' i' : Int) (hi : i64 i) (hi' : i64 i') :
    Calls Tryd.prog 8 #[iv op rd a b i, iv op' rd' a' b' i'] w fun e w' => e = .returned (.bool true) ∧ Gr w w' := by
  have CS := fun w1 (g : Gr w w1) => c_shown2 w1 (hF.gr g) (hM.gr g)
  have C1 := fun w1 (g : Gr w w1) => c_encode op rd a b i hi w1 (hF.gr g)
  have C2 := fun w1 (g : Gr w w1) => c_encode op' rd' a' b' i' hi' w1 (hF.gr g)
  have C3 := fun w1 (g : Gr w w1) => c_text op rd a b i hi w1 (hF.gr g) (hT.gr g)
  have C4 := fun w1 (g : Gr w w1) => c_text op' rd' a' b' i' hi' w1 (hF.gr g) (hT.gr g)
  cases hm : mayF op rd a b i with
  | false =>
    refine l_apart_e w op rd a b i op' rd' a' b' i' _ _ _ _ _ _ CS C1 C2 C3 C4 (encE_no hm) ?_
    cases hm' : mayF op' rd' a' b' i' with
    | false => exact .inr (encE_no hm')
    | true => exact .inl (encE_yes hm')
  | true =>
    cases hm' : mayF op' rd' a' b' i' with
    | false => exact l_apart_f w op rd a b i op' rd' a' b' i' _ _ _ _ _ _ CS C1 C2 C3 C4 (encE_yes hm) (encE_no hm')
    | true =>
      by_cases hs : op = op' ∧ rd = rd' ∧ a = a' ∧ b = b' ∧ i = i'
      · obtain ⟨rfl, rfl, rfl, rfl, rfl⟩ := hs
        exact l_apart_s w op rd a b i _ _ _ _ _ _ CS C1 C2 C3 C4 (encE_yes hm) (encE_yes hm')
      · obtain ⟨hv, ht⟩ := apart_vals hm hm' hs
        exact l_apart_n w op rd a b i op' rd' a' b' i' _ _ _ _ _ _ CS C1 C2 C3 C4 (encE_yes hm) (encE_yes hm') hv ht
end Go.Proofs.YthcfobefpknjeaaDoor.P
