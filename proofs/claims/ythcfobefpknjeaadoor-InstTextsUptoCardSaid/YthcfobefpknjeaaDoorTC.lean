/- Stage 2: texts apart, words apart: plain facts. No condition. -/
import Derived.Test.YthcfobefpknjeaaDoorTA
import Derived.Test.YthcfobefpknjeaaDoorDQ
set_option linter.unusedVariables false
set_option linter.unusedSimpArgs false
set_option maxRecDepth 100000
namespace Go.Proofs.YthcfobefpknjeaaDoor.P
open Go.RowKit
def eF (k : Nat) (i : Int) : Nat := if fmT k = 65 then i.toNat else 0
def argL (k rd a b : Nat) (i : Int) : List UInt8 :=
  if fmT k = 85 ∨ fmT k = 74 then 32 :: (D rd ++ 44 :: 32 :: Lib.itoa i) else
  if fmT k = 66 then 32 :: (D a ++ 44 :: 32 :: (D b ++ 44 :: 32 :: Lib.itoa i)) else
  if fmT k = 83 then 32 :: (D b ++ 44 :: 32 :: (Lib.itoa i ++ 40 :: (D a ++ [41]))) else
  if fmT k = 82 then 32 :: (D rd ++ 44 :: 32 :: (D a ++ 44 :: 32 :: D b)) else
  if fmT k = 65 then (bif resB k then 32 :: (D rd ++ 44 :: 32 :: 40 :: (D a ++ [41])) else 32 :: (D rd ++ 44 :: 32 :: (D b ++ 44 :: 32 :: 40 :: (D a ++ [41])))) else
  if fmT k = 78 then [] else
  bif loadB k then 32 :: (D rd ++ 44 :: 32 :: (Lib.itoa i ++ 40 :: (D a ++ [41]))) else 32 :: (D rd ++ 44 :: 32 :: (D a ++ 44 :: 32 :: Lib.itoa i))
def textL (k rd a b : Nat) (i : Int) : List UInt8 := nmE k (eF k i) ++ argL k rd a b i
theorem lineF2 (nm x y : ByteArray) : (lineF nm [x, y]).data.toList = nm.data.toList ++ 32 :: (x.data.toList ++ 44 :: 32 :: y.data.toList) := by
  unfold lineF
  rw [List.map_cons, Lib.join_cons]
  simp [Lib.joinTail, ByteArray.data_append]
theorem lineF3 (nm x y z : ByteArray) : (lineF nm [x, y, z]).data.toList = nm.data.toList ++ 32 :: (x.data.toList ++ 44 :: 32 :: (y.data.toList ++ 44 :: 32 :: z.data.toList)) := by
  unfold lineF
  rw [List.map_cons, Lib.join_cons]
  simp [Lib.joinTail, ByteArray.data_append]
theorem regF_L (n : Nat) : (regF n).data.toList = D n := by unfold regF D; simp [ByteArray.data_append]
theorem parF_L (n : Nat) : (parF (regF n)).data.toList = 40 :: (D n ++ [41]) := by unfold parF; simp [ByteArray.data_append, regF_L]
theorem offF_L (F : ByteArray) (n : Nat) : (offF F (regF n)).data.toList = F.data.toList ++ 40 :: (D n ++ [41]) := by unfold offF; simp [ByteArray.data_append, regF_L]
theorem nmE_0 (k : Nat) : nmE k 0 = (nmT k).data.toList := by unfold nmE; rw [show (endF ((0 : Nat) : Int)).data.toList = [] from rfl, List.append_nil]
theorem nmE_i (k : Nat) (i : Int) (h : 0 ≤ i) : nmE k i.toNat = (nmT k ++ endF i).data.toList := by unfold nmE; rw [Int.toNat_of_nonneg h]; simp [ByteArray.data_append]
theorem text_list (k : Nat) (hk : k < 88) (h1 : 1 ≤ k) (rd a b : Nat) (i : Int) (hi : fmT k = 65 → 0 ≤ i) : (textF k rd a b i ⟨(Lib.itoa i).toArray⟩).data.toList = textL k rd a b i := by
  have eI : (⟨(Lib.itoa i).toArray⟩ : ByteArray).data.toList = Lib.itoa i := rfl
  rcases fm_cases k hk h1 with hv | hv | hv | hv | hv | hv | hv | hv | hv | hv
  all_goals
    unfold textF textL argL eF
    rw [hv]
    simp only [Int.reduceEq, or_false, false_or, or_true, true_or, if_false, if_true]
  · rw [lineF2, regF_L, nmE_0, eI]
  · rw [lineF2, regF_L, nmE_0, eI]
  · cases loadB k
    · rw [cond_false, cond_false, lineF3, regF_L, regF_L, nmE_0, eI]
    · rw [cond_true, cond_true, lineF2, regF_L, nmE_0, offF_L, eI]
  · rw [lineF3, regF_L, regF_L, nmE_0, eI]
  · rw [lineF2, regF_L, nmE_0, offF_L, eI]
  · cases loadB k
    · rw [cond_false, cond_false, lineF3, regF_L, regF_L, nmE_0, eI]
    · rw [cond_true, cond_true, lineF2, regF_L, nmE_0, offF_L, eI]
  · cases loadB k
    · rw [cond_false, cond_false, lineF3, regF_L, regF_L, nmE_0, eI]
    · rw [cond_true, cond_true, lineF2, regF_L, nmE_0, offF_L, eI]
  · rw [lineF3, regF_L, regF_L, regF_L, nmE_0]
  · cases resB k
    · rw [cond_false, cond_false, lineF3, regF_L, regF_L, parF_L, nmE_i k i (hi hv)]
    · rw [cond_true, cond_true, lineF2, regF_L, parF_L, nmE_i k i (hi hv)]
  · rw [nmE_0, List.append_nil]
theorem argL_shape (k rd a b : Nat) (i : Int) : argL k rd a b i = [] ∨ ∃ r, argL k rd a b i = 32 :: r := by
  unfold argL
  cases resB k <;> cases loadB k
  all_goals
    repeat' split
  all_goals first | exact .inr ⟨_, rfl⟩ | exact .inl rfl
theorem head_apart {n1 n2 a1 a2 : List UInt8} (h1 : (32 : UInt8) ∉ n1) (h2 : (32 : UInt8) ∉ n2) (s1 : a1 = [] ∨ ∃ r, a1 = 32 :: r) (s2 : a2 = [] ∨ ∃ r, a2 = 32 :: r) (h : n1 ++ a1 = n2 ++ a2) : n1 = n2 ∧ a1 = a2 := by
  rcases s1 with rfl | ⟨r1, rfl⟩ <;> rcases s2 with rfl | ⟨r2, rfl⟩
  · rw [List.append_nil, List.append_nil] at h; exact ⟨h, rfl⟩
  · rw [List.append_nil] at h; exact (no_split h1 h).elim
  · rw [List.append_nil] at h; exact (no_split h2 h.symm).elim
  · obtain ⟨e1, e2⟩ := split_at h1 h2 h
    exact ⟨e1, by rw [e2]⟩
/-- What an instruction's fields are, by its form. -/
theorem may_fields (k : Nat) (hk : k < 88) (h1 : 1 ≤ k) (rd a b i : Int) (hm : mayF (k : Int) rd a b i = true) :
    ((fmT k = 85 ∨ fmT k = 74) → a = 0 ∧ b = 0) ∧ ((fmT k = 73 ∨ fmT k = 72 ∨ fmT k = 86) → b = 0) ∧ ((fmT k = 66 ∨ fmT k = 83) → rd = 0) ∧ (fmT k = 82 → i = 0) ∧ (fmT k = 65 → 0 ≤ i ∧ i < 4 ∧ (resB k = true → b = 0)) ∧ (fmT k = 78 → rd = 0 ∧ a = 0 ∧ b = 0 ∧ i = 0) := by
  rw [may_in hk h1] at hm
  generalize resB k = q at *
  rcases fm_cases k hk h1 with hv | hv | hv | hv | hv | hv | hv | hv | hv | hv
  all_goals
    rw [hv] at hm ⊢
    simp only [mayR, mayI, fitsB, oneB, Int.reduceEq, if_false, if_true, Bool.and_eq_true, Bool.or_eq_true, decide_eq_true_eq, Bool.true_and, Bool.false_and, Bool.and_true, Bool.not_true, Bool.not_false, Bool.false_or, Bool.true_or, Bool.or_false, Bool.false_eq_true, or_false, false_and, true_and, and_true, reduceCtorEq] at hm
    simp only [Int.reduceEq, or_false, false_or, or_true, true_or, false_implies, true_implies, true_and, and_true]
    try omega
  cases q <;> simp_all <;> omega
theorem args_inj (k : Nat) (hk : k < 88) (h1 : 1 ≤ k) (rd a b rd' a' b' : Nat) (i i' : Int) (hm : mayF (k : Int) rd a b i = true) (hm' : mayF (k : Int) rd' a' b' i' = true) (he : eF k i = eF k i') (h : argL k rd a b i = argL k rd' a' b' i') : rd = rd' ∧ a = a' ∧ b = b' ∧ i = i' := by
  have m := may_fields k hk h1 _ _ _ _ hm
  have m' := may_fields k hk h1 _ _ _ _ hm'
  clear hm hm'
  have d44 : ∀ n, (44 : UInt8) ∉ D n := fun n => not_D (by decide) n
  have d41 : ∀ n, (41 : UInt8) ∉ D n := fun n => not_D (by decide) n
  have i40 : ∀ n, (40 : UInt8) ∉ Lib.itoa n := fun n => not_itoa (by decide) n
  have t41 : ∀ x y : Nat, D x ++ [41] = D y ++ [41] → x = y := fun x y e => D_inj (List.append_cancel_right e)
  unfold eF at he
  unfold argL at h
  rcases fm_cases k hk h1 with hv | hv | hv | hv | hv | hv | hv | hv | hv | hv
  all_goals
    rw [hv] at h he m m'
    simp only [Int.reduceEq, or_false, false_or, or_true, true_or, if_false, if_true, false_implies, true_implies, true_and, and_true] at h he m m'
  · injection h with _ h
    obtain ⟨e1, e2⟩ := split_at (d44 _) (d44 _) h
    injection e2 with _ e2
    have := D_inj e1; have := itoa_inj e2; omega
  · injection h with _ h
    obtain ⟨e1, e2⟩ := split_at (d44 _) (d44 _) h
    injection e2 with _ e2
    have := D_inj e1; have := itoa_inj e2; omega
  · cases hl : loadB k with
    | false =>
      rw [hl, cond_false, cond_false] at h
      injection h with _ h
      obtain ⟨e1, e2⟩ := split_at (d44 _) (d44 _) h
      injection e2 with _ e2
      obtain ⟨e3, e4⟩ := split_at (d44 _) (d44 _) e2
      injection e4 with _ e4
      have := D_inj e1; have := D_inj e3; have := itoa_inj e4; omega
    | true =>
      rw [hl, cond_true, cond_true] at h
      injection h with _ h
      obtain ⟨e1, e2⟩ := split_at (d44 _) (d44 _) h
      injection e2 with _ e2
      obtain ⟨e3, e4⟩ := split_at (i40 _) (i40 _) e2
      have := D_inj e1; have := itoa_inj e3; have := t41 _ _ e4; omega
  · injection h with _ h
    obtain ⟨e1, e2⟩ := split_at (d44 _) (d44 _) h
    injection e2 with _ e2
    obtain ⟨e3, e4⟩ := split_at (d44 _) (d44 _) e2
    injection e4 with _ e4
    have := D_inj e1; have := D_inj e3; have := itoa_inj e4; omega
  · injection h with _ h
    obtain ⟨e1, e2⟩ := split_at (d44 _) (d44 _) h
    injection e2 with _ e2
    obtain ⟨e3, e4⟩ := split_at (i40 _) (i40 _) e2
    have := D_inj e1; have := itoa_inj e3; have := t41 _ _ e4; omega
  · cases hl : loadB k with
    | false =>
      rw [hl, cond_false, cond_false] at h
      injection h with _ h
      obtain ⟨e1, e2⟩ := split_at (d44 _) (d44 _) h
      injection e2 with _ e2
      obtain ⟨e3, e4⟩ := split_at (d44 _) (d44 _) e2
      injection e4 with _ e4
      have := D_inj e1; have := D_inj e3; have := itoa_inj e4; omega
    | true =>
      rw [hl, cond_true, cond_true] at h
      injection h with _ h
      obtain ⟨e1, e2⟩ := split_at (d44 _) (d44 _) h
      injection e2 with _ e2
      obtain ⟨e3, e4⟩ := split_at (i40 _) (i40 _) e2
      have := D_inj e1; have := itoa_inj e3; have := t41 _ _ e4; omega
  · cases hl : loadB k with
    | false =>
      rw [hl, cond_false, cond_false] at h
      injection h with _ h
      obtain ⟨e1, e2⟩ := split_at (d44 _) (d44 _) h
      injection e2 with _ e2
      obtain ⟨e3, e4⟩ := split_at (d44 _) (d44 _) e2
      injection e4 with _ e4
      have := D_inj e1; have := D_inj e3; have := itoa_inj e4; omega
    | true =>
      rw [hl, cond_true, cond_true] at h
      injection h with _ h
      obtain ⟨e1, e2⟩ := split_at (d44 _) (d44 _) h
      injection e2 with _ e2
      obtain ⟨e3, e4⟩ := split_at (i40 _) (i40 _) e2
      have := D_inj e1; have := itoa_inj e3; have := t41 _ _ e4; omega
  · injection h with _ h
    obtain ⟨e1, e2⟩ := split_at (d44 _) (d44 _) h
    injection e2 with _ e2
    obtain ⟨e3, e4⟩ := split_at (d44 _) (d44 _) e2
    injection e4 with _ e4
    have := D_inj e1; have := D_inj e3; have := D_inj e4; omega
  · cases hl : resB k with
    | false =>
      rw [hl, cond_false, cond_false] at h
      injection h with _ h
      obtain ⟨e1, e2⟩ := split_at (d44 _) (d44 _) h
      injection e2 with _ e2
      obtain ⟨e3, e4⟩ := split_at (d44 _) (d44 _) e2
      injection e4 with _ e4
      injection e4 with _ e4
      have := D_inj e1; have := D_inj e3; have := t41 _ _ e4; omega
    | true =>
      rw [hl, cond_true, cond_true] at h
      rw [hl] at m m'
      injection h with _ h
      obtain ⟨e1, e2⟩ := split_at (d44 _) (d44 _) h
      injection e2 with _ e2
      injection e2 with _ e2
      have := D_inj e1; have := t41 _ _ e2
      have := m.2.2 rfl; have := m'.2.2 rfl; omega
  · omega
theorem eF_in (k : Nat) (i : Int) (h : fmT k = 65 → 0 ≤ i ∧ i < 4) : eF k i < 4 := by
  unfold eF
  split
  · have := h (by assumption); omega
  · decide
theorem okE_eF (k : Nat) (h1 : 1 ≤ k) (i : Int) : okE k (eF k i) = true := by
  unfold okE eF
  rw [decide_eq_true h1, Bool.true_and]
  by_cases h : fmT k = 65
  · rw [decide_eq_true h, Bool.or_true]
  · rw [if_neg h]; rfl
/-- An instruction's text is its own. -/
theorem text_inj {k k' : Nat} (hk : k < 88) (h1 : 1 ≤ k) (hk' : k' < 88) (h1' : 1 ≤ k') {rd a b rd' a' b' : Nat} {i i' : Int} (hm : mayF (k : Int) rd a b i = true) (hm' : mayF (k' : Int) rd' a' b' i' = true) (h : textL k rd a b i = textL k' rd' a' b' i') : k = k' ∧ rd = rd' ∧ a = a' ∧ b = b' ∧ i = i' := by
  have m := (may_fields k hk h1 _ _ _ _ hm).2.2.2.2.1
  have m' := (may_fields k' hk' h1' _ _ _ _ hm').2.2.2.2.1
  have b1 := eF_in k i (fun e => ⟨(m e).1, (m e).2.1⟩)
  have b2 := eF_in k' i' (fun e => ⟨(m' e).1, (m' e).2.1⟩)
  unfold textL at h
  obtain ⟨e1, e2⟩ := head_apart (nmE_32 k hk _ b1) (nmE_32 k' hk' _ b2) (argL_shape ..) (argL_shape ..) h
  obtain ⟨rfl, e4⟩ := nmE_inj hk hk' b1 b2 (okE_eF k h1 i) (okE_eF k' h1' i') e1
  exact ⟨rfl, args_inj k hk h1 rd a b rd' a' b' i i' hm hm' e4 e2⟩
end Go.Proofs.YthcfobefpknjeaaDoor.P
namespace Go.Proofs.YthcfobefpknjeaaDoor.P
open Go.RowKit
def Fit (k : Nat) (x rd a b i : Int) : Prop := u32 x ∧ fitD (fmT k) x = rd ∧ fitA (fmT k) x = a ∧ fitB (fmT k) (resB k) x = b ∧ fitI (fmT k) x = i
set_option maxHeartbeats 3200000 in
theorem enc_fit (k : Nat) (hk : k < 88) (h1 : 1 ≤ k) (rd a b i : Int) (hm : mayF (k : Int) rd a b i = true) : Fit k (encF k rd a b i) rd a b i := by
  rw [may_in hk h1] at hm
  have hx := fix_u32 k hk
  unfold Fit encF u32
  rcases fm_cases k hk h1 with hv | hv | hv | hv | hv | hv | hv | hv | hv | hv
  all_goals
    rw [hv] at hm ⊢
    generalize resB k = q at *
    simp only [mayR, mayI, fitsB, oneB, Int.reduceEq, if_false, if_true, Bool.and_eq_true, Bool.or_eq_true, decide_eq_true_eq, Bool.true_and, Bool.false_and, Bool.and_true, Bool.not_true, Bool.not_false, Bool.false_or, Bool.true_or, Bool.or_false, Bool.false_eq_true, or_false, false_and, true_and, and_true, reduceCtorEq] at hm
    unfold fitD fitA fitB fitI
    simp only [Int.reduceEq, or_false, false_or, or_true, true_or, if_false, if_true]
  · have hf := fix_u k hk (.inl hv)
    clear hv
    generalize fixT k = f at *
    obtain ⟨m, hmm⟩ : ∃ m, m = i % 4294967296 / 4096 % 1048576 := ⟨_, rfl⟩
    have ei : encI 85 (i % 4294967296) = m * 4096 := by unfold encI; simp only [Int.reduceEq, if_false, if_true]; rw [hmm]
    rw [ei]
    obtain ⟨⟨h1, h2⟩, h3⟩ := hm
    have e1 : (f + rd * 128 + a * 32768 + b * 1048576 + m * 4096) / 4096 % 1048576 = m := by omega
    rw [e1]
    refine ⟨by omega, by omega, by omega, by omega, ?_⟩
    rcases sg20 m with ⟨g1, g2⟩ | ⟨g1, g2⟩ <;> rw [g2] <;> omega
  · have hf := fix_u k hk (.inr hv)
    clear hv
    generalize fixT k = f at *
    obtain ⟨⟨h1, h2⟩, h3⟩ := hm
    obtain ⟨s, hs⟩ : ∃ s : Int, (0 ≤ i ∧ s = 0) ∨ (i < 0 ∧ s = 1) := by by_cases h : 0 ≤ i; exact ⟨0, .inl ⟨h, rfl⟩⟩; exact ⟨1, .inr ⟨by omega, rfl⟩⟩
    have hy : i = i / 4096 % 256 * 4096 + i / 2048 % 2 * 2048 + i / 2 % 1024 * 2 - s * 1048576 := by omega
    have ei := jI s (i / 4096 % 256) (i / 2048 % 2) (i / 2 % 1024) i (by omega) (by omega) (by omega) (by omega) hy
    have es := jS s (i / 4096 % 256) (i / 2048 % 2) (i / 2 % 1024) (by omega) (by omega) (by omega) (by omega)
    rw [ei]
    rw [← hy] at es
    have r1 : 0 ≤ i / 4096 % 256 ∧ i / 4096 % 256 < 256 := by omega
    have r2 : 0 ≤ i / 2048 % 2 ∧ i / 2048 % 2 < 2 := by omega
    have r3 : 0 ≤ i / 2 % 1024 ∧ i / 2 % 1024 < 1024 := by omega
    have r4 : s = 0 ∨ s = 1 := by omega
    clear hy ei hs h3
    generalize i / 4096 % 256 = c at *
    generalize i / 2048 % 2 = d at *
    generalize i / 2 % 1024 = e at *
    obtain ⟨x, hxx⟩ : ∃ x, x = f + rd * 128 + a * 32768 + b * 1048576 + (s * 2147483648 + e * 2097152 + d * 1048576 + c * 4096) := ⟨_, rfl⟩
    rw [← hxx]
    have e1 : x / 2147483648 % 2 = s := by omega
    have e2 : x / 4096 % 256 = c := by omega
    have e3 : x / 1048576 % 2 = d := by omega
    have e4 : x / 2097152 % 1024 = e := by omega
    rw [e1, e2, e3, e4]
    exact ⟨by omega, by omega, by omega, by omega, es⟩
  · have hf := fix_i k hk (.inl hv)
    clear hv
    generalize fixT k = f at *
    obtain ⟨m, hmm⟩ : ∃ m, m = i % 4294967296 % 4096 := ⟨_, rfl⟩
    have ei : encI 73 (i % 4294967296) = m * 1048576 := by unfold encI; simp only [Int.reduceEq, if_false, if_true]; rw [hmm]
    rw [ei]
    obtain ⟨⟨h1, h2⟩, h3⟩ := hm
    have e1 : (f + rd * 128 + a * 32768 + b * 1048576 + m * 1048576) / 1048576 % 4096 = m := by omega
    rw [e1]
    refine ⟨by omega, by omega, by omega, by omega, ?_⟩
    rcases sg12 m with ⟨g1, g2⟩ | ⟨g1, g2⟩ <;> rw [g2] <;> omega
  · have hf := fix_i k hk (.inr (.inl hv))
    clear hv
    generalize fixT k = f at *
    obtain ⟨⟨h1, h2⟩, h3⟩ := hm
    obtain ⟨s, hs⟩ : ∃ s : Int, (0 ≤ i ∧ s = 0) ∨ (i < 0 ∧ s = 1) := by by_cases h : 0 ≤ i; exact ⟨0, .inl ⟨h, rfl⟩⟩; exact ⟨1, .inr ⟨by omega, rfl⟩⟩
    have hy : i = i / 2048 % 2 * 2048 + i / 32 % 64 * 32 + i / 2 % 16 * 2 - s * 4096 := by omega
    have ei := bI s (i / 2048 % 2) (i / 32 % 64) (i / 2 % 16) i (by omega) (by omega) (by omega) (by omega) hy
    have es := bS s (i / 2048 % 2) (i / 32 % 64) (i / 2 % 16) (by omega) (by omega) (by omega) (by omega)
    rw [ei]
    rw [← hy] at es
    have r1 : 0 ≤ i / 2048 % 2 ∧ i / 2048 % 2 < 2 := by omega
    have r2 : 0 ≤ i / 32 % 64 ∧ i / 32 % 64 < 64 := by omega
    have r3 : 0 ≤ i / 2 % 16 ∧ i / 2 % 16 < 16 := by omega
    have r4 : s = 0 ∨ s = 1 := by omega
    clear hy ei hs h3
    generalize i / 2048 % 2 = r at *
    generalize i / 32 % 64 = p at *
    generalize i / 2 % 16 = t at *
    obtain ⟨x, hxx⟩ : ∃ x, x = f + rd * 128 + a * 32768 + b * 1048576 + (s * 2147483648 + p * 33554432 + t * 256 + r * 128) := ⟨_, rfl⟩
    rw [← hxx]
    obtain ⟨f0, f1, hf0, hf1, hff⟩ : ∃ f0 f1 : Int, (0 ≤ f0 ∧ f0 < 128) ∧ (0 ≤ f1 ∧ f1 < 8) ∧ f = f0 + f1 * 4096 := ⟨f % 4096, f / 4096, by omega, by omega, by omega⟩
    clear hf hx
    subst hff
    have e1 : x / 2147483648 % 2 = s := by omega
    have e2 : x / 128 % 2 = r := by omega
    have e3 : x / 33554432 % 64 = p := by omega
    have e4 : x / 256 % 16 = t := by omega
    rw [e1, e2, e3, e4]
    exact ⟨by omega, by omega, by omega, by omega, es⟩
  · have hf := fix_i k hk (.inr (.inr hv))
    clear hv
    generalize fixT k = f at *
    obtain ⟨⟨h1, h2⟩, h3⟩ := hm
    obtain ⟨h, l, hh, hl, hhl⟩ : ∃ h l : Int, (0 ≤ h ∧ h < 128) ∧ (0 ≤ l ∧ l < 32) ∧ h * 32 + l = i % 4096 := ⟨i % 4096 / 32, i % 4096 % 32, by omega, by omega, by omega⟩
    have es : sgN (h * 32 + l) 12 = i := by rcases sg12 (h * 32 + l) with ⟨g1, g2⟩ | ⟨g1, g2⟩ <;> rw [g2] <;> omega
    have ei := sI h l hh hl
    rw [es] at ei
    rw [ei]
    clear hhl h3 ei
    obtain ⟨x, hxx⟩ : ∃ x, x = f + rd * 128 + a * 32768 + b * 1048576 + (h * 33554432 + l * 128) := ⟨_, rfl⟩
    rw [← hxx]
    obtain ⟨f0, f1, hf0, hf1, hff⟩ : ∃ f0 f1 : Int, (0 ≤ f0 ∧ f0 < 128) ∧ (0 ≤ f1 ∧ f1 < 8) ∧ f = f0 + f1 * 4096 := ⟨f % 4096, f / 4096, by omega, by omega, by omega⟩
    clear hf hx
    subst hff
    have e1 : x / 33554432 % 128 = h := by omega
    have e2 : x / 128 % 32 = l := by omega
    rw [e1, e2]
    exact ⟨by omega, by omega, by omega, by omega, es⟩
  · have hf := fix_h k hk hv
    clear hv
    generalize fixT k = f at *
    have ei : encI 72 (i % 4294967296) = i * 1048576 := by unfold encI; simp only [Int.reduceEq, if_false, if_true]; omega
    rw [ei]
    obtain ⟨⟨h1, h2⟩, h3⟩ := hm
    obtain ⟨f0, f1, f2, hf0, hf1, hf2, hff⟩ : ∃ f0 f1 f2 : Int, (0 ≤ f0 ∧ f0 < 128) ∧ (0 ≤ f1 ∧ f1 < 8) ∧ (0 ≤ f2 ∧ f2 < 64) ∧ f = f0 + f1 * 4096 + f2 * 67108864 := ⟨f % 4096, f / 4096 % 8, f / 67108864, by omega, by omega, by omega, by omega⟩
    clear hf hx
    subst hff
    exact ⟨by omega, by omega, by omega, by omega, by omega⟩
  · have hf := fix_v k hk (.inl hv)
    clear hv
    generalize fixT k = f at *
    have ei : encI 86 (i % 4294967296) = i * 1048576 := by unfold encI; simp only [Int.reduceEq, if_false, if_true]; omega
    rw [ei]
    obtain ⟨⟨h1, h2⟩, h3⟩ := hm
    obtain ⟨f0, f1, f2, hf0, hf1, hf2, hff⟩ : ∃ f0 f1 f2 : Int, (0 ≤ f0 ∧ f0 < 128) ∧ (0 ≤ f1 ∧ f1 < 8) ∧ (0 ≤ f2 ∧ f2 < 128) ∧ f = f0 + f1 * 4096 + f2 * 33554432 := ⟨f % 4096, f / 4096 % 8, f / 33554432, by omega, by omega, by omega, by omega⟩
    clear hf hx
    subst hff
    exact ⟨by omega, by omega, by omega, by omega, by omega⟩
  · have hf := fix_v k hk (.inr hv)
    clear hv
    generalize fixT k = f at *
    have ei : encI 82 (i % 4294967296) = 0 := by unfold encI; simp only [Int.reduceEq, if_false, if_true]
    rw [ei]
    obtain ⟨⟨h1, h2⟩, h3⟩ := hm
    obtain ⟨f0, f1, f2, hf0, hf1, hf2, hff⟩ : ∃ f0 f1 f2 : Int, (0 ≤ f0 ∧ f0 < 128) ∧ (0 ≤ f1 ∧ f1 < 8) ∧ (0 ≤ f2 ∧ f2 < 128) ∧ f = f0 + f1 * 4096 + f2 * 33554432 := ⟨f % 4096, f / 4096 % 8, f / 33554432, by omega, by omega, by omega, by omega⟩
    clear hf hx
    subst hff
    exact ⟨by omega, by omega, by omega, by omega, by omega⟩
  · have hf := fix_a k hk hv
    clear hv
    generalize fixT k = f at *
    have ei : encI 65 (i % 4294967296) = i * 33554432 := by unfold encI; simp only [Int.reduceEq, if_false, if_true]; omega
    rw [ei]
    have hq : q = true → b = 0 := by rintro rfl; simp at hm; omega
    have hb : 0 ≤ b ∧ b < 32 := by cases q <;> simp at hm <;> omega
    obtain ⟨⟨h1, h2⟩, h3⟩ := hm
    obtain ⟨f0, f1, f2, hf0, hf1, hf2, hff⟩ : ∃ f0 f1 f2 : Int, (0 ≤ f0 ∧ f0 < 128) ∧ (0 ≤ f1 ∧ f1 < 8) ∧ (0 ≤ f2 ∧ f2 < 32) ∧ f = f0 + f1 * 4096 + f2 * 134217728 := ⟨f % 4096, f / 4096 % 8, f / 134217728, by omega, by omega, by omega, by omega⟩
    clear hf hx h2
    subst hff
    refine ⟨by omega, by omega, by omega, ?_, by omega⟩
    cases q with
    | true => rw [cond_true, hq rfl]
    | false => rw [cond_false]; omega
  · have ei : encI 78 (i % 4294967296) = 0 := by unfold encI; simp only [Int.reduceEq, if_false, if_true]
    rw [ei]
    exact ⟨by omega, by omega, by omega, by omega, by omega⟩
theorem enc_mat (k : Nat) (hk : k < 88) (h1 : 1 ≤ k) (rd a b i : Int) (hm : mayF (k : Int) rd a b i = true) : matB (encF k rd a b i) k = true := by
  obtain ⟨f0, f1, f2, f3, f4⟩ := enc_fit k hk h1 rd a b i hm
  rw [← fit_enc k hk h1 _ f0, f1, f2, f3, f4]
  exact beq_iff_eq.2 rfl
theorem fix_apart_all : (List.range 88).all (fun j => (List.range 88).all (fun k => decide (j = k) || decide (j = 0) || decide (k = 0) || !decide ((fixT j).toNat &&& (maskT k).toNat = (fixT k).toNat &&& (maskT j).toNat))) = true := by decide +kernel
/-- A word is one opcode's. -/
theorem mat_one {j k : Nat} (hj : j < 88) (j1 : 1 ≤ j) (hk : k < 88) (k1 : 1 ≤ k) {x : Int} (hx : u32 x) (h : matB x j = true) (h' : matB x k = true) : j = k := by
  have ha := List.all_eq_true.1 (List.all_eq_true.1 fix_apart_all j (List.mem_range.2 hj)) k (List.mem_range.2 hk)
  rw [decide_eq_false (by omega : ¬ j = 0), decide_eq_false (by omega : ¬ k = 0), Bool.or_false, Bool.or_false] at ha
  unfold matB at h h'
  rw [beq_iff_eq] at h h'
  obtain ⟨x0, x1⟩ := hx
  obtain ⟨n, rfl⟩ : ∃ n : Nat, x = (n : Int) := ⟨x.toNat, by omega⟩
  have mj := mask_u32 j hj
  have mk := mask_u32 k hk
  have e1 := u32_and_nat n (maskT j).toNat (by omega) (by omega)
  have e2 := u32_and_nat n (maskT k).toNat (by omega) (by omega)
  rw [Int.toNat_of_nonneg mj.1, h] at e1
  rw [Int.toNat_of_nonneg mk.1, h'] at e2
  have g1 : (fixT j).toNat = n &&& (maskT j).toNat := by rw [e1]; exact Int.toNat_natCast _
  have g2 : (fixT k).toNat = n &&& (maskT k).toNat := by rw [e2]; exact Int.toNat_natCast _
  have g3 : (fixT j).toNat &&& (maskT k).toNat = (fixT k).toNat &&& (maskT j).toNat := by
    rw [g1, g2, Nat.and_assoc, Nat.and_assoc, Nat.and_comm (maskT j).toNat]
  rw [decide_eq_true g3, Bool.not_true, Bool.or_false, decide_eq_true_eq] at ha
  exact ha
/-- An instruction's word is its own. -/
theorem word_inj {k k' : Nat} (hk : k < 88) (h1 : 1 ≤ k) (hk' : k' < 88) (h1' : 1 ≤ k') {rd a b i rd' a' b' i' : Int} (hm : mayF (k : Int) rd a b i = true) (hm' : mayF (k' : Int) rd' a' b' i' = true) (h : encF k rd a b i = encF k' rd' a' b' i') : k = k' ∧ rd = rd' ∧ a = a' ∧ b = b' ∧ i = i' := by
  have m := enc_mat k hk h1 rd a b i hm
  have m' := enc_mat k' hk' h1' rd' a' b' i' hm'
  obtain ⟨f0, f1, f2, f3, f4⟩ := enc_fit k hk h1 rd a b i hm
  obtain ⟨g0, g1, g2, g3, g4⟩ := enc_fit k' hk' h1' rd' a' b' i' hm'
  rw [← h] at m' g0 g1 g2 g3 g4
  obtain rfl := mat_one hk h1 hk' h1' f0 m m'
  exact ⟨rfl, f1.symm.trans g1, f2.symm.trans g2, f3.symm.trans g3, f4.symm.trans g4⟩
end Go.Proofs.YthcfobefpknjeaaDoor.P
