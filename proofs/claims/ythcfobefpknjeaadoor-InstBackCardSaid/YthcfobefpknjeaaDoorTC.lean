/- Stage 2: what is written is read: plain facts on words. No condition. -/
import Derived.Test.YthcfobefpknjeaaDoorTB
set_option linter.unusedVariables false
set_option linter.unusedSimpArgs false
set_option maxRecDepth 100000
namespace Go.Proofs.YthcfobefpknjeaaDoor.P
open Go.RowKit
def Fit (k : Nat) (x rd a b i : Int) : Prop := u32 x ∧ fitD (fmT k) x = rd ∧ fitA (fmT k) x = a ∧ fitB (fmT k) (resB k) x = b ∧ fitI (fmT k) x = i
set_option maxHeartbeats 3200000 in
theorem enc_fit (k : Nat) (hk : k < 88) (h1 : 1 ≤ k) (rd a b i : Int) (hm : mayF (k : Int) rd a b i = true) : Fit k (encF k rd a b i) rd a b i := by
  rw [may_in hk h1] at hm
  have hx := fix_u32 k hk
  unfold Fit encF u32
  rcases fm_cases k hk h1 with hv | hv | hv | hv | hv | hv | hv | hv | hv | hv
  all_goals
    rw [hv] at hm ⊢
    generalize resB k = q at *
    simp only [mayR, mayI, fitsB, oneB, Int.reduceEq, if_false, if_true, Bool.and_eq_true, Bool.or_eq_true, decide_eq_true_eq, Bool.true_and, Bool.false_and, Bool.and_true, Bool.not_true, Bool.not_false, Bool.false_or, Bool.true_or, Bool.or_false, Bool.false_eq_true, or_false, false_and, true_and, and_true, reduceCtorEq] at hm
    unfold fitD fitA fitB fitI
    simp only [Int.reduceEq, or_false, false_or, or_true, true_or, if_false, if_true]
  · have hf := fix_u k hk (.inl hv)
    clear hv
    generalize fixT k = f at *
    obtain ⟨m, hmm⟩ : ∃ m, m = i % 4294967296 / 4096 % 1048576 := ⟨_, rfl⟩
    have ei : encI 85 (i % 4294967296) = m * 4096 := by unfold encI; simp only [Int.reduceEq, if_false, if_true]; rw [hmm]
    rw [ei]
    obtain ⟨⟨h1, h2⟩, h3⟩ := hm
    have e1 : (f + rd * 128 + a * 32768 + b * 1048576 + m * 4096) / 4096 % 1048576 = m := by omega
    rw [e1]
    refine ⟨by omega, by omega, by omega, by omega, ?_⟩
    rcases sg20 m with ⟨g1, g2⟩ | ⟨g1, g2⟩ <;> rw [g2] <;> omega
  · have hf := fix_u k hk (.inr hv)
    clear hv
    generalize fixT k = f at *
    obtain ⟨⟨h1, h2⟩, h3⟩ := hm
    obtain ⟨s, hs⟩ : ∃ s : Int, (0 ≤ i ∧ s = 0) ∨ (i < 0 ∧ s = 1) := by by_cases h : 0 ≤ i; exact ⟨0, .inl ⟨h, rfl⟩⟩; exact ⟨1, .inr ⟨by omega, rfl⟩⟩
    have hy : i = i / 4096 % 256 * 4096 + i / 2048 % 2 * 2048 + i / 2 % 1024 * 2 - s * 1048576 := by omega
    have ei := jI s (i / 4096 % 256) (i / 2048 % 2) (i / 2 % 1024) i (by omega) (by omega) (by omega) (by omega) hy
    have es := jS s (i / 4096 % 256) (i / 2048 % 2) (i / 2 % 1024) (by omega) (by omega) (by omega) (by omega)
    rw [ei]
    rw [← hy] at es
    have r1 : 0 ≤ i / 4096 % 256 ∧ i / 4096 % 256 < 256 := by omega
    have r2 : 0 ≤ i / 2048 % 2 ∧ i / 2048 % 2 < 2 := by omega
    have r3 : 0 ≤ i / 2 % 1024 ∧ i / 2 % 1024 < 1024 := by omega
    have r4 : s = 0 ∨ s = 1 := by omega
    clear hy ei hs h3
    generalize i / 4096 % 256 = c at *
    generalize i / 2048 % 2 = d at *
    generalize i / 2 % 1024 = e at *
    obtain ⟨x, hxx⟩ : ∃ x, x = f + rd * 128 + a * 32768 + b * 1048576 + (s * 2147483648 + e * 2097152 + d * 1048576 + c * 4096) := ⟨_, rfl⟩
    rw [← hxx]
    have e1 : x / 2147483648 % 2 = s := by omega
    have e2 : x / 4096 % 256 = c := by omega
    have e3 : x / 1048576 % 2 = d := by omega
    have e4 : x / 2097152 % 1024 = e := by omega
    rw [e1, e2, e3, e4]
    exact ⟨by omega, by omega, by omega, by omega, es⟩
  · have hf := fix_i k hk (.inl hv)
    clear hv
    generalize fixT k = f at *
    obtain ⟨m, hmm⟩ : ∃ m, m = i % 4294967296 % 4096 := ⟨_, rfl⟩
    have ei : encI 73 (i % 4294967296) = m * 1048576 := by unfold encI; simp only [Int.reduceEq, if_false, if_true]; rw [hmm]
    rw [ei]
    obtain ⟨⟨h1, h2⟩, h3⟩ := hm
    have e1 : (f + rd * 128 + a * 32768 + b * 1048576 + m * 1048576) / 1048576 % 4096 = m := by omega
    rw [e1]
    refine ⟨by omega, by omega, by omega, by omega, ?_⟩
    rcases sg12 m with ⟨g1, g2⟩ | ⟨g1, g2⟩ <;> rw [g2] <;> omega
  · have hf := fix_i k hk (.inr (.inl hv))
    clear hv
    generalize fixT k = f at *
    obtain ⟨⟨h1, h2⟩, h3⟩ := hm
    obtain ⟨s, hs⟩ : ∃ s : Int, (0 ≤ i ∧ s = 0) ∨ (i < 0 ∧ s = 1) := by by_cases h : 0 ≤ i; exact ⟨0, .inl ⟨h, rfl⟩⟩; exact ⟨1, .inr ⟨by omega, rfl⟩⟩
    have hy : i = i / 2048 % 2 * 2048 + i / 32 % 64 * 32 + i / 2 % 16 * 2 - s * 4096 := by omega
    have ei := bI s (i / 2048 % 2) (i / 32 % 64) (i / 2 % 16) i (by omega) (by omega) (by omega) (by omega) hy
    have es := bS s (i / 2048 % 2) (i / 32 % 64) (i / 2 % 16) (by omega) (by omega) (by omega) (by omega)
    rw [ei]
    rw [← hy] at es
    have r1 : 0 ≤ i / 2048 % 2 ∧ i / 2048 % 2 < 2 := by omega
    have r2 : 0 ≤ i / 32 % 64 ∧ i / 32 % 64 < 64 := by omega
    have r3 : 0 ≤ i / 2 % 16 ∧ i / 2 % 16 < 16 := by omega
    have r4 : s = 0 ∨ s = 1 := by omega
    clear hy ei hs h3
    generalize i / 2048 % 2 = r at *
    generalize i / 32 % 64 = p at *
    generalize i / 2 % 16 = t at *
    obtain ⟨x, hxx⟩ : ∃ x, x = f + rd * 128 + a * 32768 + b * 1048576 + (s * 2147483648 + p * 33554432 + t * 256 + r * 128) := ⟨_, rfl⟩
    rw [← hxx]
    obtain ⟨f0, f1, hf0, hf1, hff⟩ : ∃ f0 f1 : Int, (0 ≤ f0 ∧ f0 < 128) ∧ (0 ≤ f1 ∧ f1 < 8) ∧ f = f0 + f1 * 4096 := ⟨f % 4096, f / 4096, by omega, by omega, by omega⟩
    clear hf hx
    subst hff
    have e1 : x / 2147483648 % 2 = s := by omega
    have e2 : x / 128 % 2 = r := by omega
    have e3 : x / 33554432 % 64 = p := by omega
    have e4 : x / 256 % 16 = t := by omega
    rw [e1, e2, e3, e4]
    exact ⟨by omega, by omega, by omega, by omega, es⟩
  · have hf := fix_i k hk (.inr (.inr hv))
    clear hv
    generalize fixT k = f at *
    obtain ⟨⟨h1, h2⟩, h3⟩ := hm
    obtain ⟨h, l, hh, hl, hhl⟩ : ∃ h l : Int, (0 ≤ h ∧ h < 128) ∧ (0 ≤ l ∧ l < 32) ∧ h * 32 + l = i % 4096 := ⟨i % 4096 / 32, i % 4096 % 32, by omega, by omega, by omega⟩
    have es : sgN (h * 32 + l) 12 = i := by rcases sg12 (h * 32 + l) with ⟨g1, g2⟩ | ⟨g1, g2⟩ <;> rw [g2] <;> omega
    have ei := sI h l hh hl
    rw [es] at ei
    rw [ei]
    clear hhl h3 ei
    obtain ⟨x, hxx⟩ : ∃ x, x = f + rd * 128 + a * 32768 + b * 1048576 + (h * 33554432 + l * 128) := ⟨_, rfl⟩
    rw [← hxx]
    obtain ⟨f0, f1, hf0, hf1, hff⟩ : ∃ f0 f1 : Int, (0 ≤ f0 ∧ f0 < 128) ∧ (0 ≤ f1 ∧ f1 < 8) ∧ f = f0 + f1 * 4096 := ⟨f % 4096, f / 4096, by omega, by omega, by omega⟩
    clear hf hx
    subst hff
    have e1 : x / 33554432 % 128 = h := by omega
    have e2 : x / 128 % 32 = l := by omega
    rw [e1, e2]
    exact ⟨by omega, by omega, by omega, by omega, es⟩
  · have hf := fix_h k hk hv
    clear hv
    generalize fixT k = f at *
    have ei : encI 72 (i % 4294967296) = i * 1048576 := by unfold encI; simp only [Int.reduceEq, if_false, if_true]; omega
    rw [ei]
    obtain ⟨⟨h1, h2⟩, h3⟩ := hm
    obtain ⟨f0, f1, f2, hf0, hf1, hf2, hff⟩ : ∃ f0 f1 f2 : Int, (0 ≤ f0 ∧ f0 < 128) ∧ (0 ≤ f1 ∧ f1 < 8) ∧ (0 ≤ f2 ∧ f2 < 64) ∧ f = f0 + f1 * 4096 + f2 * 67108864 := ⟨f % 4096, f / 4096 % 8, f / 67108864, by omega, by omega, by omega, by omega⟩
    clear hf hx
    subst hff
    exact ⟨by omega, by omega, by omega, by omega, by omega⟩
  · have hf := fix_v k hk (.inl hv)
    clear hv
    generalize fixT k = f at *
    have ei : encI 86 (i % 4294967296) = i * 1048576 := by unfold encI; simp only [Int.reduceEq, if_false, if_true]; omega
    rw [ei]
    obtain ⟨⟨h1, h2⟩, h3⟩ := hm
    obtain ⟨f0, f1, f2, hf0, hf1, hf2, hff⟩ : ∃ f0 f1 f2 : Int, (0 ≤ f0 ∧ f0 < 128) ∧ (0 ≤ f1 ∧ f1 < 8) ∧ (0 ≤ f2 ∧ f2 < 128) ∧ f = f0 + f1 * 4096 + f2 * 33554432 := ⟨f % 4096, f / 4096 % 8, f / 33554432, by omega, by omega, by omega, by omega⟩
    clear hf hx
    subst hff
    exact ⟨by omega, by omega, by omega, by omega, by omega⟩
  · have hf := fix_v k hk (.inr hv)
    clear hv
    generalize fixT k = f at *
    have ei : encI 82 (i % 4294967296) = 0 := by unfold encI; simp only [Int.reduceEq, if_false, if_true]
    rw [ei]
    obtain ⟨⟨h1, h2⟩, h3⟩ := hm
    obtain ⟨f0, f1, f2, hf0, hf1, hf2, hff⟩ : ∃ f0 f1 f2 : Int, (0 ≤ f0 ∧ f0 < 128) ∧ (0 ≤ f1 ∧ f1 < 8) ∧ (0 ≤ f2 ∧ f2 < 128) ∧ f = f0 + f1 * 4096 + f2 * 33554432 := ⟨f % 4096, f / 4096 % 8, f / 33554432, by omega, by omega, by omega, by omega⟩
    clear hf hx
    subst hff
    exact ⟨by omega, by omega, by omega, by omega, by omega⟩
  · have hf := fix_a k hk hv
    clear hv
    generalize fixT k = f at *
    have ei : encI 65 (i % 4294967296) = i * 33554432 := by unfold encI; simp only [Int.reduceEq, if_false, if_true]; omega
    rw [ei]
    have hq : q = true → b = 0 := by rintro rfl; simp at hm; omega
    have hb : 0 ≤ b ∧ b < 32 := by cases q <;> simp at hm <;> omega
    obtain ⟨⟨h1, h2⟩, h3⟩ := hm
    obtain ⟨f0, f1, f2, hf0, hf1, hf2, hff⟩ : ∃ f0 f1 f2 : Int, (0 ≤ f0 ∧ f0 < 128) ∧ (0 ≤ f1 ∧ f1 < 8) ∧ (0 ≤ f2 ∧ f2 < 32) ∧ f = f0 + f1 * 4096 + f2 * 134217728 := ⟨f % 4096, f / 4096 % 8, f / 134217728, by omega, by omega, by omega, by omega⟩
    clear hf hx h2
    subst hff
    refine ⟨by omega, by omega, by omega, ?_, by omega⟩
    cases q with
    | true => rw [cond_true, hq rfl]
    | false => rw [cond_false]; omega
  · have ei : encI 78 (i % 4294967296) = 0 := by unfold encI; simp only [Int.reduceEq, if_false, if_true]
    rw [ei]
    exact ⟨by omega, by omega, by omega, by omega, by omega⟩
theorem enc_mat (k : Nat) (hk : k < 88) (h1 : 1 ≤ k) (rd a b i : Int) (hm : mayF (k : Int) rd a b i = true) : matB (encF k rd a b i) k = true := by
  obtain ⟨f0, f1, f2, f3, f4⟩ := enc_fit k hk h1 rd a b i hm
  rw [← fit_enc k hk h1 _ f0, f1, f2, f3, f4]
  exact beq_iff_eq.2 rfl
theorem fix_apart_all : (List.range 88).all (fun j => (List.range 88).all (fun k => decide (j = k) || decide (j = 0) || decide (k = 0) || !decide ((fixT j).toNat &&& (maskT k).toNat = (fixT k).toNat &&& (maskT j).toNat))) = true := by decide +kernel
/-- A word is one opcode's. -/
theorem mat_one {j k : Nat} (hj : j < 88) (j1 : 1 ≤ j) (hk : k < 88) (k1 : 1 ≤ k) {x : Int} (hx : u32 x) (h : matB x j = true) (h' : matB x k = true) : j = k := by
  have ha := List.all_eq_true.1 (List.all_eq_true.1 fix_apart_all j (List.mem_range.2 hj)) k (List.mem_range.2 hk)
  rw [decide_eq_false (by omega : ¬ j = 0), decide_eq_false (by omega : ¬ k = 0), Bool.or_false, Bool.or_false] at ha
  unfold matB at h h'
  rw [beq_iff_eq] at h h'
  obtain ⟨x0, x1⟩ := hx
  obtain ⟨n, rfl⟩ : ∃ n : Nat, x = (n : Int) := ⟨x.toNat, by omega⟩
  have mj := mask_u32 j hj
  have mk := mask_u32 k hk
  have e1 := u32_and_nat n (maskT j).toNat (by omega) (by omega)
  have e2 := u32_and_nat n (maskT k).toNat (by omega) (by omega)
  rw [Int.toNat_of_nonneg mj.1, h] at e1
  rw [Int.toNat_of_nonneg mk.1, h'] at e2
  have g1 : (fixT j).toNat = n &&& (maskT j).toNat := by rw [e1]; exact Int.toNat_natCast _
  have g2 : (fixT k).toNat = n &&& (maskT k).toNat := by rw [e2]; exact Int.toNat_natCast _
  have g3 : (fixT j).toNat &&& (maskT k).toNat = (fixT k).toNat &&& (maskT j).toNat := by
    rw [g1, g2, Nat.and_assoc, Nat.and_assoc, Nat.and_comm (maskT j).toNat]
  rw [decide_eq_true g3, Bool.not_true, Bool.or_false, decide_eq_true_eq] at ha
  exact ha
/-- An instruction's word is its own. -/
theorem word_inj {k k' : Nat} (hk : k < 88) (h1 : 1 ≤ k) (hk' : k' < 88) (h1' : 1 ≤ k') {rd a b i rd' a' b' i' : Int} (hm : mayF (k : Int) rd a b i = true) (hm' : mayF (k' : Int) rd' a' b' i' = true) (h : encF k rd a b i = encF k' rd' a' b' i') : k = k' ∧ rd = rd' ∧ a = a' ∧ b = b' ∧ i = i' := by
  have m := enc_mat k hk h1 rd a b i hm
  have m' := enc_mat k' hk' h1' rd' a' b' i' hm'
  obtain ⟨f0, f1, f2, f3, f4⟩ := enc_fit k hk h1 rd a b i hm
  obtain ⟨g0, g1, g2, g3, g4⟩ := enc_fit k' hk' h1' rd' a' b' i' hm'
  rw [← h] at m' g0 g1 g2 g3 g4
  obtain rfl := mat_one hk h1 hk' h1' f0 m m'
  exact ⟨rfl, f1.symm.trans g1, f2.symm.trans g2, f3.symm.trans g3, f4.symm.trans g4⟩
end Go.Proofs.YthcfobefpknjeaaDoor.P
