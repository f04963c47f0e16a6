import Derived.Test.YtempdcbgbaglaaaW3
set_option linter.unusedVariables false
namespace Go.Proofs.Ytempdcbgbaglaaa.W
open Go.RowKit
theorem c_quot (a b : Int) (ha : word a) (hb : word b) (w : World) :
    Calls Try.prog 42 #[.int .u64 a, .int .u64 b] w fun e w' => e = .returned (.int .u64 (divF a b)) ∧ w' = w := by
  obtain ⟨ha1, ha2⟩ := ha
  obtain ⟨hb1, hb2⟩ := hb
  by_cases h : b = 0
  · subst h
    go_enter Try.func42, Try.ntmps42
    go_wp2
    go_ret
    exact ⟨rfl, rfl⟩
  · by_cases h2 : b = 18446744073709551615
    · subst h2
      go_enter Try.func42, Try.ntmps42
      go_wp2
      go_ret
      refine ⟨ret_u64 ?_, rfl⟩
      exact div_m1 a ⟨ha1, ha2⟩
    · have e3 : ¬ wrap64 b = 0 := by
        rw [wrap64_s b ⟨hb1, hb2⟩]; unfold s64; split <;> omega
      have e1 : (b == 0) = false := by simpa using h
      have e2 : (b == 18446744073709551615) = false := by simpa using h2
      go_enter Try.func42, Try.ntmps42
      go_wp2
      go_ret
      refine ⟨ret_u64 ?_, rfl⟩
      exact div_gen a b ⟨ha1, ha2⟩ ⟨hb1, hb2⟩ h
theorem c_rest (a b : Int) (ha : word a) (hb : word b) (w : World) :
    Calls Try.prog 43 #[.int .u64 a, .int .u64 b] w fun e w' => e = .returned (.int .u64 (remF a b)) ∧ w' = w := by
  obtain ⟨ha1, ha2⟩ := ha
  obtain ⟨hb1, hb2⟩ := hb
  by_cases h : b = 0
  · subst h
    go_enter Try.func43, Try.ntmps43
    go_wp2
    go_ret
    exact ⟨rfl, rfl⟩
  · by_cases h2 : b = 18446744073709551615
    · subst h2
      go_enter Try.func43, Try.ntmps43
      go_wp2
      go_ret
      refine ⟨ret_u64 ?_, rfl⟩
      exact rem_m1 a
    · have e3 : ¬ wrap64 b = 0 := by
        rw [wrap64_s b ⟨hb1, hb2⟩]; unfold s64; split <;> omega
      have e1 : (b == 0) = false := by simpa using h
      have e2 : (b == 18446744073709551615) = false := by simpa using h2
      go_enter Try.func43, Try.ntmps43
      go_wp2
      go_ret
      refine ⟨ret_u64 ?_, rfl⟩
      exact rem_gen a b ⟨ha1, ha2⟩ ⟨hb1, hb2⟩ h
theorem c_wide (op : Int) (h : isNarrow op = true) (w : World) :
    Calls Try.prog 29 #[.int .i64 op] w fun e w' => e = .returned (.int .i64 (widened op)) ∧ w' = w := by
  unfold isNarrow at h
  have hs : op = 45 ∨ op = 46 ∨ op = 47 ∨ op = 48 ∨ op = 49 ∨ op = 58 ∨ op = 59 ∨ op = 60 ∨ op = 61 ∨ op = 62 := by
    have := of_decide_eq_true h; omega
  clear h
  rcases hs with rfl | rfl | rfl | rfl | rfl | rfl | rfl | rfl | rfl | rfl
  all_goals
    go_enter Try.func29, Try.ntmps29
    go_wp2
    go_ret
    exact ⟨rfl, rfl⟩
theorem c_shiftq (op : Int) (w : World) :
    Calls Try.prog 27 #[.int .i64 op] w fun e w' => e = .returned (.bool (decide (op = 47 ∨ op = 48 ∨ op = 49))) ∧ w' = w := by
  by_cases h : op = 47 ∨ op = 48 ∨ op = 49
  · rcases h with rfl | rfl | rfl
    all_goals
      go_enter Try.func27, Try.ntmps27
      go_wp2
      go_ret
      exact ⟨rfl, rfl⟩
  · have e1 : (op == 47) = false := by simp; omega
    have e2 : (op == 48) = false := by simp; omega
    have e3 : (op == 49) = false := by simp; omega
    have e4 : decide (op = 47 ∨ op = 48 ∨ op = 49) = false := by simpa using h
    clear h
    go_enter Try.func27, Try.ntmps27
    go_wp2
    go_ret
    exact ⟨ret_b e4.symm, rfl⟩

set_option maxHeartbeats 800000 in
theorem c_product (op a b : Int) (ha : word a) (hb : word b) (w : World) (h : 50 ≤ op ∧ op ≤ 57) :
    Calls Try.prog 34 #[.int .i64 op, .int .u64 a, .int .u64 b] w fun e w' => e = .returned (.tuple #[.int .u64 (wideF op a b), .bool true]) ∧ Gr w w' := by
  have hs : op = 50 ∨ op = 51 ∨ op = 52 ∨ op = 53 ∨ op = 54 ∨ op = 55 ∨ op = 56 ∨ op = 57 := by omega
  clear h
  have Ha := Lib.hid ha
  have Hb := Lib.hid hb
  obtain ⟨ha1, ha2⟩ := ha
  obtain ⟨hb1, hb2⟩ := hb
  by_cases hz : b = 0
  all_goals
    rcases hs with rfl | rfl | rfl | rfl | rfl | rfl | rfl | rfl
    all_goals
      try subst hz
      try (have hz1 : (b == 0) = false := by simpa using hz)
      go_enter Try.func34, Try.ntmps34
      go_wp2_with (first
        | (go_at_call 40; refine (c_high _ _ Ha.out Hb.out _).mono ?_; rintro e w1 ⟨rfl, hg⟩)
        | (go_at_call 41; refine (c_above _ _ (by first | exact Ha.out | exact Hb.out) _).mono ?_; rintro e w2 ⟨rfl, rfl⟩)
        | (go_at_call 42; refine (c_quot _ _ Ha.out Hb.out _).mono ?_; rintro e w2 ⟨rfl, rfl⟩)
        | (go_at_call 43; refine (c_rest _ _ Ha.out Hb.out _).mono ?_; rintro e w2 ⟨rfl, rfl⟩))
      go_ret2
      first | refine ⟨ret_2 ?_ rfl, Gr.refl _⟩ | refine ⟨ret_2 ?_ rfl, hg⟩
      first | rfl | (simp [wideF, wrap_mod, divuF, remuF]; done) | (simp [wideF, divuF, remuF, hz]; done) | (simp [wideF, wrap_mod, divuF, remuF]; omega)

theorem c_product_no (op a b : Int) (h : ¬ (50 ≤ op ∧ op ≤ 57)) (w : World) :
    Calls Try.prog 34 #[.int .i64 op, .int .u64 a, .int .u64 b] w fun e w' => e = .returned (.tuple #[.int .u64 0, .bool false]) ∧ Gr w w' := by
  have e0 : (op == 50) = false := by simp; omega
  have e1 : (op == 51) = false := by simp; omega
  have e2 : (op == 52) = false := by simp; omega
  have e3 : (op == 53) = false := by simp; omega
  have e4 : (op == 54) = false := by simp; omega
  have e5 : (op == 55) = false := by simp; omega
  have e6 : (op == 56) = false := by simp; omega
  have e7 : (op == 57) = false := by simp; omega
  go_enter Try.func34, Try.ntmps34
  go_wp2
  go_ret2
  exact ⟨rfl, Gr.refl _⟩
/-- what whole answers beside the value -/
theorem c_whole (op a b : Int) (ha : word a) (hb : word b) (w : World) (h : isWide op = true) :
    Calls Try.prog 28 #[.int .i64 op, .int .u64 a, .int .u64 b] w fun e w' => e = .returned (.tuple #[.int .u64 (wideF op a b), .bool true]) ∧ Gr w w' := by
  have hs : op = 35 ∨ op = 36 ∨ op = 37 ∨ op = 38 ∨ op = 39 ∨ op = 40 ∨ op = 41 ∨ op = 42 ∨ op = 43 ∨ op = 44 ∨ op = 50 ∨ op = 51 ∨ op = 52 ∨ op = 53 ∨ op = 54 ∨ op = 55 ∨ op = 56 ∨ op = 57 := by
    unfold isWide at h; have := of_decide_eq_true h; omega
  clear h
  have hm := and63 b hb
  have Hsa := Lib.hid (wrap64_s a ha)
  have Hsb := Lib.hid (wrap64_s b hb)
  have Ha := Lib.hid ha
  have Hb := Lib.hid hb
  obtain ⟨ha1, ha2⟩ := ha
  obtain ⟨hb1, hb2⟩ := hb
  rcases hs with rfl | rfl | rfl | rfl | rfl | rfl | rfl | rfl | rfl | rfl | rfl | rfl | rfl | rfl | rfl | rfl | rfl | rfl
  all_goals
    go_enter Try.func28, Try.ntmps28
    go_wp2_with (first
      | (go_at_call 33; refine (c_truth _ _).mono ?_; rintro e w1 ⟨rfl, rfl⟩)
      | (go_at_call 34; refine (c_product _ _ _ Ha.out Hb.out _ ⟨by decide, by decide⟩).mono ?_; rintro e w1 ⟨rfl, hg⟩))
    go_ret2
    first | refine ⟨ret_2 ?_ rfl, Gr.refl _⟩ | refine ⟨ret_2 ?_ rfl, hg⟩
    first | rfl | (simp only [Hsa.out, Hsb.out]; rfl) | (rw [wrap_mod]; rfl) | (simp only [Hsa.out, wrap_mod]; rfl) | exact u64_xor _ _ ha1 ha2 hb1 hb2 | exact u64_or _ _ ha1 ha2 hb1 hb2 | exact u64_and _ _ ha1 ha2 hb1 hb2 | skip
theorem c_whole_no (op a b : Int) (h : isWide op = false) (w : World) :
    Calls Try.prog 28 #[.int .i64 op, .int .u64 a, .int .u64 b] w fun e w' => e = .returned (.tuple #[.int .u64 0, .bool false]) ∧ Gr w w' := by
  unfold isWide at h
  have h' := of_decide_eq_false h
  clear h
  have e0 : (op == 35) = false := by simp; omega
  have e1 : (op == 36) = false := by simp; omega
  have e2 : (op == 37) = false := by simp; omega
  have e3 : (op == 38) = false := by simp; omega
  have e4 : (op == 39) = false := by simp; omega
  have e5 : (op == 40) = false := by simp; omega
  have e6 : (op == 41) = false := by simp; omega
  have e7 : (op == 42) = false := by simp; omega
  have e8 : (op == 43) = false := by simp; omega
  have e9 : (op == 44) = false := by simp; omega
  have h50 : ¬ (50 ≤ op ∧ op ≤ 57) := by omega
  have H50 := Lib.hid h50
  clear h' h50
  go_enter Try.func28, Try.ntmps28
  go_wp2_with (go_at_call 34; refine (c_product_no _ _ _ H50.out _).mono ?_; rintro e w1 ⟨rfl, hg⟩)
  go_ret2
  exact ⟨rfl, hg⟩
end Go.Proofs.Ytempdcbgbaglaaa.W
