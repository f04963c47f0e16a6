/- The contracts of stage 1's plainest calls: word.Low, word.Sign, and the reference's power, Low, Sign. -/
import Derived.Test.YtngeabphjdfdgaaDoorChecked
import Derived.Test.YtngeabphjdfdgaaDoorW1
import Derived.Test.YtngeabphjdfdgaaDoorBB
import Derived.Handy
import Derived.Lib.Hide
import Derived.Deep.QuietTactic
import Derived.BigQuiet
set_option linter.unusedVariables false
namespace Go.Proofs.YtngeabphjdfdgaaDoor.W
open Go.RowKit

theorem ret_b {a b : Bool} (h : a = b) : Ending.returned (.bool a) = .returned (.bool b) := by rw [h]
theorem ret_2 {a b : Int} {c d : Bool} (h : a = b) (h2 : c = d) : Ending.returned (.tuple #[.int .u64 a, .bool c]) = .returned (.tuple #[.int .u64 b, .bool d]) := by rw [h, h2]

theorem c_low (v b : Int) (hv : word v) (w : World) :
    Calls Tryd.prog 56 #[.int .u64 v, .int .i64 b] w fun e w' => e = .returned (.int .u64 (lowF v b)) ∧ w' = w := by
  obtain ⟨ha, hb⟩ := hv
  by_cases h1 : b ≤ 0
  · go_enter Tryd.func56, Tryd.ntmps56
    go_wp2
    go_ret
    exact ⟨ret_u64 (by unfold lowF; rw [if_pos h1]), rfl⟩
  · by_cases h2 : 64 ≤ b
    · go_enter Tryd.func56, Tryd.ntmps56
      go_wp2
      go_ret
      exact ⟨ret_u64 (by unfold lowF; rw [if_neg (by omega), if_pos h2]), rfl⟩
    · go_enter Tryd.func56, Tryd.ntmps56
      go_wp2
      go_ret
      exact ⟨ret_u64 (low_impl v b ⟨ha, hb⟩ (by omega) (by omega)), rfl⟩

theorem c_sign (v b : Int) (hv : word v) (w : World) :
    Calls Tryd.prog 55 #[.int .u64 v, .int .i64 b] w fun e w' => e = .returned (.int .u64 (sgnF v b)) ∧ w' = w := by
  obtain ⟨ha, hb⟩ := hv
  by_cases h1 : b ≤ 0
  · go_enter Tryd.func55, Tryd.ntmps55
    go_wp2
    go_ret
    exact ⟨ret_u64 (by unfold sgnF; rw [if_pos h1]), rfl⟩
  · by_cases h2 : 64 ≤ b
    · go_enter Tryd.func55, Tryd.ntmps55
      go_wp2
      go_ret
      exact ⟨ret_u64 (by unfold sgnF; rw [if_neg (by omega), if_pos h2]), rfl⟩
    · go_enter Tryd.func55, Tryd.ntmps55
      go_wp2
      go_ret
      exact ⟨ret_u64 (sgn_impl v b ⟨ha, hb⟩ (by omega) (by omega)), rfl⟩

theorem pow_step (k : Nat) (h : k < 63) : IntKind.u64.wrap (2 ^ k * 2) = 2 ^ (k + 1) := by
  rw [show (2 : Int) ^ k * 2 = 2 ^ (k + 1) by rw [pow_split]; rfl]; exact pow_wrap _ (by omega)

theorem wf_word {a : Int} (h : (Lit.int .u64 a).wf = true) : word a := by
  simp [Lit.wf, IntKind.min, IntKind.max, IntKind.bits, IntKind.signed] at h; exact ⟨by omega, by omega⟩
end Go.Proofs.YtngeabphjdfdgaaDoor.W
namespace Go.Proofs.YtngeabphjdfdgaaDoor.W
open Go.RowKit
theorem and63 (b : Int) (h : word b) : bits .and .u64 b 63 = b % 64 := by
  have := and_mask b 6 (by omega) h; simpa using this
theorem c_truth (c : Bool) (w : World) : Calls Tryd.prog 66 #[.bool c] w fun e w' => e = .returned (.int .u64 (truF c)) ∧ w' = w := by
  cases c
  all_goals
    go_enter Tryd.func66, Tryd.ntmps66
    go_wp2
    go_ret
    exact ⟨rfl, rfl⟩
theorem neg_sign (a : Int) (h : word a) : (decide (wrap64 a < 0)) = !(decide (a < 9223372036854775808)) := by
  obtain ⟨h1, h2⟩ := h
  rw [wrap64_s a ⟨h1, h2⟩]; unfold s64; by_cases h3 : a < 9223372036854775808 <;> simp [h3] <;> omega
theorem c_above (a b : Int) (ha : word a) (w : World) : Calls Tryd.prog 74 #[.int .u64 a, .int .u64 b] w fun e w' => e = .returned (.int .u64 (abF a b)) ∧ w' = w := by
  have hn := neg_sign a ha
  by_cases h : a < 9223372036854775808
  · have hn' : decide (wrap64 a < 0) = false := by rw [hn]; simp [h]
    clear hn
    go_enter Tryd.func74, Tryd.ntmps74
    go_wp2
    go_ret
    exact ⟨ret_u64 (by unfold abF; rw [if_pos h]), rfl⟩
  · have hn' : decide (wrap64 a < 0) = true := by rw [hn]; simp [h]
    clear hn
    go_enter Tryd.func74, Tryd.ntmps74
    go_wp2
    go_ret
    exact ⟨ret_u64 (by unfold abF; rw [if_neg (by omega)]), rfl⟩
theorem low32 (v : Int) : lowF v 32 = v % 4294967296 := by unfold lowF; rfl
theorem part_val (x y : Int) (hx : word x) (hy : word y) : IntKind.u64.wrap (lowF x 32 * lowF y 32) = x % 4294967296 * (y % 4294967296) := by
  rw [low32, low32, wrap_mod]
  have r1 := Int.emod_nonneg x (show (4294967296 : Int) ≠ 0 by decide)
  have r2 := Int.emod_lt_of_pos x (show (0 : Int) < 4294967296 by decide)
  have r3 := Int.emod_nonneg y (show (4294967296 : Int) ≠ 0 by decide)
  have r4 := Int.emod_lt_of_pos y (show (0 : Int) < 4294967296 by decide)
  have hm := Int.mul_nonneg r1 r3
  have hl : x % 4294967296 * (y % 4294967296) ≤ 4294967295 * 4294967295 := Int.mul_le_mul (by omega) (by omega) r3 (by decide)
  omega
set_option maxHeartbeats 400000 in
theorem c_part (a b i j : Int) (ha : word a) (hb : word b) (hi : i = 0 ∨ i = 32) (hj : j = 0 ∨ j = 32) (pa pb : Nat) (w : World)
    (ca : w.cell? ⟨pa, 0, none⟩ = some (.int .u64 a)) (cb : w.cell? ⟨pb, 0, none⟩ = some (.int .u64 b)) :
    Calls Tryd.prog 81 #[.int .u64 i, .int .u64 j, .pointer (some ⟨pa, 0, none⟩), .pointer (some ⟨pb, 0, none⟩)] w fun e w' =>
      e = .returned (.int .u64 ((a / 2 ^ i.toNat % 4294967296) * (b / 2 ^ j.toNat % 4294967296))) ∧ ∃ n, w' = w.drewN n := by
  have hwi := shr_word a i.toNat ha
  have hwj := shr_word b j.toNat hb
  obtain ⟨ha1, ha2⟩ := ha
  obtain ⟨hb1, hb2⟩ := hb
  rcases hi with rfl | rfl <;> rcases hj with rfl | rfl
  all_goals
    go_enter Tryd.func81, Tryd.ntmps81
    go_wp2
    go_quiet ((go_at_call 56; exact Calls.quiet_of_same (c_low _ _ (by exact ⟨by omega, by omega⟩) _)))
    go_wp2
    go_ret
    refine ⟨ret_u64 ?_, ⟨_, rfl⟩⟩
    first | exact part_val _ _ hwi hwj | (have e := part_val _ _ hwi hwj; simpa using e)
set_option maxHeartbeats 800000 in
theorem c_high (a b : Int) (ha : word a) (hb : word b) (w : World) :
    Calls Tryd.prog 73 #[.int .u64 a, .int .u64 b] w fun e w' => e = .returned (.int .u64 (hiF a b)) ∧ Gr w w' := by
  go_enter Tryd.func73, Tryd.ntmps73
  go_wp2_with (first
    | (go_at_call 81; refine (c_part a b _ _ ha hb (by first | exact Or.inl rfl | exact Or.inr rfl) (by first | exact Or.inl rfl | exact Or.inr rfl) w.heap.size (w.heap.size + 1) _ (by go_cell) (by go_cell)).mono ?_; rintro e w' ⟨rfl, n, rfl⟩)
    | (go_at_call 56; refine (c_low _ _ (w_prod _ _) _).mono ?_; rintro e w' ⟨rfl, rfl⟩))
  go_ret
  refine ⟨ret_u64 (hi_val a b ha hb), Gr.drewN ?_ _⟩
  go_grown
end Go.Proofs.YtngeabphjdfdgaaDoor.W
namespace Go.Proofs.YtngeabphjdfdgaaDoor.W
open Go.RowKit
theorem c_quot (a b : Int) (ha : word a) (hb : word b) (w : World) :
    Calls Tryd.prog 75 #[.int .u64 a, .int .u64 b] w fun e w' => e = .returned (.int .u64 (divF a b)) ∧ w' = w := by
  obtain ⟨ha1, ha2⟩ := ha
  obtain ⟨hb1, hb2⟩ := hb
  by_cases h : b = 0
  · subst h
    go_enter Tryd.func75, Tryd.ntmps75
    go_wp2
    go_ret
    exact ⟨rfl, rfl⟩
  · by_cases h2 : b = 18446744073709551615
    · subst h2
      go_enter Tryd.func75, Tryd.ntmps75
      go_wp2
      go_ret
      refine ⟨ret_u64 ?_, rfl⟩
      exact div_m1 a ⟨ha1, ha2⟩
    · have e3 : ¬ wrap64 b = 0 := by
        rw [wrap64_s b ⟨hb1, hb2⟩]; unfold s64; split <;> omega
      have e1 : (b == 0) = false := by simpa using h
      have e2 : (b == 18446744073709551615) = false := by simpa using h2
      go_enter Tryd.func75, Tryd.ntmps75
      go_wp2
      go_ret
      refine ⟨ret_u64 ?_, rfl⟩
      exact div_gen a b ⟨ha1, ha2⟩ ⟨hb1, hb2⟩ h
theorem c_rest (a b : Int) (ha : word a) (hb : word b) (w : World) :
    Calls Tryd.prog 76 #[.int .u64 a, .int .u64 b] w fun e w' => e = .returned (.int .u64 (remF a b)) ∧ w' = w := by
  obtain ⟨ha1, ha2⟩ := ha
  obtain ⟨hb1, hb2⟩ := hb
  by_cases h : b = 0
  · subst h
    go_enter Tryd.func76, Tryd.ntmps76
    go_wp2
    go_ret
    exact ⟨rfl, rfl⟩
  · by_cases h2 : b = 18446744073709551615
    · subst h2
      go_enter Tryd.func76, Tryd.ntmps76
      go_wp2
      go_ret
      refine ⟨ret_u64 ?_, rfl⟩
      exact rem_m1 a
    · have e3 : ¬ wrap64 b = 0 := by
        rw [wrap64_s b ⟨hb1, hb2⟩]; unfold s64; split <;> omega
      have e1 : (b == 0) = false := by simpa using h
      have e2 : (b == 18446744073709551615) = false := by simpa using h2
      go_enter Tryd.func76, Tryd.ntmps76
      go_wp2
      go_ret
      refine ⟨ret_u64 ?_, rfl⟩
      exact rem_gen a b ⟨ha1, ha2⟩ ⟨hb1, hb2⟩ h
theorem c_wide (op : Int) (h : isNarrow op = true) (w : World) :
    Calls Tryd.prog 59 #[.int .i64 op] w fun e w' => e = .returned (.int .i64 (widened op)) ∧ w' = w := by
  unfold isNarrow at h
  have hs : op = 45 ∨ op = 46 ∨ op = 47 ∨ op = 48 ∨ op = 49 ∨ op = 58 ∨ op = 59 ∨ op = 60 ∨ op = 61 ∨ op = 62 := by
    have := of_decide_eq_true h; omega
  clear h
  rcases hs with rfl | rfl | rfl | rfl | rfl | rfl | rfl | rfl | rfl | rfl
  all_goals
    go_enter Tryd.func59, Tryd.ntmps59
    go_wp2
    go_ret
    exact ⟨rfl, rfl⟩
theorem c_shiftq (op : Int) (w : World) :
    Calls Tryd.prog 57 #[.int .i64 op] w fun e w' => e = .returned (.bool (decide (op = 47 ∨ op = 48 ∨ op = 49))) ∧ w' = w := by
  by_cases h : op = 47 ∨ op = 48 ∨ op = 49
  · rcases h with rfl | rfl | rfl
    all_goals
      go_enter Tryd.func57, Tryd.ntmps57
      go_wp2
      go_ret
      exact ⟨rfl, rfl⟩
  · have e1 : (op == 47) = false := by simp; omega
    have e2 : (op == 48) = false := by simp; omega
    have e3 : (op == 49) = false := by simp; omega
    have e4 : decide (op = 47 ∨ op = 48 ∨ op = 49) = false := by simpa using h
    clear h
    go_enter Tryd.func57, Tryd.ntmps57
    go_wp2
    go_ret
    exact ⟨ret_b e4.symm, rfl⟩

set_option maxHeartbeats 800000 in
theorem c_product (op a b : Int) (ha : word a) (hb : word b) (w : World) (h : 50 ≤ op ∧ op ≤ 57) :
    Calls Tryd.prog 67 #[.int .i64 op, .int .u64 a, .int .u64 b] w fun e w' => e = .returned (.tuple #[.int .u64 (wideF op a b), .bool true]) ∧ Gr w w' := by
  have hs : op = 50 ∨ op = 51 ∨ op = 52 ∨ op = 53 ∨ op = 54 ∨ op = 55 ∨ op = 56 ∨ op = 57 := by omega
  clear h
  have Ha := Lib.hid ha
  have Hb := Lib.hid hb
  obtain ⟨ha1, ha2⟩ := ha
  obtain ⟨hb1, hb2⟩ := hb
  by_cases hz : b = 0
  all_goals
    rcases hs with rfl | rfl | rfl | rfl | rfl | rfl | rfl | rfl
    all_goals
      try subst hz
      try (have hz1 : (b == 0) = false := by simpa using hz)
      go_enter Tryd.func67, Tryd.ntmps67
      go_wp2_with (first
        | (go_at_call 73; refine (c_high _ _ Ha.out Hb.out _).mono ?_; rintro e w1 ⟨rfl, hg⟩)
        | (go_at_call 74; refine (c_above _ _ (by first | exact Ha.out | exact Hb.out) _).mono ?_; rintro e w2 ⟨rfl, rfl⟩)
        | (go_at_call 75; refine (c_quot _ _ Ha.out Hb.out _).mono ?_; rintro e w2 ⟨rfl, rfl⟩)
        | (go_at_call 76; refine (c_rest _ _ Ha.out Hb.out _).mono ?_; rintro e w2 ⟨rfl, rfl⟩))
      go_ret2
      first | refine ⟨ret_2 ?_ rfl, Gr.refl _⟩ | refine ⟨ret_2 ?_ rfl, hg⟩
      first | rfl | (simp [wideF, wrap_mod, divuF, remuF]; done) | (simp [wideF, divuF, remuF, hz]; done) | (simp [wideF, wrap_mod, divuF, remuF]; omega)

theorem c_product_no (op a b : Int) (h : ¬ (50 ≤ op ∧ op ≤ 57)) (w : World) :
    Calls Tryd.prog 67 #[.int .i64 op, .int .u64 a, .int .u64 b] w fun e w' => e = .returned (.tuple #[.int .u64 0, .bool false]) ∧ Gr w w' := by
  have e0 : (op == 50) = false := by simp; omega
  have e1 : (op == 51) = false := by simp; omega
  have e2 : (op == 52) = false := by simp; omega
  have e3 : (op == 53) = false := by simp; omega
  have e4 : (op == 54) = false := by simp; omega
  have e5 : (op == 55) = false := by simp; omega
  have e6 : (op == 56) = false := by simp; omega
  have e7 : (op == 57) = false := by simp; omega
  go_enter Tryd.func67, Tryd.ntmps67
  go_wp2
  go_ret2
  exact ⟨rfl, Gr.refl _⟩
/-- what whole answers beside the value -/
theorem c_whole (op a b : Int) (ha : word a) (hb : word b) (w : World) (h : isWide op = true) :
    Calls Tryd.prog 58 #[.int .i64 op, .int .u64 a, .int .u64 b] w fun e w' => e = .returned (.tuple #[.int .u64 (wideF op a b), .bool true]) ∧ Gr w w' := by
  have hs : op = 35 ∨ op = 36 ∨ op = 37 ∨ op = 38 ∨ op = 39 ∨ op = 40 ∨ op = 41 ∨ op = 42 ∨ op = 43 ∨ op = 44 ∨ op = 50 ∨ op = 51 ∨ op = 52 ∨ op = 53 ∨ op = 54 ∨ op = 55 ∨ op = 56 ∨ op = 57 := by
    unfold isWide at h; have := of_decide_eq_true h; omega
  clear h
  have hm := and63 b hb
  have Hsa := Lib.hid (wrap64_s a ha)
  have Hsb := Lib.hid (wrap64_s b hb)
  have Ha := Lib.hid ha
  have Hb := Lib.hid hb
  obtain ⟨ha1, ha2⟩ := ha
  obtain ⟨hb1, hb2⟩ := hb
  rcases hs with rfl | rfl | rfl | rfl | rfl | rfl | rfl | rfl | rfl | rfl | rfl | rfl | rfl | rfl | rfl | rfl | rfl | rfl
  all_goals
    go_enter Tryd.func58, Tryd.ntmps58
    go_wp2_with (first
      | (go_at_call 66; refine (c_truth _ _).mono ?_; rintro e w1 ⟨rfl, rfl⟩)
      | (go_at_call 67; refine (c_product _ _ _ Ha.out Hb.out _ ⟨by decide, by decide⟩).mono ?_; rintro e w1 ⟨rfl, hg⟩))
    go_ret2
    first | refine ⟨ret_2 ?_ rfl, Gr.refl _⟩ | refine ⟨ret_2 ?_ rfl, hg⟩
    first | rfl | (simp only [Hsa.out, Hsb.out]; rfl) | (rw [wrap_mod]; rfl) | (simp only [Hsa.out, wrap_mod]; rfl) | exact u64_xor _ _ ha1 ha2 hb1 hb2 | exact u64_or _ _ ha1 ha2 hb1 hb2 | exact u64_and _ _ ha1 ha2 hb1 hb2 | skip
theorem c_whole_no (op a b : Int) (h : isWide op = false) (w : World) :
    Calls Tryd.prog 58 #[.int .i64 op, .int .u64 a, .int .u64 b] w fun e w' => e = .returned (.tuple #[.int .u64 0, .bool false]) ∧ Gr w w' := by
  unfold isWide at h
  have h' := of_decide_eq_false h
  clear h
  have e0 : (op == 35) = false := by simp; omega
  have e1 : (op == 36) = false := by simp; omega
  have e2 : (op == 37) = false := by simp; omega
  have e3 : (op == 38) = false := by simp; omega
  have e4 : (op == 39) = false := by simp; omega
  have e5 : (op == 40) = false := by simp; omega
  have e6 : (op == 41) = false := by simp; omega
  have e7 : (op == 42) = false := by simp; omega
  have e8 : (op == 43) = false := by simp; omega
  have e9 : (op == 44) = false := by simp; omega
  have h50 : ¬ (50 ≤ op ∧ op ≤ 57) := by omega
  have H50 := Lib.hid h50
  clear h' h50
  go_enter Tryd.func58, Tryd.ntmps58
  go_wp2_with (go_at_call 67; refine (c_product_no _ _ _ H50.out _).mono ?_; rintro e w1 ⟨rfl, hg⟩)
  go_ret2
  exact ⟨rfl, hg⟩
end Go.Proofs.YtngeabphjdfdgaaDoor.W
