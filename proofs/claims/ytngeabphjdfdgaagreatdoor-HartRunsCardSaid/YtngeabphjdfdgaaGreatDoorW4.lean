/- The contracts of stage 1's plainest calls: word.Low, word.Sign, and the reference's power, Low, Sign. -/
import Derived.Test.YtngeabphjdfdgaaGreatDoorChecked
import Derived.Test.YtngeabphjdfdgaaGreatDoorW1
import Derived.Test.YtngeabphjdfdgaaGreatDoorBB
import Derived.Handy
import Derived.Lib.Hide
import Derived.Deep.QuietTactic
import Derived.BigQuiet
set_option linter.unusedVariables false
namespace Go.Proofs.YtngeabphjdfdgaaGreatDoor.W
open Go.RowKit

theorem ret_b {a b : Bool} (h : a = b) : Ending.returned (.bool a) = .returned (.bool b) := by rw [h]
theorem ret_2 {a b : Int} {c d : Bool} (h : a = b) (h2 : c = d) : Ending.returned (.tuple #[.int .u64 a, .bool c]) = .returned (.tuple #[.int .u64 b, .bool d]) := by rw [h, h2]

theorem c_low (v b : Int) (hv : word v) (w : World) :
    Calls Tryz.prog 64 #[.int .u64 v, .int .i64 b] w fun e w' => e = .returned (.int .u64 (lowF v b)) ∧ w' = w := by
  obtain ⟨ha, hb⟩ := hv
  by_cases h1 : b ≤ 0
  · go_enter Tryz.func64, Tryz.ntmps64
    go_wp2
    go_ret
    exact ⟨ret_u64 (by unfold lowF; rw [if_pos h1]), rfl⟩
  · by_cases h2 : 64 ≤ b
    · go_enter Tryz.func64, Tryz.ntmps64
      go_wp2
      go_ret
      exact ⟨ret_u64 (by unfold lowF; rw [if_neg (by omega), if_pos h2]), rfl⟩
    · go_enter Tryz.func64, Tryz.ntmps64
      go_wp2
      go_ret
      exact ⟨ret_u64 (low_impl v b ⟨ha, hb⟩ (by omega) (by omega)), rfl⟩

theorem c_sign (v b : Int) (hv : word v) (w : World) :
    Calls Tryz.prog 63 #[.int .u64 v, .int .i64 b] w fun e w' => e = .returned (.int .u64 (sgnF v b)) ∧ w' = w := by
  obtain ⟨ha, hb⟩ := hv
  by_cases h1 : b ≤ 0
  · go_enter Tryz.func63, Tryz.ntmps63
    go_wp2
    go_ret
    exact ⟨ret_u64 (by unfold sgnF; rw [if_pos h1]), rfl⟩
  · by_cases h2 : 64 ≤ b
    · go_enter Tryz.func63, Tryz.ntmps63
      go_wp2
      go_ret
      exact ⟨ret_u64 (by unfold sgnF; rw [if_neg (by omega), if_pos h2]), rfl⟩
    · go_enter Tryz.func63, Tryz.ntmps63
      go_wp2
      go_ret
      exact ⟨ret_u64 (sgn_impl v b ⟨ha, hb⟩ (by omega) (by omega)), rfl⟩

theorem pow_step (k : Nat) (h : k < 63) : IntKind.u64.wrap (2 ^ k * 2) = 2 ^ (k + 1) := by
  rw [show (2 : Int) ^ k * 2 = 2 ^ (k + 1) by rw [pow_split]; rfl]; exact pow_wrap _ (by omega)

set_option maxHeartbeats 400000 in
theorem c_power (n : Int) (h0 : 0 ≤ n) (h1 : n ≤ 63) (w : World) :
    Calls Tryz.prog 96 #[.int .i64 n] w fun e w' => e = .returned (.int .u64 (2 ^ n.toNat)) ∧ w' = w := by
  go_enter Tryz.func96, Tryz.ntmps96
  go_wp2
  go_loop [3, 4] (fun v i => ∃ k : Nat, (k : Int) ≤ n ∧ i = .int .i64 k ∧ v = .int .u64 (2 ^ k)) (fun _ i => 63 - (intOf i).toNat)
  case atStart => exact ⟨0, by omega, rfl, rfl⟩
  case round =>
    obtain ⟨k, hk, rfl, rfl⟩ := hrel
    by_cases hlt : (k : Int) < n
    · have hs := Lib.hid (pow_step k (by omega))
      go_wp2
      go_round
      case rel => exact ⟨k + 1, by omega, by go_num, by rw [hs.out]⟩
      case measure => simp [intOf]; omega
    · go_wp2
      go_ret
      obtain rfl : n = k := by omega
      exact ⟨rfl, rfl⟩
theorem wf_word {a : Int} (h : (Lit.int .u64 a).wf = true) : word a := by
  simp [Lit.wf, IntKind.min, IntKind.max, IntKind.bits, IntKind.signed] at h; exact ⟨by omega, by omega⟩
end Go.Proofs.YtngeabphjdfdgaaGreatDoor.W
namespace Go.Proofs.YtngeabphjdfdgaaGreatDoor.W
open Go.RowKit
theorem and63 (b : Int) (h : word b) : bits .and .u64 b 63 = b % 64 := by
  have := and_mask b 6 (by omega) h; simpa using this
theorem c_truth (c : Bool) (w : World) : Calls Tryz.prog 89 #[.bool c] w fun e w' => e = .returned (.int .u64 (truF c)) ∧ w' = w := by
  cases c
  all_goals
    go_enter Tryz.func89, Tryz.ntmps89
    go_wp2
    go_ret
    exact ⟨rfl, rfl⟩
theorem neg_sign (a : Int) (h : word a) : (decide (wrap64 a < 0)) = !(decide (a < 9223372036854775808)) := by
  obtain ⟨h1, h2⟩ := h
  rw [wrap64_s a ⟨h1, h2⟩]; unfold s64; by_cases h3 : a < 9223372036854775808 <;> simp [h3] <;> omega
theorem c_above (a b : Int) (ha : word a) (w : World) : Calls Tryz.prog 106 #[.int .u64 a, .int .u64 b] w fun e w' => e = .returned (.int .u64 (abF a b)) ∧ w' = w := by
  have hn := neg_sign a ha
  by_cases h : a < 9223372036854775808
  · have hn' : decide (wrap64 a < 0) = false := by rw [hn]; simp [h]
    clear hn
    go_enter Tryz.func106, Tryz.ntmps106
    go_wp2
    go_ret
    exact ⟨ret_u64 (by unfold abF; rw [if_pos h]), rfl⟩
  · have hn' : decide (wrap64 a < 0) = true := by rw [hn]; simp [h]
    clear hn
    go_enter Tryz.func106, Tryz.ntmps106
    go_wp2
    go_ret
    exact ⟨ret_u64 (by unfold abF; rw [if_neg (by omega)]), rfl⟩
theorem low32 (v : Int) : lowF v 32 = v % 4294967296 := by unfold lowF; rfl
theorem part_val (x y : Int) (hx : word x) (hy : word y) : IntKind.u64.wrap (lowF x 32 * lowF y 32) = x % 4294967296 * (y % 4294967296) := by
  rw [low32, low32, wrap_mod]
  have r1 := Int.emod_nonneg x (show (4294967296 : Int) ≠ 0 by decide)
  have r2 := Int.emod_lt_of_pos x (show (0 : Int) < 4294967296 by decide)
  have r3 := Int.emod_nonneg y (show (4294967296 : Int) ≠ 0 by decide)
  have r4 := Int.emod_lt_of_pos y (show (0 : Int) < 4294967296 by decide)
  have hm := Int.mul_nonneg r1 r3
  have hl : x % 4294967296 * (y % 4294967296) ≤ 4294967295 * 4294967295 := Int.mul_le_mul (by omega) (by omega) r3 (by decide)
  omega
set_option maxHeartbeats 400000 in
theorem c_part (a b i j : Int) (ha : word a) (hb : word b) (hi : i = 0 ∨ i = 32) (hj : j = 0 ∨ j = 32) (pa pb : Nat) (w : World)
    (ca : w.cell? ⟨pa, 0, none⟩ = some (.int .u64 a)) (cb : w.cell? ⟨pb, 0, none⟩ = some (.int .u64 b)) :
    Calls Tryz.prog 114 #[.int .u64 i, .int .u64 j, .pointer (some ⟨pa, 0, none⟩), .pointer (some ⟨pb, 0, none⟩)] w fun e w' =>
      e = .returned (.int .u64 ((a / 2 ^ i.toNat % 4294967296) * (b / 2 ^ j.toNat % 4294967296))) ∧ ∃ n, w' = w.drewN n := by
  have hwi := shr_word a i.toNat ha
  have hwj := shr_word b j.toNat hb
  obtain ⟨ha1, ha2⟩ := ha
  obtain ⟨hb1, hb2⟩ := hb
  rcases hi with rfl | rfl <;> rcases hj with rfl | rfl
  all_goals
    go_enter Tryz.func114, Tryz.ntmps114
    go_wp2
    go_quiet ((go_at_call 64; exact Calls.quiet_of_same (c_low _ _ (by exact ⟨by omega, by omega⟩) _)))
    go_wp2
    go_ret
    refine ⟨ret_u64 ?_, ⟨_, rfl⟩⟩
    first | exact part_val _ _ hwi hwj | (have e := part_val _ _ hwi hwj; simpa using e)
set_option maxHeartbeats 800000 in
theorem c_high (a b : Int) (ha : word a) (hb : word b) (w : World) :
    Calls Tryz.prog 105 #[.int .u64 a, .int .u64 b] w fun e w' => e = .returned (.int .u64 (hiF a b)) ∧ Gr w w' := by
  go_enter Tryz.func105, Tryz.ntmps105
  go_wp2_with (first
    | (go_at_call 114; refine (c_part a b _ _ ha hb (by first | exact Or.inl rfl | exact Or.inr rfl) (by first | exact Or.inl rfl | exact Or.inr rfl) w.heap.size (w.heap.size + 1) _ (by go_cell) (by go_cell)).mono ?_; rintro e w' ⟨rfl, n, rfl⟩)
    | (go_at_call 64; refine (c_low _ _ (w_prod _ _) _).mono ?_; rintro e w' ⟨rfl, rfl⟩))
  go_ret
  refine ⟨ret_u64 (hi_val a b ha hb), Gr.drewN ?_ _⟩
  go_grown
end Go.Proofs.YtngeabphjdfdgaaGreatDoor.W
namespace Go.Proofs.YtngeabphjdfdgaaGreatDoor.W
open Go.RowKit
theorem c_quot (a b : Int) (ha : word a) (hb : word b) (w : World) :
    Calls Tryz.prog 107 #[.int .u64 a, .int .u64 b] w fun e w' => e = .returned (.int .u64 (divF a b)) ∧ w' = w := by
  obtain ⟨ha1, ha2⟩ := ha
  obtain ⟨hb1, hb2⟩ := hb
  by_cases h : b = 0
  · subst h
    go_enter Tryz.func107, Tryz.ntmps107
    go_wp2
    go_ret
    exact ⟨rfl, rfl⟩
  · by_cases h2 : b = 18446744073709551615
    · subst h2
      go_enter Tryz.func107, Tryz.ntmps107
      go_wp2
      go_ret
      refine ⟨ret_u64 ?_, rfl⟩
      exact div_m1 a ⟨ha1, ha2⟩
    · have e3 : ¬ wrap64 b = 0 := by
        rw [wrap64_s b ⟨hb1, hb2⟩]; unfold s64; split <;> omega
      have e1 : (b == 0) = false := by simpa using h
      have e2 : (b == 18446744073709551615) = false := by simpa using h2
      go_enter Tryz.func107, Tryz.ntmps107
      go_wp2
      go_ret
      refine ⟨ret_u64 ?_, rfl⟩
      exact div_gen a b ⟨ha1, ha2⟩ ⟨hb1, hb2⟩ h
theorem c_rest (a b : Int) (ha : word a) (hb : word b) (w : World) :
    Calls Tryz.prog 108 #[.int .u64 a, .int .u64 b] w fun e w' => e = .returned (.int .u64 (remF a b)) ∧ w' = w := by
  obtain ⟨ha1, ha2⟩ := ha
  obtain ⟨hb1, hb2⟩ := hb
  by_cases h : b = 0
  · subst h
    go_enter Tryz.func108, Tryz.ntmps108
    go_wp2
    go_ret
    exact ⟨rfl, rfl⟩
  · by_cases h2 : b = 18446744073709551615
    · subst h2
      go_enter Tryz.func108, Tryz.ntmps108
      go_wp2
      go_ret
      refine ⟨ret_u64 ?_, rfl⟩
      exact rem_m1 a
    · have e3 : ¬ wrap64 b = 0 := by
        rw [wrap64_s b ⟨hb1, hb2⟩]; unfold s64; split <;> omega
      have e1 : (b == 0) = false := by simpa using h
      have e2 : (b == 18446744073709551615) = false := by simpa using h2
      go_enter Tryz.func108, Tryz.ntmps108
      go_wp2
      go_ret
      refine ⟨ret_u64 ?_, rfl⟩
      exact rem_gen a b ⟨ha1, ha2⟩ ⟨hb1, hb2⟩ h
theorem c_wide (op : Int) (h : isNarrow op = true) (w : World) :
    Calls Tryz.prog 67 #[.int .i64 op] w fun e w' => e = .returned (.int .i64 (widened op)) ∧ w' = w := by
  unfold isNarrow at h
  have hs : op = 45 ∨ op = 46 ∨ op = 47 ∨ op = 48 ∨ op = 49 ∨ op = 58 ∨ op = 59 ∨ op = 60 ∨ op = 61 ∨ op = 62 := by
    have := of_decide_eq_true h; omega
  clear h
  rcases hs with rfl | rfl | rfl | rfl | rfl | rfl | rfl | rfl | rfl | rfl
  all_goals
    go_enter Tryz.func67, Tryz.ntmps67
    go_wp2
    go_ret
    exact ⟨rfl, rfl⟩
theorem c_shiftq (op : Int) (w : World) :
    Calls Tryz.prog 65 #[.int .i64 op] w fun e w' => e = .returned (.bool (decide (op = 47 ∨ op = 48 ∨ op = 49))) ∧ w' = w := by
  by_cases h : op = 47 ∨ op = 48 ∨ op = 49
  · rcases h with rfl | rfl | rfl
    all_goals
      go_enter Tryz.func65, Tryz.ntmps65
      go_wp2
      go_ret
      exact ⟨rfl, rfl⟩
  · have e1 : (op == 47) = false := by simp; omega
    have e2 : (op == 48) = false := by simp; omega
    have e3 : (op == 49) = false := by simp; omega
    have e4 : decide (op = 47 ∨ op = 48 ∨ op = 49) = false := by simpa using h
    clear h
    go_enter Tryz.func65, Tryz.ntmps65
    go_wp2
    go_ret
    exact ⟨ret_b e4.symm, rfl⟩

set_option maxHeartbeats 800000 in
theorem c_product (op a b : Int) (ha : word a) (hb : word b) (w : World) (h : 50 ≤ op ∧ op ≤ 57) :
    Calls Tryz.prog 90 #[.int .i64 op, .int .u64 a, .int .u64 b] w fun e w' => e = .returned (.tuple #[.int .u64 (wideF op a b), .bool true]) ∧ Gr w w' := by
  have hs : op = 50 ∨ op = 51 ∨ op = 52 ∨ op = 53 ∨ op = 54 ∨ op = 55 ∨ op = 56 ∨ op = 57 := by omega
  clear h
  have Ha := Lib.hid ha
  have Hb := Lib.hid hb
  obtain ⟨ha1, ha2⟩ := ha
  obtain ⟨hb1, hb2⟩ := hb
  by_cases hz : b = 0
  all_goals
    rcases hs with rfl | rfl | rfl | rfl | rfl | rfl | rfl | rfl
    all_goals
      try subst hz
      try (have hz1 : (b == 0) = false := by simpa using hz)
      go_enter Tryz.func90, Tryz.ntmps90
      go_wp2_with (first
        | (go_at_call 105; refine (c_high _ _ Ha.out Hb.out _).mono ?_; rintro e w1 ⟨rfl, hg⟩)
        | (go_at_call 106; refine (c_above _ _ (by first | exact Ha.out | exact Hb.out) _).mono ?_; rintro e w2 ⟨rfl, rfl⟩)
        | (go_at_call 107; refine (c_quot _ _ Ha.out Hb.out _).mono ?_; rintro e w2 ⟨rfl, rfl⟩)
        | (go_at_call 108; refine (c_rest _ _ Ha.out Hb.out _).mono ?_; rintro e w2 ⟨rfl, rfl⟩))
      go_ret2
      first | refine ⟨ret_2 ?_ rfl, Gr.refl _⟩ | refine ⟨ret_2 ?_ rfl, hg⟩
      first | rfl | (simp [wideF, wrap_mod, divuF, remuF]; done) | (simp [wideF, divuF, remuF, hz]; done) | (simp [wideF, wrap_mod, divuF, remuF]; omega)

theorem c_product_no (op a b : Int) (h : ¬ (50 ≤ op ∧ op ≤ 57)) (w : World) :
    Calls Tryz.prog 90 #[.int .i64 op, .int .u64 a, .int .u64 b] w fun e w' => e = .returned (.tuple #[.int .u64 0, .bool false]) ∧ Gr w w' := by
  have e0 : (op == 50) = false := by simp; omega
  have e1 : (op == 51) = false := by simp; omega
  have e2 : (op == 52) = false := by simp; omega
  have e3 : (op == 53) = false := by simp; omega
  have e4 : (op == 54) = false := by simp; omega
  have e5 : (op == 55) = false := by simp; omega
  have e6 : (op == 56) = false := by simp; omega
  have e7 : (op == 57) = false := by simp; omega
  go_enter Tryz.func90, Tryz.ntmps90
  go_wp2
  go_ret2
  exact ⟨rfl, Gr.refl _⟩
/-- what whole answers beside the value -/
theorem c_whole (op a b : Int) (ha : word a) (hb : word b) (w : World) (h : isWide op = true) :
    Calls Tryz.prog 66 #[.int .i64 op, .int .u64 a, .int .u64 b] w fun e w' => e = .returned (.tuple #[.int .u64 (wideF op a b), .bool true]) ∧ Gr w w' := by
  have hs : op = 35 ∨ op = 36 ∨ op = 37 ∨ op = 38 ∨ op = 39 ∨ op = 40 ∨ op = 41 ∨ op = 42 ∨ op = 43 ∨ op = 44 ∨ op = 50 ∨ op = 51 ∨ op = 52 ∨ op = 53 ∨ op = 54 ∨ op = 55 ∨ op = 56 ∨ op = 57 := by
    unfold isWide at h; have := of_decide_eq_true h; omega
  clear h
  have hm := and63 b hb
  have Hsa := Lib.hid (wrap64_s a ha)
  have Hsb := Lib.hid (wrap64_s b hb)
  have Ha := Lib.hid ha
  have Hb := Lib.hid hb
  obtain ⟨ha1, ha2⟩ := ha
  obtain ⟨hb1, hb2⟩ := hb
  rcases hs with rfl | rfl | rfl | rfl | rfl | rfl | rfl | rfl | rfl | rfl | rfl | rfl | rfl | rfl | rfl | rfl | rfl | rfl
  all_goals
    go_enter Tryz.func66, Tryz.ntmps66
    go_wp2_with (first
      | (go_at_call 89; refine (c_truth _ _).mono ?_; rintro e w1 ⟨rfl, rfl⟩)
      | (go_at_call 90; refine (c_product _ _ _ Ha.out Hb.out _ ⟨by decide, by decide⟩).mono ?_; rintro e w1 ⟨rfl, hg⟩))
    go_ret2
    first | refine ⟨ret_2 ?_ rfl, Gr.refl _⟩ | refine ⟨ret_2 ?_ rfl, hg⟩
    first | rfl | (simp only [Hsa.out, Hsb.out]; rfl) | (rw [wrap_mod]; rfl) | (simp only [Hsa.out, wrap_mod]; rfl) | exact u64_xor _ _ ha1 ha2 hb1 hb2 | exact u64_or _ _ ha1 ha2 hb1 hb2 | exact u64_and _ _ ha1 ha2 hb1 hb2 | skip
theorem c_whole_no (op a b : Int) (h : isWide op = false) (w : World) :
    Calls Tryz.prog 66 #[.int .i64 op, .int .u64 a, .int .u64 b] w fun e w' => e = .returned (.tuple #[.int .u64 0, .bool false]) ∧ Gr w w' := by
  unfold isWide at h
  have h' := of_decide_eq_false h
  clear h
  have e0 : (op == 35) = false := by simp; omega
  have e1 : (op == 36) = false := by simp; omega
  have e2 : (op == 37) = false := by simp; omega
  have e3 : (op == 38) = false := by simp; omega
  have e4 : (op == 39) = false := by simp; omega
  have e5 : (op == 40) = false := by simp; omega
  have e6 : (op == 41) = false := by simp; omega
  have e7 : (op == 42) = false := by simp; omega
  have e8 : (op == 43) = false := by simp; omega
  have e9 : (op == 44) = false := by simp; omega
  have h50 : ¬ (50 ≤ op ∧ op ≤ 57) := by omega
  have H50 := Lib.hid h50
  clear h' h50
  go_enter Tryz.func66, Tryz.ntmps66
  go_wp2_with (go_at_call 90; refine (c_product_no _ _ _ H50.out _).mono ?_; rintro e w1 ⟨rfl, hg⟩)
  go_ret2
  exact ⟨rfl, hg⟩
end Go.Proofs.YtngeabphjdfdgaaGreatDoor.W
