/- Stage 1: the walks of WordHalves, WordOrder, WordShifts, WordSigns, WordNarrow, WordBytes. -/
import Derived.Test.YtempdcbgbaglaaaW17
set_option linter.unusedVariables false
namespace Go.Proofs.Ytempdcbgbaglaaa.W
open Go.RowKit
theorem hi_comm (a b : Int) : hiF a b = hiF b a := by unfold hiF; rw [Int.mul_comm]
theorem mulh_comm (a b : Int) : mulhF a b = mulhF b a := by unfold mulhF; rw [hi_comm]; congr 1; omega
set_option maxHeartbeats 800000 in
theorem l_halves (a b : Int) (ha : word a) (hb : word b) (w : World) :
    Calls Try.prog 8 #[.int .u64 a, .int .u64 b] w fun e w' => e = .returned (.bool true) ∧ Gr w w' := by
  have HA := Lib.hid ha
  have HB := Lib.hid hb
  have hu := Lib.hid (hi_comm a b)
  have ht := Lib.hid (mulh_comm a b)
  obtain ⟨k1, k2⟩ := hi_word a b ha hb
  clear ha hb
  by_cases h1 : 9223372036854775808 ≤ a <;> by_cases h2 : 9223372036854775808 ≤ b
  · have F1 := Lib.hid (show (mulhF a b == IntKind.u64.wrap (IntKind.u64.wrap (hiF a b - b) - a)) = true from by rw [beq_iff_eq]; unfold mulhF abF; (try simp only [wrap_mod]); (repeat' split) <;> omega)
    have F2 := Lib.hid (show (mulhsF a b == IntKind.u64.wrap (hiF a b - b)) = true from by rw [beq_iff_eq]; unfold mulhsF abF; (try simp only [wrap_mod]); (repeat' split) <;> omega)
    go_enter Try.func8, Try.ntmps8
    go_wp2_with fail
    refine (c_shown _).mono ?_; rintro e w1 ⟨rfl, g1⟩
    go_wp2_with fail
    refine (r53 _ _ HA.out HB.out _).mono ?_; rintro e w2 ⟨rfl, g2⟩
    go_wp2_with fail
    refine (r53 _ _ HB.out HA.out _).mono ?_; rintro e w3 ⟨rfl, g3⟩
    go_wp2_with fail
    refine (r51 _ _ HA.out HB.out _).mono ?_; rintro e w4 ⟨rfl, g4⟩
    go_wp2_with fail
    refine (r51 _ _ HB.out HA.out _).mono ?_; rintro e w5 ⟨rfl, g5⟩
    go_wp2_with fail
    refine (r52 _ _ HA.out HB.out _).mono ?_; rintro e w6 ⟨rfl, g6⟩
    rw [← hu.out, ← ht.out]
    have f1 := F1.out
    have f2 := F2.out
    go_wp2_with fail
    go_ret
    refine ⟨ret_b (by simp), gtrans (gtrans (gtrans (gtrans (gtrans g1 g2) g3) g4) g5) g6⟩
  · have F1 := Lib.hid (show (mulhF a b == IntKind.u64.wrap (IntKind.u64.wrap (hiF a b - b))) = true from by rw [beq_iff_eq]; unfold mulhF abF; (try simp only [wrap_mod]); (repeat' split) <;> omega)
    have F2 := Lib.hid (show (mulhsF a b == IntKind.u64.wrap (hiF a b - b)) = true from by rw [beq_iff_eq]; unfold mulhsF abF; (try simp only [wrap_mod]); (repeat' split) <;> omega)
    go_enter Try.func8, Try.ntmps8
    go_wp2_with fail
    refine (c_shown _).mono ?_; rintro e w1 ⟨rfl, g1⟩
    go_wp2_with fail
    refine (r53 _ _ HA.out HB.out _).mono ?_; rintro e w2 ⟨rfl, g2⟩
    go_wp2_with fail
    refine (r53 _ _ HB.out HA.out _).mono ?_; rintro e w3 ⟨rfl, g3⟩
    go_wp2_with fail
    refine (r51 _ _ HA.out HB.out _).mono ?_; rintro e w4 ⟨rfl, g4⟩
    go_wp2_with fail
    refine (r51 _ _ HB.out HA.out _).mono ?_; rintro e w5 ⟨rfl, g5⟩
    go_wp2_with fail
    refine (r52 _ _ HA.out HB.out _).mono ?_; rintro e w6 ⟨rfl, g6⟩
    rw [← hu.out, ← ht.out]
    have f1 := F1.out
    have f2 := F2.out
    go_wp2_with fail
    go_ret
    refine ⟨ret_b (by simp), gtrans (gtrans (gtrans (gtrans (gtrans g1 g2) g3) g4) g5) g6⟩
  · have F1 := Lib.hid (show (mulhF a b == IntKind.u64.wrap (hiF a b - a)) = true from by rw [beq_iff_eq]; unfold mulhF abF; (try simp only [wrap_mod]); (repeat' split) <;> omega)
    have F2 := Lib.hid (show (mulhsF a b == hiF a b) = true from by rw [beq_iff_eq]; unfold mulhsF abF; (try simp only [wrap_mod]); (repeat' split) <;> omega)
    go_enter Try.func8, Try.ntmps8
    go_wp2_with fail
    refine (c_shown _).mono ?_; rintro e w1 ⟨rfl, g1⟩
    go_wp2_with fail
    refine (r53 _ _ HA.out HB.out _).mono ?_; rintro e w2 ⟨rfl, g2⟩
    go_wp2_with fail
    refine (r53 _ _ HB.out HA.out _).mono ?_; rintro e w3 ⟨rfl, g3⟩
    go_wp2_with fail
    refine (r51 _ _ HA.out HB.out _).mono ?_; rintro e w4 ⟨rfl, g4⟩
    go_wp2_with fail
    refine (r51 _ _ HB.out HA.out _).mono ?_; rintro e w5 ⟨rfl, g5⟩
    go_wp2_with fail
    refine (r52 _ _ HA.out HB.out _).mono ?_; rintro e w6 ⟨rfl, g6⟩
    rw [← hu.out, ← ht.out]
    have f1 := F1.out
    have f2 := F2.out
    go_wp2_with fail
    go_ret
    refine ⟨ret_b (by simp), gtrans (gtrans (gtrans (gtrans (gtrans g1 g2) g3) g4) g5) g6⟩
  · have F1 := Lib.hid (show (mulhF a b == hiF a b) = true from by rw [beq_iff_eq]; unfold mulhF abF; (try simp only [wrap_mod]); (repeat' split) <;> omega)
    have F2 := Lib.hid (show (mulhsF a b == hiF a b) = true from by rw [beq_iff_eq]; unfold mulhsF abF; (try simp only [wrap_mod]); (repeat' split) <;> omega)
    go_enter Try.func8, Try.ntmps8
    go_wp2_with fail
    refine (c_shown _).mono ?_; rintro e w1 ⟨rfl, g1⟩
    go_wp2_with fail
    refine (r53 _ _ HA.out HB.out _).mono ?_; rintro e w2 ⟨rfl, g2⟩
    go_wp2_with fail
    refine (r53 _ _ HB.out HA.out _).mono ?_; rintro e w3 ⟨rfl, g3⟩
    go_wp2_with fail
    refine (r51 _ _ HA.out HB.out _).mono ?_; rintro e w4 ⟨rfl, g4⟩
    go_wp2_with fail
    refine (r51 _ _ HB.out HA.out _).mono ?_; rintro e w5 ⟨rfl, g5⟩
    go_wp2_with fail
    refine (r52 _ _ HA.out HB.out _).mono ?_; rintro e w6 ⟨rfl, g6⟩
    rw [← hu.out, ← ht.out]
    have f1 := F1.out
    have f2 := F2.out
    go_wp2_with fail
    go_ret
    refine ⟨ret_b (by simp), gtrans (gtrans (gtrans (gtrans (gtrans g1 g2) g3) g4) g5) g6⟩
/-! ### WordOrder -/
theorem ord_s (a b : Int) (ha : word a) (hb : word b) (hne : a ≠ b) : sltF a b + sltF b a = 1 := by
  have h : s64 a ≠ s64 b := fun h => hne (s64_inj a b ha hb h)
  unfold sltF truF
  by_cases h1 : s64 a < s64 b <;> by_cases h2 : s64 b < s64 a <;> simp [h1, h2] <;> omega
theorem ord_s0 (a : Int) : sltF a a = 0 := by unfold sltF truF; simp
theorem ord_u (a b : Int) (hne : a ≠ b) : sltuF a b + sltuF b a = 1 := by
  unfold sltuF truF
  by_cases h1 : a < b <;> by_cases h2 : b < a <;> simp [h1, h2] <;> omega
theorem ord_u0 (a : Int) : sltuF a a = 0 := by unfold sltuF truF; simp
theorem sub_ne (a b : Int) (ha : word a) (hb : word b) (hne : a ≠ b) : subF a b ≠ 0 := by
  obtain ⟨a1, a2⟩ := ha; obtain ⟨b1, b2⟩ := hb; unfold subF; omega
theorem sub_self' (a : Int) : subF a a = 0 := by unfold subF; rw [Int.sub_self]; rfl
theorem tru_bd (c : Bool) : 0 ≤ truF c ∧ truF c ≤ 1 := by cases c <;> exact ⟨by decide, by decide⟩
set_option maxHeartbeats 800000 in
theorem l_order (a b : Int) (ha : word a) (hb : word b) (w : World) :
    Calls Try.prog 12 #[.int .u64 a, .int .u64 b] w fun e w' => e = .returned (.bool true) ∧ Gr w w' := by
  have HA := Lib.hid ha
  have HB := Lib.hid hb
  by_cases h0 : a = b
  · subst h0
    have E1 := Lib.hid (ord_s0 a)
    have E2 := Lib.hid (ord_u0 a)
    have E3 := Lib.hid (sub_self' a)
    clear ha hb
    go_enter Try.func12, Try.ntmps12
    go_wp2_with fail
    refine (c_shown _).mono ?_; rintro e w1 ⟨rfl, g1⟩
    go_wp2_with fail
    refine (r38 _ _ HA.out HB.out _).mono ?_; rintro e w2 ⟨rfl, g2⟩
    go_wp2_with fail
    refine (r38 _ _ HB.out HA.out _).mono ?_; rintro e w3 ⟨rfl, g3⟩
    go_wp2_with fail
    refine (r39 _ _ HA.out HB.out _).mono ?_; rintro e w4 ⟨rfl, g4⟩
    go_wp2_with fail
    refine (r39 _ _ HB.out HA.out _).mono ?_; rintro e w5 ⟨rfl, g5⟩
    go_wp2_with fail
    refine (r36 _ _ HA.out HB.out _).mono ?_; rintro e w6 ⟨rfl, g6⟩
    rw [E1.out, E2.out, E3.out]
    go_wp2_with fail
    go_ret
    exact ⟨ret_b (by simp), gtrans (gtrans (gtrans (gtrans (gtrans g1 g2) g3) g4) g5) g6⟩
  · have hne : (a == b) = false := by simpa using h0
    have hs : (subF a b == 0) = false := by simpa using sub_ne a b ha hb h0
    have E1 := ord_s a b ha hb h0
    have E2 := ord_u a b h0
    have k1 : 0 ≤ sltF a b ∧ sltF a b ≤ 1 := tru_bd _
    have k2 : 0 ≤ sltF b a ∧ sltF b a ≤ 1 := tru_bd _
    have k3 : 0 ≤ sltuF a b ∧ sltuF a b ≤ 1 := tru_bd _
    have k4 : 0 ≤ sltuF b a ∧ sltuF b a ≤ 1 := tru_bd _
    obtain ⟨k11, k12⟩ := k1
    obtain ⟨k21, k22⟩ := k2
    obtain ⟨k31, k32⟩ := k3
    obtain ⟨k41, k42⟩ := k4
    have hne' : decide (a = b) = false := by simpa using h0
    have H0 := Lib.hid h0
    clear ha hb h0
    go_enter Try.func12, Try.ntmps12
    go_wp2_with fail
    refine (c_shown _).mono ?_; rintro e w1 ⟨rfl, g1⟩
    go_wp2_with fail
    refine (r38 _ _ HA.out HB.out _).mono ?_; rintro e w2 ⟨rfl, g2⟩
    go_wp2_with fail
    refine (r38 _ _ HB.out HA.out _).mono ?_; rintro e w3 ⟨rfl, g3⟩
    go_wp2_with fail
    refine (r39 _ _ HA.out HB.out _).mono ?_; rintro e w4 ⟨rfl, g4⟩
    go_wp2_with fail
    refine (r39 _ _ HB.out HA.out _).mono ?_; rintro e w5 ⟨rfl, g5⟩
    go_wp2_with fail
    refine (r36 _ _ HA.out HB.out _).mono ?_; rintro e w6 ⟨rfl, g6⟩
    go_wp2_with fail
    go_ret
    exact ⟨ret_b (by simp), gtrans (gtrans (gtrans (gtrans (gtrans g1 g2) g3) g4) g5) g6⟩
end Go.Proofs.Ytempdcbgbaglaaa.W
