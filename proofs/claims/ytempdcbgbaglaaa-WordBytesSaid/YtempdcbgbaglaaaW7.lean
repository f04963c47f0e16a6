/- The contracts of stage 1's reference: signed, Wide, Reckon. -/
import Derived.Test.YtempdcbgbaglaaaW6
set_option linter.unusedVariables false
namespace Go.Proofs.Ytempdcbgbaglaaa.W
open Go.RowKit
def nA (a : Int) : Int := ((s64 a).natAbs : Int)
theorem nA_bd (a : Int) (h : word a) : 0 ≤ nA a ∧ nA a ≤ 9223372036854775808 := by
  obtain ⟨h1, h2⟩ := h; unfold nA s64; split <;> omega
theorem nA_pos (b : Int) (h : word b) (h0 : b ≠ 0) : 1 ≤ nA b := by
  obtain ⟨h1, h2⟩ := h; unfold nA s64; split <;> omega
theorem s64_neg (a : Int) (h : word a) : s64 a < 0 ↔ 9223372036854775808 ≤ a := by
  obtain ⟨h1, h2⟩ := h; unfold s64; split <;> omega
theorem div_pp (a b : Int) (ha : word a) (hb : word b) (h0 : b ≠ 0) (h : (9223372036854775808 ≤ a) = (9223372036854775808 ≤ b)) : nA a / nA b = divF a b := by
  have e1 := s64_neg a ha; have e2 := s64_neg b hb
  have q := nA_bd a ha; have q2 := nA_pos b hb h0
  have hq : nA a / nA b ≤ nA a := Int.ediv_le_self _ q.1
  have hq0 : 0 ≤ nA a / nA b := Int.ediv_nonneg q.1 (by omega)
  have e : (s64 a).tdiv (s64 b) = nA a / nA b := by
    by_cases hs : 9223372036854775808 ≤ a
    · have hs2 : 9223372036854775808 ≤ b := by rw [← h]; exact hs
      rw [← Int.neg_tdiv_neg, Int.tdiv_eq_ediv_of_nonneg (by omega), show nA a = - s64 a from by unfold nA; omega, show nA b = - s64 b from by unfold nA; omega]
    · have hs2 : ¬ 9223372036854775808 ≤ b := by rw [← h]; exact hs
      rw [Int.tdiv_eq_ediv_of_nonneg (by omega), show nA a = s64 a from by unfold nA; omega, show nA b = s64 b from by unfold nA; omega]
  unfold divF; rw [if_neg h0, e]; omega
theorem div_pn (a b : Int) (ha : word a) (hb : word b) (h0 : b ≠ 0) (h : ¬ ((9223372036854775808 ≤ a) ↔ (9223372036854775808 ≤ b))) : IntKind.u64.wrap (-(nA a / nA b)) = divF a b := by
  have e1 := s64_neg a ha; have e2 := s64_neg b hb
  have e : (s64 a).tdiv (s64 b) = -(nA a / nA b) := by
    by_cases hs : 9223372036854775808 ≤ a
    · have hs2 : ¬ 9223372036854775808 ≤ b := fun h2 => h ⟨fun _ => h2, fun _ => hs⟩
      rw [← Int.neg_neg (s64 a), Int.neg_tdiv, Int.tdiv_eq_ediv_of_nonneg (by omega), show nA a = - s64 a from by unfold nA; omega, show nA b = s64 b from by unfold nA; omega]
    · have hs2 : 9223372036854775808 ≤ b := Classical.byContradiction fun h2 => h ⟨fun h3 => absurd h3 hs, fun h3 => absurd h3 h2⟩
      rw [← Int.neg_neg (s64 b), Int.tdiv_neg, Int.tdiv_eq_ediv_of_nonneg (by omega), show nA a = s64 a from by unfold nA; omega, show nA b = - s64 b from by unfold nA; omega]
  unfold divF; rw [if_neg h0, e, wrap_mod]
theorem rem_p (a b : Int) (ha : word a) (hb : word b) (h0 : b ≠ 0) (h : ¬ 9223372036854775808 ≤ a) : nA a % nA b = remF a b := by
  have e1 := s64_neg a ha
  have q := nA_bd a ha; have q2 := nA_pos b hb h0; have q3 := nA_bd b hb
  have hq := Int.emod_lt_of_pos (nA a) (show 0 < nA b by omega)
  have hq0 := Int.emod_nonneg (nA a) (show nA b ≠ 0 by omega)
  have e : (s64 a).tmod (s64 b) = nA a % nA b := by
    rw [Int.tmod_eq_emod_of_nonneg (by omega), show nA a = s64 a from by unfold nA; omega]
    by_cases hs : s64 b < 0
    · rw [show nA b = - s64 b from by unfold nA; omega, Int.emod_neg]
    · rw [show nA b = s64 b from by unfold nA; omega]
  unfold remF; rw [if_neg h0, e]; omega
theorem rem_n (a b : Int) (ha : word a) (hb : word b) (h0 : b ≠ 0) (h : 9223372036854775808 ≤ a) : IntKind.u64.wrap (-(nA a % nA b)) = remF a b := by
  have e1 := s64_neg a ha
  have e : (s64 a).tmod (s64 b) = -(nA a % nA b) := by
    rw [← Int.neg_neg (s64 a), Int.neg_tmod, Int.tmod_eq_emod_of_nonneg (by omega), show nA a = - s64 a from by unfold nA; omega]
    by_cases hs : s64 b < 0
    · rw [show nA b = - s64 b from by unfold nA; omega, Int.emod_neg]
    · rw [show nA b = s64 b from by unfold nA; omega]
  unfold remF; rw [if_neg h0, e, wrap_mod]
theorem c_size' (a : Int) (ha : word a) (w : World) : Calls Try.prog 44 #[.int .u64 a] w fun e w' => e = .returned (.int .u64 (nA a)) ∧ w' = w := c_size a ha w
theorem ret_22 {a b c d : Int} (h : a = b) (h2 : c = d) : Ending.returned (.tuple #[.int .u64 a, .int .u64 c]) = .returned (.tuple #[.int .u64 b, .int .u64 d]) := by rw [h, h2]
set_option maxHeartbeats 800000 in
theorem c_signed (a b : Int) (ha : word a) (hb : word b) (w : World) :
    Calls Try.prog 39 #[.int .u64 a, .int .u64 b] w fun e w' => e = .returned (.tuple #[.int .u64 (divF a b), .int .u64 (remF a b)]) ∧ w' = w := by
  have Ha := Lib.hid ha
  have Hb := Lib.hid hb
  by_cases h0 : b = 0
  · subst h0
    clear ha hb
    go_enter Try.func39, Try.ntmps39
    go_wp2
    go_ret2
    exact ⟨ret_22 rfl rfl, rfl⟩
  · obtain ⟨n1, n2⟩ := nA_bd a ha
    obtain ⟨n3, n4⟩ := nA_bd b hb
    have n5 := nA_pos b hb h0
    have n6 : ¬ nA b = 0 := by omega
    have n7 : 0 ≤ nA a / nA b := Int.ediv_nonneg n1 (by omega)
    have n8 : 0 ≤ nA a % nA b := Int.emod_nonneg _ (by omega)
    have h0' : (b == 0) = false := by simpa using h0
    clear ha hb
    have H0 := Lib.hid h0
    by_cases h1 : 9223372036854775808 ≤ a <;> by_cases h2 : 9223372036854775808 ≤ b
    all_goals
      go_enter Try.func39, Try.ntmps39
      go_wp2_with (first
        | (go_at_call 44; refine (c_size' _ (by with_reducible first | exact Ha.out | exact Hb.out) _).mono ?_; rintro e w' ⟨rfl, rfl⟩)
        | (go_at_call 35; first | ((refine (c_neg_t _ (by omega) _).mono ?_); rintro e w' ⟨rfl, rfl⟩) | ((refine (c_neg_f _ (by omega) _).mono ?_); rintro e w' ⟨rfl, rfl⟩)))
      go_ret2
      refine ⟨ret_22 ?_ ?_, rfl⟩
      · first
          | exact div_pp a b Ha.out Hb.out H0.out (by simp only [eq_iff_iff]; omega)
          | exact div_pn a b Ha.out Hb.out H0.out (by omega)
      · first
          | exact rem_p a b Ha.out Hb.out H0.out (by omega)
          | exact rem_n a b Ha.out Hb.out H0.out (by omega)
end Go.Proofs.Ytempdcbgbaglaaa.W
