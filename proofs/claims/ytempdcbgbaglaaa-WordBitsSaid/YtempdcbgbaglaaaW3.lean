/- The contracts of what word.Reckon calls: whole, product, high and the rest. -/
import Derived.Test.YtempdcbgbaglaaaW2
import Derived.Deep.QuietTactic
import Derived.BigQuiet
set_option linter.unusedVariables false
namespace Go.Proofs.Ytempdcbgbaglaaa.W
open Go.RowKit
theorem and63 (b : Int) (h : word b) : bits .and .u64 b 63 = b % 64 := by
  have := and_mask b 6 (by omega) h; simpa using this
theorem c_truth (c : Bool) (w : World) : Calls Try.prog 33 #[.bool c] w fun e w' => e = .returned (.int .u64 (truF c)) ∧ w' = w := by
  cases c
  all_goals
    go_enter Try.func33, Try.ntmps33
    go_wp2
    go_ret
    exact ⟨rfl, rfl⟩
theorem neg_sign (a : Int) (h : word a) : (decide (wrap64 a < 0)) = !(decide (a < 9223372036854775808)) := by
  obtain ⟨h1, h2⟩ := h
  rw [wrap64_s a ⟨h1, h2⟩]; unfold s64; by_cases h3 : a < 9223372036854775808 <;> simp [h3] <;> omega
theorem c_above (a b : Int) (ha : word a) (w : World) : Calls Try.prog 41 #[.int .u64 a, .int .u64 b] w fun e w' => e = .returned (.int .u64 (abF a b)) ∧ w' = w := by
  have hn := neg_sign a ha
  by_cases h : a < 9223372036854775808
  · have hn' : decide (wrap64 a < 0) = false := by rw [hn]; simp [h]
    clear hn
    go_enter Try.func41, Try.ntmps41
    go_wp2
    go_ret
    exact ⟨ret_u64 (by unfold abF; rw [if_pos h]), rfl⟩
  · have hn' : decide (wrap64 a < 0) = true := by rw [hn]; simp [h]
    clear hn
    go_enter Try.func41, Try.ntmps41
    go_wp2
    go_ret
    exact ⟨ret_u64 (by unfold abF; rw [if_neg (by omega)]), rfl⟩
theorem low32 (v : Int) : lowF v 32 = v % 4294967296 := by unfold lowF; rfl
theorem part_val (x y : Int) (hx : word x) (hy : word y) : IntKind.u64.wrap (lowF x 32 * lowF y 32) = x % 4294967296 * (y % 4294967296) := by
  rw [low32, low32, wrap_mod]
  have r1 := Int.emod_nonneg x (show (4294967296 : Int) ≠ 0 by decide)
  have r2 := Int.emod_lt_of_pos x (show (0 : Int) < 4294967296 by decide)
  have r3 := Int.emod_nonneg y (show (4294967296 : Int) ≠ 0 by decide)
  have r4 := Int.emod_lt_of_pos y (show (0 : Int) < 4294967296 by decide)
  have hm := Int.mul_nonneg r1 r3
  have hl : x % 4294967296 * (y % 4294967296) ≤ 4294967295 * 4294967295 := Int.mul_le_mul (by omega) (by omega) r3 (by decide)
  omega
set_option maxHeartbeats 400000 in
theorem c_part (a b i j : Int) (ha : word a) (hb : word b) (hi : i = 0 ∨ i = 32) (hj : j = 0 ∨ j = 32) (pa pb : Nat) (w : World)
    (ca : w.cell? ⟨pa, 0, none⟩ = some (.int .u64 a)) (cb : w.cell? ⟨pb, 0, none⟩ = some (.int .u64 b)) :
    Calls Try.prog 45 #[.int .u64 i, .int .u64 j, .pointer (some ⟨pa, 0, none⟩), .pointer (some ⟨pb, 0, none⟩)] w fun e w' =>
      e = .returned (.int .u64 ((a / 2 ^ i.toNat % 4294967296) * (b / 2 ^ j.toNat % 4294967296))) ∧ ∃ n, w' = w.drewN n := by
  have hwi := shr_word a i.toNat ha
  have hwj := shr_word b j.toNat hb
  obtain ⟨ha1, ha2⟩ := ha
  obtain ⟨hb1, hb2⟩ := hb
  rcases hi with rfl | rfl <;> rcases hj with rfl | rfl
  all_goals
    go_enter Try.func45, Try.ntmps45
    go_wp2
    go_quiet ((go_at_call 16; exact Calls.quiet_of_same (c_low _ _ (by exact ⟨by omega, by omega⟩) _)))
    go_wp2
    go_ret
    refine ⟨ret_u64 ?_, ⟨_, rfl⟩⟩
    first | exact part_val _ _ hwi hwj | (have e := part_val _ _ hwi hwj; simpa using e)
set_option maxHeartbeats 800000 in
theorem c_high (a b : Int) (ha : word a) (hb : word b) (w : World) :
    Calls Try.prog 40 #[.int .u64 a, .int .u64 b] w fun e w' => e = .returned (.int .u64 (hiF a b)) ∧ Gr w w' := by
  go_enter Try.func40, Try.ntmps40
  go_wp2_with (first
    | (go_at_call 45; refine (c_part a b _ _ ha hb (by first | exact Or.inl rfl | exact Or.inr rfl) (by first | exact Or.inl rfl | exact Or.inr rfl) w.heap.size (w.heap.size + 1) _ (by go_cell) (by go_cell)).mono ?_; rintro e w' ⟨rfl, n, rfl⟩)
    | (go_at_call 16; refine (c_low _ _ (w_prod _ _) _).mono ?_; rintro e w' ⟨rfl, rfl⟩))
  go_ret
  refine ⟨ret_u64 (hi_val a b ha hb), Gr.drewN ?_ _⟩
  go_grown
end Go.Proofs.Ytempdcbgbaglaaa.W
