/- Stage 1: the walks of WordDivides, WordHalves, WordOrder. -/
import Derived.Test.YtempdcbgbaglaaaW16
set_option linter.unusedVariables false
namespace Go.Proofs.Ytempdcbgbaglaaa.W
open Go.RowKit
theorem r_op (op : Int) (hop : reckB op = true) (F : Int → Int → Int) (hF : ∀ a b, reckV op a b = F a b) (a b : Int) (ha : word a) (hb : word b) (w : World) :
    Calls Try.prog 18 #[.int .i64 op, .int .u64 a, .int .u64 b] w fun e w' => e = .returned (.tuple #[.int .u64 (F a b), .bool true]) ∧ Gr w w' := by
  have := c_reckon op a b ha hb w; rwa [hop, hF] at this
def RkC (op : Int) (F : Int → Int → Int) : Prop := ∀ a b, word a → word b → ∀ w,
    Calls Try.prog 18 #[.int .i64 op, .int .u64 a, .int .u64 b] w fun e w' => e = .returned (.tuple #[.int .u64 (F a b), .bool true]) ∧ Gr w w'
theorem r54 : RkC 54 divF := r_op 54 (by decide) divF (fun _ _ => rfl)
theorem r55 : RkC 55 divuF := r_op 55 (by decide) divuF (fun _ _ => rfl)
theorem r56 : RkC 56 remF := r_op 56 (by decide) remF (fun _ _ => rfl)
theorem r57 : RkC 57 remuF := r_op 57 (by decide) remuF (fun _ _ => rfl)
def mulhF (a b : Int) : Int := (hiF a b - abF a b - abF b a) % 18446744073709551616
def mulhsF (a b : Int) : Int := (hiF a b - abF a b) % 18446744073709551616
theorem r51 : RkC 51 mulhF := r_op 51 (by decide) mulhF (fun _ _ => rfl)
theorem r52 : RkC 52 mulhsF := r_op 52 (by decide) mulhsF (fun _ _ => rfl)
theorem r53 : RkC 53 hiF := r_op 53 (by decide) hiF (fun _ _ => rfl)
def sltF (a b : Int) : Int := truF (decide (s64 a < s64 b))
def sltuF (a b : Int) : Int := truF (decide (a < b))
def subF (a b : Int) : Int := (a - b) % 18446744073709551616
theorem r38 : RkC 38 sltF := r_op 38 (by decide) sltF (fun _ _ => rfl)
theorem r39 : RkC 39 sltuF := r_op 39 (by decide) sltuF (fun _ _ => rfl)
theorem r36 : RkC 36 subF := r_op 36 (by decide) subF (fun _ _ => rfl)
theorem r37 : RkC 37 shlF := r_op 37 (by decide) shlF (fun _ _ => rfl)
theorem r41 : RkC 41 shrF := r_op 41 (by decide) shrF (fun _ _ => rfl)
theorem s64_mod (a : Int) : s64 a % 18446744073709551616 = a % 18446744073709551616 := by unfold s64; split <;> omega
theorem dv_eq (a b : Int) (ha : word a) (hb : word b) (h0 : b ≠ 0) : IntKind.u64.wrap (IntKind.u64.wrap (divF a b * b) + remF a b) = a := by
  rw [wrap_mod, wrap_mod]
  unfold divF remF; rw [if_neg h0, if_neg h0]
  have e := Int.tdiv_mul_add_tmod (s64 a) (s64 b)
  have e1 : (s64 a).tdiv (s64 b) % 18446744073709551616 * b % 18446744073709551616 = (s64 a).tdiv (s64 b) * s64 b % 18446744073709551616 := by
    rw [Int.mul_emod, Int.emod_emod, ← s64_mod b, ← Int.mul_emod]
  rw [e1, ← Int.add_emod, e, s64_mod]
  obtain ⟨h1, h2⟩ := ha; omega
theorem dvu_eq (a b : Int) (ha : word a) (hb : word b) (h0 : b ≠ 0) : IntKind.u64.wrap (IntKind.u64.wrap (divuF a b * b) + remuF a b) = a := by
  rw [wrap_mod, wrap_mod]
  unfold divuF remuF; rw [if_neg h0, if_neg h0]
  have e := Int.ediv_mul_add_emod a b
  have h : (a / b * b % 18446744073709551616 + a % b) % 18446744073709551616 = (a / b * b + a % b) % 18446744073709551616 := by
    generalize a / b * b = x; omega
  rw [h, e]; obtain ⟨h1, h2⟩ := ha; omega
set_option maxHeartbeats 800000 in
theorem l_div (a b : Int) (ha : word a) (hb : word b) (w : World) :
    Calls Try.prog 7 #[.int .u64 a, .int .u64 b] w fun e w' => e = .returned (.bool true) ∧ Gr w w' := by
  have HA := Lib.hid ha
  have HB := Lib.hid hb
  by_cases h0 : b = 0
  · subst h0
    have e1 : (remF a 0 == a) = true := by simp [remF]
    have e2 : (remuF a 0 == a) = true := by simp [remuF]
    have e3 : (divF a 0 == divuF a 0) = true := by simp [divF, divuF]
    clear ha hb
    go_enter Try.func7, Try.ntmps7
    go_wp2_with fail
    refine (c_shown _).mono ?_; rintro e w1 ⟨rfl, h1⟩
    go_wp2_with fail
    refine (r54 _ _ HA.out HB.out _).mono ?_; rintro e w2 ⟨rfl, h2⟩
    go_wp2_with fail
    refine (r56 _ _ HA.out HB.out _).mono ?_; rintro e w3 ⟨rfl, h3⟩
    go_wp2_with fail
    refine (r55 _ _ HA.out HB.out _).mono ?_; rintro e w4 ⟨rfl, h4⟩
    go_wp2_with fail
    refine (r57 _ _ HA.out HB.out _).mono ?_; rintro e w5 ⟨rfl, h5⟩
    go_wp2_with fail
    go_ret
    exact ⟨ret_b (by simp), gtrans (gtrans (gtrans (gtrans h1 h2) h3) h4) h5⟩
  · have e0 : (b == 0) = false := by simpa using h0
    have E1 := Lib.hid (dv_eq a b ha hb h0)
    have E2 := Lib.hid (dvu_eq a b ha hb h0)
    have E3 := Lib.hid (show remuF a b < b from by unfold remuF; rw [if_neg h0]; exact Int.emod_lt_of_pos _ (by have := hb.1; omega))
    clear ha hb h0
    go_enter Try.func7, Try.ntmps7
    go_wp2_with fail
    refine (c_shown _).mono ?_; rintro e w1 ⟨rfl, h1⟩
    go_wp2_with fail
    refine (r54 _ _ HA.out HB.out _).mono ?_; rintro e w2 ⟨rfl, h2⟩
    go_wp2_with fail
    refine (r56 _ _ HA.out HB.out _).mono ?_; rintro e w3 ⟨rfl, h3⟩
    go_wp2_with fail
    refine (r55 _ _ HA.out HB.out _).mono ?_; rintro e w4 ⟨rfl, h4⟩
    go_wp2_with fail
    refine (r57 _ _ HA.out HB.out _).mono ?_; rintro e w5 ⟨rfl, h5⟩
    have e1 := E1.out
    have e2 := E2.out
    have e3 := E3.out
    go_wp2_with fail
    go_ret
    exact ⟨ret_b (by simp), gtrans (gtrans (gtrans (gtrans h1 h2) h3) h4) h5⟩
end Go.Proofs.Ytempdcbgbaglaaa.W
