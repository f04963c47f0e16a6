/- Stage 2: the document's fields of a number. No condition. -/
import Derived.Test.YthcfobefpknjeaaDoorBP
set_option linter.unusedVariables false
set_option linter.unusedSimpArgs false
set_option maxRecDepth 100000
namespace Go.Proofs.YthcfobefpknjeaaDoor.P
open Go.RowKit
def hv64 (v : Int) (n : Nat) : Int := v % 18446744073709551616 / 2 ^ n
def fldN (v : Int) (n m t : Nat) : Int := hv64 v n % 2 ^ m * 2 ^ t
theorem hv_in (v : Int) (n : Nat) : 0 ≤ hv64 v n ∧ hv64 v n < 18446744073709551616 := by
  unfold hv64
  have h0 : 0 ≤ v % 18446744073709551616 := by omega
  have h1 : v % 18446744073709551616 < 18446744073709551616 := by omega
  generalize v % 18446744073709551616 = x at *
  obtain ⟨y, rfl⟩ : ∃ y : Nat, x = (y : Int) := ⟨x.toNat, by omega⟩
  rw [show ((2 : Int) ^ n) = ((2 ^ n : Nat) : Int) by simp, ← Int.natCast_ediv]
  have h2 : y / 2 ^ n ≤ y := Nat.div_le_self _ _
  generalize y / 2 ^ n = z at *
  omega
theorem hv_next (v : Int) (n : Nat) : (hv64 v n).tdiv 2 = hv64 v (n + 1) := by
  have h := (hv_in v n).1
  rw [Int.tdiv_eq_ediv_of_nonneg h]
  unfold hv64
  rw [Int.pow_succ, Int.ediv_ediv_of_nonneg (by exact Int.pow_nonneg (by decide))]
theorem hv_next2 (v : Int) (n : Nat) : hv64 v n / 2 = hv64 v (n + 1) := by
  rw [← hv_next, Int.tdiv_eq_ediv_of_nonneg (hv_in v n).1]
theorem hv_rem (v : Int) (n : Nat) : (hv64 v n).tmod 2 = hv64 v n % 2 := Int.tmod_eq_emod_of_nonneg (hv_in v n).1
theorem fld_zero (v : Int) (n t : Nat) : fldN v n 0 t = 0 := by unfold fldN; simp [Int.emod_one]
theorem mod_succ (x : Int) (j : Nat) : x % 2 ^ (j + 1) = x % 2 ^ j + x / 2 ^ j % 2 * 2 ^ j := by
  rw [Int.pow_succ]
  have hp : (0 : Int) < 2 ^ j := Int.pow_pos (by decide)
  have a := Int.mul_ediv_add_emod x (2 ^ j)
  have b := Int.mul_ediv_add_emod (x / 2 ^ j) 2
  have c := Int.emod_nonneg x (Int.ne_of_gt hp)
  have d := Int.emod_lt_of_pos x hp
  have e := Int.emod_nonneg (x / 2 ^ j) (by decide : (2 : Int) ≠ 0)
  have f := Int.emod_lt_of_pos (x / 2 ^ j) (by decide : (0 : Int) < 2)
  generalize hq : x / 2 ^ j = q at *
  generalize hr : x % 2 ^ j = r at *
  generalize hs : q / 2 = s at *
  generalize hu : q % 2 = u at *
  generalize (2 : Int) ^ j = p at *
  have hx : x = r + u * p + (p * 2) * s := by
    rw [← a, ← b, Int.mul_add, Int.mul_comm u p, ← Int.mul_assoc]
    omega
  rw [hx, Int.add_mul_emod_self_left]
  apply Int.emod_eq_of_lt
  · have : 0 ≤ u * p := Int.mul_nonneg e (Int.le_of_lt hp)
    omega
  · have hu2 : u = 0 ∨ u = 1 := by omega
    rcases hu2 with rfl | rfl <;> omega
theorem hv_add (v : Int) (n j : Nat) : hv64 v n / 2 ^ j = hv64 v (n + j) := by
  unfold hv64
  rw [Int.ediv_ediv_of_nonneg (by exact Int.pow_nonneg (by decide)), ← Int.pow_add]
theorem fld_succ (v : Int) (n j t : Nat) : fldN v n (j + 1) t = fldN v n j t + hv64 v (n + j) % 2 * 2 ^ (t + j) := by
  unfold fldN
  rw [mod_succ, hv_add, Int.add_mul, Int.mul_assoc, ← Int.pow_add, Nat.add_comm j t]
theorem fld_in (v : Int) (n j t : Nat) : 0 ≤ fldN v n j t ∧ fldN v n j t < 2 ^ (t + j) := by
  unfold fldN
  have hp : (0 : Int) < 2 ^ j := Int.pow_pos (by decide)
  have hq : (0 : Int) < 2 ^ t := Int.pow_pos (by decide)
  refine ⟨Int.mul_nonneg (Int.emod_nonneg _ (Int.ne_of_gt hp)) (Int.le_of_lt hq), ?_⟩
  rw [Int.pow_add, Int.mul_comm (2 ^ t)]
  exact Int.mul_lt_mul_of_pos_right (Int.emod_lt_of_pos _ hp) hq
theorem fld_or (v : Int) (n j t : Nat) (h : t + j < 32) : bits .or .u32 (fldN v n j t) (2 ^ (t + j)) = fldN v n j t + 2 ^ (t + j) := by
  obtain ⟨a, b⟩ := fld_in v n j t
  generalize fldN v n j t = x at *
  obtain ⟨y, rfl⟩ : ∃ y : Nat, x = (y : Int) := ⟨x.toNat, by omega⟩
  have hb : y < 2 ^ (t + j) := by
    have : ((y : Nat) : Int) < ((2 ^ (t + j) : Nat) : Int) := by simpa using b
    exact Int.ofNat_lt.1 this
  have h32 : 2 ^ (t + j) < 2 ^ 32 := Nat.pow_lt_pow_right (by decide) h
  have e := u32_or_nat y (2 ^ (t + j)) (by omega) (by simpa using h32)
  have e2 : y ||| 2 ^ (t + j) = 2 ^ (t + j) + y := by
    rw [Nat.or_comm]
    have := Nat.two_pow_add_eq_or_of_lt hb 1
    rw [Nat.mul_one] at this
    exact this.symm
  rw [e2] at e
  rw [show ((2 : Int) ^ (t + j)) = ((2 ^ (t + j) : Nat) : Int) by simp, e]
  omega
theorem shl1 (k : Nat) (h : k < 32) : IntKind.u32.wrap (1 * 2 ^ k) = 2 ^ k := by
  have h32 : 2 ^ k < 2 ^ 32 := Nat.pow_lt_pow_right (by decide) h
  have : ((2 ^ k : Nat) : Int) < 4294967296 := by omega
  rw [Int.one_mul, show ((2 : Int) ^ k) = ((2 ^ k : Nat) : Int) by simp]
  generalize 2 ^ k = z at *
  rw [show IntKind.u32.wrap ((z : Nat) : Int) = ((z : Nat) : Int) % 4294967296 from rfl]
  omega
theorem ku (v : Int) : Value.int .u64 (IntKind.u64.wrap v) = .int .u64 (v % 18446744073709551616) := by
  congr 1
set_option maxHeartbeats 1600000 in
theorem r_fieldN (v : Int) (hv : i64 v) (n m t : Nat) (hn : n ≤ 63) (hmt : m + t ≤ 32) (w : World) : Calls Tryd.prog 30 #[.int .i64 v, .int .i64 n, .int .i64 m, .int .i64 t] w fun e w' => e = .returned (.int .u32 (fldN v n m t)) ∧ w' = w := by
  go_enter Tryd.func30, Tryd.ntmps30
  go_wp2_with fail
  go_loopw [9, 10] (fun u i wr => ∃ j : Nat, j ≤ n ∧ u = .int .u64 (hv64 v j) ∧ i = .int .i64 (j : Int) ∧ w = wr) (fun _ i _ => n - (intOf i).toNat)
  case atStart => exact ⟨0, Nat.zero_le _, by unfold hv64; rw [Int.pow_zero, Int.ediv_one]; exact ku v, rfl, rfl⟩
  case round =>
    obtain ⟨j, hj, rfl, rfl, rfl⟩ := hrel
    have hu := hv_in v j
    by_cases hlt : j < n
    · have dl : decide (j < n) = true := decide_eq_true hlt
      go_wp2_with fail
      go_roundw
      case rel => exact ⟨j + 1, by omega, by rw [hv_next2], by go_num, by first | rfl | trivial⟩
      case measure => simp [intOf]; omega
    · have dl : decide (j < n) = false := decide_eq_false hlt
      obtain rfl : j = n := by omega
      go_wp2_with fail
      go_loopw [9, 11, 12] (fun u x i wr => ∃ k : Nat, k ≤ m ∧ u = .int .u64 (hv64 v (j + k)) ∧ x = .int .u32 (fldN v j k t) ∧ i = .int .i64 (k : Int) ∧ w = wr) (fun _ _ i _ => m - (intOf i).toNat)
      case atStart => exact ⟨0, Nat.zero_le _, rfl, by rw [fld_zero], rfl, by first | rfl | trivial⟩
      case round =>
        obtain ⟨k, hk, rfl, rfl, rfl, rfl⟩ := hrel
        have hu2 := hv_in v (j + k)
        by_cases hlt2 : k < m
        · have dl2 : decide (k < m) = true := decide_eq_true hlt2
          have e1 := hv_rem v (j + k)
          have hs := fld_succ v j k t
          by_cases hpar : hv64 v (j + k) % 2 = 1
          · have e2 : ((hv64 v (j + k)).tmod 2 == 1) = true := by rw [e1, hpar]; rfl
            rw [hpar, Int.one_mul] at hs
            have ho := fld_or v j k t (by omega)
            have hw := shl1 (t + k) (by omega)
            go_wp2_with fail
            go_roundw
            case rel => exact ⟨k + 1, by omega, by rw [hv_next2]; rfl, by rw [show (2 : Int) ^ (t + k) % 4294967296 = 2 ^ (t + k) by have := shl1 (t + k) (by omega); rw [Int.one_mul] at this; exact this, ho, hs], by go_num, by first | rfl | trivial⟩
            case measure => simp [intOf]; omega
          · have e2 : ((hv64 v (j + k)).tmod 2 == 1) = false := by rw [e1]; exact beq_eq_false_iff_ne.2 hpar
            go_wp2_with fail
            go_roundw
            case rel => exact ⟨k + 1, by omega, by rw [hv_next2]; rfl, by rw [hs, show hv64 v (j + k) % 2 = 0 by omega, Int.zero_mul, Int.add_zero], by go_num, by first | rfl | trivial⟩
            case measure => simp [intOf]; omega
        · have dl2 : decide (k < m) = false := decide_eq_false hlt2
          obtain rfl : k = m := by omega
          go_wp2_with fail
          go_ret
          exact ⟨rfl, rfl⟩
end Go.Proofs.YthcfobefpknjeaaDoor.P
