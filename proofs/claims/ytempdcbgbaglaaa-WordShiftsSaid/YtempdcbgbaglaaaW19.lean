/- Stage 1: the walks of WordShifts, WordSigns. -/
import Derived.Test.YtempdcbgbaglaaaW17
set_option linter.unusedVariables false
namespace Go.Proofs.Ytempdcbgbaglaaa.W
open Go.RowKit
theorem n_word (n : Int) (h0 : 0 ≤ n) (h1 : n ≤ 63) : word n := ⟨h0, by omega⟩
theorem shl_n (a n : Int) (h0 : 0 ≤ n) (h1 : n ≤ 63) : shlF a n = a * 2 ^ n.toNat % 18446744073709551616 := by
  unfold shlF; rw [show n % 64 = n by omega]
theorem shr_n (a n : Int) (h0 : 0 ≤ n) (h1 : n ≤ 63) : shrF a n = a / 2 ^ n.toNat := by
  unfold shrF; rw [show n % 64 = n by omega]
theorem shlr (a n : Int) (ha : word a) (h0 : 0 ≤ n) (h1 : n ≤ 63) : shrF (shlF a n) n = lowF a (64 - n) := by
  rw [shr_n _ n h0 h1, shl_n a n h0 h1]
  obtain ⟨k, rfl⟩ := Int.eq_ofNat_of_zero_le h0
  have hk : k ≤ 63 := by omega
  rw [Int.toNat_natCast]
  have p := pow_pos k
  have hM : (18446744073709551616 : Int) = 2 ^ (64 - k) * 2 ^ k := by rw [← pow_split, show 64 - k + k = 64 by omega]; rfl
  have e : a * 2 ^ k % 18446744073709551616 = a % 2 ^ (64 - k) * 2 ^ k := by
    rw [hM, Int.mul_comm a, Int.mul_comm (2 ^ (64 - k)), Int.mul_emod_mul_of_pos _ _ p, Int.mul_comm]
  rw [e, Int.mul_ediv_cancel _ (by omega)]
  unfold lowF; rw [if_neg (by omega), show (64 - (k : Int)).toNat = 64 - k by omega]
  split
  · have : k = 0 := by omega
    subst this
    exact Int.emod_eq_of_lt ha.1 ha.2
  · rfl
theorem shrl (a n : Int) (ha : word a) (h0 : 0 ≤ n) (h1 : n ≤ 63) : IntKind.u64.wrap (shlF (shrF a n) n + lowF a n) = a := by
  rw [shl_n _ n h0 h1, shr_n a n h0 h1]
  obtain ⟨k, rfl⟩ := Int.eq_ofNat_of_zero_le h0
  rw [Int.toNat_natCast]
  obtain ⟨a1, a2⟩ := ha
  have p := pow_pos k
  have e := Int.ediv_mul_add_emod a (2 ^ k)
  have q := Int.emod_nonneg a (show (2 : Int) ^ k ≠ 0 by omega)
  have q2 : 0 ≤ a / 2 ^ k * 2 ^ k := Int.mul_nonneg (Int.ediv_nonneg a1 (by omega)) (by omega)
  have e3 : lowF a k = a % 2 ^ k := by
    unfold lowF; split
    · have : k = 0 := by omega
      subst this; simp
    · rw [if_neg (by omega), Int.toNat_natCast]
  rw [e3, wrap_mod]
  generalize a / 2 ^ k * 2 ^ k = x at *
  omega
set_option maxHeartbeats 800000 in
theorem l_shifts (a n : Int) (ha : word a) (hn : (Lit.int .i64 n).wf = true) (w : World) :
    Calls Try.prog 10 #[.int .u64 a, .int .i64 n] w fun e w' => e = .returned (.bool true) ∧ Gr w w' := by
  have HA := Lib.hid ha
  by_cases h0 : n < 0
  · clear ha hn
    go_enter Try.func10, Try.ntmps10
    go_wp2_with (go_at_call 13; refine (c_shown _).mono ?_; rintro e w1 ⟨rfl, g1⟩)
    go_ret
    exact ⟨rfl, g1⟩
  · by_cases h1 : 63 < n
    · clear ha hn
      go_enter Try.func10, Try.ntmps10
      go_wp2_with (go_at_call 13; refine (c_shown _).mono ?_; rintro e w1 ⟨rfl, g1⟩)
      go_ret
      exact ⟨rfl, g1⟩
    · have E1 := Lib.hid (shlr a n ha (by omega) (by omega))
      have E2 := Lib.hid (shrl a n ha (by omega) (by omega))
      have HN := Lib.hid (n_word n (by omega) (by omega))
      have HS := Lib.hid (mod_word (a * 2 ^ (n % 64).toNat))
      have HR := Lib.hid (shr_word a (n % 64).toNat ha)
      clear ha hn
      go_enter Try.func10, Try.ntmps10
      go_wp2_with fail
      refine (c_shown _).mono ?_; rintro e w1 ⟨rfl, g1⟩
      go_wp2_with fail
      refine (r37 _ _ HA.out HN.out _).mono ?_; rintro e w2 ⟨rfl, g2⟩
      go_wp2_with fail
      refine (r41 _ _ HS.out HN.out _).mono ?_; rintro e w3 ⟨rfl, g3⟩
      go_wp2_with fail
      refine (r41 _ _ HA.out HN.out _).mono ?_; rintro e w4 ⟨rfl, g4⟩
      go_wp2_with fail
      refine (r37 _ _ HR.out HN.out _).mono ?_; rintro e w5 ⟨rfl, g5⟩
      go_wp2_with fail
      refine (c_low _ _ HA.out _).mono ?_; rintro e w6 ⟨rfl, rfl⟩
      have k1 : (shrF (shlF a n) n == lowF a (64 - n)) = true := by rw [E1.out]; simp
      have k2 : (IntKind.u64.wrap (shlF (shrF a n) n + lowF a n) == a) = true := by rw [E2.out]; simp
      go_wp2_with (refine (c_low _ _ HA.out _).mono ?_; rintro e w7 ⟨rfl, rfl⟩)
      go_ret
      exact ⟨ret_b (by first | exact k2 | simp [E1.out, E2.out]), gtrans (gtrans (gtrans (gtrans g1 g2) g3) g4) g5⟩
end Go.Proofs.Ytempdcbgbaglaaa.W
