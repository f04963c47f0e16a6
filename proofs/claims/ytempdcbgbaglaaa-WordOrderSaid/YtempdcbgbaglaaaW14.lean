/- The contracts of stage 1: Of, of the code and of the reference. -/
import Derived.Test.YtempdcbgbaglaaaW13
set_option linter.unusedVariables false
namespace Go.Proofs.Ytempdcbgbaglaaa.W
open Go.RowKit
def byteAt (s : ByteArray) (k : Nat) : Int := ((s.data.getD k 0).toNat : Int)
theorem byteAt_bd (s : ByteArray) (k : Nat) : 0 ≤ byteAt s k ∧ byteAt s k < 256 := by
  unfold byteAt; have := (s.data.getD k 0).toNat_lt; omega
theorem byteAt_get (s : ByteArray) (k : Nat) (h : k < s.size) : ((s[k].toNat : Nat) : Int) = byteAt s k := by
  have h2 : k < s.data.size := h
  unfold byteAt; rw [Array.getD_eq_getD_getElem?, Array.getElem?_eq_getElem h2]; rfl
def ofN (s : ByteArray) : Nat → Int
  | 0 => 0
  | k + 1 => ofN s k + byteAt s k * 2 ^ (8 * k)
theorem ofN_bd (s : ByteArray) (k : Nat) : 0 ≤ ofN s k ∧ ofN s k < 2 ^ (8 * k) := by
  induction k with
  | zero => exact ⟨by simp [ofN], by simp [ofN]⟩
  | succ k ih =>
    have b := byteAt_bd s k
    have p := pow_pos (8 * k)
    have e : (2 : Int) ^ (8 * (k + 1)) = 256 * 2 ^ (8 * k) := by rw [Nat.mul_add, pow_split, Int.mul_comm]; rfl
    unfold ofN
    rw [e]
    have m1 : 0 ≤ byteAt s k * 2 ^ (8 * k) := Int.mul_nonneg b.1 (by omega)
    have m2 : byteAt s k * 2 ^ (8 * k) ≤ 255 * 2 ^ (8 * k) := Int.mul_le_mul_of_nonneg_right (by omega) (by omega)
    omega
def ofF (s : ByteArray) : Int := ofN s (min s.size 8)
theorem ofF_word (s : ByteArray) : word (ofF s) := by
  unfold ofF
  have b := ofN_bd s (min s.size 8)
  have : (2 : Int) ^ (8 * min s.size 8) ≤ 2 ^ 64 := pow_le _ _ (by omega)
  exact ⟨b.1, by omega⟩
theorem or_add (v x : Int) (k : Nat) (hk : k < 8) (h0 : 0 ≤ v) (h1 : v < 2 ^ (8 * k)) (x0 : 0 ≤ x) (x1 : x < 256) :
    bits .or .u64 v (IntKind.u64.wrap (x * 2 ^ (8 * k))) = v + x * 2 ^ (8 * k) := by
  have p := pow_pos (8 * k)
  have l : x * 2 ^ (8 * k) ≤ 255 * 2 ^ (8 * k) := Int.mul_le_mul_of_nonneg_right (by omega) (by omega)
  have m : 0 ≤ x * 2 ^ (8 * k) := Int.mul_nonneg x0 (by omega)
  have q : (2 : Int) ^ (8 * k) ≤ 2 ^ 56 := pow_le _ _ (by omega)
  have q' : (2 : Int) ^ 56 = 72057594037927936 := rfl
  rw [q'] at q
  have e : IntKind.u64.wrap (x * 2 ^ (8 * k)) = x * 2 ^ (8 * k) := by rw [wrap_mod]; omega
  rw [e, u64_or _ _ h0 (by omega) m (by omega)]
  obtain ⟨a, rfl⟩ := Int.eq_ofNat_of_zero_le h0
  obtain ⟨b, rfl⟩ := Int.eq_ofNat_of_zero_le x0
  have e2 : ((b : Int) * 2 ^ (8 * k)).toNat = b * 2 ^ (8 * k) := by
    have : ((b : Int) * 2 ^ (8 * k)) = ((b * 2 ^ (8 * k) : Nat) : Int) := by simp
    rw [this, Int.toNat_natCast]
  have h1' : a < 2 ^ (8 * k) := by
    have : ((2 : Int) ^ (8 * k)) = ((2 ^ (8 * k) : Nat) : Int) := by simp
    rw [this] at h1; omega
  rw [e2, Int.toNat_natCast, Nat.or_comm]
  have := Nat.two_pow_add_eq_or_of_lt h1' b
  rw [Nat.mul_comm] at this
  rw [← this]; simp [Int.add_comm]
theorem wrap_byte (s : ByteArray) (k : Nat) : IntKind.u64.wrap (byteAt s k) = byteAt s k := by
  have := byteAt_bd s k; rw [wrap_mod]; omega
set_option maxHeartbeats 800000 in
theorem c_of (s : ByteArray) (hs : s.size ≤ maxLen) (w : World) :
    Calls Try.prog 23 #[.string s] w fun e w' => e = .returned (.int .u64 (ofF s)) ∧ w' = w := by
  unfold maxLen at hs
  by_cases h8 : s.size ≤ 8
  · go_enter Try.func23, Try.ntmps23
    go_wp2
    go_loop [3, 8] (fun v i => ∃ k : Nat, k ≤ s.size ∧ i = .int .i64 k ∧ v = .int .u64 (ofN s k)) (fun _ i => 8 - (intOf i).toNat)
    case atStart => exact ⟨0, by omega, rfl, rfl⟩
    case round =>
      obtain ⟨k, hk, rfl, rfl⟩ := hrel
      have hb := ofN_bd s k
      by_cases hlt : k < s.size
      · have hlt2 : k < s.size := by omega
        have Hor := Lib.hid (or_add (ofN s k) (byteAt s k) k (by omega) hb.1 hb.2 (byteAt_bd s k).1 (byteAt_bd s k).2)
        have Hg := Lib.hid (byteAt_get s k hlt2)
        clear hb
        go_wp2
        go_round
        case rel => exact ⟨k + 1, by omega, by go_num, by rw [Hg.out, wrap_byte s k, Hor.out]; rfl⟩
        case measure => simp [intOf]; omega
      · go_wp2
        go_ret
        obtain rfl : k = s.size := by omega
        exact ⟨ret_u64 (by unfold ofF; congr 1; omega), rfl⟩
  · go_enter Try.func23, Try.ntmps23
    go_wp2
    go_loop [3, 8] (fun v i => ∃ k : Nat, k ≤ 8 ∧ i = .int .i64 k ∧ v = .int .u64 (ofN s k)) (fun _ i => 8 - (intOf i).toNat)
    case atStart => exact ⟨0, by omega, rfl, rfl⟩
    case round =>
      obtain ⟨k, hk, rfl, rfl⟩ := hrel
      have hb := ofN_bd s k
      by_cases hlt : k < 8
      · have hlt2 : k < s.size := by omega
        have Hor := Lib.hid (or_add (ofN s k) (byteAt s k) k (by omega) hb.1 hb.2 (byteAt_bd s k).1 (byteAt_bd s k).2)
        have Hg := Lib.hid (byteAt_get s k hlt2)
        clear hb
        go_wp2
        go_round
        case rel => exact ⟨k + 1, by omega, by go_num, by rw [Hg.out, wrap_byte s k, Hor.out]; rfl⟩
        case measure => simp [intOf]; omega
      · go_wp2
        go_ret
        obtain rfl : k = 8 := by omega
        exact ⟨ret_u64 (by unfold ofF; congr 1; omega), rfl⟩
/-- d digits from place k on, the least first -/
def hN (s : ByteArray) (k : Nat) : Nat → Int
  | 0 => 0
  | d + 1 => byteAt s k + 256 * hN s (k + 1) d
theorem hN_of (s : ByteArray) : ∀ d k, ofN s k + hN s k d * 2 ^ (8 * k) = ofN s (k + d) := by
  intro d
  induction d with
  | zero => intro k; simp [hN]
  | succ d ih =>
    intro k
    rw [show k + (d + 1) = k + 1 + d by omega, ← ih (k + 1)]
    show ofN s k + (byteAt s k + 256 * hN s (k + 1) d) * 2 ^ (8 * k) = ofN s k + byteAt s k * 2 ^ (8 * k) + hN s (k + 1) d * 2 ^ (8 * (k + 1))
    rw [show (2 : Int) ^ (8 * (k + 1)) = 256 * 2 ^ (8 * k) by rw [Nat.mul_add, pow_split, Int.mul_comm]; rfl, Int.add_mul, Int.add_assoc,
      Int.mul_comm 256, Int.mul_assoc]
theorem hN0 (s : ByteArray) (n : Nat) : hN s 0 (n - 0) = ofN s n := by
  have := hN_of s n 0; simpa [ofN] using this
theorem hN_bd (s : ByteArray) : ∀ d k, 0 ≤ hN s k d ∧ hN s k d < 2 ^ (8 * d) := by
  intro d
  induction d with
  | zero => intro k; exact ⟨by simp [hN], by simp [hN]⟩
  | succ d ih =>
    intro k
    have h := ih (k + 1)
    have b := byteAt_bd s k
    show 0 ≤ byteAt s k + 256 * hN s (k + 1) d ∧ byteAt s k + 256 * hN s (k + 1) d < 2 ^ (8 * (d + 1))
    rw [show (2 : Int) ^ (8 * (d + 1)) = 256 * 2 ^ (8 * d) by rw [Nat.mul_add, pow_split, Int.mul_comm]; rfl]
    omega
theorem hN_step (s : ByteArray) (k d : Nat) (hd : d ≤ 7) : IntKind.u64.wrap (IntKind.u64.wrap (hN s (k + 1) d * 256) + byteAt s k) = hN s k (d + 1) := by
  have h := hN_bd s d (k + 1)
  have b := byteAt_bd s k
  have q : (2 : Int) ^ (8 * d) ≤ 2 ^ 56 := pow_le _ _ (by omega)
  have q' : (2 : Int) ^ 56 = 72057594037927936 := rfl
  rw [q'] at q
  show _ = byteAt s k + 256 * hN s (k + 1) d
  rw [wrap_mod, wrap_mod]; omega
set_option maxHeartbeats 800000 in
theorem c_rof (s : ByteArray) (hs : s.size ≤ maxLen) (w : World) :
    Calls Try.prog 25 #[.string s] w fun e w' => e = .returned (.int .u64 (ofF s)) ∧ w' = w := by
  unfold maxLen at hs
  by_cases h8 : s.size ≤ 8
  · go_enter Try.func25, Try.ntmps25
    go_wp2
    go_loop [3, 5] (fun v i => ∃ k : Nat, k ≤ s.size ∧ i = .int .i64 ((k : Int) - 1) ∧ v = .int .u64 (hN s k (s.size - k))) (fun _ i => (intOf i + 1).toNat)
    case atStart => exact ⟨s.size, by omega, by first | rfl | go_num, by rw [Nat.sub_self]; rfl⟩
    case round =>
      obtain ⟨k, hk, rfl, rfl⟩ := hrel
      rcases k with _ | k
      · have e0 := Lib.hid (show hN s 0 (s.size - 0) = ofF s from by rw [hN0]; unfold ofF; congr 1; omega)
        go_wp2
        go_ret
        exact ⟨ret_u64 e0.out, rfl⟩
      · have hlt2 : k < s.size := by omega
        have Hst := Lib.hid (hN_step s k (s.size - (k + 1)) (by omega))
        have Hd := Lib.hid (show s.size - k = s.size - (k + 1) + 1 by omega)
        have Hg := Lib.hid (byteAt_get s k hlt2)
        go_wp2
        go_round
        case rel => exact ⟨k, by omega, by go_num, by rw [Hg.out, wrap_byte s k, Hd.out]; exact congrArg _ Hst.out⟩
        case measure => simp [intOf]
  · go_enter Try.func25, Try.ntmps25
    go_wp2
    go_loop [3, 5] (fun v i => ∃ k : Nat, k ≤ 8 ∧ i = .int .i64 ((k : Int) - 1) ∧ v = .int .u64 (hN s k (8 - k))) (fun _ i => (intOf i + 1).toNat)
    case atStart => exact ⟨8, by omega, by first | rfl | go_num, by rw [Nat.sub_self]; rfl⟩
    case round =>
      obtain ⟨k, hk, rfl, rfl⟩ := hrel
      rcases k with _ | k
      · have e0 := Lib.hid (show hN s 0 (8 - 0) = ofF s from by rw [hN0]; unfold ofF; congr 1; omega)
        go_wp2
        go_ret
        exact ⟨ret_u64 e0.out, rfl⟩
      · have hlt2 : k < s.size := by omega
        have Hst := Lib.hid (hN_step s k (7 - k) (by omega))
        have Hd := Lib.hid (show 8 - k = 7 - k + 1 by omega)
        have Hg := Lib.hid (byteAt_get s k hlt2)
        go_wp2
        go_round
        case rel => exact ⟨k, by omega, by go_num, by rw [Hg.out, wrap_byte s k, Hd.out]; exact congrArg _ Hst.out⟩
        case measure => simp [intOf]
end Go.Proofs.Ytempdcbgbaglaaa.W
