/- Stage 13: what the calls of package pipe answer, and their contracts. -/
import Derived.Test.YtplkijpllibpfaaG
import Derived.Handy
import Derived.Lib.Hide
import Derived.BigQuiet
import Derived.BigRegion
import Derived.ChangeAlike
import Derived.Deep.Draws
set_option linter.unusedVariables false
namespace Go.Proofs.Ytplkijpllibpfaa.P
open Go.RowKit
def nF (b s : ByteArray) : Nat := min s.size (64 - b.size)
def wE (b : ByteArray) (r : Int) (s : ByteArray) : Int := if r < 1 then 18 else if nF b s = 0 ∧ s.size ≠ 0 then 12 else 0
def wN (b : ByteArray) (r : Int) (s : ByteArray) : Int := if wE b r s = 0 then nF b s else 0
def wB (b : ByteArray) (r : Int) (s : ByteArray) : ByteArray := if r < 1 then ⟨#[]⟩ else if wE b r s = 0 then b ++ s.extract 0 (nF b s) else b
def wR (r x : Int) : Int := if r < 1 then 0 else x
def wV (b : ByteArray) (r x : Int) (s : ByteArray) : Value :=
  .tuple #[.agg #[.string (wB b r s), .int .i64 (wR r r), .int .i64 (wR r x)], .int .i64 (wN b r s), .int .i64 (wE b r s)]

theorem c_within_w (b s : ByteArray) (m : Int) (hm : m = max (64 - (b.size : Int)) 0) (w : World) : Calls Try.prog 14 #[.int .i64 (s.size : Int), .int .i64 0, .int .i64 m] w fun e w' => e = .returned (.int .i64 (nF b s : Int)) ∧ w' = w := by
  go_enter Try.func14, Try.ntmps14
  go_wp2
  all_goals
    go_ret
    exact ⟨ret_i (by unfold nF; omega), rfl⟩
theorem c_within (a l h : Int) (w : World) : Calls Try.prog 14 #[.int .i64 a, .int .i64 l, .int .i64 h] w fun e w' => e = .returned (.int .i64 (max l (min a h))) ∧ w' = w := by
  go_enter Try.func14, Try.ntmps14
  go_wp2
  all_goals
    go_ret
    exact ⟨ret_i (by omega), rfl⟩
theorem size_nil (s : ByteArray) (h : s.toList = []) : s.size = 0 := by
  have : s.toList.length = s.size := by rw [ByteArray.toList_eq]; exact Array.length_toList
  rw [← this, h]; rfl
theorem toList_nil (s : ByteArray) (h : s.size = 0) : s.toList = [] := by
  have : s.toList.length = s.size := by rw [ByteArray.toList_eq]; exact Array.length_toList
  exact List.length_eq_zero_iff.1 (this.trans h)
theorem wV_ok (b : ByteArray) (r x : Int) (s : ByteArray) (hr : ¬ r < 1) (h : ¬ (nF b s = 0 ∧ s.size ≠ 0)) :
    wV b r x s = .tuple #[.agg #[.string (b ++ s.extract 0 (nF b s)), .int .i64 r, .int .i64 x], .int .i64 (nF b s), .int .i64 0] := by
  have e : wE b r s = 0 := by unfold wE; rw [if_neg hr, if_neg h]
  unfold wV wB wR wN; rw [e, if_neg hr, if_neg hr, if_neg hr]; rfl
theorem wV_busy (b : ByteArray) (r x : Int) (s : ByteArray) (hr : ¬ r < 1) (h : nF b s = 0 ∧ s.size ≠ 0) :
    wV b r x s = .tuple #[.agg #[.string b, .int .i64 r, .int .i64 x], .int .i64 0, .int .i64 12] := by
  have e : wE b r s = 12 := by unfold wE; rw [if_neg hr, if_pos h]
  unfold wV wB wR wN; rw [e, if_neg hr, if_neg hr, if_neg hr]; rfl
set_option maxHeartbeats 800000 in
theorem c_write2 (b : ByteArray) (r x : Int) (s : ByteArray) (hb : b.size ≤ maxLen) (hs : s.size ≤ 2 * maxLen) (w : World) :
    Calls Try.prog 8 #[.agg #[.string b, .int .i64 r, .int .i64 x], .string s] w fun e w' => e = .returned (wV b r x s) ∧ Gr w w' := by
  unfold maxLen at hb hs
  by_cases hr : r < 1
  · have e1 : wV b r x s = .tuple #[.agg #[.string ⟨#[]⟩, .int .i64 0, .int .i64 0], .int .i64 0, .int .i64 18] := by
      have h : wE b r s = 18 := by unfold wE; rw [if_pos hr]
      unfold wV wB wR wN; rw [h, if_pos hr, if_pos hr, if_pos hr]; rfl
    have E1 := Lib.hid e1
    clear e1
    go_enter Try.func8, Try.ntmps8
    go_wp2
    go_returns
    refine ⟨by rw [E1.out], by go_grown⟩
  · by_cases hn : nF b s = 0
    · have hn' : ((nF b s : Int) == 0) = true := by rw [hn]; rfl
      by_cases hs0 : s.toList = []
      · have hz : s.size = 0 := size_nil s hs0
        have hsn : (!s.toList.isEmpty) = false := by rw [hs0]; rfl
        have E1 := Lib.hid (wV_ok b r x s hr (fun h => h.2 hz))
        have Hn := Lib.hid hn
        have hx : (0 : Int) ≤ (nF b s : Int) := by omega
        have hn1 : nF b s ≤ s.size := by unfold nF; omega
        have hn2 : b.size + s.size ≤ 9223372036854775807 := by omega
        clear hn hs0
        have hz2 := Lib.hid hz
        clear hz
        go_enter Try.func8, Try.ntmps8
        go_wp2_with (go_at_call 14; refine (c_within_w b s _ (by omega) _).mono ?_; rintro e w' ⟨rfl, rfl⟩)
        all_goals
          go_region
          go_wp2
          go_returns
          exact ⟨by rw [E1.out], by go_grown⟩
      · have hz : s.size ≠ 0 := fun h => hs0 (toList_nil s h)
        have hsn : (!s.toList.isEmpty) = true := by simpa using hs0
        have E1 := Lib.hid (wV_busy b r x s hr ⟨hn, hz⟩)
        clear hn hs0 hz
        go_enter Try.func8, Try.ntmps8
        go_wp2_with (go_at_call 14; refine (c_within_w b s _ (by omega) _).mono ?_; rintro e w' ⟨rfl, rfl⟩)
        all_goals
          go_returns
          exact ⟨by rw [E1.out], by go_grown⟩
    · have hn' : ((nF b s : Int) == 0) = false := by simpa using hn
      have hn1 : nF b s ≤ s.size := by unfold nF; omega
      have hn2 : b.size + nF b s ≤ 64 := by unfold nF at *; omega
      have E1 := Lib.hid (wV_ok b r x s hr (fun h => hn h.1))
      clear hn
      go_enter Try.func8, Try.ntmps8
      go_wp2_with (go_at_call 14; refine (c_within_w b s _ (by omega) _).mono ?_; rintro e w' ⟨rfl, rfl⟩)
      all_goals
        go_region
        go_wp2
        go_returns
        exact ⟨by rw [E1.out], by go_grown⟩
theorem c_write (b : ByteArray) (r x : Int) (s : ByteArray) (hb : b.size ≤ maxLen) (hs : s.size ≤ maxLen) (w : World) :
    Calls Try.prog 8 #[.agg #[.string b, .int .i64 r, .int .i64 x], .string s] w fun e w' => e = .returned (wV b r x s) ∧ Gr w w' := c_write2 b r x s hb (by unfold maxLen at *; omega) w
set_option maxHeartbeats 800000 in
theorem c_rwrite (b : ByteArray) (r x : Int) (s : ByteArray) (hb : b.size ≤ maxLen) (hs : s.size ≤ maxLen) (w : World) :
    Calls Try.prog 9 #[.agg #[.string b, .int .i64 r, .int .i64 x], .string s] w fun e w' => e = .returned (wV b r x s) ∧ Gr w w' := by
  unfold maxLen at hb hs
  by_cases hr : r < 1
  · have e1 : wV b r x s = .tuple #[.agg #[.string ⟨#[]⟩, .int .i64 0, .int .i64 0], .int .i64 0, .int .i64 18] := by
      have h : wE b r s = 18 := by unfold wE; rw [if_pos hr]
      unfold wV wB wR wN; rw [h, if_pos hr, if_pos hr, if_pos hr]; rfl
    have E1 := Lib.hid e1
    clear e1
    go_enter Try.func9, Try.ntmps9
    go_wp2
    go_returns
    refine ⟨by rw [E1.out], by go_grown⟩
  · go_enter Try.func9, Try.ntmps9
    go_wp2
    go_loop [7] (fun v => ∃ k : Nat, k ≤ nF b s ∧ v = .int .i64 k) (fun v => nF b s - (intOf v).toNat)
    case atStart => exact ⟨0, Nat.zero_le _, rfl⟩
    case round =>
      obtain ⟨k, hk, rfl⟩ := hrel
      by_cases hlt : k < nF b s
      · have h1 : k < s.size := by unfold nF at hlt; omega
        have h2 : b.size + k < 64 := by unfold nF at hlt; omega
        go_wp2
        go_round
        case rel => exact ⟨k + 1, by omega, by go_num⟩
        case measure => simp [intOf]; omega
      · have hd : (s.size ≤ k) ∨ (k < s.size ∧ 64 ≤ b.size + k) := by unfold nF at hlt; omega
        obtain rfl : k = nF b s := by omega
        have hn1 : nF b s ≤ s.size := by unfold nF; omega
        clear hlt hk
        by_cases hn : nF b s = 0
        · have hn' : ((nF b s : Int) == 0) = true := by rw [hn]; rfl
          by_cases hs0 : s.toList = []
          · have hz : s.size = 0 := size_nil s hs0
            have hsn : (!s.toList.isEmpty) = false := by rw [hs0]; rfl
            have E1 := Lib.hid (wV_ok b r x s (by omega) (fun h => h.2 hz))
            have hn2 : b.size + s.size ≤ 9223372036854775807 := by omega
            clear hn hs0 hz
            rcases hd with hd | ⟨hd1, hd2⟩
            all_goals
              go_wp2
              go_region
              go_wp2
              go_returns
              exact ⟨by rw [E1.out], by go_grown⟩
          · have hz : s.size ≠ 0 := fun h => hs0 (toList_nil s h)
            have hsn : (!s.toList.isEmpty) = true := by simpa using hs0
            have E1 := Lib.hid (wV_busy b r x s (by omega) ⟨hn, hz⟩)
            obtain ⟨hd1, hd2⟩ : nF b s < s.size ∧ 64 ≤ b.size + nF b s := by omega
            have hd3 : b.size + nF b s ≤ 9223372036854775807 := by omega
            clear hn hs0 hz hd
            go_wp2
            go_returns
            exact ⟨by rw [E1.out], by go_grown⟩
        · have hn' : ((nF b s : Int) == 0) = false := by simpa using hn
          have hn2 : b.size + nF b s ≤ 64 := by unfold nF at *; omega
          have E1 := Lib.hid (wV_ok b r x s (by omega) (fun h => hn h.1))
          clear hn
          rcases hd with hd | ⟨hd1, hd2⟩
          all_goals
            go_wp2
            go_region
            go_wp2
            go_returns
            exact ⟨by rw [E1.out], by go_grown⟩
/-! ### Read -/
def rk (b : ByteArray) (m : Int) : Nat := min m.toNat b.size
def rE (b : ByteArray) (x m : Int) : Int := if m < 0 then 1 else if 0 < m ∧ b.size = 0 ∧ 1 ≤ x then 12 else 0
def rB (b : ByteArray) (x m : Int) : ByteArray := if m < 0 then ⟨#[]⟩ else if rE b x m = 0 then b.extract (rk b m) b.size else b
def rS (b : ByteArray) (x m : Int) : ByteArray := if rE b x m = 0 then b.extract 0 (rk b m) else ⟨#[]⟩
def rR (m y : Int) : Int := if m < 0 then 0 else y
def rV (b : ByteArray) (r x m : Int) : Value :=
  .tuple #[.agg #[.string (rB b x m), .int .i64 (rR m r), .int .i64 (rR m x)], .string (rS b x m), .int .i64 (rE b x m)]
theorem rV_arg (b : ByteArray) (r x m : Int) (h : m < 0) : rV b r x m = .tuple #[.agg #[.string ⟨#[]⟩, .int .i64 0, .int .i64 0], .string ⟨#[]⟩, .int .i64 1] := by
  have e : rE b x m = 1 := by unfold rE; rw [if_pos h]
  unfold rV rB rS rR; rw [e, if_pos h, if_pos h, if_pos h]; rfl
theorem rV_busy (b : ByteArray) (r x m : Int) (h : ¬ m < 0) (h2 : 0 < m ∧ b.size = 0 ∧ 1 ≤ x) : rV b r x m = .tuple #[.agg #[.string b, .int .i64 r, .int .i64 x], .string ⟨#[]⟩, .int .i64 12] := by
  have e : rE b x m = 12 := by unfold rE; rw [if_neg h, if_pos h2]
  unfold rV rB rS rR; rw [e, if_neg h, if_neg h, if_neg h]; rfl
theorem rV_ok (b : ByteArray) (r x m : Int) (h : ¬ m < 0) (h2 : ¬ (0 < m ∧ b.size = 0 ∧ 1 ≤ x)) : rV b r x m = .tuple #[.agg #[.string (b.extract (rk b m) b.size), .int .i64 r, .int .i64 x], .string (b.extract 0 (rk b m)), .int .i64 0] := by
  have e : rE b x m = 0 := by unfold rE; rw [if_neg h, if_neg h2]
  unfold rV rB rS rR; rw [e, if_neg h, if_neg h, if_neg h]; rfl
theorem c_within_r (b : ByteArray) (m : Int) (hm : 0 ≤ m) (w : World) : Calls Try.prog 14 #[.int .i64 m, .int .i64 0, .int .i64 (b.size : Int)] w fun e w' => e = .returned (.int .i64 (rk b m : Int)) ∧ w' = w := by
  go_enter Try.func14, Try.ntmps14
  go_wp2
  all_goals
    go_ret
    exact ⟨ret_i (by unfold rk; omega), rfl⟩
set_option maxHeartbeats 800000 in
theorem c_read (b : ByteArray) (r x m : Int) (hb : b.size ≤ maxLen) (w : World) :
    Calls Try.prog 10 #[.agg #[.string b, .int .i64 r, .int .i64 x], .int .i64 m] w fun e w' => e = .returned (rV b r x m) ∧ Gr w w' := by
  unfold maxLen at hb
  by_cases hm : m < 0
  · have E1 := Lib.hid (rV_arg b r x m hm)
    go_enter Try.func10, Try.ntmps10
    go_wp2
    go_returns
    exact ⟨by rw [E1.out], by go_grown⟩
  · by_cases hbz : b.toList = []
    · have hz : b.size = 0 := size_nil b hbz
      have hsn : b.toList.isEmpty = true := by rw [hbz]; rfl
      by_cases hq : 0 < m ∧ 1 ≤ x
      · have E1 := Lib.hid (rV_busy b r x m hm ⟨hq.1, hz, hq.2⟩)
        obtain ⟨q1, q2⟩ := hq
        clear hbz hz
        go_enter Try.func10, Try.ntmps10
        go_wp2
        go_returns
        exact ⟨by rw [E1.out], by go_grown⟩
      · have E1 := Lib.hid (rV_ok b r x m hm (fun h => hq ⟨h.1, h.2.2⟩))
        have hk : rk b m ≤ b.size := by unfold rk; omega
        have hs : m = 0 ∨ (0 < m ∧ x < 1) := by omega
        clear hbz hz hq
        rcases hs with rfl | ⟨q1, q2⟩
        all_goals
          go_enter Try.func10, Try.ntmps10
          go_wp2_with (go_at_call 14; refine (c_within_r b _ (by omega) _).mono ?_; rintro e w' ⟨rfl, rfl⟩)
          go_returns
          exact ⟨by rw [E1.out], by go_grown⟩
    · have hz : b.size ≠ 0 := fun h => hbz (toList_nil b h)
      have hsn : b.toList.isEmpty = false := by simpa using hbz
      have E1 := Lib.hid (rV_ok b r x m hm (fun h => hz h.2.1))
      have hk : rk b m ≤ b.size := by unfold rk; omega
      have hs : m = 0 ∨ 0 < m := by omega
      clear hbz hz
      rcases hs with rfl | q1
      all_goals
        go_enter Try.func10, Try.ntmps10
        go_wp2_with (go_at_call 14; refine (c_within_r b _ (by omega) _).mono ?_; rintro e w' ⟨rfl, rfl⟩)
        go_returns
        exact ⟨by rw [E1.out], by go_grown⟩
set_option maxHeartbeats 800000 in
theorem c_rread (b : ByteArray) (r x m : Int) (hb : b.size ≤ maxLen) (w : World) :
    Calls Try.prog 11 #[.agg #[.string b, .int .i64 r, .int .i64 x], .int .i64 m] w fun e w' => e = .returned (rV b r x m) ∧ Gr w w' := by
  unfold maxLen at hb
  by_cases hm : m < 0
  · have E1 := Lib.hid (rV_arg b r x m hm)
    go_enter Try.func11, Try.ntmps11
    go_wp2
    go_returns
    exact ⟨by rw [E1.out], by go_grown⟩
  · by_cases hq : 0 < m ∧ b.toList = [] ∧ 1 ≤ x
    · obtain ⟨q1, hbz, q2⟩ := hq
      have hz : b.size = 0 := size_nil b hbz
      have hsn : b.toList.isEmpty = true := by rw [hbz]; rfl
      have E1 := Lib.hid (rV_busy b r x m hm ⟨q1, hz, q2⟩)
      clear hbz hz
      go_enter Try.func11, Try.ntmps11
      go_wp2
      go_returns
      exact ⟨by rw [E1.out], by go_grown⟩
    · have E1 := Lib.hid (rV_ok b r x m hm (fun h => hq ⟨h.1, toList_nil b h.2.1, h.2.2⟩))
      have hk : rk b m ≤ b.size := by unfold rk; omega
      have hs : m = 0 ∨ (0 < m ∧ b.toList = [] ∧ x < 1) ∨ (0 < m ∧ ¬ b.toList = []) := by
        by_cases h1 : b.toList = []
        · have : ¬ (0 < m ∧ 1 ≤ x) := fun h => hq ⟨h.1, h1, h.2⟩
          rcases Int.lt_or_le x 1 with h2 | h2
          · rcases Int.lt_or_le 0 m with h3 | h3
            · exact .inr (.inl ⟨h3, h1, h2⟩)
            · exact .inl (by omega)
          · exact .inl (by omega)
        · rcases Int.lt_or_le 0 m with h3 | h3
          · exact .inr (.inr ⟨h3, h1⟩)
          · exact .inl (by omega)
      clear hq
      rcases hs with rfl | ⟨q1, hbz, q2⟩ | ⟨q1, hbz⟩
      · go_enter Try.func11, Try.ntmps11
        go_wp2
        go_loop [7] (fun v => ∃ k : Nat, k ≤ rk b 0 ∧ v = .int .i64 k) (fun v => rk b 0 - (intOf v).toNat)
        case atStart => exact ⟨0, Nat.zero_le _, rfl⟩
        case round =>
          obtain ⟨k, hk', rfl⟩ := hrel
          by_cases hlt : k < rk b 0
          · exfalso; unfold rk at hlt; omega
          · have hd : (0 : Int) ≤ (k : Int) := by omega
            obtain rfl : k = rk b 0 := by omega
            clear hlt hk'
            go_wp2
            go_returns
            exact ⟨by rw [E1.out], by go_grown⟩
      · have hsn : b.toList.isEmpty = true := by rw [hbz]; rfl
        clear hbz
        go_enter Try.func11, Try.ntmps11
        go_wp2
        go_loop [7] (fun v => ∃ k : Nat, k ≤ rk b m ∧ v = .int .i64 k) (fun v => rk b m - (intOf v).toNat)
        case atStart => exact ⟨0, Nat.zero_le _, rfl⟩
        case round =>
          obtain ⟨k, hk', rfl⟩ := hrel
          by_cases hlt : k < rk b m
          · have h1 : (k : Int) < m := by unfold rk at hlt; omega
            have h2 : k < b.size := by unfold rk at hlt; omega
            go_wp2
            go_round
            case rel => exact ⟨k + 1, by omega, by go_num⟩
            case measure => simp [intOf]; omega
          · have hd : (m ≤ (k : Int)) ∨ ((k : Int) < m ∧ b.size ≤ k) := by unfold rk at hlt; omega
            obtain rfl : k = rk b m := by omega
            clear hlt hk'
            rcases hd with hd | ⟨hd1, hd2⟩
            all_goals
              go_wp2
              go_returns
              exact ⟨by rw [E1.out], by go_grown⟩
      · have hsn : b.toList.isEmpty = false := by simpa using hbz
        clear hbz
        go_enter Try.func11, Try.ntmps11
        go_wp2
        go_loop [7] (fun v => ∃ k : Nat, k ≤ rk b m ∧ v = .int .i64 k) (fun v => rk b m - (intOf v).toNat)
        case atStart => exact ⟨0, Nat.zero_le _, rfl⟩
        case round =>
          obtain ⟨k, hk', rfl⟩ := hrel
          by_cases hlt : k < rk b m
          · have h1 : (k : Int) < m := by unfold rk at hlt; omega
            have h2 : k < b.size := by unfold rk at hlt; omega
            go_wp2
            go_round
            case rel => exact ⟨k + 1, by omega, by go_num⟩
            case measure => simp [intOf]; omega
          · have hd : (m ≤ (k : Int)) ∨ ((k : Int) < m ∧ b.size ≤ k) := by unfold rk at hlt; omega
            obtain rfl : k = rk b m := by omega
            clear hlt hk'
            rcases hd with hd | ⟨hd1, hd2⟩
            all_goals
              go_wp2
              go_returns
              exact ⟨by rw [E1.out], by go_grown⟩
end Go.Proofs.Ytplkijpllibpfaa.P
