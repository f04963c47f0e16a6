/- Stage 1: the walks of WordNarrow, WordBytes. -/
import Derived.Test.YtempdcbgbaglaaaW20
set_option linter.unusedVariables false
namespace Go.Proofs.Ytempdcbgbaglaaa.W
open Go.RowKit
theorem low_low (a n : Int) : lowF (lowF a n) n = lowF a n := by
  by_cases h : n ≤ 0 ∨ 64 ≤ n
  · exact low_full a n h
  · rw [low_mid a n (by omega) (by omega), low_mid _ n (by omega) (by omega), Int.emod_emod]
theorem sgn_low (a n : Int) : sgnF (lowF a n) n = sgnF a n := by
  by_cases h : n ≤ 0 ∨ 64 ≤ n
  · rw [sgn_full _ n h, sgn_full _ n h, low_full a n h]
  · rw [sgn_mid a n (by omega) (by omega), sgn_mid _ n (by omega) (by omega), low_low]
theorem take_low (op a : Int) : takeF op (lowF a 32) = takeF op a := by unfold takeF; rw [low_low, sgn_low]
theorem take_sgn (op a : Int) : takeF op (sgnF a 32) = takeF op a := by unfold takeF; rw [low_sgn, sgn_sgn]
theorem takeB_sgn (op b : Int) : takeB op (sgnF b 32) = takeB op b := by
  unfold takeB; rw [take_sgn]
  have e : sgnF b 32 % 32 = b % 32 := by
    unfold sgnF; rw [if_neg (by decide), if_neg (by decide), show (2 : Int) ^ (32 : Int).toNat = 4294967296 from rfl]
    split <;> omega
  rw [e]
theorem nar_eq (op a b : Int) (h : isNarrow op = true) : reckV op (lowF a 32) (sgnF b 32) = reckV op a b := by
  have h2 : isWide op = false := by
    unfold isNarrow at h; unfold isWide; have := of_decide_eq_true h; simp; omega
  unfold reckV; simp only [h2, h, Bool.false_eq_true, ↓reduceIte]; rw [take_low, takeB_sgn]
theorem nar_sgn (op a b : Int) (h : isNarrow op = true) : sgnF (reckV op a b) 32 = reckV op a b := by
  have h2 : isWide op = false := by
    unfold isNarrow at h; unfold isWide; have := of_decide_eq_true h; simp; omega
  unfold reckV; simp only [h2, h, Bool.false_eq_true, ↓reduceIte]; rw [sgn_sgn]
set_option maxHeartbeats 1600000 in
theorem l_narrow (op a b : Int) (ha : word a) (hb : word b) (w : World) :
    Calls Try.prog 9 #[.int .i64 op, .int .u64 a, .int .u64 b] w fun e w' => e = .returned (.bool true) ∧ Gr w w' := by
  have HA := Lib.hid ha
  have HB := Lib.hid hb
  have HL := Lib.hid (low_word a 32 ha)
  have HS := Lib.hid (sgn_word b 32 hb)
  by_cases hn : isNarrow op = true
  · have E1 := Lib.hid (nar_eq op a b hn)
    have E2 := Lib.hid (nar_sgn op a b hn)
    have HR := Lib.hid (reck_word op a b ha hb)
    have EB := Lib.hid (show reckB op = true by unfold reckB; rw [hn, Bool.or_true])
    have hs : (45 ≤ op ∧ op ≤ 49) ∨ (58 ≤ op ∧ op ≤ 62) := by unfold isNarrow at hn; exact of_decide_eq_true hn
    clear ha hb hn
    rcases hs with ⟨h1, h2⟩ | ⟨h1, h2⟩
    · have q1 : decide (45 ≤ op) = true := by simpa using h1
      have q2 : decide (op ≤ 49) = true := by simpa using h2
      go_enter Try.func9, Try.ntmps9
      go_wp2_with fail
      refine (c_shown _).mono ?_; rintro e w1 ⟨rfl, g1⟩
      go_wp2_with fail
      refine (c_reckon _ _ _ HA.out HB.out _).mono ?_; rintro e w2 ⟨rfl, g2⟩
      rw [EB.out]
      go_wp2_with fail
      refine (c_low _ _ HA.out _).mono ?_; rintro e w3 ⟨rfl, rfl⟩
      go_wp2_with fail
      refine (c_sign _ _ HB.out _).mono ?_; rintro e w4 ⟨rfl, rfl⟩
      go_wp2_with fail
      refine (c_reckon _ _ _ HL.out HS.out _).mono ?_; rintro e w5 ⟨rfl, g5⟩
      rw [EB.out, E1.out]
      go_wp2_with fail
      refine (c_sign _ _ HR.out _).mono ?_; rintro e w6 ⟨rfl, rfl⟩
      rw [E2.out]
      go_wp2_with fail
      go_ret
      exact ⟨ret_b (by simp), gtrans (gtrans g1 g2) g5⟩
    · have q1 : decide (op ≤ 49) = false := by simp; omega
      have q2 : decide (58 ≤ op) = true := by simpa using h1
      have q3 : decide (op ≤ 62) = true := by simpa using h2
      have q4 : decide (45 ≤ op) = true := by simp; omega
      go_enter Try.func9, Try.ntmps9
      go_wp2_with fail
      refine (c_shown _).mono ?_; rintro e w1 ⟨rfl, g1⟩
      go_wp2_with fail
      refine (c_reckon _ _ _ HA.out HB.out _).mono ?_; rintro e w2 ⟨rfl, g2⟩
      rw [EB.out]
      go_wp2_with fail
      refine (c_low _ _ HA.out _).mono ?_; rintro e w3 ⟨rfl, rfl⟩
      go_wp2_with fail
      refine (c_sign _ _ HB.out _).mono ?_; rintro e w4 ⟨rfl, rfl⟩
      go_wp2_with fail
      refine (c_reckon _ _ _ HL.out HS.out _).mono ?_; rintro e w5 ⟨rfl, g5⟩
      rw [EB.out, E1.out]
      go_wp2_with fail
      refine (c_sign _ _ HR.out _).mono ?_; rintro e w6 ⟨rfl, rfl⟩
      rw [E2.out]
      go_wp2_with fail
      go_ret
      exact ⟨ret_b (by simp), gtrans (gtrans g1 g2) g5⟩
  · have hs : op < 45 ∨ (49 < op ∧ op < 58) ∨ 62 < op := by unfold isNarrow at hn; simp at hn; omega
    clear ha hb hn
    rcases hs with h | ⟨h1, h2⟩ | h
    · have q1 : decide (45 ≤ op) = false := by simp; omega
      have q2 : decide (58 ≤ op) = false := by simp; omega
      go_enter Try.func9, Try.ntmps9
      go_wp2_with (go_at_call 13; refine (c_shown _).mono ?_; rintro e w1 ⟨rfl, g1⟩)
      go_ret
      exact ⟨rfl, g1⟩
    · have q1 : decide (op ≤ 49) = false := by simp; omega
      have q2 : decide (58 ≤ op) = false := by simp; omega
      have q4 : decide (45 ≤ op) = true := by simp; omega
      go_enter Try.func9, Try.ntmps9
      go_wp2_with (go_at_call 13; refine (c_shown _).mono ?_; rintro e w1 ⟨rfl, g1⟩)
      go_ret
      exact ⟨rfl, g1⟩
    · have q1 : decide (op ≤ 49) = false := by simp; omega
      have q2 : decide (58 ≤ op) = true := by simp; omega
      have q3 : decide (op ≤ 62) = false := by simp; omega
      have q4 : decide (45 ≤ op) = true := by simp; omega
      go_enter Try.func9, Try.ntmps9
      go_wp2_with (go_at_call 13; refine (c_shown _).mono ?_; rintro e w1 ⟨rfl, g1⟩)
      go_ret
      exact ⟨rfl, g1⟩
/-! ### WordBytes -/
theorem byte_of (xs : List Int) (i : Nat) (h : 0 ≤ xs.getD i 0 ∧ xs.getD i 0 < 256) : byteAt (strOfNums xs) i = xs.getD i 0 := by
  unfold byteAt strOfNums
  have e : (xs.map fun n => UInt8.ofNat n.toNat).toArray.getD i 0 = UInt8.ofNat (xs.getD i 0).toNat := by
    by_cases hi : i < xs.length
    · simp [Array.getD_eq_getD_getElem?, List.getD_eq_getElem?_getD, hi]
    · simp [Array.getD_eq_getD_getElem?, List.getD_eq_getElem?_getD, hi]
  rw [e]
  generalize xs.getD i 0 = x at *
  have : (UInt8.ofNat x.toNat).toNat = x.toNat % 256 := by simp
  rw [this]; omega
theorem dig_bd (v : Int) (n i : Nat) : 0 ≤ ((digits v).take n).getD i 0 ∧ ((digits v).take n).getD i 0 < 256 := by
  have key : ∀ x ∈ (digits v).take n, 0 ≤ x ∧ x < 256 := by
    intro x hx
    have hx := List.mem_of_mem_take hx
    simp only [digits, List.mem_cons, List.not_mem_nil, or_false] at hx
    rcases hx with rfl | rfl | rfl | rfl | rfl | rfl | rfl | rfl <;> omega
  generalize (digits v).take n = l at *
  by_cases hi : i < l.length
  · have e : l.getD i 0 = l[i] := by simp [List.getD_eq_getElem?_getD, hi]
    rw [e]; exact key _ (List.getElem_mem hi)
  · have e : l.getD i 0 = 0 := by rw [List.getD_eq_getElem?_getD, List.getElem?_eq_none (by omega)]; rfl
    rw [e]; exact ⟨by decide, by decide⟩
theorem byte_dig (v : Int) (n i : Nat) : byteAt (strOfNums ((digits v).take n)) i = ((digits v).take n).getD i 0 := byte_of _ _ (dig_bd v n i)
theorem ofN_cut (v : Int) (n : Nat) (hn : n ≤ 8) (hv : word v) : ofN (strOfNums ((digits v).take n)) n = lowF v (8 * n) := by
  obtain ⟨v1, v2⟩ := hv
  have hs : n = 0 ∨ n = 1 ∨ n = 2 ∨ n = 3 ∨ n = 4 ∨ n = 5 ∨ n = 6 ∨ n = 7 ∨ n = 8 := by omega
  rcases hs with rfl | rfl | rfl | rfl | rfl | rfl | rfl | rfl | rfl
  all_goals
    simp only [ofN, byte_dig]
    simp [digits, lowF]
    try omega
theorem size_cut (v : Int) (n : Nat) (hn : n ≤ 8) : (strOfNums ((digits v).take n)).size = n := by
  rw [strOfNums_size, List.length_take]; simp [digits]; omega
theorem of_bytes (v size : Int) (hv : word v) : ofF (bytesF v size) = lowF v (8 * clampN size) := by
  have hn : clampN size ≤ 8 := by unfold clampN; omega
  unfold ofF bytesF
  rw [size_cut v _ hn, Nat.min_eq_left hn, ofN_cut v _ hn hv]
theorem bytes_size (v size : Int) : (bytesF v size).size = clampN size := size_cut v _ (by unfold clampN; omega)
set_option maxHeartbeats 1600000 in
theorem l_bytes (v size : Int) (str : ByteArray) (hv : word v) (hstr : str.size ≤ maxLen) (w : World) :
    Calls Try.prog 6 #[.int .u64 v, .int .i64 size, .string str] w fun e w' => e = .returned (.bool true) ∧ Gr w w' := by
  have HV := Lib.hid hv
  have HS := Lib.hid hstr
  clear hstr
  have hs : size < 0 ∨ (0 ≤ size ∧ size ≤ 8) ∨ 8 < size := by omega
  rcases hs with hs | ⟨hs, hs2⟩ | hs
  · have EC : (clampN size : Int) = 0 := by unfold clampN; omega
    have E1 := Lib.hid (show ofF (bytesF v size) = lowF v 0 from by rw [of_bytes v size hv, EC]; rfl)
    have E2 := Lib.hid (show ((bytesF v size).size : Int) = 0 from by rw [bytes_size, EC])
    have HB := Lib.hid (show (bytesF v size).size ≤ maxLen from by rw [bytes_size]; unfold clampN maxLen; omega)
    clear hv EC
    go_enter Try.func6, Try.ntmps6
    go_wp2_with fail
    refine (c_shown _).mono ?_; rintro e w1 ⟨rfl, g1⟩
    go_wp2_with fail
    refine (c_bytes _ _ HV.out _).mono ?_; rintro e w2 ⟨rfl, g2⟩
    go_wp2_with fail
    refine (c_of _ HS.out _).mono ?_; rintro e w3 ⟨rfl, rfl⟩
    go_wp2_with fail
    refine (c_of _ HB.out _).mono ?_; rintro e w4 ⟨rfl, rfl⟩
    rw [E1.out]
    go_wp2_with fail
    refine (c_rbytes _ _ HV.out _).mono ?_; rintro e w5 ⟨rfl, g5⟩
    go_wp2_with fail
    refine (c_rof _ HS.out _).mono ?_; rintro e w6 ⟨rfl, rfl⟩
    go_wp2_with fail
    refine (c_low _ _ HV.out _).mono ?_; rintro e w7 ⟨rfl, rfl⟩
    have e2 := E2.out
    go_wp2_with fail
    go_ret
    exact ⟨ret_b (by simp), gtrans (gtrans g1 g2) g5⟩
  · have EC : (clampN size : Int) = size := by unfold clampN; omega
    have E1 := Lib.hid (show ofF (bytesF v size) = lowF v (8 * size) from by rw [of_bytes v size hv, EC])
    have E2 := Lib.hid (show ((bytesF v size).size : Int) = size from by rw [bytes_size, EC])
    have HB := Lib.hid (show (bytesF v size).size ≤ maxLen from by rw [bytes_size]; unfold clampN maxLen; omega)
    clear hv EC
    go_enter Try.func6, Try.ntmps6
    go_wp2_with fail
    refine (c_shown _).mono ?_; rintro e w1 ⟨rfl, g1⟩
    go_wp2_with fail
    refine (c_bytes _ _ HV.out _).mono ?_; rintro e w2 ⟨rfl, g2⟩
    go_wp2_with fail
    refine (c_of _ HS.out _).mono ?_; rintro e w3 ⟨rfl, rfl⟩
    go_wp2_with fail
    refine (c_of _ HB.out _).mono ?_; rintro e w4 ⟨rfl, rfl⟩
    rw [E1.out]
    go_wp2_with fail
    refine (c_rbytes _ _ HV.out _).mono ?_; rintro e w5 ⟨rfl, g5⟩
    go_wp2_with fail
    refine (c_rof _ HS.out _).mono ?_; rintro e w6 ⟨rfl, rfl⟩
    go_wp2_with fail
    refine (c_low _ _ HV.out _).mono ?_; rintro e w7 ⟨rfl, rfl⟩
    have e2 := E2.out
    go_wp2_with fail
    go_ret
    exact ⟨ret_b (by simp), gtrans (gtrans g1 g2) g5⟩
  · have EC : (clampN size : Int) = 8 := by unfold clampN; omega
    have E1 := Lib.hid (show ofF (bytesF v size) = lowF v 64 from by rw [of_bytes v size hv, EC]; rfl)
    have E2 := Lib.hid (show ((bytesF v size).size : Int) = 8 from by rw [bytes_size, EC])
    have HB := Lib.hid (show (bytesF v size).size ≤ maxLen from by rw [bytes_size]; unfold clampN maxLen; omega)
    clear hv EC
    go_enter Try.func6, Try.ntmps6
    go_wp2_with fail
    refine (c_shown _).mono ?_; rintro e w1 ⟨rfl, g1⟩
    go_wp2_with fail
    refine (c_bytes _ _ HV.out _).mono ?_; rintro e w2 ⟨rfl, g2⟩
    go_wp2_with fail
    refine (c_of _ HS.out _).mono ?_; rintro e w3 ⟨rfl, rfl⟩
    go_wp2_with fail
    refine (c_of _ HB.out _).mono ?_; rintro e w4 ⟨rfl, rfl⟩
    rw [E1.out]
    go_wp2_with fail
    refine (c_rbytes _ _ HV.out _).mono ?_; rintro e w5 ⟨rfl, g5⟩
    go_wp2_with fail
    refine (c_rof _ HS.out _).mono ?_; rintro e w6 ⟨rfl, rfl⟩
    go_wp2_with fail
    refine (c_low _ _ HV.out _).mono ?_; rintro e w7 ⟨rfl, rfl⟩
    have e2 := E2.out
    go_wp2_with fail
    go_ret
    exact ⟨ret_b (by simp), gtrans (gtrans g1 g2) g5⟩
end Go.Proofs.Ytempdcbgbaglaaa.W
