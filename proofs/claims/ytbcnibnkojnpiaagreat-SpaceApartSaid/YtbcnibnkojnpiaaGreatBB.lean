/- Bytes of words, there and back. No condition. -/
import Derived.Test.YtbcnibnkojnpiaaGreatB
set_option linter.unusedVariables false
namespace Go.Proofs.YtbcnibnkojnpiaaGreat.W
open Go.RowKit
theorem byte_of (xs : List Int) (i : Nat) (h : 0 ≤ xs.getD i 0 ∧ xs.getD i 0 < 256) : byteAt (strOfNums xs) i = xs.getD i 0 := by
  unfold byteAt strOfNums
  have e : (xs.map fun n => UInt8.ofNat n.toNat).toArray.getD i 0 = UInt8.ofNat (xs.getD i 0).toNat := by
    by_cases hi : i < xs.length
    · simp [Array.getD_eq_getD_getElem?, List.getD_eq_getElem?_getD, hi]
    · simp [Array.getD_eq_getD_getElem?, List.getD_eq_getElem?_getD, hi]
  rw [e]
  generalize xs.getD i 0 = x at *
  have : (UInt8.ofNat x.toNat).toNat = x.toNat % 256 := by simp
  rw [this]; omega
theorem dig_bd (v : Int) (n i : Nat) : 0 ≤ ((digits v).take n).getD i 0 ∧ ((digits v).take n).getD i 0 < 256 := by
  have key : ∀ x ∈ (digits v).take n, 0 ≤ x ∧ x < 256 := by
    intro x hx
    have hx := List.mem_of_mem_take hx
    simp only [digits, List.mem_cons, List.not_mem_nil, or_false] at hx
    rcases hx with rfl | rfl | rfl | rfl | rfl | rfl | rfl | rfl <;> omega
  generalize (digits v).take n = l at *
  by_cases hi : i < l.length
  · have e : l.getD i 0 = l[i] := by simp [List.getD_eq_getElem?_getD, hi]
    rw [e]; exact key _ (List.getElem_mem hi)
  · have e : l.getD i 0 = 0 := by rw [List.getD_eq_getElem?_getD, List.getElem?_eq_none (by omega)]; rfl
    rw [e]; exact ⟨by decide, by decide⟩
theorem byte_dig (v : Int) (n i : Nat) : byteAt (strOfNums ((digits v).take n)) i = ((digits v).take n).getD i 0 := byte_of _ _ (dig_bd v n i)
theorem ofN_cut (v : Int) (n : Nat) (hn : n ≤ 8) (hv : word v) : ofN (strOfNums ((digits v).take n)) n = lowF v (8 * n) := by
  obtain ⟨v1, v2⟩ := hv
  have hs : n = 0 ∨ n = 1 ∨ n = 2 ∨ n = 3 ∨ n = 4 ∨ n = 5 ∨ n = 6 ∨ n = 7 ∨ n = 8 := by omega
  rcases hs with rfl | rfl | rfl | rfl | rfl | rfl | rfl | rfl | rfl
  all_goals
    simp only [ofN, byte_dig]
    simp [digits, lowF]
    try omega
theorem size_cut (v : Int) (n : Nat) (hn : n ≤ 8) : (strOfNums ((digits v).take n)).size = n := by
  rw [strOfNums_size, List.length_take]; simp [digits]; omega
theorem of_bytes (v size : Int) (hv : word v) : ofF (bytesF v size) = lowF v (8 * clampN size) := by
  have hn : clampN size ≤ 8 := by unfold clampN; omega
  unfold ofF bytesF
  rw [size_cut v _ hn, Nat.min_eq_left hn, ofN_cut v _ hn hv]
theorem bytes_size (v size : Int) : (bytesF v size).size = clampN size := size_cut v _ (by unfold clampN; omega)
end Go.Proofs.YtbcnibnkojnpiaaGreat.W
