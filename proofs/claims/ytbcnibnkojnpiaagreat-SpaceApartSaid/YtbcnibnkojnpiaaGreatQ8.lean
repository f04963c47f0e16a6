/- Stage 3: PhysNil, PhysWords. No condition. -/
import Derived.Test.YtbcnibnkojnpiaaGreatQ7
set_option linter.unusedVariables false
namespace Go.Proofs.YtbcnibnkojnpiaaGreat.P
open Go.RowKit Go.MuLone Go.Proofs.YtbcnibnkojnpiaaGreat.W
theorem byte_sub (s : List UInt8) (a n i : Nat) (hi : i < n) : byteAt (subB s a n) i = ((s.getD (a + i) 0).toNat : Int) := by
  have e : (subB s a n).data.getD i 0 = s.getD (a + i) 0 := by
    simp only [subB, Array.getD_eq_getD_getElem?, List.getD_eq_getElem?_getD, List.getElem?_toArray, List.getElem?_take_of_lt hi, List.getElem?_drop]
  unfold byteAt; rw [e]
theorem of_one (s : List UInt8) (a : Nat) (h : a + 1 ≤ s.length) : ofF (subB s a 1) = ((s.getD a 0).toNat : Int) := by
  have e : min (subB s a 1).size 8 = 1 := by rw [sub_size s a 1 h]; rfl
  unfold ofF
  rw [e, ofN, ofN, byte_sub s a 1 0 (by omega)]
  simp
theorem storeS_len (s : List UInt8) (a n v : Int) (ha : 0 ≤ a) : (storeS s a n v).length = s.length := by
  unfold storeS; split
  · split
    · rename_i h1 h2
      have h3 : a + n ≤ s.length := of_decide_eq_true h2
      have h4 := sized_nat h1
      obtain ⟨m, rfl⟩ : ∃ m : Nat, n = (m : Int) := ⟨n.toNat, by omega⟩
      refine putL_len _ _ _ ?_
      rw [Array.length_toList, show (bytesF v m).data.size = m by rw [show (bytesF v m).data.size = (bytesF v m).size from rfl, bytes_size, clamp_sized h1]]
      omega
    · rfl
  · rfl
end Go.Proofs.YtbcnibnkojnpiaaGreat.P
