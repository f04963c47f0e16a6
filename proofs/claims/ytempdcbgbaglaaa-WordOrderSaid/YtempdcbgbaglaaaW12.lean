/- The contracts of stage 1: Bytes, Of. -/
import Derived.Test.YtempdcbgbaglaaaW9
import Derived.LoopN
set_option linter.unusedVariables false
namespace Go.Proofs.Ytempdcbgbaglaaa.W
open Go.RowKit
def digits (v : Int) : List Int := [v % 256, v / 256 % 256, v / 65536 % 256, v / 16777216 % 256, v / 4294967296 % 256, v / 1099511627776 % 256, v / 281474976710656 % 256, v / 72057594037927936 % 256]
def clampN (size : Int) : Nat := min (max size 0).toNat 8
def bytesF (v size : Int) : ByteArray := strOfNums ((digits v).take (clampN size))
theorem ret_s {a b : ByteArray} (h : a = b) : Ending.returned (.string a) = .returned (.string b) := by rw [h]
theorem conv8 (w : World) (x0 x1 x2 x3 x4 x5 x6 x7 : Int) (n : Nat) (hn : n ≤ 8) :
    (convert 40 9 (.slice (some ⟨w.heap.size, 0, none⟩) n 8)).run Try.prog (w.alloc (.cells #[.int .u8 x0, .int .u8 x1, .int .u8 x2, .int .u8 x3, .int .u8 x4, .int .u8 x5, .int .u8 x6, .int .u8 x7] 39))
      = .ok (.string (strOfNums ([x0, x1, x2, x3, x4, x5, x6, x7].take n))) (w.alloc (.cells #[.int .u8 x0, .int .u8 x1, .int .u8 x2, .int .u8 x3, .int .u8 x4, .int .u8 x5, .int .u8 x6, .int .u8 x7] 39)) := by
  refine run_convert_bytes_arg _ 40 5 Try.underlying40 Try.underlying5 _ 0 n 8 _ (by simp; omega) ?_ 9 Try.underlying9
  intro i hi
  have h8 : i < 8 := by omega
  have e : ([x0, x1, x2, x3, x4, x5, x6, x7].take n).getD i 0 = [x0, x1, x2, x3, x4, x5, x6, x7].getD i 0 := by
    simp only [List.getD_eq_getElem?_getD]; rw [List.getElem?_take_of_lt hi]
  rw [e]
  have hs : i = 0 ∨ i = 1 ∨ i = 2 ∨ i = 3 ∨ i = 4 ∨ i = 5 ∨ i = 6 ∨ i = 7 := by omega
  rcases hs with rfl | rfl | rfl | rfl | rfl | rfl | rfl | rfl <;> go_cell
set_option maxHeartbeats 1600000 in
theorem c_bytes (v s : Int) (hv : word v) (w : World) :
    Calls Try.prog 22 #[.int .u64 v, .int .i64 s] w fun e w' => e = .returned (.string (bytesF v s)) ∧ Gr w w' := by
  obtain ⟨v1, v2⟩ := hv
  have hcv := conv8 w
  have e7 : v / 72057594037927936 % 256 = v / 72057594037927936 := by omega
  have H7 := Lib.hid e7
  clear e7
  have hs : s < 0 ∨ s = 0 ∨ s = 1 ∨ s = 2 ∨ s = 3 ∨ s = 4 ∨ s = 5 ∨ s = 6 ∨ s = 7 ∨ s = 8 ∨ 8 < s := by omega
  rcases hs with hs | rfl | rfl | rfl | rfl | rfl | rfl | rfl | rfl | rfl | hs
  · have e : clampN s = 0 := by unfold clampN; omega
    have E := Lib.hid e
    clear e
    go_enter Try.func22, Try.ntmps22
    go_wp2
    go_rounds 1
    go_ret
    refine ⟨ret_s ?_, by go_grown⟩
    unfold bytesF; rw [E.out]; rfl
  all_goals try (
    go_enter Try.func22, Try.ntmps22
    go_wp2
    go_rounds 9
    go_ret
    refine ⟨ret_s ?_, by go_grown⟩
    unfold bytesF digits; rw [H7.out]; rfl)
  · have e : clampN s = 8 := by unfold clampN; omega
    have E := Lib.hid e
    clear e
    go_enter Try.func22, Try.ntmps22
    go_wp2
    go_rounds 9
    go_ret
    refine ⟨ret_s ?_, by go_grown⟩
    unfold bytesF digits; rw [E.out, H7.out]; rfl
end Go.Proofs.Ytempdcbgbaglaaa.W
