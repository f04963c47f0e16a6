import Derived.Test.YtempdcbgbaglaaaW12
set_option linter.unusedVariables false
namespace Go.Proofs.Ytempdcbgbaglaaa.W
open Go.RowKit
theorem conv1 (w : World) (T b : Nat) (x : Int) (hb : b = w.heap.size) :
    (convert 40 9 (.slice (some ⟨b, 0, none⟩) 1 1)).run Try.prog (w.alloc (.cells #[.int .u8 x] T))
      = .ok (.string (strOfNums [x])) (w.alloc (.cells #[.int .u8 x] T)) := by
  subst hb
  refine run_convert_bytes_arg _ 40 5 Try.underlying40 Try.underlying5 _ 0 1 1 _ rfl ?_ 9 Try.underlying9
  intro i hi
  obtain rfl : i = 0 := by omega
  go_cell
theorem q2 (v : Int) : v / 256 / 256 = v / 65536 := by omega
theorem q3 (v : Int) : v / 65536 / 256 = v / 16777216 := by omega
theorem q4 (v : Int) : v / 16777216 / 256 = v / 4294967296 := by omega
theorem q5 (v : Int) : v / 4294967296 / 256 = v / 1099511627776 := by omega
theorem q6 (v : Int) : v / 1099511627776 / 256 = v / 281474976710656 := by omega
theorem q7 (v : Int) : v / 281474976710656 / 256 = v / 72057594037927936 := by omega
theorem son_nil (s : ByteArray) : ({ data := #[] } : ByteArray) ++ s = s := by
  apply ByteArray.ext; simp
theorem son_app (a b : List Int) : strOfNums a ++ strOfNums b = strOfNums (a ++ b) := by
  apply ByteArray.ext; simp [strOfNums]
set_option maxHeartbeats 1600000 in
theorem c_rbytes (v s : Int) (hv : word v) (w : World) :
    Calls Try.prog 24 #[.int .u64 v, .int .i64 s] w fun e w' => e = .returned (.string (bytesF v s)) ∧ Gr w w' := by
  obtain ⟨v1, v2⟩ := hv
  have hcv := conv1
  have e7 : v / 72057594037927936 % 256 = v / 72057594037927936 := by omega
  have H7 := Lib.hid e7
  clear e7
  have hs : s ≤ 0 ∨ s = 1 ∨ s = 2 ∨ s = 3 ∨ s = 4 ∨ s = 5 ∨ s = 6 ∨ s = 7 ∨ s = 8 ∨ 8 < s := by omega
  rcases hs with hs | rfl | rfl | rfl | rfl | rfl | rfl | rfl | rfl | hs
  · have e : clampN s = 0 := by unfold clampN; omega
    have E := Lib.hid e
    clear e
    go_enter Try.func24, Try.ntmps24
    go_wp2
    go_rounds 1
    go_ret
    refine ⟨ret_s ?_, by go_grown⟩
    unfold bytesF; rw [E.out]; rfl
  all_goals try (
    go_enter Try.func24, Try.ntmps24
    go_wp2
    go_rounds 9
    go_ret
    refine ⟨ret_s ?_, by go_grown⟩
    simp only [son_nil, son_app, q2, q3, q4, q5, q6, q7]
    unfold bytesF digits; first | rfl | (rw [H7.out]; rfl))
  · have e : clampN s = 8 := by unfold clampN; omega
    have E := Lib.hid e
    clear e
    go_enter Try.func24, Try.ntmps24
    go_wp2
    go_rounds 9
    go_ret
    refine ⟨ret_s ?_, by go_grown⟩
    simp only [son_nil, son_app, q2, q3, q4, q5, q6, q7]
    unfold bytesF digits; rw [E.out]; first | rfl | (rw [H7.out]; rfl)
end Go.Proofs.Ytempdcbgbaglaaa.W
