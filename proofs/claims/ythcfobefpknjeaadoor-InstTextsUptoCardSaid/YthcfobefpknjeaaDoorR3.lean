/- Stage 2: the document's register as text. No condition. -/
import Derived.Test.YthcfobefpknjeaaDoorR1
import Derived.Test.YthcfobefpknjeaaDoorTD
import Derived.Test.YthcfobefpknjeaaDoorMC
set_option linter.unusedVariables false
set_option linter.unusedSimpArgs false
set_option maxRecDepth 100000
namespace Go.Proofs.YthcfobefpknjeaaDoor.P
open Go.RowKit
theorem cB_join2 (x l : List UInt8) : cB x ++ cB l = cB (x ++ l) := by
  apply ByteArray.ext
  apply Array.ext'
  simp [cB, ByteArray.data_append]
theorem r_r (n : Int) (hn : i64 n) (w : World) : Calls Tryd.prog 40 #[.int .i64 n] w fun e w' => e = .returned (.string (cB (120 :: Lib.itoa n))) ∧ Gr w w' := by
  have CD := Lib.hid (r_decimal n hn w)
  have hl : (cB (Lib.itoa n)).size ≤ 21 := by rw [cB_size]; exact Lib.itoa_length_le n hn.1 hn.2
  have ej : (⟨#[120]⟩ : ByteArray) ++ cB (Lib.itoa n) = cB (120 :: Lib.itoa n) := cB_join2 [120] _
  generalize cB (Lib.itoa n) = T at *
  go_enter Tryd.func40, Tryd.ntmps40
  go_wp2_with (go_at_call 39; refine CD.out.mono ?_; rintro e w1 ⟨rfl, g1⟩)
  go_ret
  exact ⟨by rw [← ej]; rfl, g1⟩
def rB (n : Nat) : ByteArray := cB (120 :: Lib.itoa (n : Int))
theorem rB_L (n : Nat) : (rB n).data.toList = D n := by
  unfold rB D
  rw [Lib.itoa_nonneg]
  rfl
theorem rB_size (n : Nat) (h : n < 32) : (rB n).size ≤ 22 := by
  unfold rB
  rw [cB_size, List.length_cons]
  have := Lib.itoa_length_le (n : Int) (by omega) (by omega)
  omega
theorem r_rn (n : Nat) (h : n < 32) (w : World) : Calls Tryd.prog 40 #[.int .i64 (n : Int)] w fun e w' => e = .returned (.string (rB n)) ∧ Gr w w' := r_r (n : Int) (by unfold i64; omega) w
end Go.Proofs.YthcfobefpknjeaaDoor.P
namespace Go.Proofs.YthcfobefpknjeaaDoor.P
theorem rc_three : ∀ k : Nat, k < 88 → 1 ≤ k → (rcT k = 3 ∨ k = 4) → loadB k = true := by decide +kernel
theorem rc_load : ∀ k : Nat, k < 88 → 1 ≤ k → loadB k = true → k ≠ 4 → rcT k = 3 := by decide +kernel
end Go.Proofs.YthcfobefpknjeaaDoor.P
