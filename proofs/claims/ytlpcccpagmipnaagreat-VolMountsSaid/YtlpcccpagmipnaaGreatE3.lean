/- Stage 6: a sector of noughts, a text filled up to a sector. No condition. -/
import Derived.Test.YtlpcccpagmipnaaGreatD10
import Derived.Laws.OwnMore
import Derived.Laws.BytesArg
import Derived.Deep.OwnRows
set_option linter.unusedVariables false
set_option maxRecDepth 50000
namespace Go.Proofs.YtlpcccpagmipnaaGreat.P
open Go.RowKit
def z64 : ByteArray := ⟨(List.replicate 64 (0 : UInt8)).toArray⟩
theorem z64_size : z64.size = 64 := by decide +kernel
def by64 : Array Value := (List.replicate 64 (Value.int .u8 0)).toArray
theorem rep_get {α : Type} (n i : Nat) (hi : i < n) (a : α) : (List.replicate n a).toArray[i]? = some a := by simp [hi]
theorem rep_getD (n i : Nat) (hi : i < n) (a : Int) : (List.replicate n a).getD i 0 = a := by simp [List.getD_eq_getElem?_getD, hi]
theorem u8Info : (Tryz.prog.info? 5).map (fun i => (i.zero, i.size, i.bytes)) = some (some (.int .u8 0), 1, 1) := by kernel_rfl
theorem made_64 : madeCells #[Value.int .u8 0] 64 = by64 := by
  apply Array.toList_inj.1
  rw [toList_madeCells_one]
  simp only [by64]
theorem mk_64 (w : World) : (Instr.makeSlice 87 (.int .i64 64) (.int .i64 64)).run Tryz.prog w = .ok (.slice (some ⟨w.heap.size, 0, none⟩) 64 64) (w.alloc (.cells by64 5)) := by
  obtain ⟨i0, hi, hz0, hz1, hz2⟩ := info_parts u8Info
  have := run_make (P := Tryz.prog) w 87 5 i0 (.int .u8 0) Tryz.underlying87 hi hz0 .i64 .i64 64 64 (by omega) (Int.le_refl _) (by rw [hz2]; omega) (by omega)
  rw [this, hz1]
  simp only [show (64 : Int).toNat = 64 from rfl, Nat.mul_one]
  rw [show (Value.int .u8 0).cells = #[Value.int .u8 0] from rfl, made_64]
theorem conv_64 (w : World) (b : Nat) (h : w.heap[b]? = some (.cells by64 5)) : (convert 87 9 (.slice (some ⟨b, 0, none⟩) 64 64)).run Tryz.prog w = .ok (.string z64) w := by
  have e : strOfNums (List.replicate 64 (0 : Int)) = z64 := by decide +kernel
  have := run_convert_bytes_arg (P := Tryz.prog) w 87 5 Tryz.underlying87 Tryz.underlying5 b 0 64 64 (List.replicate 64 (0 : Int)) (by simp) (fun i hi => by
    rw [Nat.zero_add, blk_cell h i (v := .int .u8 0) (rep_get 64 i hi _), rep_getD 64 i hi]) 9 Tryz.underlying9
  rw [this, e]
theorem e_noughts (w : World) : Calls Tryz.prog 28 #[] w fun e w' => e = .returned (.string z64) ∧ Gr w w' := by
  have hmk := mk_64
  have hcv := conv_64 (w.alloc (.cells by64 5)) w.heap.size (blk_new _ _)
  go_enter Tryz.func28, Tryz.ntmps28
  go_wp2
  go_ret
  exact ⟨rfl, (Gr.refl w).alloc (Nat.le_refl _) _⟩
/-- A text, filled up to a sector, or cut. -/
def secF (s : ByteArray) : ByteArray := (s ++ z64).extract 0 64
theorem secF_size (s : ByteArray) : (secF s).size = 64 := by
  unfold secF; rw [ByteArray.size_extract, ByteArray.size_append, z64_size]; omega
end Go.Proofs.YtlpcccpagmipnaaGreat.P
