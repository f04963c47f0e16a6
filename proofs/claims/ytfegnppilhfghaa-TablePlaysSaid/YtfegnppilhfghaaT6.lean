/- Stage 14: the contracts of First. No condition. -/
import Derived.Test.YtfegnppilhfghaaT2
import Derived.Deep.RegionHeld3
import Derived.Deep.DeepCutAuto
set_option linter.unusedVariables false
namespace Go.Proofs.Ytfegnppilhfghaa.P
open Go.RowKit
def F0 : Nat → RowV := up Z0 0 ⟨1, 0, 0, false⟩
theorem st_lit {w : World} {g : Nat} {c : Array Value} (T : Nat → RowV) (hg : w.heap[g]? = some (.cells (tc Z0) 25)) (hc : c = tc T) : c = tc T ∧ (w.setRow g c).heap[g]? = some (.cells (tc T) 25) := ⟨hc, by rw [setRow_heap _ _ _ _ _ _ hg, hc]⟩
set_option maxHeartbeats 800000 in
theorem c_first (w : World) : Calls Try.prog 9 #[] w fun e w' => e = .returned (.agg (tc F0)) ∧ Gr w w' := by
  have B0 := Lib.hid (blk_new w (.cells (tc Z0) 25))
  go_enter Try.func9, Try.ntmps9
  go_wp2_with (refine wpList_store_row rfl 25 _ _ rfl _ (tc F0) rfl rfl 25 _ B0.out (tc_info _) (tc_szs _ _) (tc_one _) ?_)
  exact bodyPost_ret (res1 rfl _ _ _ _ _ rfl (ld (setRow_heap _ _ _ _ _ _ B0.out))) rfl ⟨rfl, below_setRow (Below.alloc (Below.refl _ _) (Nat.le_refl _) _) (Nat.le_refl _) _⟩
set_option maxHeartbeats 800000 in
theorem c_rfirst (w : World) : Calls Try.prog 10 #[] w fun e w' => e = .returned (.agg (tc F0)) ∧ Gr w w' := by
  have A0 : ((w.alloc (.cells (tc Z0) 25)).alloc (.cells (tc Z0) 25)).heap[w.heap.size + 1]? = some (.cells (tc Z0) 25) := by have := blk_new (w.alloc (.cells (tc Z0) 25)) (.cells (tc Z0) 25); rwa [World.size_alloc] at this
  have A1 : ((w.alloc (.cells (tc Z0) 25)).alloc (.cells (tc Z0) 25)).heap[w.heap.size]? = some (.cells (tc Z0) 25) := blk_alloc _ (blk_new w _)
  have A2 : (((w.alloc (.cells (tc Z0) 25)).alloc (.cells (tc Z0) 25)).setRow (w.heap.size + 1) (tc Z0)).heap[w.heap.size + 1]? = some (.cells (tc Z0) 25) := setRow_heap _ _ _ _ _ _ A0
  have A3 : (((w.alloc (.cells (tc Z0) 25)).alloc (.cells (tc Z0) 25)).setRow (w.heap.size + 1) (tc Z0)).heap[w.heap.size]? = some (.cells (tc Z0) 25) := by rw [setRow_other _ _ _ _ (by omega)]; exact A1
  have A4 : ((((w.alloc (.cells (tc Z0) 25)).alloc (.cells (tc Z0) 25)).setRow (w.heap.size + 1) (tc Z0)).setCell ⟨w.heap.size + 1, 0, none⟩ (.int .i64 1)).heap[w.heap.size + 1]? = some (.cells (tc F0) 25) := by
    have := blk_set A2 0 (.int .i64 1); exact this
  have A5 : ((((w.alloc (.cells (tc Z0) 25)).alloc (.cells (tc Z0) 25)).setRow (w.heap.size + 1) (tc Z0)).setCell ⟨w.heap.size + 1, 0, none⟩ (.int .i64 1)).heap[w.heap.size]? = some (.cells (tc Z0) 25) := blk_other A3 _ _ (by simp)
  have G5 : Gr w ((((w.alloc (.cells (tc Z0) 25)).alloc (.cells (tc Z0) 25)).setRow (w.heap.size + 1) (tc Z0)).setCell ⟨w.heap.size + 1, 0, none⟩ (.int .i64 1)) := Below.setCell (below_setRow (Below.alloc (Below.alloc (Below.refl _ _) (Nat.le_refl _) _) (by rw [World.size_alloc]; omega) _) (Nat.le_succ _) _) (Nat.le_succ _) _
  have c0 := blk_cell A2 0 (tc_st Z0 0 (by decide))
  have z0 := blk_frozen A2 0
  have H0 := Lib.hid A0; have H4 := Lib.hid A4; have H5 := Lib.hid A5; have HG := Lib.hid G5
  clear A0 A1 A2 A3 A4 A5 G5
  have hz : (#[.int .i64 0, .int .i64 0, .int .i64 0, .bool false, .int .i64 0, .int .i64 0, .int .i64 0, .bool false, .int .i64 0, .int .i64 0, .int .i64 0, .bool false, .int .i64 0, .int .i64 0, .int .i64 0, .bool false, .int .i64 0, .int .i64 0, .int .i64 0, .bool false, .int .i64 0, .int .i64 0, .int .i64 0, .bool false, .int .i64 0, .int .i64 0, .int .i64 0, .bool false, .int .i64 0, .int .i64 0, .int .i64 0, .bool false] : Array Value) = tc Z0 := rfl
  go_enter Try.func10, Try.ntmps10
  go_upto_region 2 with (refine wpList_store_row rfl 25 _ _ rfl _ (tc Z0) rfl rfl 25 _ H0.out (tc_info _) (tc_szs _ _) (tc_one _) ?_)
  generalize ((w.alloc (.cells (tc Z0) 25)).alloc (.cells (tc Z0) 25)).setRow (w.heap.size + 1) (tc Z0) = w3 at *
  go_upto_region 3 with fail
  go_wp2_with (first
    | (refine wpList_load_row rfl 25 _ rfl _ rfl 25 _ (0, 0) _ H4.out Try.underlying25 rfl (by kernel_rfl) ?_)
    | (refine wpList_store_row rfl 25 _ _ rfl _ (tc F0) rfl rfl 25 _ H5.out (tc_info _) (tc_szs _ _) (tc_one _) ?_))
  exact bodyPost_ret (res1 rfl _ _ _ _ _ rfl (ld (setRow_heap _ _ _ _ _ _ H5.out))) rfl ⟨rfl, below_setRow HG.out (Nat.le_refl _) _⟩
end Go.Proofs.Ytfegnppilhfghaa.P
