/- Stage 14: the document's example. No condition. -/
import Derived.Test.YtfegnppilhfghaaT5
import Derived.Test.YtfegnppilhfghaaT6
import Derived.Test.YtfegnppilhfghaaT8
import Derived.Test.YtfegnppilhfghaaT10
import Derived.Test.YtfegnppilhfghaaT12
set_option linter.unusedVariables false
namespace Go.Proofs.Ytfegnppilhfghaa.P
open Go.RowKit
def T1 : Nat → RowV := forkT F0 0
def T2 : Nat → RowV := forkT T1 1
def T3 : Nat → RowV := exitT T2 1 5
def T4 : Nat → RowV := waitT T3 0
def noB : Nat → Bool := fun _ => false
theorem k1 : forkN F0 0 = 1 ∧ forkE F0 0 = 0 ∧ forkN T1 1 = 2 ∧ forkE T1 1 = 0 ∧ waitN T2 0 = 0 ∧ waitS T2 0 = 0 ∧ waitE T2 0 = 12 ∧ exitE T2 1 = 0 ∧ waitN T3 0 = 1 ∧ waitS T3 0 = 5 ∧ waitE T3 0 = 0 ∧ nextV T4 0 noB = 2 ∧ (T4 2).pa = 0 := by decide
theorem s1 (w : World) : Calls Try.prog 11 #[.agg (tc F0), .int .i64 0] w fun e w' => e = .returned (.tuple #[.agg (tc T1), .int .i64 1, .int .i64 0]) ∧ Gr w w' := by
  have h := c_fork F0 0 w; rwa [k1.1, k1.2.1] at h
theorem s2 (w : World) : Calls Try.prog 11 #[.agg (tc T1), .int .i64 1] w fun e w' => e = .returned (.tuple #[.agg (tc T2), .int .i64 2, .int .i64 0]) ∧ Gr w w' := by
  have h := c_fork T1 1 w; rwa [k1.2.2.1, k1.2.2.2.1] at h
theorem s3 (w : World) : Calls Try.prog 15 #[.agg (tc T2), .int .i64 0] w fun e w' => e = .returned (.tuple #[.agg (tc (waitT T2 0)), .int .i64 0, .int .i64 0, .int .i64 12]) ∧ Gr w w' := by
  have h := c_wait T2 0 w; rwa [k1.2.2.2.2.1, k1.2.2.2.2.2.1, k1.2.2.2.2.2.2.1] at h
theorem s4 (w : World) : Calls Try.prog 13 #[.agg (tc T2), .int .i64 1, .int .i64 5] w fun e w' => e = .returned (.tuple #[.agg (tc T3), .int .i64 0]) ∧ Gr w w' := by
  have h := c_exit T2 1 5 w; rwa [k1.2.2.2.2.2.2.2.1] at h
theorem s5 (w : World) : Calls Try.prog 15 #[.agg (tc T3), .int .i64 0] w fun e w' => e = .returned (.tuple #[.agg (tc T4), .int .i64 1, .int .i64 5, .int .i64 0]) ∧ Gr w w' := by
  have h := c_wait T3 0 w; rwa [k1.2.2.2.2.2.2.2.2.1, k1.2.2.2.2.2.2.2.2.2.1, k1.2.2.2.2.2.2.2.2.2.2.1] at h
theorem s6 (w : World) : Calls Try.prog 19 #[.agg (tc T4), .int .i64 0, .agg (bc noB)] w fun e w' => e = .returned (.int .i64 2) ∧ Gr w w' := by
  have h := tnext T4 0 noB w; rwa [k1.2.2.2.2.2.2.2.2.2.2.2.1] at h
set_option maxRecDepth 100000 in
set_option maxHeartbeats 1600000 in
theorem c_shown (w : World) : Calls Try.prog 8 #[] w fun e w' => e = .returned (.bool true) ∧ Gr w w' := by
  go_enter Try.func8, Try.ntmps8
  go_wp2_with fail
  refine (c_first _).mono ?_; rintro e w1 ⟨rfl, g1⟩
  have H0 := Lib.hid (blk_new w1 (.cells (tc Z0) 25))
  have G1 := Lib.hid (Below.alloc g1 g1.size (.cells (tc Z0) 25))
  have l0 := g1.size
  have L0 := Lib.hid l0
  clear g1 l0
  go_wp2_with (first | (refine wpList_store_row rfl 25 _ _ rfl _ _ rfl rfl 25 _ H0.out (tc_info _) (tc_szs _ _) (tc_one _) ?_) | (refine wpList_load_row rfl 25 _ rfl _ rfl 25 _ (0, 0) _ (setRow_heap _ _ _ _ _ _ H0.out) Try.underlying25 rfl (by kernel_rfl) ?_))
  refine (s1 _).mono ?_; rintro e w2 ⟨rfl, g2⟩
  have H1 := Lib.hid (blk_gr g2 (setRow_heap _ _ _ _ _ _ H0.out))
  have G2 := Lib.hid (gtrans (below_setRow G1.out L0.out _) g2)
  clear g2
  go_wp2_with (first | (refine wpList_store_row rfl 25 _ _ rfl _ _ rfl rfl 25 _ H1.out (tc_info _) (tc_szs _ _) (tc_one _) ?_) | (refine wpList_load_row rfl 25 _ rfl _ rfl 25 _ (0, 0) _ (setRow_heap _ _ _ _ _ _ H1.out) Try.underlying25 rfl (by kernel_rfl) ?_))
  refine (s2 _).mono ?_; rintro e w3 ⟨rfl, g2⟩
  have H2 := Lib.hid (blk_gr g2 (setRow_heap _ _ _ _ _ _ H1.out))
  have G3 := Lib.hid (gtrans (below_setRow G2.out L0.out _) g2)
  clear g2
  go_wp2_with (first | (refine wpList_store_row rfl 25 _ _ rfl _ _ rfl rfl 25 _ H2.out (tc_info _) (tc_szs _ _) (tc_one _) ?_) | (refine wpList_load_row rfl 25 _ rfl _ rfl 25 _ (0, 0) _ (setRow_heap _ _ _ _ _ _ H2.out) Try.underlying25 rfl (by kernel_rfl) ?_))
  refine (s3 _).mono ?_; rintro e w4 ⟨rfl, g2⟩
  have H3 := Lib.hid (blk_gr g2 (setRow_heap _ _ _ _ _ _ H2.out))
  have G4 := Lib.hid (gtrans (below_setRow G3.out L0.out _) g2)
  clear g2
  have l4 := blk_lt H3.out
  have HN := Lib.hid (blk_new w4 (.cells (tc Z0) 25))
  have HX : RowKit.Hid (((w4.alloc (.cells (tc Z0) 25)).setRow w4.heap.size (tc (waitT T2 0))).heap[w1.heap.size]? = some (.cells (tc T2) 25)) := by
    have := blk_alloc (.cells (tc Z0) 25) H3.out
    rw [← setRow_other (w4.alloc (.cells (tc Z0) 25)) w4.heap.size w1.heap.size (tc (waitT T2 0)) (by omega)] at this
    exact this
  have GX : RowKit.Hid (Gr w ((w4.alloc (.cells (tc Z0) 25)).setRow w4.heap.size (tc (waitT T2 0)))) := Lib.hid (below_setRow (Below.alloc G4.out G4.out.size _) G4.out.size _)
  go_wp2_with (first | (refine wpList_store_row rfl 25 _ _ rfl _ _ rfl rfl 25 _ HN.out (tc_info _) (tc_szs _ _) (tc_one _) ?_) | (refine wpList_load_row rfl 25 _ rfl _ rfl 25 _ (0, 0) _ HX.out Try.underlying25 rfl (by kernel_rfl) ?_))
  refine (s4 _).mono ?_; rintro e w5 ⟨rfl, g2⟩
  have H5 := Lib.hid (blk_gr g2 HX.out)
  have G5 := Lib.hid (gtrans GX.out g2)
  clear g2
  go_wp2_with (first | (refine wpList_store_row rfl 25 _ _ rfl _ _ rfl rfl 25 _ H5.out (tc_info _) (tc_szs _ _) (tc_one _) ?_) | (refine wpList_load_row rfl 25 _ rfl _ rfl 25 _ (0, 0) _ (setRow_heap _ _ _ _ _ _ H5.out) Try.underlying25 rfl (by kernel_rfl) ?_))
  refine (s5 _).mono ?_; rintro e w6 ⟨rfl, g2⟩
  have H6 := Lib.hid (blk_gr g2 (setRow_heap _ _ _ _ _ _ H5.out))
  have G6 := Lib.hid (gtrans (below_setRow G5.out L0.out _) g2)
  clear g2
  have H7 : RowKit.Hid ((w6.setRow w1.heap.size (tc T4)).heap[w1.heap.size]? = some (.cells (tc T4) 25)) := Lib.hid (setRow_heap _ _ _ _ _ _ H6.out)
  have G7 : RowKit.Hid (Gr w (w6.setRow w1.heap.size (tc T4))) := Lib.hid (below_setRow G6.out L0.out _)
  have hz : (#[.bool false, .bool false, .bool false, .bool false, .bool false, .bool false, .bool false, .bool false] : Array Value) = bc noB := rfl
  go_wp2_with (first | (refine wpList_store_row rfl 25 _ _ rfl _ _ rfl rfl 25 _ H6.out (tc_info _) (tc_szs _ _) (tc_one _) ?_) | (refine wpList_load_row rfl 25 _ rfl _ rfl 25 _ (0, 0) _ H7.out Try.underlying25 rfl (by kernel_rfl) ?_))
  refine (s6 _).mono ?_; rintro e w7 ⟨rfl, g2⟩
  have H8 := Lib.hid (blk_gr g2 H7.out)
  have G8 := Lib.hid (gtrans G7.out g2)
  clear g2
  have c0 := blk_cell H8.out 9 (tc_pa T4 2 (by decide))
  rw [k1.2.2.2.2.2.2.2.2.2.2.2.2] at c0
  go_wp2_with fail
  go_ret
  exact ⟨rfl, G8.out⟩
end Go.Proofs.Ytfegnppilhfghaa.P
