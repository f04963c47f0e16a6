/- Stage 14: contracts. No condition. -/
import Derived.Test.YtfegnppilhfghaaT4
import Derived.Deep.RegionHeld3
import Derived.Deep.DeepCutAuto
set_option linter.unusedVariables false
namespace Go.Proofs.Ytfegnppilhfghaa.P
open Go.RowKit
def killT (T : Nat → RowV) (p : Int) : Nat → RowV := if livesB T p = true then up T p.toNat { T p.toNat with ki := true } else T
def killE (T : Nat → RowV) (p : Int) : Int := if livesB T p = true then 0 else 5
theorem killT_no {T : Nat → RowV} {p : Int} (h : livesB T p = false) : killT T p = T ∧ killE T p = 5 := by unfold killT killE; simp [h]
theorem killT_ok {T : Nat → RowV} {n : Nat} (h : livesB T n = true) : killT T n = up T n { T n with ki := true } ∧ killE T n = 0 := by unfold killT killE; simp [h]
theorem kill_none (T : Nat → RowV) (p : Int) (hl : livesB T p = false) (w : World) : Calls Try.prog 17 #[.agg (tc T), .int .i64 p] w fun e w' => e = .returned (.tuple #[.agg (tc T), .int .i64 5]) ∧ Gr w w' := by
  have hc := tc_size T
  have H := Lib.hid hl
  have B0 := Lib.hid (blk_new w (.cells (tc T) 25))
  clear hl
  go_enter Try.func17, Try.ntmps17
  go_wp2_with (refine wpList_load_row rfl 25 _ rfl _ rfl 25 _ (0, 0) _ (blk_alloc _ B0.out) Try.underlying25 rfl (by kernel_rfl) ?_)
  refine (l_lives T p _).mono ?_; rintro e w1 ⟨rfl, g1⟩
  rw [H.out]
  have R0 := blk_gr g1 (blk_new _ _)
  rw [World.size_alloc] at R0
  have R1 : RowKit.Hid (w1.heap[w.heap.size + 1]? = some (.cells (tc Z0) 25)) := Lib.hid R0
  have B1 := Lib.hid (blk_gr g1 (blk_alloc _ B0.out))
  have G1 := Lib.hid (gtrans (Below.alloc (Below.alloc (Below.refl _ _) (Nat.le_refl _) _) (by rw [World.size_alloc]; omega) _) g1 : Gr w w1)
  clear R0 g1
  go_wp2_with (first | (refine wpList_load_row rfl 25 _ rfl _ rfl 25 _ (0, 0) _ B1.out Try.underlying25 rfl (by kernel_rfl) ?_) | (refine wpList_store_row rfl 25 _ _ rfl _ _ rfl rfl 25 _ R1.out (tc_info _) (tc_szs _ _) (tc_one _) ?_))
  exact bodyPost_ret (res2 rfl _ _ _ _ _ rfl (ld (setRow_heap _ _ _ _ _ _ R1.out))) rfl ⟨rfl, below_setRow G1.out (Nat.le_succ _) _⟩
theorem kill_ok (T : Nat → RowV) (n : Nat) (hn : n < 8) (hl : livesB T n = true) (w : World) : Calls Try.prog 17 #[.agg (tc T), .int .i64 n] w fun e w' => e = .returned (.tuple #[.agg (tc (up T n { T n with ki := true })), .int .i64 0]) ∧ Gr w w' := by
  have hc := tc_size T
  have H := Lib.hid hl
  have B0 := Lib.hid (blk_new w (.cells (tc T) 25))
  clear hl
  go_enter Try.func17, Try.ntmps17
  go_wp2_with (refine wpList_load_row rfl 25 _ rfl _ rfl 25 _ (0, 0) _ (blk_alloc _ B0.out) Try.underlying25 rfl (by kernel_rfl) ?_)
  refine (l_lives T n _).mono ?_; rintro e w1 ⟨rfl, g1⟩
  rw [H.out]
  have R0 := blk_gr g1 (blk_new _ _)
  rw [World.size_alloc] at R0
  have R1 : RowKit.Hid (w1.heap[w.heap.size + 1]? = some (.cells (tc Z0) 25)) := Lib.hid R0
  have B1 := Lib.hid (blk_gr g1 (blk_alloc _ B0.out))
  have G1 := Lib.hid (gtrans (Below.alloc (Below.alloc (Below.refl _ _) (Nat.le_refl _) _) (by rw [World.size_alloc]; omega) _) g1 : Gr w w1)
  clear R0 g1
  have l1 := blk_lt B1.out
  have z1 := blk_frozen B1.out (n * 4 + 3)
  have c1 := blk_cell B1.out (n * 4 + 3) (tc_ki T n hn)
  have B3 := blk_set B1.out (n * 4 + 3) (.bool true)
  rw [set_ki _ _ _ hn] at B3
  have B2 := Lib.hid B3
  clear B3
  have R2 := Lib.hid (blk_other R1.out ⟨w.heap.size, n * 4 + 3, none⟩ (.bool true) (by simp))
  have G2 := Lib.hid (Below.setCell G1.out (p := ⟨w.heap.size, n * 4 + 3, none⟩) (Nat.le_refl _) (.bool true))
  go_wp2_with (first | (refine wpList_load_row rfl 25 _ rfl _ rfl 25 _ (0, 0) _ B2.out Try.underlying25 rfl (by kernel_rfl) ?_) | (refine wpList_store_row rfl 25 _ _ rfl _ _ rfl rfl 25 _ R2.out (tc_info _) (tc_szs _ _) (tc_one _) ?_))
  exact bodyPost_ret (res2 rfl _ _ _ _ _ rfl (ld (setRow_heap _ _ _ _ _ _ R2.out))) rfl ⟨rfl, below_setRow G2.out (Nat.le_succ _) _⟩
theorem c_kill (T : Nat → RowV) (p : Int) (w : World) : Calls Try.prog 17 #[.agg (tc T), .int .i64 p] w fun e w' => e = .returned (.tuple #[.agg (tc (killT T p)), .int .i64 (killE T p)]) ∧ Gr w w' := by
  have h : livesB T p = true ∨ livesB T p = false := by cases livesB T p <;> simp
  rcases h with h | h
  · obtain ⟨n, hn, rfl⟩ := lives_nat h
    obtain ⟨q1, q2⟩ := killT_ok h
    rw [q1, q2]
    exact kill_ok T n hn h w
  · obtain ⟨q1, q2⟩ := killT_no h
    rw [q1, q2]
    exact kill_none T p h w
theorem rkill_none (T : Nat → RowV) (p : Int) (hl : livesB T p = false) (w : World) : Calls Try.prog 18 #[.agg (tc T), .int .i64 p] w fun e w' => e = .returned (.tuple #[.agg (tc T), .int .i64 5]) ∧ Gr w w' := by
  have hc := tc_size T
  have H := Lib.hid hl
  have B0 := Lib.hid (blk_new w (.cells (tc T) 25))
  clear hl
  go_enter Try.func18, Try.ntmps18
  go_wp2_with (refine wpList_load_row rfl 25 _ rfl _ rfl 25 _ (0, 0) _ (blk_alloc _ B0.out) Try.underlying25 rfl (by kernel_rfl) ?_)
  refine (l_rlives T p _).mono ?_; rintro e w1 ⟨rfl, g1⟩
  rw [H.out]
  have R0 := blk_gr g1 (blk_new _ _)
  rw [World.size_alloc] at R0
  have R1 : RowKit.Hid (w1.heap[w.heap.size + 1]? = some (.cells (tc Z0) 25)) := Lib.hid R0
  have B1 := Lib.hid (blk_gr g1 (blk_alloc _ B0.out))
  have G1 := Lib.hid (gtrans (Below.alloc (Below.alloc (Below.refl _ _) (Nat.le_refl _) _) (by rw [World.size_alloc]; omega) _) g1 : Gr w w1)
  clear R0 g1
  go_wp2_with (first | (refine wpList_load_row rfl 25 _ rfl _ rfl 25 _ (0, 0) _ B1.out Try.underlying25 rfl (by kernel_rfl) ?_) | (refine wpList_store_row rfl 25 _ _ rfl _ _ rfl rfl 25 _ R1.out (tc_info _) (tc_szs _ _) (tc_one _) ?_))
  exact bodyPost_ret (res2 rfl _ _ _ _ _ rfl (ld (setRow_heap _ _ _ _ _ _ R1.out))) rfl ⟨rfl, below_setRow G1.out (Nat.le_succ _) _⟩
theorem rkill_ok (T : Nat → RowV) (n : Nat) (hn : n < 8) (hl : livesB T n = true) (w : World) : Calls Try.prog 18 #[.agg (tc T), .int .i64 n] w fun e w' => e = .returned (.tuple #[.agg (tc (up T n { T n with ki := true })), .int .i64 0]) ∧ Gr w w' := by
  have hc := tc_size T
  have H := Lib.hid hl
  have B0 := Lib.hid (blk_new w (.cells (tc T) 25))
  clear hl
  go_enter Try.func18, Try.ntmps18
  go_wp2_with (refine wpList_load_row rfl 25 _ rfl _ rfl 25 _ (0, 0) _ (blk_alloc _ B0.out) Try.underlying25 rfl (by kernel_rfl) ?_)
  refine (l_rlives T n _).mono ?_; rintro e w1 ⟨rfl, g1⟩
  rw [H.out]
  have R0 := blk_gr g1 (blk_new _ _)
  rw [World.size_alloc] at R0
  have R1 : RowKit.Hid (w1.heap[w.heap.size + 1]? = some (.cells (tc Z0) 25)) := Lib.hid R0
  have B1 := Lib.hid (blk_gr g1 (blk_alloc _ B0.out))
  have G1 := Lib.hid (gtrans (Below.alloc (Below.alloc (Below.refl _ _) (Nat.le_refl _) _) (by rw [World.size_alloc]; omega) _) g1 : Gr w w1)
  clear R0 g1
  have l1 := blk_lt B1.out
  have z1 := blk_frozen B1.out (n * 4 + 3)
  have c1 := blk_cell B1.out (n * 4 + 3) (tc_ki T n hn)
  have B3 := blk_set B1.out (n * 4 + 3) (.bool true)
  rw [set_ki _ _ _ hn] at B3
  have B2 := Lib.hid B3
  clear B3
  have R2 := Lib.hid (blk_other R1.out ⟨w.heap.size, n * 4 + 3, none⟩ (.bool true) (by simp))
  have G2 := Lib.hid (Below.setCell G1.out (p := ⟨w.heap.size, n * 4 + 3, none⟩) (Nat.le_refl _) (.bool true))
  go_wp2_with (first | (refine wpList_load_row rfl 25 _ rfl _ rfl 25 _ (0, 0) _ B2.out Try.underlying25 rfl (by kernel_rfl) ?_) | (refine wpList_store_row rfl 25 _ _ rfl _ _ rfl rfl 25 _ R2.out (tc_info _) (tc_szs _ _) (tc_one _) ?_))
  exact bodyPost_ret (res2 rfl _ _ _ _ _ rfl (ld (setRow_heap _ _ _ _ _ _ R2.out))) rfl ⟨rfl, below_setRow G2.out (Nat.le_succ _) _⟩
theorem c_rkill (T : Nat → RowV) (p : Int) (w : World) : Calls Try.prog 18 #[.agg (tc T), .int .i64 p] w fun e w' => e = .returned (.tuple #[.agg (tc (killT T p)), .int .i64 (killE T p)]) ∧ Gr w w' := by
  have h : livesB T p = true ∨ livesB T p = false := by cases livesB T p <;> simp
  rcases h with h | h
  · obtain ⟨n, hn, rfl⟩ := lives_nat h
    obtain ⟨q1, q2⟩ := killT_ok h
    rw [q1, q2]
    exact rkill_ok T n hn h w
  · obtain ⟨q1, q2⟩ := killT_no h
    rw [q1, q2]
    exact rkill_none T p h w
end Go.Proofs.Ytfegnppilhfghaa.P
