/- Stage 14: the contracts of Fork. No condition. -/
import Derived.Test.YtfegnppilhfghaaT2
import Derived.Deep.RegionHeld3
import Derived.Deep.DeepCutAuto
set_option linter.unusedVariables false
namespace Go.Proofs.Ytfegnppilhfghaa.P
open Go.RowKit
/-- The first place from k on that is free. -/
def fr (T : Nat → RowV) : Nat → Nat → Nat
  | 0, k => k
  | n + 1, k => if thereB T k = true then fr T n (k + 1) else k
def forkT (T : Nat → RowV) (p : Int) : Nat → RowV := if livesB T p = true then (if fr T 7 1 < 8 then up T (fr T 7 1) ⟨1, p, 0, false⟩ else T) else T
def forkN (T : Nat → RowV) (p : Int) : Int := if livesB T p = true then (if fr T 7 1 < 8 then (fr T 7 1 : Int) else 0) else 0
def forkE (T : Nat → RowV) (p : Int) : Int := if livesB T p = true then (if fr T 7 1 < 8 then 0 else 4) else 5
theorem fork_no {T : Nat → RowV} {p : Int} (h : livesB T p = false) : forkT T p = T ∧ forkN T p = 0 ∧ forkE T p = 5 := by
  unfold forkT forkN forkE; simp [h]
theorem fork_ok {T : Nat → RowV} {p : Int} (h : livesB T p = true) {k : Nat} (hk : fr T 7 1 = k) (h8 : k < 8) : forkT T p = up T k ⟨1, p, 0, false⟩ ∧ forkN T p = (k : Int) ∧ forkE T p = 0 := by
  unfold forkT forkN forkE; simp [h, hk, h8]
theorem fork_full {T : Nat → RowV} {p : Int} (h : livesB T p = true) (h8 : fr T 7 1 = 8) : forkT T p = T ∧ forkN T p = 0 ∧ forkE T p = 4 := by
  unfold forkT forkN forkE; simp [h, h8]
theorem lives_nat {T : Nat → RowV} {p : Int} (h : livesB T p = true) : ∃ n : Nat, n < 8 ∧ p = (n : Int) := by
  have : 0 ≤ p ∧ p < 8 := by unfold livesB at h; simp at h; exact h.1
  exact ⟨p.toNat, by omega, by omega⟩
theorem l_fork_none (T : Nat → RowV) (p : Int) (hl : livesB T p = false) (w : World) : Calls Try.prog 11 #[.agg (tc T), .int .i64 p] w fun e w' => e = .returned (.tuple #[.agg (tc T), .int .i64 0, .int .i64 5]) ∧ Gr w w' := by
  have hc := tc_size T
  have H := Lib.hid hl
  have B0 := Lib.hid (blk_new w (.cells (tc T) 25))
  clear hl
  go_enter Try.func11, Try.ntmps11
  go_wp2_with (refine wpList_load_row rfl 25 _ rfl _ rfl 25 _ (0, 0) _ (blk_alloc _ B0.out) Try.underlying25 rfl (by kernel_rfl) ?_)
  refine (l_lives T p _).mono ?_; rintro e w1 ⟨rfl, g1⟩
  rw [H.out]
  have R0 := blk_gr g1 (blk_new _ _)
  rw [World.size_alloc] at R0
  have R1 : RowKit.Hid (w1.heap[w.heap.size + 1]? = some (.cells (tc Z0) 25)) := Lib.hid R0
  have B1 := Lib.hid (blk_gr g1 (blk_alloc _ B0.out))
  have G1 := Lib.hid (gtrans (Below.alloc (Below.alloc (Below.refl _ _) (Nat.le_refl _) _) (by rw [World.size_alloc]; omega) _) g1 : Gr w w1)
  clear R0 g1
  go_wp2_with (first | (refine wpList_load_row rfl 25 _ rfl _ rfl 25 _ (0, 0) _ B1.out Try.underlying25 rfl (by kernel_rfl) ?_) | (refine wpList_store_row rfl 25 _ _ rfl _ _ rfl rfl 25 _ R1.out (tc_info _) (tc_szs _ _) (tc_one _) ?_))
  exact bodyPost_ret (res3 rfl _ _ _ _ _ rfl (ld (setRow_heap _ _ _ _ _ _ R1.out))) rfl ⟨rfl, below_setRow G1.out (Nat.le_succ _) _⟩
def TL (w0 wr : World) (T : Nat → RowV) : Prop := Gr w0 wr ∧ wr.heap[w0.heap.size]? = some (.cells (tc T) 25) ∧ wr.heap[w0.heap.size + 1]? = some (.cells (tc Z0) 25)
set_option maxHeartbeats 1600000 in
theorem l_fork (T : Nat → RowV) (n : Nat) (hn : n < 8) (hl : livesB T n = true) (f : Nat) (hf0 : fr T 7 1 = f) (w : World) : Calls Try.prog 11 #[.agg (tc T), .int .i64 n] w fun e w' => e = .returned (.tuple #[.agg (tc (forkT T n)), .int .i64 (forkN T n), .int .i64 (forkE T n)]) ∧ Gr w w' := by
  have hc := tc_size T
  have H := Lib.hid hl
  have B0 := Lib.hid (blk_new w (.cells (tc T) 25))
  have HF0 := Lib.hid hf0
  clear hf0
  clear hl
  go_enter Try.func11, Try.ntmps11
  go_wp2_with (refine wpList_load_row rfl 25 _ rfl _ rfl 25 _ (0, 0) _ (blk_alloc _ B0.out) Try.underlying25 rfl (by kernel_rfl) ?_)
  refine (l_lives T n _).mono ?_; rintro e w1 ⟨rfl, g1⟩
  rw [H.out]
  have R0 := blk_gr g1 (blk_new _ _)
  rw [World.size_alloc] at R0
  have R1 : RowKit.Hid (w1.heap[w.heap.size + 1]? = some (.cells (tc Z0) 25)) := Lib.hid R0
  have B1 := Lib.hid (blk_gr g1 (blk_alloc _ B0.out))
  have G1 := Lib.hid (gtrans (Below.alloc (Below.alloc (Below.refl _ _) (Nat.le_refl _) _) (by rw [World.size_alloc]; omega) _) g1 : Gr w w1)
  clear R0 g1
  go_wp2_with fail
  have l1 := blk_lt R1.out
  go_loop [13] (fun v13 => ∃ k : Nat, k ≤ 8 ∧ v13 = .int .i64 k ∧ (k ≤ 1 ∨ f = fr T (8 - k) k)) (fun v13 => 8 - (intOf v13).toNat)
  case atStart => exact ⟨0, by omega, rfl, .inl (by omega)⟩
  case round =>
    obtain ⟨k, hk, rfl, hf⟩ := hrel
    by_cases hlt : k < 8
    · have c0 := blk_cell B1.out (k * 4) (tc_st T k hlt)
      by_cases hk0 : k = 0
      · subst hk0
        clear hf
        go_wp2_with fail
        go_round
        case rel => exact ⟨1, by omega, rfl, .inl (by omega)⟩
        case measure => simp only [intOf]; omega
      · have hk1 : ((k : Int) == 0) = false := by simp; omega
        have hf1 : f = fr T (8 - k) k := by
          rcases hf with h | h
          · have : k = 1 := by omega
            rw [this]
            exact HF0.out.symm
          · exact h
        have e8 : 8 - k = (7 - k) + 1 := by omega
        rw [e8, fr] at hf1
        have ht : thereB T k = true ∨ thereB T k = false := by cases thereB T k <;> simp
        have e9 : 7 - k = 8 - (k + 1) := by omega
        rcases ht with ht | ht
        · rw [if_pos ht, e9] at hf1
          have HF := Lib.hid hf1
          have hs := there_t ht
          clear hf hf1 ht e8 e9 hk0
          rcases hs with hs | ⟨hs, hs2⟩
          all_goals
            go_wp2_with fail
            go_round
            case rel => exact ⟨k + 1, by omega, rfl, .inr HF.out⟩
            case measure => simp only [intOf]; omega
        · rw [if_neg (by rw [ht]; simp)] at hf1
          have hs := there_f ht
          obtain ⟨hs1, hs2⟩ := hs
          have HF := Lib.hid hf1
          have HL := Lib.hid hlt
          have HN := Lib.hid hn
          clear hf hf1 ht e8 e9 hk0
          have z0 := blk_frozen B1.out (k * 4)
          have z1 := blk_frozen B1.out (k * 4 + 1)
          have z2 := blk_frozen B1.out (k * 4 + 2)
          have z3 := blk_frozen B1.out (k * 4 + 3)
          have c1 := blk_cell B1.out (k * 4 + 1) (tc_pa T k HL.out)
          have c2 := blk_cell B1.out (k * 4 + 2) (tc_su T k HL.out)
          have c3 := blk_cell B1.out (k * 4 + 3) (tc_ki T k HL.out)
          go_upto_region 8 with fail
          have B2 : RowKit.Hid (((((w1.setCell ⟨w.heap.size, k * 4, none⟩ (.int .i64 1)).setCell ⟨w.heap.size, k * 4 + 1, none⟩ (.int .i64 n)).setCell ⟨w.heap.size, k * 4 + 2, none⟩ (.int .i64 0)).setCell ⟨w.heap.size, k * 4 + 3, none⟩ (.bool false)).heap[w.heap.size]? = some (.cells (tc (up T k ⟨1, n, 0, false⟩)) 25)) := Lib.hid (blk_row B1.out k HL.out ⟨1, n, 0, false⟩)
          have R2 : RowKit.Hid (((((w1.setCell ⟨w.heap.size, k * 4, none⟩ (.int .i64 1)).setCell ⟨w.heap.size, k * 4 + 1, none⟩ (.int .i64 n)).setCell ⟨w.heap.size, k * 4 + 2, none⟩ (.int .i64 0)).setCell ⟨w.heap.size, k * 4 + 3, none⟩ (.bool false)).heap[w.heap.size + 1]? = some (.cells (tc Z0) 25)) := Lib.hid (row_other R1.out (Nat.succ_ne_self _) k ⟨1, n, 0, false⟩)
          have G2 : RowKit.Hid (Gr w ((((w1.setCell ⟨w.heap.size, k * 4, none⟩ (.int .i64 1)).setCell ⟨w.heap.size, k * 4 + 1, none⟩ (.int .i64 n)).setCell ⟨w.heap.size, k * 4 + 2, none⟩ (.int .i64 0)).setCell ⟨w.heap.size, k * 4 + 3, none⟩ (.bool false))) := Lib.hid (gr_row G1.out (Nat.le_refl _) k ⟨1, n, 0, false⟩)
          clear z0 z1 z2 z3 c0 c1 c2 c3
          generalize ((((w1.setCell ⟨w.heap.size, k * 4, none⟩ (.int .i64 1)).setCell ⟨w.heap.size, k * 4 + 1, none⟩ (.int .i64 n)).setCell ⟨w.heap.size, k * 4 + 2, none⟩ (.int .i64 0)).setCell ⟨w.heap.size, k * 4 + 3, none⟩ (.bool false)) = wx at *
          go_wp2_with (first | (refine wpList_load_row rfl 25 _ rfl _ rfl 25 _ (0, 0) _ B2.out Try.underlying25 rfl (by kernel_rfl) ?_) | (refine wpList_store_row rfl 25 _ _ rfl _ _ rfl rfl 25 _ R2.out (tc_info _) (tc_szs _ _) (tc_one _) ?_))
          obtain ⟨q1, q2, q3⟩ := fork_ok H.out (HF0.out.trans HF.out) HL.out
          rw [q1, q2, q3]
          exact bodyPost_ret (res3 rfl _ _ _ _ _ rfl (ld (setRow_heap _ _ _ _ _ _ R2.out))) rfl ⟨rfl, below_setRow G2.out (Nat.le_succ _) _⟩
    · have hk8 : k = 8 := by omega
      have hf1 : f = 8 := by
        rcases hf with h | h
        · omega
        · rw [h, hk8]; rfl
      have HF := Lib.hid hf1
      clear hf hf1 hk8
      go_wp2_with (first | (refine wpList_load_row rfl 25 _ rfl _ rfl 25 _ (0, 0) _ B1.out Try.underlying25 rfl (by kernel_rfl) ?_) | (refine wpList_store_row rfl 25 _ _ rfl _ _ rfl rfl 25 _ R1.out (tc_info _) (tc_szs _ _) (tc_one _) ?_))
      obtain ⟨q1, q2, q3⟩ := fork_full H.out (HF0.out.trans HF.out)
      rw [q1, q2, q3]
      exact bodyPost_ret (res3 rfl _ _ _ _ _ rfl (ld (setRow_heap _ _ _ _ _ _ R1.out))) rfl ⟨rfl, below_setRow G1.out (Nat.le_succ _) _⟩
theorem c_fork (T : Nat → RowV) (p : Int) (w : World) : Calls Try.prog 11 #[.agg (tc T), .int .i64 p] w fun e w' => e = .returned (.tuple #[.agg (tc (forkT T p)), .int .i64 (forkN T p), .int .i64 (forkE T p)]) ∧ Gr w w' := by
  have h : livesB T p = true ∨ livesB T p = false := by cases livesB T p <;> simp
  rcases h with h | h
  · obtain ⟨n, hn, rfl⟩ := lives_nat h
    exact l_fork T n hn h _ rfl w
  · obtain ⟨q1, q2, q3⟩ := fork_no h
    rw [q1, q2, q3]
    exact l_fork_none T p h w
end Go.Proofs.Ytfegnppilhfghaa.P
