/- Stage 14: contracts. No condition. -/
import Derived.Test.YtfegnppilhfghaaT7
import Derived.Deep.RegionHeld3
import Derived.Deep.DeepCutAuto
set_option linter.unusedVariables false
namespace Go.Proofs.Ytfegnppilhfghaa.P
open Go.RowKit
theorem rp_up (T : Nat → RowV) (n : Nat) (s : Int) : rp (up T n ⟨2, (T n).pa, s, false⟩) n 8 = up (rp T n 8) n ⟨2, (T n).pa, s, false⟩ := by
  funext j
  by_cases hj : j = n
  · subst hj; rw [rp_self, up_at, up_at]
  · have e1 : up T n ⟨2, (T n).pa, s, false⟩ j = T j := by unfold up; rw [if_neg hj]
    have e2 : childB (up T n ⟨2, (T n).pa, s, false⟩) j n = childB T j n := by unfold childB thereB; rw [e1]
    have e3 : up (rp T n 8) n ⟨2, (T n).pa, s, false⟩ j = rp T n 8 j := by unfold up; rw [if_neg hj]
    rw [e3]; unfold rp; rw [e2, e1]
theorem rp_there (T : Nat → RowV) (p : Int) (k : Nat) : thereB (rp T p k) k = thereB T k := by unfold thereB; rw [rp_at]
theorem rexit_none (T : Nat → RowV) (p : Int) (s : Int) (hl : livesB T p = false) (w : World) : Calls Try.prog 14 #[.agg (tc T), .int .i64 p, .int .i64 s] w fun e w' => e = .returned (.tuple #[.agg (tc T), .int .i64 5]) ∧ Gr w w' := by
  have hc := tc_size T
  have H := Lib.hid hl
  have B0 := Lib.hid (blk_new w (.cells (tc T) 25))
  clear hl
  go_enter Try.func14, Try.ntmps14
  go_wp2_with (refine wpList_load_row rfl 25 _ rfl _ rfl 25 _ (0, 0) _ (blk_alloc _ B0.out) Try.underlying25 rfl (by kernel_rfl) ?_)
  refine (l_rlives T p _).mono ?_; rintro e w1 ⟨rfl, g1⟩
  rw [H.out]
  have R0 := blk_gr g1 (blk_new _ _)
  rw [World.size_alloc] at R0
  have R1 : RowKit.Hid (w1.heap[w.heap.size + 1]? = some (.cells (tc Z0) 25)) := Lib.hid R0
  have B1 := Lib.hid (blk_gr g1 (blk_alloc _ B0.out))
  have G1 := Lib.hid (gtrans (Below.alloc (Below.alloc (Below.refl _ _) (Nat.le_refl _) _) (by rw [World.size_alloc]; omega) _) g1 : Gr w w1)
  clear R0 g1
  go_wp2_with (first | (refine wpList_load_row rfl 25 _ rfl _ rfl 25 _ (0, 0) _ B1.out Try.underlying25 rfl (by kernel_rfl) ?_) | (refine wpList_store_row rfl 25 _ _ rfl _ _ rfl rfl 25 _ R1.out (tc_info _) (tc_szs _ _) (tc_one _) ?_))
  exact bodyPost_ret (res2 rfl _ _ _ _ _ rfl (ld (setRow_heap _ _ _ _ _ _ R1.out))) rfl ⟨rfl, below_setRow G1.out (Nat.le_succ _) _⟩
set_option maxHeartbeats 1600000 in
theorem rexit_ok (T : Nat → RowV) (n : Nat) (s : Int) (hn : n < 8) (hl : livesB T n = true) (w : World) : Calls Try.prog 14 #[.agg (tc T), .int .i64 n, .int .i64 s] w fun e w' => e = .returned (.tuple #[.agg (tc (exitT T n s)), .int .i64 (exitE T n)]) ∧ Gr w w' := by
  have hc := tc_size T
  have H := Lib.hid hl
  have B0 := Lib.hid (blk_new w (.cells (tc T) 25))
  have HN := Lib.hid hn
  clear hl
  go_enter Try.func14, Try.ntmps14
  go_wp2_with (refine wpList_load_row rfl 25 _ rfl _ rfl 25 _ (0, 0) _ (blk_alloc _ B0.out) Try.underlying25 rfl (by kernel_rfl) ?_)
  refine (l_rlives T n _).mono ?_; rintro e w1 ⟨rfl, g1⟩
  rw [H.out]
  have R0 := blk_gr g1 (blk_new _ _)
  rw [World.size_alloc] at R0
  have R1 : RowKit.Hid (w1.heap[w.heap.size + 1]? = some (.cells (tc Z0) 25)) := Lib.hid R0
  have B1 := Lib.hid (blk_gr g1 (blk_alloc _ B0.out))
  have G1 := Lib.hid (gtrans (Below.alloc (Below.alloc (Below.refl _ _) (Nat.le_refl _) _) (by rw [World.size_alloc]; omega) _) g1 : Gr w w1)
  clear R0 g1
  have l1 := blk_lt B1.out
  have c0 := blk_cell B1.out (n * 4) (tc_st T n hn)
  have c2 := blk_cell B1.out (n * 4 + 2) (tc_su T n hn)
  have c3 := blk_cell B1.out (n * 4 + 3) (tc_ki T n hn)
  have z0 := blk_frozen B1.out (n * 4)
  have z2 := blk_frozen B1.out (n * 4 + 2)
  have z3 := blk_frozen B1.out (n * 4 + 3)
  go_upto_region 7 with fail
  have B3 : RowKit.Hid ((((w1.setCell ⟨w.heap.size, n * 4, none⟩ (.int .i64 2)).setCell ⟨w.heap.size, n * 4 + 2, none⟩ (.int .i64 s)).setCell ⟨w.heap.size, n * 4 + 3, none⟩ (.bool false)).heap[w.heap.size]? = some (.cells (tc (up T n ⟨2, (T n).pa, s, false⟩)) 25)) := by
    have := blk_set (blk_set (blk_set B1.out (n * 4) (.int .i64 2)) (n * 4 + 2) (.int .i64 s)) (n * 4 + 3) (.bool false)
    rw [set_st _ _ _ HN.out, set_su _ _ _ HN.out, set_ki _ _ _ HN.out] at this
    simp only [up_up, up_at] at this
    exact this
  have R3 : RowKit.Hid ((((w1.setCell ⟨w.heap.size, n * 4, none⟩ (.int .i64 2)).setCell ⟨w.heap.size, n * 4 + 2, none⟩ (.int .i64 s)).setCell ⟨w.heap.size, n * 4 + 3, none⟩ (.bool false)).heap[w.heap.size + 1]? = some (.cells (tc Z0) 25)) := Lib.hid (blk_other (blk_other (blk_other R1.out ⟨w.heap.size, n * 4, none⟩ _ (Nat.succ_ne_self _)) ⟨w.heap.size, n * 4 + 2, none⟩ _ (Nat.succ_ne_self _)) ⟨w.heap.size, n * 4 + 3, none⟩ _ (Nat.succ_ne_self _))
  have G3 : RowKit.Hid (Gr w (((w1.setCell ⟨w.heap.size, n * 4, none⟩ (.int .i64 2)).setCell ⟨w.heap.size, n * 4 + 2, none⟩ (.int .i64 s)).setCell ⟨w.heap.size, n * 4 + 3, none⟩ (.bool false))) := Lib.hid (Below.setCell (Below.setCell (Below.setCell G1.out (Nat.le_refl _) _) (Nat.le_refl _) _) (Nat.le_refl _) _)
  clear z0 z2 z3 c0 c2 c3
  generalize (((w1.setCell ⟨w.heap.size, n * 4, none⟩ (.int .i64 2)).setCell ⟨w.heap.size, n * 4 + 2, none⟩ (.int .i64 s)).setCell ⟨w.heap.size, n * 4 + 3, none⟩ (.bool false)) = wx at *
  obtain ⟨U, hU⟩ : ∃ U, U = (up T n ⟨2, (T n).pa, s, false⟩) := ⟨_, rfl⟩
  rw [← hU] at B3
  have HU := Lib.hid hU
  clear hU
  go_wp2_with fail
  go_loopw [9] (fun v9 wr => ∃ k : Nat, k ≤ 8 ∧ v9 = .int .i64 k ∧ TL w wr (rp U n k)) (fun v9 _ => 8 - (intOf v9).toNat)
  case atStart => exact ⟨0, by omega, rfl, G3.out, by rw [rp_zero]; exact B3.out, R3.out⟩
  case round =>
    obtain ⟨k, hk, rfl, hg, hb, hr⟩ := hrel
    have HB := Lib.hid hb
    have HG := Lib.hid hg
    have HR := Lib.hid hr
    clear hb hg hr
    by_cases hlt : k < 8
    · have hk' : (k : Int) < 8 := by omega
      have HL := Lib.hid hlt
      have ht : thereB U k = true ∨ thereB U k = false := by cases thereB U k <;> simp
      have hkn : ((k : Int) == n) = true ∨ ((k : Int) == n) = false := by cases ((k : Int) == n) <;> simp
      have hpa : ((U k).pa == n) = true ∨ ((U k).pa == n) = false := by cases ((U k).pa == n) <;> simp
      have hch : childB U k n = (thereB U k && !((k : Int) == n) && ((U k).pa == n)) := rfl
      have HC := Lib.hid hch
      clear hch
      have HKN := Lib.hid hkn
      rcases ht with ht | ht <;> rcases hkn with hkn | hkn <;> rcases hpa with hpa | hpa
      case inl.inr.inl =>
        have hT : childB U k n = true := by rw [HC.out, ht, hkn, hpa]; rfl
        have HT := Lib.hid hT
        have HTh := Lib.hid ht
        have hkn' : ¬ (k : Int) = n := by simpa using hkn
        clear ht hT hkn
        go_wp2_with (first | (refine wpList_load_row rfl 25 _ rfl _ rfl 25 _ (0, 0) _ HB.out Try.underlying25 rfl (by kernel_rfl) ?_))
        refine (l_there (rp U n k) k hlt _).mono ?_; rintro e w2 ⟨rfl, g2⟩
        rw [rp_there, HTh.out]
        have B2 := Lib.hid (blk_gr g2 HB.out); have R2 := Lib.hid (blk_gr g2 HR.out); have G2 := Lib.hid (gtrans HG.out g2)
        clear g2
        have z1 := blk_frozen B2.out (k * 4 + 1)
        have c1 := blk_cell B2.out (k * 4 + 1) (tc_pa _ k HL.out)
        rw [rp_at] at c1
        have B3 := blk_set B2.out (k * 4 + 1) (.int .i64 0)
        rw [set_pa _ _ _ HL.out, rp_at, rp_yes HT.out] at B3
        have B4 := Lib.hid B3
        clear B3
        go_wp2_with fail
        exact ⟨⟨k + 1, HL.out, rfl, Below.setCell G2.out (Nat.le_refl _) _, B4.out, blk_other R2.out _ _ (by simp)⟩, by simp only [intOf]; omega⟩
      all_goals
        have hT : childB U k n = false := by rw [HC.out, ht, hkn, hpa]; rfl
        have HT := Lib.hid hT
        have HTh := Lib.hid ht
        clear ht hT
        go_wp2_with (first | (refine wpList_load_row rfl 25 _ rfl _ rfl 25 _ (0, 0) _ HB.out Try.underlying25 rfl (by kernel_rfl) ?_))
        refine (l_there (rp U n k) k hlt _).mono ?_; rintro e w2 ⟨rfl, g2⟩
        rw [rp_there, HTh.out]
        have B2 := Lib.hid (blk_gr g2 HB.out); have R2 := Lib.hid (blk_gr g2 HR.out); have G2 := Lib.hid (gtrans HG.out g2)
        clear g2
        have c1 := blk_cell B2.out (k * 4 + 1) (tc_pa _ k HL.out)
        rw [rp_at] at c1
        go_wp2_with fail
        all_goals first
          | exact ⟨⟨k + 1, HL.out, rfl, G2.out, by rw [← rp_no HT.out]; exact B2.out, R2.out⟩, by simp only [intOf]; omega⟩
          | (exfalso; have h9 : ¬ (k : Int) = n := by simpa using hkn
             omega)
          | (have h9 : (k : Int) = n := eq_of_beq hkn; exact ⟨⟨k + 1, HL.out, by congr 1; omega, G2.out, by rw [← rp_no HT.out]; exact B2.out, R2.out⟩, by simp only [intOf]; omega⟩)
    · have hk8 : k = 8 := by omega
      subst hk8
      have hk' : ¬ (8 : Int) < 8 := by omega
      go_wp2_with (first | (refine wpList_load_row rfl 25 _ rfl _ rfl 25 _ (0, 0) _ HB.out Try.underlying25 rfl (by kernel_rfl) ?_) | (refine wpList_store_row rfl 25 _ _ rfl _ _ rfl rfl 25 _ HR.out (tc_info _) (tc_szs _ _) (tc_one _) ?_))
      obtain ⟨q1, q2⟩ := exitT_ok (s := s) H.out
      rw [q1, q2, ← rp_up, ← HU.out]
      exact bodyPost_ret (res2 rfl _ _ _ _ _ rfl (ld (setRow_heap _ _ _ _ _ _ HR.out))) rfl ⟨rfl, below_setRow HG.out (Nat.le_succ _) _⟩
theorem c_rexit (T : Nat → RowV) (p s : Int) (w : World) : Calls Try.prog 14 #[.agg (tc T), .int .i64 p, .int .i64 s] w fun e w' => e = .returned (.tuple #[.agg (tc (exitT T p s)), .int .i64 (exitE T p)]) ∧ Gr w w' := by
  have h : livesB T p = true ∨ livesB T p = false := by cases livesB T p <;> simp
  rcases h with h | h
  · obtain ⟨n, hn, rfl⟩ := lives_nat h
    exact rexit_ok T n s hn h w
  · obtain ⟨q1, q2⟩ := exitT_no (s := s) h
    rw [q1, q2]
    exact rexit_none T p s h w
end Go.Proofs.Ytfegnppilhfghaa.P
