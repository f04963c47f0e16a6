/- Stage 14: contracts. No condition. -/
import Derived.Test.YtfegnppilhfghaaT4
import Derived.Deep.RegionHeld3
import Derived.Deep.DeepCutAuto
set_option linter.unusedVariables false
namespace Go.Proofs.Ytfegnppilhfghaa.P
open Go.RowKit
/-- The children of p below k go to 0. -/
def rp (T : Nat → RowV) (p : Int) (k : Nat) : Nat → RowV := fun j => if j < k ∧ childB T j p = true then { T j with pa := 0 } else T j
theorem rp_zero (T : Nat → RowV) (p : Int) : rp T p 0 = T := by funext j; unfold rp; rw [if_neg (by omega)]
theorem rp_at (T : Nat → RowV) (p : Int) (k : Nat) : rp T p k k = T k := by unfold rp; rw [if_neg (by omega)]
theorem rp_child (T : Nat → RowV) (p : Int) (k : Nat) : childB (rp T p k) k p = childB T k p := by unfold childB thereB; rw [rp_at]
theorem rp_yes {T : Nat → RowV} {p : Int} {k : Nat} (h : childB T k p = true) : up (rp T p k) k { T k with pa := 0 } = rp T p (k + 1) := by
  funext j; unfold up rp
  by_cases hj : j = k
  · subst hj; rw [if_pos rfl, if_pos ⟨by omega, h⟩]
  · rw [if_neg hj]
    by_cases h2 : j < k ∧ childB T j p = true
    · rw [if_pos h2, if_pos ⟨by omega, h2.2⟩]
    · rw [if_neg h2, if_neg (fun h3 => h2 ⟨by omega, h3.2⟩)]
theorem rp_no {T : Nat → RowV} {p : Int} {k : Nat} (h : childB T k p = false) : rp T p k = rp T p (k + 1) := by
  funext j; unfold rp
  by_cases h2 : j < k ∧ childB T j p = true
  · rw [if_pos h2, if_pos ⟨by omega, h2.2⟩]
  · by_cases h3 : j < k + 1 ∧ childB T j p = true
    · exfalso
      have h4 : ¬ j < k := fun h4 => h2 ⟨h4, h3.2⟩
      have : j = k := by omega
      subst this
      rw [h] at h3; exact absurd h3.2 (by simp)
    · rw [if_neg h2, if_neg h3]
theorem child_self (T : Nat → RowV) (n : Nat) : childB T n (n : Int) = false := by unfold childB; simp
theorem rp_self (T : Nat → RowV) (n k : Nat) : rp T n k n = T n := by unfold rp; rw [child_self]; simp
def exitT (T : Nat → RowV) (p s : Int) : Nat → RowV := if livesB T p = true then up (rp T p 8) p.toNat ⟨2, (T p.toNat).pa, s, false⟩ else T
def exitE (T : Nat → RowV) (p : Int) : Int := if livesB T p = true then 0 else 5
theorem exitT_no {T : Nat → RowV} {p s : Int} (h : livesB T p = false) : exitT T p s = T ∧ exitE T p = 5 := by unfold exitT exitE; simp [h]
theorem exitT_ok {T : Nat → RowV} {n : Nat} {s : Int} (h : livesB T n = true) : exitT T n s = up (rp T n 8) n ⟨2, (T n).pa, s, false⟩ ∧ exitE T n = 0 := by unfold exitT exitE; simp [h]
theorem exit_none (T : Nat → RowV) (p : Int) (s : Int) (hl : livesB T p = false) (w : World) : Calls Try.prog 13 #[.agg (tc T), .int .i64 p, .int .i64 s] w fun e w' => e = .returned (.tuple #[.agg (tc T), .int .i64 5]) ∧ Gr w w' := by
  have hc := tc_size T
  have H := Lib.hid hl
  have B0 := Lib.hid (blk_new w (.cells (tc T) 25))
  clear hl
  go_enter Try.func13, Try.ntmps13
  go_wp2_with (refine wpList_load_row rfl 25 _ rfl _ rfl 25 _ (0, 0) _ (blk_alloc _ B0.out) Try.underlying25 rfl (by kernel_rfl) ?_)
  refine (l_lives T p _).mono ?_; rintro e w1 ⟨rfl, g1⟩
  rw [H.out]
  have R0 := blk_gr g1 (blk_new _ _)
  rw [World.size_alloc] at R0
  have R1 : RowKit.Hid (w1.heap[w.heap.size + 1]? = some (.cells (tc Z0) 25)) := Lib.hid R0
  have B1 := Lib.hid (blk_gr g1 (blk_alloc _ B0.out))
  have G1 := Lib.hid (gtrans (Below.alloc (Below.alloc (Below.refl _ _) (Nat.le_refl _) _) (by rw [World.size_alloc]; omega) _) g1 : Gr w w1)
  clear R0 g1
  go_wp2_with (first | (refine wpList_load_row rfl 25 _ rfl _ rfl 25 _ (0, 0) _ B1.out Try.underlying25 rfl (by kernel_rfl) ?_) | (refine wpList_store_row rfl 25 _ _ rfl _ _ rfl rfl 25 _ R1.out (tc_info _) (tc_szs _ _) (tc_one _) ?_))
  exact bodyPost_ret (res2 rfl _ _ _ _ _ rfl (ld (setRow_heap _ _ _ _ _ _ R1.out))) rfl ⟨rfl, below_setRow G1.out (Nat.le_succ _) _⟩
set_option maxHeartbeats 1600000 in
theorem exit_ok (T : Nat → RowV) (n : Nat) (s : Int) (hn : n < 8) (hl : livesB T n = true) (w : World) : Calls Try.prog 13 #[.agg (tc T), .int .i64 n, .int .i64 s] w fun e w' => e = .returned (.tuple #[.agg (tc (exitT T n s)), .int .i64 (exitE T n)]) ∧ Gr w w' := by
  have hc := tc_size T
  have H := Lib.hid hl
  have B0 := Lib.hid (blk_new w (.cells (tc T) 25))
  clear hl
  go_enter Try.func13, Try.ntmps13
  go_wp2_with (refine wpList_load_row rfl 25 _ rfl _ rfl 25 _ (0, 0) _ (blk_alloc _ B0.out) Try.underlying25 rfl (by kernel_rfl) ?_)
  refine (l_lives T n _).mono ?_; rintro e w1 ⟨rfl, g1⟩
  rw [H.out]
  have R0 := blk_gr g1 (blk_new _ _)
  rw [World.size_alloc] at R0
  have R1 : RowKit.Hid (w1.heap[w.heap.size + 1]? = some (.cells (tc Z0) 25)) := Lib.hid R0
  have B1 := Lib.hid (blk_gr g1 (blk_alloc _ B0.out))
  have G1 := Lib.hid (gtrans (Below.alloc (Below.alloc (Below.refl _ _) (Nat.le_refl _) _) (by rw [World.size_alloc]; omega) _) g1 : Gr w w1)
  clear R0 g1
  go_wp2_with fail
  go_loopw [14] (fun v14 wr => ∃ k : Nat, k ≤ 8 ∧ v14 = .int .i64 k ∧ TL w wr (rp T n k)) (fun v14 _ => 8 - (intOf v14).toNat)
  case atStart => exact ⟨0, by omega, rfl, G1.out, by rw [rp_zero]; exact B1.out, R1.out⟩
  case round =>
    obtain ⟨k, hk, rfl, hg, hb, hr⟩ := hrel
    have HB := Lib.hid hb
    have HG := Lib.hid hg
    have HR := Lib.hid hr
    clear hb hg hr
    by_cases hlt : k < 8
    · have hk' : (k : Int) < 8 := by omega
      have ht : childB T k n = true ∨ childB T k n = false := by cases childB T k n <;> simp
      have HL := Lib.hid hlt
      rcases ht with ht | ht
      · have HT := Lib.hid ht
        clear ht
        go_wp2_with (first | (refine wpList_load_row rfl 25 _ rfl _ rfl 25 _ (0, 0) _ HB.out Try.underlying25 rfl (by kernel_rfl) ?_))
        refine (l_child (rp T n k) k n hlt _).mono ?_; rintro e w2 ⟨rfl, g2⟩
        rw [rp_child, HT.out]
        have B2 := Lib.hid (blk_gr g2 HB.out); have R2 := Lib.hid (blk_gr g2 HR.out); have G2 := Lib.hid (gtrans HG.out g2)
        clear g2
        have z1 := blk_frozen B2.out (k * 4 + 1)
        have c1 := blk_cell B2.out (k * 4 + 1) (tc_pa _ k HL.out)
        have B3 := blk_set B2.out (k * 4 + 1) (.int .i64 0)
        rw [set_pa _ _ _ HL.out, rp_at, rp_yes HT.out] at B3
        have B4 := Lib.hid B3
        clear B3
        go_wp2_with fail
        exact ⟨⟨k + 1, HL.out, rfl, Below.setCell G2.out (Nat.le_refl _) _, B4.out, blk_other R2.out _ _ (by simp)⟩, by simp only [intOf]; omega⟩
      · have HT := Lib.hid ht
        clear ht
        go_wp2_with (first | (refine wpList_load_row rfl 25 _ rfl _ rfl 25 _ (0, 0) _ HB.out Try.underlying25 rfl (by kernel_rfl) ?_))
        refine (l_child (rp T n k) k n hlt _).mono ?_; rintro e w2 ⟨rfl, g2⟩
        rw [rp_child, HT.out]
        have B2 := Lib.hid (blk_gr g2 HB.out); have R2 := Lib.hid (blk_gr g2 HR.out); have G2 := Lib.hid (gtrans HG.out g2)
        clear g2
        go_wp2_with fail
        exact ⟨⟨k + 1, HL.out, rfl, G2.out, by rw [← rp_no HT.out]; exact B2.out, R2.out⟩, by simp only [intOf]; omega⟩
    · have hk8 : k = 8 := by omega
      subst hk8
      have HN := Lib.hid hn
      have l2 := blk_lt HB.out
      have c0 := blk_cell HB.out (n * 4) (tc_st _ n hn)
      have c1 := blk_cell HB.out (n * 4 + 1) (tc_pa _ n hn)
      have c2 := blk_cell HB.out (n * 4 + 2) (tc_su _ n hn)
      have c3 := blk_cell HB.out (n * 4 + 3) (tc_ki _ n hn)
      have z0 := blk_frozen HB.out (n * 4)
      have z1 := blk_frozen HB.out (n * 4 + 1)
      have z2 := blk_frozen HB.out (n * 4 + 2)
      have z3 := blk_frozen HB.out (n * 4 + 3)
      rw [rp_self] at c0 c1 c2 c3
      go_upto_region 10 with fail
      have B3 : RowKit.Hid (((((wr.setCell ⟨w.heap.size, n * 4, none⟩ (.int .i64 2)).setCell ⟨w.heap.size, n * 4 + 1, none⟩ (.int .i64 (T n).pa)).setCell ⟨w.heap.size, n * 4 + 2, none⟩ (.int .i64 s)).setCell ⟨w.heap.size, n * 4 + 3, none⟩ (.bool false)).heap[w.heap.size]? = some (.cells (tc (up (rp T n 8) n ⟨2, (T n).pa, s, false⟩)) 25)) := Lib.hid (blk_row HB.out n HN.out ⟨2, (T n).pa, s, false⟩)
      have R3 : RowKit.Hid (((((wr.setCell ⟨w.heap.size, n * 4, none⟩ (.int .i64 2)).setCell ⟨w.heap.size, n * 4 + 1, none⟩ (.int .i64 (T n).pa)).setCell ⟨w.heap.size, n * 4 + 2, none⟩ (.int .i64 s)).setCell ⟨w.heap.size, n * 4 + 3, none⟩ (.bool false)).heap[w.heap.size + 1]? = some (.cells (tc Z0) 25)) := Lib.hid (row_other HR.out (Nat.succ_ne_self _) n ⟨2, (T n).pa, s, false⟩)
      have G3 : RowKit.Hid (Gr w ((((wr.setCell ⟨w.heap.size, n * 4, none⟩ (.int .i64 2)).setCell ⟨w.heap.size, n * 4 + 1, none⟩ (.int .i64 (T n).pa)).setCell ⟨w.heap.size, n * 4 + 2, none⟩ (.int .i64 s)).setCell ⟨w.heap.size, n * 4 + 3, none⟩ (.bool false))) := Lib.hid (gr_row HG.out (Nat.le_refl _) n ⟨2, (T n).pa, s, false⟩)
      clear z0 z1 z2 z3 c0 c1 c2 c3
      generalize ((((wr.setCell ⟨w.heap.size, n * 4, none⟩ (.int .i64 2)).setCell ⟨w.heap.size, n * 4 + 1, none⟩ (.int .i64 (T n).pa)).setCell ⟨w.heap.size, n * 4 + 2, none⟩ (.int .i64 s)).setCell ⟨w.heap.size, n * 4 + 3, none⟩ (.bool false)) = wx at *
      go_wp2_with (first | (refine wpList_load_row rfl 25 _ rfl _ rfl 25 _ (0, 0) _ B3.out Try.underlying25 rfl (by kernel_rfl) ?_) | (refine wpList_store_row rfl 25 _ _ rfl _ _ rfl rfl 25 _ R3.out (tc_info _) (tc_szs _ _) (tc_one _) ?_))
      obtain ⟨q1, q2⟩ := exitT_ok (s := s) H.out
      rw [q1, q2]
      exact bodyPost_ret (res2 rfl _ _ _ _ _ rfl (ld (setRow_heap _ _ _ _ _ _ R3.out))) rfl ⟨rfl, below_setRow G3.out (Nat.le_succ _) _⟩
theorem c_exit (T : Nat → RowV) (p s : Int) (w : World) : Calls Try.prog 13 #[.agg (tc T), .int .i64 p, .int .i64 s] w fun e w' => e = .returned (.tuple #[.agg (tc (exitT T p s)), .int .i64 (exitE T p)]) ∧ Gr w w' := by
  have h : livesB T p = true ∨ livesB T p = false := by cases livesB T p <;> simp
  rcases h with h | h
  · obtain ⟨n, hn, rfl⟩ := lives_nat h
    exact exit_ok T n s hn h w
  · obtain ⟨q1, q2⟩ := exitT_no (s := s) h
    rw [q1, q2]
    exact exit_none T p s h w
end Go.Proofs.Ytfegnppilhfghaa.P
