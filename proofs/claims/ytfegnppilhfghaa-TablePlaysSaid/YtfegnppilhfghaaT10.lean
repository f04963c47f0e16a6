/- Stage 14: contracts. No condition. -/
import Derived.Test.YtfegnppilhfghaaT9
import Derived.Deep.RegionHeld3
import Derived.Deep.DeepCutAuto
set_option linter.unusedVariables false
namespace Go.Proofs.Ytfegnppilhfghaa.P
open Go.RowKit
theorem rwait_none (T : Nat → RowV) (p : Int)  (hl : livesB T p = false) (w : World) : Calls Try.prog 16 #[.agg (tc T), .int .i64 p] w fun e w' => e = .returned (.tuple #[.agg (tc T), .int .i64 0, .int .i64 0, .int .i64 5]) ∧ Gr w w' := by
  have hc := tc_size T
  have H := Lib.hid hl
  have B0 := Lib.hid (blk_new w (.cells (tc T) 25))
  clear hl
  go_enter Try.func16, Try.ntmps16
  go_wp2_with (refine wpList_load_row rfl 25 _ rfl _ rfl 25 _ (0, 0) _ (blk_alloc _ B0.out) Try.underlying25 rfl (by kernel_rfl) ?_)
  refine (l_rlives T p _).mono ?_; rintro e w1 ⟨rfl, g1⟩
  rw [H.out]
  have R0 := blk_gr g1 (blk_new _ _)
  rw [World.size_alloc] at R0
  have R1 : RowKit.Hid (w1.heap[w.heap.size + 1]? = some (.cells (tc Z0) 25)) := Lib.hid R0
  have B1 := Lib.hid (blk_gr g1 (blk_alloc _ B0.out))
  have G1 := Lib.hid (gtrans (Below.alloc (Below.alloc (Below.refl _ _) (Nat.le_refl _) _) (by rw [World.size_alloc]; omega) _) g1 : Gr w w1)
  clear R0 g1
  go_wp2_with (first | (refine wpList_load_row rfl 25 _ rfl _ rfl 25 _ (0, 0) _ B1.out Try.underlying25 rfl (by kernel_rfl) ?_) | (refine wpList_store_row rfl 25 _ _ rfl _ _ rfl rfl 25 _ R1.out (tc_info _) (tc_szs _ _) (tc_one _) ?_))
  exact bodyPost_ret (res4 rfl _ _ _ _ _ rfl (ld (setRow_heap _ _ _ _ _ _ R1.out))) rfl ⟨rfl, below_setRow G1.out (Nat.le_succ _) _⟩
theorem ac_yes {T : Nat → RowV} {p : Int} {k : Nat} (h : childB T k p = true) : ac T p (k + 1) = true := by rw [ac, h]; simp
theorem ac_no {T : Nat → RowV} {p : Int} {k : Nat} (h : childB T k p = false) : ac T p (k + 1) = ac T p k := by rw [ac, h]; simp
set_option maxHeartbeats 1600000 in
theorem rwait_ok (T : Nat → RowV) (n : Nat) (hn : n < 8) (hl : livesB T n = true) (f : Nat) (hf0 : wn T n 8 0 = f) (w : World) : Calls Try.prog 16 #[.agg (tc T), .int .i64 n] w fun e w' => e = .returned (.tuple #[.agg (tc (waitT T n)), .int .i64 (waitN T n), .int .i64 (waitS T n), .int .i64 (waitE T n)]) ∧ Gr w w' := by
  have hc := tc_size T
  have H := Lib.hid hl
  have B0 := Lib.hid (blk_new w (.cells (tc T) 25))
  have HF0 := Lib.hid hf0
  clear hl hf0
  go_enter Try.func16, Try.ntmps16
  go_wp2_with (refine wpList_load_row rfl 25 _ rfl _ rfl 25 _ (0, 0) _ (blk_alloc _ B0.out) Try.underlying25 rfl (by kernel_rfl) ?_)
  refine (l_rlives T n _).mono ?_; rintro e w1 ⟨rfl, g1⟩
  rw [H.out]
  have R0 := blk_gr g1 (blk_new _ _)
  rw [World.size_alloc] at R0
  have R1 : RowKit.Hid (w1.heap[w.heap.size + 1]? = some (.cells (tc Z0) 25)) := Lib.hid R0
  have B1 := Lib.hid (blk_gr g1 (blk_alloc _ B0.out))
  have G1 := Lib.hid (gtrans (Below.alloc (Below.alloc (Below.refl _ _) (Nat.le_refl _) _) (by rw [World.size_alloc]; omega) _) g1 : Gr w w1)
  clear R0 g1
  go_wp2_with fail
  go_loopw [9, 10] (fun v9 v10 wr => ∃ (k m : Nat), k ≤ 8 ∧ m ≤ k ∧ ac T n k = decide (0 < m) ∧ v9 = .int .i64 m ∧ v10 = .int .i64 k ∧ f = wn T n (8 - k) k ∧ TL w wr T) (fun _ v10 _ => 8 - (intOf v10).toNat)
  case atStart => exact ⟨0, 0, by omega, by omega, rfl, rfl, rfl, HF0.out.symm, G1.out, B1.out, R1.out⟩
  case round =>
    obtain ⟨k, m, hk, hm, hac, rfl, rfl, hf, hg, hb, hr⟩ := hrel
    have HB := Lib.hid hb
    have HG := Lib.hid hg
    have HR := Lib.hid hr
    have HA := Lib.hid hac
    clear hb hg hr hac
    by_cases hlt : k < 8
    · have hk' : (k : Int) < 8 := by omega
      have HL := Lib.hid hlt
      have e8 : 8 - k = (7 - k) + 1 := by omega
      rw [e8, wn] at hf
      have e9 : 7 - k = 8 - (k + 1) := by omega
      have ht : thereB T k = true ∨ thereB T k = false := by cases thereB T k <;> simp
      have hs : ((T k).st == 2) = true ∨ ((T k).st == 2) = false := by cases ((T k).st == 2) <;> simp
      have hkn : (k : Int) = n ∨ ¬ (k : Int) = n := by omega
      have hpa : (T k).pa = n ∨ ¬ (T k).pa = n := by omega
      by_cases hch : childB T k n = true
      · have hch2 : thereB T k = true ∧ ¬ (k : Int) = n ∧ (T k).pa = n := by
          have h := hch
          unfold childB at h
          simp only [Bool.and_eq_true, Bool.not_eq_true', beq_eq_false_iff_ne, ne_eq, beq_iff_eq] at h
          exact ⟨h.1.1, h.1.2, h.2⟩
        obtain ⟨h1, h2, h3⟩ := hch2
        have HTh := Lib.hid h1
        have HT := Lib.hid hch
        rcases hs with hs | hs
        · have hz : zc T n k = true := by unfold zc; rw [hch, hs]; rfl
          rw [if_pos hz] at hf
          have HF := Lib.hid hf
          clear hf hz e8 e9 ht hkn hpa hch h1
          go_wp2_with (first | (refine wpList_load_row rfl 25 _ rfl _ rfl 25 _ (0, 0) _ HB.out Try.underlying25 rfl (by kernel_rfl) ?_))
          refine (l_there T k hlt _).mono ?_; rintro e w2 ⟨rfl, g2⟩
          rw [HTh.out]
          have B2 := Lib.hid (blk_gr g2 HB.out); have R2 := Lib.hid (blk_gr g2 HR.out); have G2 := Lib.hid (gtrans HG.out g2)
          clear g2
          have l2 := blk_lt B2.out
          have z0 := blk_frozen B2.out (k * 4)
          have z1 := blk_frozen B2.out (k * 4 + 1)
          have z2 := blk_frozen B2.out (k * 4 + 2)
          have z3 := blk_frozen B2.out (k * 4 + 3)
          have c0 := blk_cell B2.out (k * 4) (tc_st T k HL.out)
          have c1 := blk_cell B2.out (k * 4 + 1) (tc_pa T k HL.out)
          have c2 := blk_cell B2.out (k * 4 + 2) (tc_su T k HL.out)
          have c3 := blk_cell B2.out (k * 4 + 3) (tc_ki T k HL.out)
          go_upto_region 14 with fail
          have B3 : RowKit.Hid (((((w2.setCell ⟨w.heap.size, k * 4, none⟩ (.int .i64 0)).setCell ⟨w.heap.size, k * 4 + 1, none⟩ (.int .i64 0)).setCell ⟨w.heap.size, k * 4 + 2, none⟩ (.int .i64 0)).setCell ⟨w.heap.size, k * 4 + 3, none⟩ (.bool false)).heap[w.heap.size]? = some (.cells (tc (up T k ⟨0, 0, 0, false⟩)) 25)) := Lib.hid (blk_row B2.out k HL.out ⟨0, 0, 0, false⟩)
          have R3 : RowKit.Hid (((((w2.setCell ⟨w.heap.size, k * 4, none⟩ (.int .i64 0)).setCell ⟨w.heap.size, k * 4 + 1, none⟩ (.int .i64 0)).setCell ⟨w.heap.size, k * 4 + 2, none⟩ (.int .i64 0)).setCell ⟨w.heap.size, k * 4 + 3, none⟩ (.bool false)).heap[w.heap.size + 1]? = some (.cells (tc Z0) 25)) := Lib.hid (row_other R2.out (Nat.succ_ne_self _) k ⟨0, 0, 0, false⟩)
          have G3 : RowKit.Hid (Gr w ((((w2.setCell ⟨w.heap.size, k * 4, none⟩ (.int .i64 0)).setCell ⟨w.heap.size, k * 4 + 1, none⟩ (.int .i64 0)).setCell ⟨w.heap.size, k * 4 + 2, none⟩ (.int .i64 0)).setCell ⟨w.heap.size, k * 4 + 3, none⟩ (.bool false))) := Lib.hid (gr_row G2.out (Nat.le_refl _) k ⟨0, 0, 0, false⟩)
          clear z0 z1 z2 z3 c0 c1 c2 c3
          generalize ((((w2.setCell ⟨w.heap.size, k * 4, none⟩ (.int .i64 0)).setCell ⟨w.heap.size, k * 4 + 1, none⟩ (.int .i64 0)).setCell ⟨w.heap.size, k * 4 + 2, none⟩ (.int .i64 0)).setCell ⟨w.heap.size, k * 4 + 3, none⟩ (.bool false)) = wx at *
          go_wp2_with (first | (refine wpList_load_row rfl 25 _ rfl _ rfl 25 _ (0, 0) _ B3.out Try.underlying25 rfl (by kernel_rfl) ?_) | (refine wpList_store_row rfl 25 _ _ rfl _ _ rfl rfl 25 _ R3.out (tc_info _) (tc_szs _ _) (tc_one _) ?_))
          obtain ⟨q1, q2, q3, q4⟩ := wait_ok H.out (HF0.out.trans HF.out) HL.out
          rw [q1, q2, q3, q4]
          exact bodyPost_ret (res4 rfl _ _ _ _ _ rfl (ld (setRow_heap _ _ _ _ _ _ R3.out))) rfl ⟨rfl, below_setRow G3.out (Nat.le_succ _) _⟩
        · have hz : zc T n k = false := by unfold zc; rw [hch, hs]; rfl
          rw [if_neg (by rw [hz]; simp), e9] at hf
          have HF := Lib.hid hf
          clear hf hz e8 e9 ht hkn hpa hch h1
          go_wp2_with (first | (refine wpList_load_row rfl 25 _ rfl _ rfl 25 _ (0, 0) _ HB.out Try.underlying25 rfl (by kernel_rfl) ?_))
          refine (l_there T k hlt _).mono ?_; rintro e w2 ⟨rfl, g2⟩
          rw [HTh.out]
          have B2 := Lib.hid (blk_gr g2 HB.out); have R2 := Lib.hid (blk_gr g2 HR.out); have G2 := Lib.hid (gtrans HG.out g2)
          clear g2
          have c0 := blk_cell B2.out (k * 4) (tc_st T k HL.out)
          have c1 := blk_cell B2.out (k * 4 + 1) (tc_pa T k HL.out)
          go_wp2_with fail
          exact ⟨⟨k + 1, m + 1, HL.out, by omega, by rw [ac_yes HT.out]; simp, rfl, rfl, HF.out, G2.out, B2.out, R2.out⟩, by simp only [intOf]; omega⟩
      · have hch0 : childB T k n = false := by simpa using hch
        have hz : zc T n k = false := by unfold zc; rw [hch0]; rfl
        rw [if_neg (by rw [hz]; simp), e9] at hf
        have HF := Lib.hid hf
        have HT := Lib.hid hch0
        have hch2 : thereB T k = true → ¬ (k : Int) = n → ¬ (T k).pa = n := by
          intro h1 h2 h3
          apply hch
          unfold childB
          rw [h1]
          simp [h2, h3]
        have HC := Lib.hid hch2
        clear hf hz e8 e9 hs hch hch0 hch2
        rcases ht with ht | ht
        · have HTh := Lib.hid ht
          rcases hkn with hkn | hkn
          · have hkn2 : k = n := by omega
            subst hkn2
            clear hpa ht hkn
            go_wp2_with (first | (refine wpList_load_row rfl 25 _ rfl _ rfl 25 _ (0, 0) _ HB.out Try.underlying25 rfl (by kernel_rfl) ?_))
            refine (l_there T k hlt _).mono ?_; rintro e w2 ⟨rfl, g2⟩
            rw [HTh.out]
            have B2 := Lib.hid (blk_gr g2 HB.out); have R2 := Lib.hid (blk_gr g2 HR.out); have G2 := Lib.hid (gtrans HG.out g2)
            clear g2
            have c1 := blk_cell B2.out (k * 4 + 1) (tc_pa T k HL.out)
            go_wp2_with fail
            exact ⟨⟨k + 1, m, HL.out, by omega, by rw [ac_no HT.out]; exact HA.out, rfl, rfl, HF.out, G2.out, B2.out, R2.out⟩, by simp only [intOf]; omega⟩
          · have hpa := HC.out ht hkn
            have hkb : ((k : Int) == n) = false := by simpa using hkn
            have hpb : ((T k).pa != n) = true := by simpa using hpa
            clear ht hpa hkn
            go_wp2_with (first | (refine wpList_load_row rfl 25 _ rfl _ rfl 25 _ (0, 0) _ HB.out Try.underlying25 rfl (by kernel_rfl) ?_))
            refine (l_there T k hlt _).mono ?_; rintro e w2 ⟨rfl, g2⟩
            rw [HTh.out]
            have B2 := Lib.hid (blk_gr g2 HB.out); have R2 := Lib.hid (blk_gr g2 HR.out); have G2 := Lib.hid (gtrans HG.out g2)
            clear g2
            have c1 := blk_cell B2.out (k * 4 + 1) (tc_pa T k HL.out)
            go_wp2_with fail
            exact ⟨⟨k + 1, m, HL.out, by omega, by rw [ac_no HT.out]; exact HA.out, rfl, rfl, HF.out, G2.out, B2.out, R2.out⟩, by simp only [intOf]; omega⟩
        · have HTh := Lib.hid ht
          clear ht hkn hpa
          go_wp2_with (first | (refine wpList_load_row rfl 25 _ rfl _ rfl 25 _ (0, 0) _ HB.out Try.underlying25 rfl (by kernel_rfl) ?_))
          refine (l_there T k hlt _).mono ?_; rintro e w2 ⟨rfl, g2⟩
          rw [HTh.out]
          have B2 := Lib.hid (blk_gr g2 HB.out); have R2 := Lib.hid (blk_gr g2 HR.out); have G2 := Lib.hid (gtrans HG.out g2)
          clear g2
          have c1 := blk_cell B2.out (k * 4 + 1) (tc_pa T k HL.out)
          go_wp2_with fail
          exact ⟨⟨k + 1, m, HL.out, by omega, by rw [ac_no HT.out]; exact HA.out, rfl, rfl, HF.out, G2.out, B2.out, R2.out⟩, by simp only [intOf]; omega⟩
    · have hk8 : k = 8 := by omega
      subst hk8
      have hk' : ¬ (8 : Int) < 8 := by omega
      have HF := Lib.hid hf
      clear hf
      by_cases h0 : 0 < m
      · have he : ec T n 8 = 12 := by unfold ec; rw [HA.out]; simp [h0]
        have h0' : (0 : Int) < m := by omega
        have HE := Lib.hid he
        clear he
        go_wp2_with (first | (refine wpList_load_row rfl 25 _ rfl _ rfl 25 _ (0, 0) _ HB.out Try.underlying25 rfl (by kernel_rfl) ?_) | (refine wpList_store_row rfl 25 _ _ rfl _ _ rfl rfl 25 _ HR.out (tc_info _) (tc_szs _ _) (tc_one _) ?_))
        obtain ⟨q1, q2, q3, q4⟩ := wait_none H.out (HF0.out.trans HF.out)
        rw [q1, q2, q3, q4, HE.out]
        exact bodyPost_ret (res4 rfl _ _ _ _ _ rfl (ld (setRow_heap _ _ _ _ _ _ HR.out))) rfl ⟨rfl, below_setRow HG.out (Nat.le_succ _) _⟩
      · have hm0 : m = 0 := by omega
        have he : ec T n 8 = 19 := by unfold ec; rw [HA.out]; simp [h0]
        subst hm0
        have HE := Lib.hid he
        clear he
        go_wp2_with (first | (refine wpList_load_row rfl 25 _ rfl _ rfl 25 _ (0, 0) _ HB.out Try.underlying25 rfl (by kernel_rfl) ?_) | (refine wpList_store_row rfl 25 _ _ rfl _ _ rfl rfl 25 _ HR.out (tc_info _) (tc_szs _ _) (tc_one _) ?_))
        obtain ⟨q1, q2, q3, q4⟩ := wait_none H.out (HF0.out.trans HF.out)
        rw [q1, q2, q3, q4, HE.out]
        exact bodyPost_ret (res4 rfl _ _ _ _ _ rfl (ld (setRow_heap _ _ _ _ _ _ HR.out))) rfl ⟨rfl, below_setRow HG.out (Nat.le_succ _) _⟩
theorem c_rwait (T : Nat → RowV) (p : Int) (w : World) : Calls Try.prog 16 #[.agg (tc T), .int .i64 p] w fun e w' => e = .returned (.tuple #[.agg (tc (waitT T p)), .int .i64 (waitN T p), .int .i64 (waitS T p), .int .i64 (waitE T p)]) ∧ Gr w w' := by
  have h : livesB T p = true ∨ livesB T p = false := by cases livesB T p <;> simp
  rcases h with h | h
  · obtain ⟨n, hn, rfl⟩ := lives_nat h
    exact rwait_ok T n hn h _ rfl w
  · obtain ⟨q1, q2, q3, q4⟩ := wait_no h
    rw [q1, q2, q3, q4]
    exact rwait_none T p h w
end Go.Proofs.Ytfegnppilhfghaa.P
