/- Stage 14: contracts. No condition. -/
import Derived.Test.YtfegnppilhfghaaT3
import Derived.Deep.RegionHeld3
import Derived.Deep.DeepCutAuto
set_option linter.unusedVariables false
namespace Go.Proofs.Ytfegnppilhfghaa.P
open Go.RowKit
theorem wpList_load_g {P : Program} {ops : Array Oper} {rest : List Oper} {o : Oper} {a : Act} {w : World} {Q : Exit → Act → World → Prop} (hgd : Region.wanted o (yielded ops a.tmps) = true) (ty : TypeId) (x : Operand) (ho : o.op = .load ty x)
    (g : Nat) (hx : a.eval x = .pointer (some ⟨g, 0, none⟩)) (t : TypeId) (cs : Array Value) (fr : Nat × Nat) (d : TypeDesc) (hg : w.heap[g]? = some (.cells cs t fr))
    (hu : P.underlying ty = some d) (hd : (match d with | .struct _ | .array _ _ => true | _ => false) = true) (hi : (P.info? ty).map (·.size) = some cs.size)
    (h : wpList P ops Q rest (a.put o.dst (.agg cs)) w) : wpList P ops Q (o :: rest) a w := by
  rw [wpList, if_pos hgd]
  refine .inl (wp_load_row ty x ho g hx t cs fr d hg hu ?_ hi h)
  cases d <;> simp_all
theorem rf_none (T : Nat → RowV) (p : Int) (hl : livesB T p = false) (w : World) : Calls Try.prog 12 #[.agg (tc T), .int .i64 p] w fun e w' => e = .returned (.tuple #[.agg (tc T), .int .i64 0, .int .i64 5]) ∧ Gr w w' := by
  have hc := tc_size T
  have H := Lib.hid hl
  have B0 := Lib.hid (blk_new w (.cells (tc T) 25))
  clear hl
  go_enter Try.func12, Try.ntmps12
  go_wp2_with (refine wpList_load_row rfl 25 _ rfl _ rfl 25 _ (0, 0) _ (blk_alloc _ B0.out) Try.underlying25 rfl (by kernel_rfl) ?_)
  refine (l_rlives T p _).mono ?_; rintro e w1 ⟨rfl, g1⟩
  rw [H.out]
  have R0 := blk_gr g1 (blk_new _ _)
  rw [World.size_alloc] at R0
  have R1 : RowKit.Hid (w1.heap[w.heap.size + 1]? = some (.cells (tc Z0) 25)) := Lib.hid R0
  have B1 := Lib.hid (blk_gr g1 (blk_alloc _ B0.out))
  have G1 := Lib.hid (gtrans (Below.alloc (Below.alloc (Below.refl _ _) (Nat.le_refl _) _) (by rw [World.size_alloc]; omega) _) g1 : Gr w w1)
  clear R0 g1
  go_wp2_with (first | (refine wpList_load_row rfl 25 _ rfl _ rfl 25 _ (0, 0) _ B1.out Try.underlying25 rfl (by kernel_rfl) ?_) | (refine wpList_store_row rfl 25 _ _ rfl _ _ rfl rfl 25 _ R1.out (tc_info _) (tc_szs _ _) (tc_one _) ?_))
  exact bodyPost_ret (res3 rfl _ _ _ _ _ rfl (ld (setRow_heap _ _ _ _ _ _ R1.out))) rfl ⟨rfl, below_setRow G1.out (Nat.le_succ _) _⟩
set_option maxHeartbeats 1600000 in
theorem rf_ok (T : Nat → RowV) (n : Nat) (hn : n < 8) (hl : livesB T n = true) (f : Nat) (hf0 : fr T 7 1 = f) (w : World) : Calls Try.prog 12 #[.agg (tc T), .int .i64 n] w fun e w' => e = .returned (.tuple #[.agg (tc (forkT T n)), .int .i64 (forkN T n), .int .i64 (forkE T n)]) ∧ Gr w w' := by
  have hc := tc_size T
  have H := Lib.hid hl
  have B0 := Lib.hid (blk_new w (.cells (tc T) 25))
  have HF0 := Lib.hid hf0
  clear hl hf0
  go_enter Try.func12, Try.ntmps12
  go_wp2_with (refine wpList_load_row rfl 25 _ rfl _ rfl 25 _ (0, 0) _ (blk_alloc _ B0.out) Try.underlying25 rfl (by kernel_rfl) ?_)
  refine (l_rlives T n _).mono ?_; rintro e w1 ⟨rfl, g1⟩
  rw [H.out]
  have R0 := blk_gr g1 (blk_new _ _)
  rw [World.size_alloc] at R0
  have R1 : RowKit.Hid (w1.heap[w.heap.size + 1]? = some (.cells (tc Z0) 25)) := Lib.hid R0
  have B1 := Lib.hid (blk_gr g1 (blk_alloc _ B0.out))
  have G1 := Lib.hid (gtrans (Below.alloc (Below.alloc (Below.refl _ _) (Nat.le_refl _) _) (by rw [World.size_alloc]; omega) _) g1 : Gr w w1)
  clear R0 g1
  go_wp2_with fail
  go_loopw [8] (fun v8 wr => ∃ k : Nat, 1 ≤ k ∧ k ≤ 8 ∧ v8 = .int .i64 k ∧ f = fr T (8 - k) k ∧ TL w wr T) (fun v8 _ => 8 - (intOf v8).toNat)
  case atStart => exact ⟨1, by omega, by omega, rfl, HF0.out.symm, G1.out, B1.out, R1.out⟩
  case round =>
    obtain ⟨k, hk1, hk, rfl, hf, hg, hb, hr⟩ := hrel
    have HB := Lib.hid hb
    have HG := Lib.hid hg
    have HR := Lib.hid hr
    clear hb hg hr
    by_cases hlt : k < 8
    · have e8 : 8 - k = (7 - k) + 1 := by omega
      rw [e8, fr] at hf
      have ht : thereB T k = true ∨ thereB T k = false := by cases thereB T k <;> simp
      have e9 : 7 - k = 8 - (k + 1) := by omega
      rcases ht with ht | ht
      · rw [if_pos ht, e9] at hf
        have HF := Lib.hid hf
        have HT := Lib.hid ht
        clear hf ht e8 e9
        go_wp2_with (first | (refine wpList_load_row rfl 25 _ rfl _ rfl 25 _ (0, 0) _ HB.out Try.underlying25 rfl (by kernel_rfl) ?_) | (refine wpList_load_g ?_ 25 _ rfl _ rfl 25 _ (0, 0) _ HB.out Try.underlying25 rfl (by kernel_rfl) ?_))
        · omega
        refine (l_there T k hlt _).mono ?_; rintro e w2 ⟨rfl, g2⟩
        rw [HT.out]
        have B2 := Lib.hid (blk_gr g2 HB.out); have R2 := Lib.hid (blk_gr g2 HR.out); have G2 := Lib.hid (gtrans HG.out g2)
        clear g2
        go_wp2_with fail
        exact ⟨⟨k + 1, by omega, by omega, rfl, HF.out, G2.out, B2.out, R2.out⟩, by simp only [intOf]; omega⟩
      · rw [if_neg (by rw [ht]; simp)] at hf
        have HF := Lib.hid hf
        have HT := Lib.hid ht
        have HL := Lib.hid hlt
        clear hf ht e8 e9
        go_wp2_with (first | (refine wpList_load_row rfl 25 _ rfl _ rfl 25 _ (0, 0) _ HB.out Try.underlying25 rfl (by kernel_rfl) ?_) | (refine wpList_load_g ?_ 25 _ rfl _ rfl 25 _ (0, 0) _ HB.out Try.underlying25 rfl (by kernel_rfl) ?_))
        · omega
        refine (l_there T k hlt _).mono ?_; rintro e w2 ⟨rfl, g2⟩
        rw [HT.out]
        have B2 := Lib.hid (blk_gr g2 HB.out); have R2 := Lib.hid (blk_gr g2 HR.out); have G2 := Lib.hid (gtrans HG.out g2)
        clear g2
        have h8 : ((k : Int) == 8) = false := by have := HL.out; simp; omega
        have l2 := blk_lt B2.out
        have z0 := blk_frozen B2.out (k * 4)
        have z1 := blk_frozen B2.out (k * 4 + 1)
        have z2 := blk_frozen B2.out (k * 4 + 2)
        have z3 := blk_frozen B2.out (k * 4 + 3)
        have c0 := blk_cell B2.out (k * 4) (tc_st T k HL.out)
        have c1 := blk_cell B2.out (k * 4 + 1) (tc_pa T k HL.out)
        have c2 := blk_cell B2.out (k * 4 + 2) (tc_su T k HL.out)
        have c3 := blk_cell B2.out (k * 4 + 3) (tc_ki T k HL.out)
        go_upto_region 10 with fail
        have B3 : RowKit.Hid (((((w2.setCell ⟨w.heap.size, k * 4, none⟩ (.int .i64 1)).setCell ⟨w.heap.size, k * 4 + 1, none⟩ (.int .i64 n)).setCell ⟨w.heap.size, k * 4 + 2, none⟩ (.int .i64 0)).setCell ⟨w.heap.size, k * 4 + 3, none⟩ (.bool false)).heap[w.heap.size]? = some (.cells (tc (up T k ⟨1, n, 0, false⟩)) 25)) := Lib.hid (blk_row B2.out k HL.out ⟨1, n, 0, false⟩)
        have R3 : RowKit.Hid (((((w2.setCell ⟨w.heap.size, k * 4, none⟩ (.int .i64 1)).setCell ⟨w.heap.size, k * 4 + 1, none⟩ (.int .i64 n)).setCell ⟨w.heap.size, k * 4 + 2, none⟩ (.int .i64 0)).setCell ⟨w.heap.size, k * 4 + 3, none⟩ (.bool false)).heap[w.heap.size + 1]? = some (.cells (tc Z0) 25)) := Lib.hid (row_other R2.out (Nat.succ_ne_self _) k ⟨1, n, 0, false⟩)
        have G3 : RowKit.Hid (Gr w ((((w2.setCell ⟨w.heap.size, k * 4, none⟩ (.int .i64 1)).setCell ⟨w.heap.size, k * 4 + 1, none⟩ (.int .i64 n)).setCell ⟨w.heap.size, k * 4 + 2, none⟩ (.int .i64 0)).setCell ⟨w.heap.size, k * 4 + 3, none⟩ (.bool false))) := Lib.hid (gr_row G2.out (Nat.le_refl _) k ⟨1, n, 0, false⟩)
        clear z0 z1 z2 z3 c0 c1 c2 c3
        generalize ((((w2.setCell ⟨w.heap.size, k * 4, none⟩ (.int .i64 1)).setCell ⟨w.heap.size, k * 4 + 1, none⟩ (.int .i64 n)).setCell ⟨w.heap.size, k * 4 + 2, none⟩ (.int .i64 0)).setCell ⟨w.heap.size, k * 4 + 3, none⟩ (.bool false)) = wx at *
        go_wp2_with (first | (refine wpList_load_row rfl 25 _ rfl _ rfl 25 _ (0, 0) _ B3.out Try.underlying25 rfl (by kernel_rfl) ?_) | (refine wpList_store_row rfl 25 _ _ rfl _ _ rfl rfl 25 _ R3.out (tc_info _) (tc_szs _ _) (tc_one _) ?_))
        obtain ⟨q1, q2, q3⟩ := fork_ok H.out (HF0.out.trans HF.out) HL.out
        rw [q1, q2, q3]
        exact bodyPost_ret (res3 rfl _ _ _ _ _ rfl (ld (setRow_heap _ _ _ _ _ _ R3.out))) rfl ⟨rfl, below_setRow G3.out (Nat.le_succ _) _⟩
    · have hk8 : k = 8 := by omega
      subst hk8
      have HF := Lib.hid hf
      clear hf
      go_wp2_with (first | (refine wpList_load_row rfl 25 _ rfl _ rfl 25 _ (0, 0) _ HB.out Try.underlying25 rfl (by kernel_rfl) ?_) | (refine wpList_store_row rfl 25 _ _ rfl _ _ rfl rfl 25 _ HR.out (tc_info _) (tc_szs _ _) (tc_one _) ?_))
      obtain ⟨q1, q2, q3⟩ := fork_full H.out (HF0.out.trans HF.out)
      rw [q1, q2, q3]
      exact bodyPost_ret (res3 rfl _ _ _ _ _ rfl (ld (setRow_heap _ _ _ _ _ _ HR.out))) rfl ⟨rfl, below_setRow HG.out (Nat.le_succ _) _⟩
theorem c_rfork (T : Nat → RowV) (p : Int) (w : World) : Calls Try.prog 12 #[.agg (tc T), .int .i64 p] w fun e w' => e = .returned (.tuple #[.agg (tc (forkT T p)), .int .i64 (forkN T p), .int .i64 (forkE T p)]) ∧ Gr w w' := by
  have h : livesB T p = true ∨ livesB T p = false := by cases livesB T p <;> simp
  rcases h with h | h
  · obtain ⟨n, hn, rfl⟩ := lives_nat h
    exact rf_ok T n hn h _ rfl w
  · obtain ⟨q1, q2, q3⟩ := fork_no h
    rw [q1, q2, q3]
    exact rf_none T p h w
end Go.Proofs.Ytfegnppilhfghaa.P
