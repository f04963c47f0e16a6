/- Stage 14: the walk of TableWaits. No condition. -/
import Derived.Test.YtfegnppilhfghaaT14
import Derived.Test.YtfegnppilhfghaaT17
import Derived.Deep.RegionHeld3
import Derived.Deep.DeepCutAuto
set_option linter.unusedVariables false
namespace Go.Proofs.Ytfegnppilhfghaa.P
open Go.RowKit
theorem wn_ge (T : Nat → RowV) (p : Int) : ∀ n k, k ≤ wn T p n k ∧ wn T p n k ≤ k + n
  | 0, k => by simp [wn]
  | n + 1, k => by
    have := wn_ge T p n (k + 1)
    rw [wn]; split
    · omega
    · omega
theorem wn_hit (T : Nat → RowV) (p : Int) : ∀ n k, wn T p n k < k + n → zc T p (wn T p n k) = true
  | 0, k, h => by simp [wn] at h
  | n + 1, k, h => by
    rw [wn] at h ⊢; split
    · assumption
    · rename_i h1
      rw [if_neg h1] at h
      exact wn_hit T p n (k + 1) (by omega)
theorem zc_out {T : Nat → RowV} {p : Int} {k : Nat} (h : zc T p k = true) : ((T k).st == 2) = true ∧ ¬ (k : Int) = p ∧ (T k).pa = p := by
  unfold zc childB at h
  simp only [Bool.and_eq_true, Bool.not_eq_true', beq_eq_false_iff_ne, ne_eq, beq_iff_eq] at h
  exact ⟨by simpa using h.2, h.1.1.2, h.1.2⟩
theorem kept {wi : World} {B : Nat} {X T : Nat → RowV} (h : wi.heap[B]? = some (.cells (tc T) 25)) (hne : B ≠ wi.heap.size) : ((wi.alloc (.cells (tc Z0) 25)).setRow wi.heap.size (tc X)).heap[B]? = some (.cells (tc T) 25) := by
  have := blk_alloc (.cells (tc Z0) 25) h
  rw [← setRow_other (wi.alloc (.cells (tc Z0) 25)) wi.heap.size B (tc X) hne] at this
  exact this
set_option maxRecDepth 100000 in
set_option maxHeartbeats 3200000 in
theorem waits_nn (T : Nat → RowV) (p : Int) (o : Int) (w : World) (e0 : Int) (h1 : waitT T p = T) (h2 : waitN T p = 0) (h3 : waitS T p = 0) (h4 : waitE T p = e0) (he : (e0 == 0) = false) (hl : livesB T o = false) : Calls Try.prog 7 #[.agg (tc T), .int .i64 p, .int .i64 o] w fun e w' => e = .returned (.bool true) ∧ Gr w w' := by
  have hc := tc_size T
  have B0 := Lib.hid (blk_new w (.cells (tc T) 25))
  have eqt := eqT T
  have hz32 : (#[.int .i64 0, .int .i64 0, .int .i64 0, .bool false, .int .i64 0, .int .i64 0, .int .i64 0, .bool false, .int .i64 0, .int .i64 0, .int .i64 0, .bool false, .int .i64 0, .int .i64 0, .int .i64 0, .bool false, .int .i64 0, .int .i64 0, .int .i64 0, .bool false, .int .i64 0, .int .i64 0, .int .i64 0, .bool false, .int .i64 0, .int .i64 0, .int .i64 0, .bool false, .int .i64 0, .int .i64 0, .int .i64 0, .bool false] : Array Value) = tc Z0 := rfl
  have W1 := Lib.hid h1; have W2 := Lib.hid h2; have W3 := Lib.hid h3; have W4 := Lib.hid h4
  obtain ⟨k1, k2⟩ := killT_no hl
  obtain ⟨x1, x2⟩ := exitT_no (s := 3) hl
  have K1 := Lib.hid k1; have K2 := Lib.hid k2; have E1 := Lib.hid x1; have E2 := Lib.hid x2
  clear h1 h2 h3 h4 k1 k2 x1 x2 hl
  go_enter Try.func7, Try.ntmps7
  go_wp2_with fail
  refine (c_shown _).mono ?_; rintro e w1 ⟨rfl, g1⟩
  have B1 := Lib.hid (blk_gr g1 B0.out)
  have G1 := Lib.hid (galloc _ g1)
  clear g1
  go_wp2_with (first | (refine wpList_load_row rfl 25 _ rfl _ rfl 25 _ (0, 0) _ B1.out Try.underlying25 rfl (by kernel_rfl) ?_))
  refine (c_wait T p _).mono ?_; rintro e w2 ⟨rfl, g2⟩
  rw [W1.out, W2.out, W3.out, W4.out]
  have B1' := Lib.hid (blk_gr g2 B1.out)
  have lB1 := blk_lt B1'.out
  have NA := Lib.hid (blk_new w2 (.cells (tc Z0) 25))
  have GGA := Lib.hid (gtrans G1.out g2)
  go_upto_region 3 with (refine wpList_store_row rfl 25 _ _ rfl _ _ rfl rfl 25 _ NA.out (tc_info _) (tc_szs _ _) (tc_one _) ?_)
  have XA : RowKit.Hid (((w2.alloc (.cells (tc Z0) 25)).setRow w2.heap.size (tc T)).heap[w2.heap.size]? = some (.cells (tc T) 25)) := Lib.hid (setRow_heap _ _ _ _ _ _ NA.out)
  have B1_A : RowKit.Hid (((w2.alloc (.cells (tc Z0) 25)).setRow w2.heap.size (tc T)).heap[w.heap.size]? = some (.cells (tc T) 25)) := Lib.hid (kept B1'.out (by omega))
  have GA : RowKit.Hid (Gr w ((w2.alloc (.cells (tc Z0) 25)).setRow w2.heap.size (tc T))) := Lib.hid (below_setRow (Below.alloc GGA.out GGA.out.size _) GGA.out.size _)
  clear g2 B1' lB1 NA
  generalize hwA : ((w2.alloc (.cells (tc Z0) 25)).setRow w2.heap.size (tc T)) = wa at *
  clear hwA
  go_wp2_with (first | (refine wpList_load_row rfl 25 _ rfl _ rfl 25 _ (0, 0) _ B1_A.out Try.underlying25 rfl (by kernel_rfl) ?_))
  refine (c_kill T o _).mono ?_; rintro e w3 ⟨rfl, g3⟩
  rw [K1.out, K2.out]
  have B1_A' := Lib.hid (blk_gr g3 B1_A.out)
  have lB1_A := blk_lt B1_A'.out
  have XA' := Lib.hid (blk_gr g3 XA.out)
  have lXA := blk_lt XA'.out
  have NB := Lib.hid (blk_new w3 (.cells (tc Z0) 25))
  have GGB := Lib.hid (gtrans GA.out g3)
  go_upto_region 6 with (refine wpList_store_row rfl 25 _ _ rfl _ _ rfl rfl 25 _ NB.out (tc_info _) (tc_szs _ _) (tc_one _) ?_)
  have XB : RowKit.Hid (((w3.alloc (.cells (tc Z0) 25)).setRow w3.heap.size (tc T)).heap[w3.heap.size]? = some (.cells (tc T) 25)) := Lib.hid (setRow_heap _ _ _ _ _ _ NB.out)
  have B1_A_B : RowKit.Hid (((w3.alloc (.cells (tc Z0) 25)).setRow w3.heap.size (tc T)).heap[w.heap.size]? = some (.cells (tc T) 25)) := Lib.hid (kept B1_A'.out (by omega))
  have XA_B : RowKit.Hid (((w3.alloc (.cells (tc Z0) 25)).setRow w3.heap.size (tc T)).heap[w2.heap.size]? = some (.cells (tc T) 25)) := Lib.hid (kept XA'.out (by omega))
  have GB : RowKit.Hid (Gr w ((w3.alloc (.cells (tc Z0) 25)).setRow w3.heap.size (tc T))) := Lib.hid (below_setRow (Below.alloc GGB.out GGB.out.size _) GGB.out.size _)
  clear g3 B1_A' lB1_A XA' lXA NB
  generalize hwB : ((w3.alloc (.cells (tc Z0) 25)).setRow w3.heap.size (tc T)) = wb at *
  clear hwB
  go_wp2_with (first | (refine wpList_load_row rfl 25 _ rfl _ rfl 25 _ (0, 0) _ XB.out Try.underlying25 rfl (by kernel_rfl) ?_))
  refine (c_exit T o 3 _).mono ?_; rintro e w4 ⟨rfl, g4⟩
  rw [E1.out, E2.out]
  have B1_A_B' := Lib.hid (blk_gr g4 B1_A_B.out)
  have lB1_A_B := blk_lt B1_A_B'.out
  have XA_B' := Lib.hid (blk_gr g4 XA_B.out)
  have lXA_B := blk_lt XA_B'.out
  have XB' := Lib.hid (blk_gr g4 XB.out)
  have lXB := blk_lt XB'.out
  have NC := Lib.hid (blk_new w4 (.cells (tc Z0) 25))
  have GGC := Lib.hid (gtrans GB.out g4)
  go_upto_region 9 with (refine wpList_store_row rfl 25 _ _ rfl _ _ rfl rfl 25 _ NC.out (tc_info _) (tc_szs _ _) (tc_one _) ?_)
  have XC : RowKit.Hid (((w4.alloc (.cells (tc Z0) 25)).setRow w4.heap.size (tc T)).heap[w4.heap.size]? = some (.cells (tc T) 25)) := Lib.hid (setRow_heap _ _ _ _ _ _ NC.out)
  have B1_A_B_C : RowKit.Hid (((w4.alloc (.cells (tc Z0) 25)).setRow w4.heap.size (tc T)).heap[w.heap.size]? = some (.cells (tc T) 25)) := Lib.hid (kept B1_A_B'.out (by omega))
  have XA_B_C : RowKit.Hid (((w4.alloc (.cells (tc Z0) 25)).setRow w4.heap.size (tc T)).heap[w2.heap.size]? = some (.cells (tc T) 25)) := Lib.hid (kept XA_B'.out (by omega))
  have XB_C : RowKit.Hid (((w4.alloc (.cells (tc Z0) 25)).setRow w4.heap.size (tc T)).heap[w3.heap.size]? = some (.cells (tc T) 25)) := Lib.hid (kept XB'.out (by omega))
  have GC : RowKit.Hid (Gr w ((w4.alloc (.cells (tc Z0) 25)).setRow w4.heap.size (tc T))) := Lib.hid (below_setRow (Below.alloc GGC.out GGC.out.size _) GGC.out.size _)
  clear g4 B1_A_B' lB1_A_B XA_B' lXA_B XB' lXB NC
  generalize hwC : ((w4.alloc (.cells (tc Z0) 25)).setRow w4.heap.size (tc T)) = wz at *
  clear hwC
  go_wp2_with (first | (refine wpList_load_row rfl 25 _ rfl _ rfl 25 _ (0, 0) _ B1_A_B_C.out Try.underlying25 rfl (by kernel_rfl) ?_) | (refine wpList_load_g ?_ 25 _ rfl _ rfl 25 _ (0, 0) _ B1_A_B_C.out Try.underlying25 rfl (by kernel_rfl) ?_) | (refine wpList_load_row rfl 25 _ rfl _ rfl 25 _ (0, 0) _ XB_C.out Try.underlying25 rfl (by kernel_rfl) ?_) | (refine wpList_load_g ?_ 25 _ rfl _ rfl 25 _ (0, 0) _ XB_C.out Try.underlying25 rfl (by kernel_rfl) ?_) | (refine wpList_load_row rfl 25 _ rfl _ rfl 25 _ (0, 0) _ XA_B_C.out Try.underlying25 rfl (by kernel_rfl) ?_) | (refine wpList_load_g ?_ 25 _ rfl _ rfl 25 _ (0, 0) _ XA_B_C.out Try.underlying25 rfl (by kernel_rfl) ?_) | (refine wpList_load_row rfl 25 _ rfl _ rfl 25 _ (0, 0) _ XC.out Try.underlying25 rfl (by kernel_rfl) ?_) | (refine wpList_load_g ?_ 25 _ rfl _ rfl 25 _ (0, 0) _ XC.out Try.underlying25 rfl (by kernel_rfl) ?_))
  go_ret
  exact ⟨rfl, GC.out⟩
theorem lives_st {T : Nat → RowV} {q : Nat} (h : livesB T q = true) : (T q).st = 1 := by
  unfold livesB at h; simp at h; simpa using h.2
theorem lives_kill {T : Nat → RowV} {q : Nat} (h : livesB T q = true) : livesB (up T q { T q with ki := true }) q = true := by
  unfold livesB at *
  simp only [Int.toNat_natCast, up_at]
  exact h
set_option maxRecDepth 100000 in
set_option maxHeartbeats 3200000 in
theorem waits_yn (T : Nat → RowV) (p : Int) (o : Int) (w : World) (k : Nat) (hk : k < 8) (hw : wn T p 8 0 = k) (hlp : livesB T p = true) (hl : livesB T o = false) : Calls Try.prog 7 #[.agg (tc T), .int .i64 p, .int .i64 o] w fun e w' => e = .returned (.bool true) ∧ Gr w w' := by
  have hc := tc_size T
  have B0 := Lib.hid (blk_new w (.cells (tc T) 25))
  have eqt := eqT T
  have hz32 : (#[.int .i64 0, .int .i64 0, .int .i64 0, .bool false, .int .i64 0, .int .i64 0, .int .i64 0, .bool false, .int .i64 0, .int .i64 0, .int .i64 0, .bool false, .int .i64 0, .int .i64 0, .int .i64 0, .bool false, .int .i64 0, .int .i64 0, .int .i64 0, .bool false, .int .i64 0, .int .i64 0, .int .i64 0, .bool false, .int .i64 0, .int .i64 0, .int .i64 0, .bool false, .int .i64 0, .int .i64 0, .int .i64 0, .bool false] : Array Value) = tc Z0 := rfl
  obtain ⟨h1, h2, h3, h4⟩ := wait_ok hlp hw hk
  have W1 := Lib.hid h1; have W2 := Lib.hid h2; have W3 := Lib.hid h3; have W4 := Lib.hid h4
  have hz := zc_out (show zc T p k = true by rw [← hw]; exact wn_hit T p 8 0 (by omega))
  obtain ⟨z1, z2, z3⟩ := hz
  have z1' : (T k).st = 2 := by simpa using z1
  have z2' : ((k : Int) == p) = false := by simpa using z2
  have hk0 : (0 : Int) ≤ k := by omega
  have hk7 : (k : Int) ≤ 7 := by omega
  clear h1 h2 h3 h4 hw z1 z2 hlp
  obtain ⟨k1, k2⟩ := killT_no hl
  obtain ⟨x1, x2⟩ := exitT_no (s := 3) hl
  have K1 := Lib.hid k1; have K2 := Lib.hid k2; have E1 := Lib.hid x1; have E2 := Lib.hid x2
  clear k1 k2 x1 x2 hl
  go_enter Try.func7, Try.ntmps7
  go_wp2_with fail
  refine (c_shown _).mono ?_; rintro e w1 ⟨rfl, g1⟩
  have B1 := Lib.hid (blk_gr g1 B0.out)
  have G1 := Lib.hid (galloc _ g1)
  clear g1
  go_wp2_with (first | (refine wpList_load_row rfl 25 _ rfl _ rfl 25 _ (0, 0) _ B1.out Try.underlying25 rfl (by kernel_rfl) ?_))
  refine (c_wait T p _).mono ?_; rintro e w2 ⟨rfl, g2⟩
  rw [W1.out, W2.out, W3.out, W4.out]
  have B1' := Lib.hid (blk_gr g2 B1.out)
  have lB1 := blk_lt B1'.out
  have NA := Lib.hid (blk_new w2 (.cells (tc Z0) 25))
  have GGA := Lib.hid (gtrans G1.out g2)
  go_upto_region 3 with (refine wpList_store_row rfl 25 _ _ rfl _ _ rfl rfl 25 _ NA.out (tc_info _) (tc_szs _ _) (tc_one _) ?_)
  have XA : RowKit.Hid (((w2.alloc (.cells (tc Z0) 25)).setRow w2.heap.size (tc (up T k ⟨0, 0, 0, false⟩))).heap[w2.heap.size]? = some (.cells (tc (up T k ⟨0, 0, 0, false⟩)) 25)) := Lib.hid (setRow_heap _ _ _ _ _ _ NA.out)
  have B1_A : RowKit.Hid (((w2.alloc (.cells (tc Z0) 25)).setRow w2.heap.size (tc (up T k ⟨0, 0, 0, false⟩))).heap[w.heap.size]? = some (.cells (tc T) 25)) := Lib.hid (kept B1'.out (by omega))
  have GA : RowKit.Hid (Gr w ((w2.alloc (.cells (tc Z0) 25)).setRow w2.heap.size (tc (up T k ⟨0, 0, 0, false⟩)))) := Lib.hid (below_setRow (Below.alloc GGA.out GGA.out.size _) GGA.out.size _)
  clear g2 B1' lB1 NA
  generalize hwA : ((w2.alloc (.cells (tc Z0) 25)).setRow w2.heap.size (tc (up T k ⟨0, 0, 0, false⟩))) = wa at *
  clear hwA
  have a0 := blk_cell B1_A.out (k * 4) (tc_st T k (by omega))
  have a1 := blk_cell B1_A.out (k * 4 + 1) (tc_pa T k (by omega))
  have a2 := blk_cell B1_A.out (k * 4 + 2) (tc_su T k (by omega))
  have a3 := blk_cell B1_A.out (k * 4 + 3) (tc_ki T k (by omega))
  have b0 := blk_cell XA.out (k * 4) (tc_st (up T k ⟨0, 0, 0, false⟩) k (by omega))
  have b1 := blk_cell XA.out (k * 4 + 1) (tc_pa (up T k ⟨0, 0, 0, false⟩) k (by omega))
  have b2 := blk_cell XA.out (k * 4 + 2) (tc_su (up T k ⟨0, 0, 0, false⟩) k (by omega))
  have b3 := blk_cell XA.out (k * 4 + 3) (tc_ki (up T k ⟨0, 0, 0, false⟩) k (by omega))
  rw [up_at] at b0 b1 b2 b3
  rw [z1'] at a0
  rw [z3] at a1
  clear z1' z3
  go_wp2_with (first | (refine wpList_load_row rfl 25 _ rfl _ rfl 25 _ (0, 0) _ B1_A.out Try.underlying25 rfl (by kernel_rfl) ?_))
  refine (c_kill T o _).mono ?_; rintro e w3 ⟨rfl, g3⟩
  rw [K1.out, K2.out]
  have B1_A' := Lib.hid (blk_gr g3 B1_A.out)
  have lB1_A := blk_lt B1_A'.out
  have XA' := Lib.hid (blk_gr g3 XA.out)
  have lXA := blk_lt XA'.out
  have NB := Lib.hid (blk_new w3 (.cells (tc Z0) 25))
  have GGB := Lib.hid (gtrans GA.out g3)
  go_upto_region 6 with (refine wpList_store_row rfl 25 _ _ rfl _ _ rfl rfl 25 _ NB.out (tc_info _) (tc_szs _ _) (tc_one _) ?_)
  have XB : RowKit.Hid (((w3.alloc (.cells (tc Z0) 25)).setRow w3.heap.size (tc T)).heap[w3.heap.size]? = some (.cells (tc T) 25)) := Lib.hid (setRow_heap _ _ _ _ _ _ NB.out)
  have B1_A_B : RowKit.Hid (((w3.alloc (.cells (tc Z0) 25)).setRow w3.heap.size (tc T)).heap[w.heap.size]? = some (.cells (tc T) 25)) := Lib.hid (kept B1_A'.out (by omega))
  have XA_B : RowKit.Hid (((w3.alloc (.cells (tc Z0) 25)).setRow w3.heap.size (tc T)).heap[w2.heap.size]? = some (.cells (tc (up T k ⟨0, 0, 0, false⟩)) 25)) := Lib.hid (kept XA'.out (by omega))
  have GB : RowKit.Hid (Gr w ((w3.alloc (.cells (tc Z0) 25)).setRow w3.heap.size (tc T))) := Lib.hid (below_setRow (Below.alloc GGB.out GGB.out.size _) GGB.out.size _)
  clear g3 B1_A' lB1_A XA' lXA NB
  generalize hwB : ((w3.alloc (.cells (tc Z0) 25)).setRow w3.heap.size (tc T)) = wb at *
  clear hwB
  go_wp2_with (first | (refine wpList_load_row rfl 25 _ rfl _ rfl 25 _ (0, 0) _ XB.out Try.underlying25 rfl (by kernel_rfl) ?_))
  refine (c_exit T o 3 _).mono ?_; rintro e w4 ⟨rfl, g4⟩
  rw [E1.out, E2.out]
  have B1_A_B' := Lib.hid (blk_gr g4 B1_A_B.out)
  have lB1_A_B := blk_lt B1_A_B'.out
  have XA_B' := Lib.hid (blk_gr g4 XA_B.out)
  have lXA_B := blk_lt XA_B'.out
  have XB' := Lib.hid (blk_gr g4 XB.out)
  have lXB := blk_lt XB'.out
  have NC := Lib.hid (blk_new w4 (.cells (tc Z0) 25))
  have GGC := Lib.hid (gtrans GB.out g4)
  go_upto_region 9 with (refine wpList_store_row rfl 25 _ _ rfl _ _ rfl rfl 25 _ NC.out (tc_info _) (tc_szs _ _) (tc_one _) ?_)
  have XC : RowKit.Hid (((w4.alloc (.cells (tc Z0) 25)).setRow w4.heap.size (tc T)).heap[w4.heap.size]? = some (.cells (tc T) 25)) := Lib.hid (setRow_heap _ _ _ _ _ _ NC.out)
  have B1_A_B_C : RowKit.Hid (((w4.alloc (.cells (tc Z0) 25)).setRow w4.heap.size (tc T)).heap[w.heap.size]? = some (.cells (tc T) 25)) := Lib.hid (kept B1_A_B'.out (by omega))
  have XA_B_C : RowKit.Hid (((w4.alloc (.cells (tc Z0) 25)).setRow w4.heap.size (tc T)).heap[w2.heap.size]? = some (.cells (tc (up T k ⟨0, 0, 0, false⟩)) 25)) := Lib.hid (kept XA_B'.out (by omega))
  have XB_C : RowKit.Hid (((w4.alloc (.cells (tc Z0) 25)).setRow w4.heap.size (tc T)).heap[w3.heap.size]? = some (.cells (tc T) 25)) := Lib.hid (kept XB'.out (by omega))
  have GC : RowKit.Hid (Gr w ((w4.alloc (.cells (tc Z0) 25)).setRow w4.heap.size (tc T))) := Lib.hid (below_setRow (Below.alloc GGC.out GGC.out.size _) GGC.out.size _)
  clear g4 B1_A_B' lB1_A_B XA_B' lXA_B XB' lXB NC
  generalize hwC : ((w4.alloc (.cells (tc Z0) 25)).setRow w4.heap.size (tc T)) = wz at *
  clear hwC
  go_wp2_with (first | (refine wpList_load_row rfl 25 _ rfl _ rfl 25 _ (0, 0) _ B1_A_B_C.out Try.underlying25 rfl (by kernel_rfl) ?_) | (refine wpList_load_g ?_ 25 _ rfl _ rfl 25 _ (0, 0) _ B1_A_B_C.out Try.underlying25 rfl (by kernel_rfl) ?_) | (refine wpList_load_row rfl 25 _ rfl _ rfl 25 _ (0, 0) _ XB_C.out Try.underlying25 rfl (by kernel_rfl) ?_) | (refine wpList_load_g ?_ 25 _ rfl _ rfl 25 _ (0, 0) _ XB_C.out Try.underlying25 rfl (by kernel_rfl) ?_) | (refine wpList_load_row rfl 25 _ rfl _ rfl 25 _ (0, 0) _ XA_B_C.out Try.underlying25 rfl (by kernel_rfl) ?_) | (refine wpList_load_g ?_ 25 _ rfl _ rfl 25 _ (0, 0) _ XA_B_C.out Try.underlying25 rfl (by kernel_rfl) ?_) | (refine wpList_load_row rfl 25 _ rfl _ rfl 25 _ (0, 0) _ XC.out Try.underlying25 rfl (by kernel_rfl) ?_) | (refine wpList_load_g ?_ 25 _ rfl _ rfl 25 _ (0, 0) _ XC.out Try.underlying25 rfl (by kernel_rfl) ?_))
  go_ret
  exact ⟨rfl, GC.out⟩
set_option maxRecDepth 100000 in
set_option maxHeartbeats 3200000 in
theorem waits_ny (T : Nat → RowV) (p : Int) (q : Nat) (w : World) (hq : q < 8) (e0 : Int) (h1 : waitT T p = T) (h2 : waitN T p = 0) (h3 : waitS T p = 0) (h4 : waitE T p = e0) (he : (e0 == 0) = false) (hl : livesB T q = true) : Calls Try.prog 7 #[.agg (tc T), .int .i64 p, .int .i64 q] w fun e w' => e = .returned (.bool true) ∧ Gr w w' := by
  have hc := tc_size T
  have B0 := Lib.hid (blk_new w (.cells (tc T) 25))
  have eqt := eqT T
  have hz32 : (#[.int .i64 0, .int .i64 0, .int .i64 0, .bool false, .int .i64 0, .int .i64 0, .int .i64 0, .bool false, .int .i64 0, .int .i64 0, .int .i64 0, .bool false, .int .i64 0, .int .i64 0, .int .i64 0, .bool false, .int .i64 0, .int .i64 0, .int .i64 0, .bool false, .int .i64 0, .int .i64 0, .int .i64 0, .bool false, .int .i64 0, .int .i64 0, .int .i64 0, .bool false, .int .i64 0, .int .i64 0, .int .i64 0, .bool false] : Array Value) = tc Z0 := rfl
  have W1 := Lib.hid h1; have W2 := Lib.hid h2; have W3 := Lib.hid h3; have W4 := Lib.hid h4
  clear h1 h2 h3 h4
  obtain ⟨k1, k2⟩ := killT_ok hl
  obtain ⟨x1, x2⟩ := exitT_ok (s := 3) (lives_kill hl)
  have K1 := Lib.hid k1; have K2 := Lib.hid k2; have E1 := Lib.hid x1; have E2 := Lib.hid x2
  have hst := lives_st hl
  have HST := Lib.hid hst
  clear k1 k2 x1 x2 hl hst
  go_enter Try.func7, Try.ntmps7
  go_wp2_with fail
  refine (c_shown _).mono ?_; rintro e w1 ⟨rfl, g1⟩
  have B1 := Lib.hid (blk_gr g1 B0.out)
  have G1 := Lib.hid (galloc _ g1)
  clear g1
  go_wp2_with (first | (refine wpList_load_row rfl 25 _ rfl _ rfl 25 _ (0, 0) _ B1.out Try.underlying25 rfl (by kernel_rfl) ?_))
  refine (c_wait T p _).mono ?_; rintro e w2 ⟨rfl, g2⟩
  rw [W1.out, W2.out, W3.out, W4.out]
  have B1' := Lib.hid (blk_gr g2 B1.out)
  have lB1 := blk_lt B1'.out
  have NA := Lib.hid (blk_new w2 (.cells (tc Z0) 25))
  have GGA := Lib.hid (gtrans G1.out g2)
  go_upto_region 3 with (refine wpList_store_row rfl 25 _ _ rfl _ _ rfl rfl 25 _ NA.out (tc_info _) (tc_szs _ _) (tc_one _) ?_)
  have XA : RowKit.Hid (((w2.alloc (.cells (tc Z0) 25)).setRow w2.heap.size (tc T)).heap[w2.heap.size]? = some (.cells (tc T) 25)) := Lib.hid (setRow_heap _ _ _ _ _ _ NA.out)
  have B1_A : RowKit.Hid (((w2.alloc (.cells (tc Z0) 25)).setRow w2.heap.size (tc T)).heap[w.heap.size]? = some (.cells (tc T) 25)) := Lib.hid (kept B1'.out (by omega))
  have GA : RowKit.Hid (Gr w ((w2.alloc (.cells (tc Z0) 25)).setRow w2.heap.size (tc T))) := Lib.hid (below_setRow (Below.alloc GGA.out GGA.out.size _) GGA.out.size _)
  clear g2 B1' lB1 NA
  generalize hwA : ((w2.alloc (.cells (tc Z0) 25)).setRow w2.heap.size (tc T)) = wa at *
  clear hwA
  go_wp2_with (first | (refine wpList_load_row rfl 25 _ rfl _ rfl 25 _ (0, 0) _ B1_A.out Try.underlying25 rfl (by kernel_rfl) ?_))
  refine (c_kill T q _).mono ?_; rintro e w3 ⟨rfl, g3⟩
  rw [K1.out, K2.out]
  have B1_A' := Lib.hid (blk_gr g3 B1_A.out)
  have lB1_A := blk_lt B1_A'.out
  have XA' := Lib.hid (blk_gr g3 XA.out)
  have lXA := blk_lt XA'.out
  have NB := Lib.hid (blk_new w3 (.cells (tc Z0) 25))
  have GGB := Lib.hid (gtrans GA.out g3)
  go_upto_region 6 with (refine wpList_store_row rfl 25 _ _ rfl _ _ rfl rfl 25 _ NB.out (tc_info _) (tc_szs _ _) (tc_one _) ?_)
  have XB : RowKit.Hid (((w3.alloc (.cells (tc Z0) 25)).setRow w3.heap.size (tc (up T q { T q with ki := true }))).heap[w3.heap.size]? = some (.cells (tc (up T q { T q with ki := true })) 25)) := Lib.hid (setRow_heap _ _ _ _ _ _ NB.out)
  have B1_A_B : RowKit.Hid (((w3.alloc (.cells (tc Z0) 25)).setRow w3.heap.size (tc (up T q { T q with ki := true }))).heap[w.heap.size]? = some (.cells (tc T) 25)) := Lib.hid (kept B1_A'.out (by omega))
  have XA_B : RowKit.Hid (((w3.alloc (.cells (tc Z0) 25)).setRow w3.heap.size (tc (up T q { T q with ki := true }))).heap[w2.heap.size]? = some (.cells (tc T) 25)) := Lib.hid (kept XA'.out (by omega))
  have GB : RowKit.Hid (Gr w ((w3.alloc (.cells (tc Z0) 25)).setRow w3.heap.size (tc (up T q { T q with ki := true })))) := Lib.hid (below_setRow (Below.alloc GGB.out GGB.out.size _) GGB.out.size _)
  clear g3 B1_A' lB1_A XA' lXA NB
  generalize hwB : ((w3.alloc (.cells (tc Z0) 25)).setRow w3.heap.size (tc (up T q { T q with ki := true }))) = wb at *
  clear hwB
  have v0 := blk_cell XB.out (q * 4) (tc_st (up T q { T q with ki := true }) q (by omega))
  have v1 := blk_cell XB.out (q * 4 + 1) (tc_pa (up T q { T q with ki := true }) q (by omega))
  have v2 := blk_cell XB.out (q * 4 + 2) (tc_su (up T q { T q with ki := true }) q (by omega))
  have v3 := blk_cell XB.out (q * 4 + 3) (tc_ki (up T q { T q with ki := true }) q (by omega))
  rw [up_at] at v0 v1 v2 v3
  rw [HST.out] at v0
  go_wp2_with (first | (refine wpList_load_row rfl 25 _ rfl _ rfl 25 _ (0, 0) _ XB.out Try.underlying25 rfl (by kernel_rfl) ?_))
  refine (c_exit (up T q { T q with ki := true }) q 3 _).mono ?_; rintro e w4 ⟨rfl, g4⟩
  rw [E1.out, E2.out]
  have B1_A_B' := Lib.hid (blk_gr g4 B1_A_B.out)
  have lB1_A_B := blk_lt B1_A_B'.out
  have XA_B' := Lib.hid (blk_gr g4 XA_B.out)
  have lXA_B := blk_lt XA_B'.out
  have XB' := Lib.hid (blk_gr g4 XB.out)
  have lXB := blk_lt XB'.out
  have NC := Lib.hid (blk_new w4 (.cells (tc Z0) 25))
  have GGC := Lib.hid (gtrans GB.out g4)
  go_upto_region 9 with (refine wpList_store_row rfl 25 _ _ rfl _ _ rfl rfl 25 _ NC.out (tc_info _) (tc_szs _ _) (tc_one _) ?_)
  have XC : RowKit.Hid (((w4.alloc (.cells (tc Z0) 25)).setRow w4.heap.size (tc (up (rp (up T q { T q with ki := true }) q 8) q ⟨2, ((up T q { T q with ki := true }) q).pa, 3, false⟩))).heap[w4.heap.size]? = some (.cells (tc (up (rp (up T q { T q with ki := true }) q 8) q ⟨2, ((up T q { T q with ki := true }) q).pa, 3, false⟩)) 25)) := Lib.hid (setRow_heap _ _ _ _ _ _ NC.out)
  have B1_A_B_C : RowKit.Hid (((w4.alloc (.cells (tc Z0) 25)).setRow w4.heap.size (tc (up (rp (up T q { T q with ki := true }) q 8) q ⟨2, ((up T q { T q with ki := true }) q).pa, 3, false⟩))).heap[w.heap.size]? = some (.cells (tc T) 25)) := Lib.hid (kept B1_A_B'.out (by omega))
  have XA_B_C : RowKit.Hid (((w4.alloc (.cells (tc Z0) 25)).setRow w4.heap.size (tc (up (rp (up T q { T q with ki := true }) q 8) q ⟨2, ((up T q { T q with ki := true }) q).pa, 3, false⟩))).heap[w2.heap.size]? = some (.cells (tc T) 25)) := Lib.hid (kept XA_B'.out (by omega))
  have XB_C : RowKit.Hid (((w4.alloc (.cells (tc Z0) 25)).setRow w4.heap.size (tc (up (rp (up T q { T q with ki := true }) q 8) q ⟨2, ((up T q { T q with ki := true }) q).pa, 3, false⟩))).heap[w3.heap.size]? = some (.cells (tc (up T q { T q with ki := true })) 25)) := Lib.hid (kept XB'.out (by omega))
  have GC : RowKit.Hid (Gr w ((w4.alloc (.cells (tc Z0) 25)).setRow w4.heap.size (tc (up (rp (up T q { T q with ki := true }) q 8) q ⟨2, ((up T q { T q with ki := true }) q).pa, 3, false⟩)))) := Lib.hid (below_setRow (Below.alloc GGC.out GGC.out.size _) GGC.out.size _)
  clear g4 B1_A_B' lB1_A_B XA_B' lXA_B XB' lXB NC
  generalize hwC : ((w4.alloc (.cells (tc Z0) 25)).setRow w4.heap.size (tc (up (rp (up T q { T q with ki := true }) q 8) q ⟨2, ((up T q { T q with ki := true }) q).pa, 3, false⟩))) = wz at *
  clear hwC
  have y0 := blk_cell XC.out (q * 4) (tc_st (up (rp (up T q { T q with ki := true }) q 8) q ⟨2, ((up T q { T q with ki := true }) q).pa, 3, false⟩) q (by omega))
  have y1 := blk_cell XC.out (q * 4 + 1) (tc_pa (up (rp (up T q { T q with ki := true }) q 8) q ⟨2, ((up T q { T q with ki := true }) q).pa, 3, false⟩) q (by omega))
  have y2 := blk_cell XC.out (q * 4 + 2) (tc_su (up (rp (up T q { T q with ki := true }) q 8) q ⟨2, ((up T q { T q with ki := true }) q).pa, 3, false⟩) q (by omega))
  have y3 := blk_cell XC.out (q * 4 + 3) (tc_ki (up (rp (up T q { T q with ki := true }) q 8) q ⟨2, ((up T q { T q with ki := true }) q).pa, 3, false⟩) q (by omega))
  rw [up_at] at y0 y1 y2 y3
  go_wp2_with (first | (refine wpList_load_row rfl 25 _ rfl _ rfl 25 _ (0, 0) _ B1_A_B_C.out Try.underlying25 rfl (by kernel_rfl) ?_) | (refine wpList_load_g ?_ 25 _ rfl _ rfl 25 _ (0, 0) _ B1_A_B_C.out Try.underlying25 rfl (by kernel_rfl) ?_) | (refine wpList_load_row rfl 25 _ rfl _ rfl 25 _ (0, 0) _ XB_C.out Try.underlying25 rfl (by kernel_rfl) ?_) | (refine wpList_load_g ?_ 25 _ rfl _ rfl 25 _ (0, 0) _ XB_C.out Try.underlying25 rfl (by kernel_rfl) ?_) | (refine wpList_load_row rfl 25 _ rfl _ rfl 25 _ (0, 0) _ XA_B_C.out Try.underlying25 rfl (by kernel_rfl) ?_) | (refine wpList_load_g ?_ 25 _ rfl _ rfl 25 _ (0, 0) _ XA_B_C.out Try.underlying25 rfl (by kernel_rfl) ?_) | (refine wpList_load_row rfl 25 _ rfl _ rfl 25 _ (0, 0) _ XC.out Try.underlying25 rfl (by kernel_rfl) ?_) | (refine wpList_load_g ?_ 25 _ rfl _ rfl 25 _ (0, 0) _ XC.out Try.underlying25 rfl (by kernel_rfl) ?_))
  go_ret
  exact ⟨rfl, GC.out⟩
set_option maxRecDepth 100000 in
set_option maxHeartbeats 3200000 in
theorem waits_yy (T : Nat → RowV) (p : Int) (q : Nat) (w : World) (hq : q < 8) (k : Nat) (hk : k < 8) (hw : wn T p 8 0 = k) (hlp : livesB T p = true) (hl : livesB T q = true) : Calls Try.prog 7 #[.agg (tc T), .int .i64 p, .int .i64 q] w fun e w' => e = .returned (.bool true) ∧ Gr w w' := by
  have hc := tc_size T
  have B0 := Lib.hid (blk_new w (.cells (tc T) 25))
  have eqt := eqT T
  have hz32 : (#[.int .i64 0, .int .i64 0, .int .i64 0, .bool false, .int .i64 0, .int .i64 0, .int .i64 0, .bool false, .int .i64 0, .int .i64 0, .int .i64 0, .bool false, .int .i64 0, .int .i64 0, .int .i64 0, .bool false, .int .i64 0, .int .i64 0, .int .i64 0, .bool false, .int .i64 0, .int .i64 0, .int .i64 0, .bool false, .int .i64 0, .int .i64 0, .int .i64 0, .bool false, .int .i64 0, .int .i64 0, .int .i64 0, .bool false] : Array Value) = tc Z0 := rfl
  obtain ⟨h1, h2, h3, h4⟩ := wait_ok hlp hw hk
  have W1 := Lib.hid h1; have W2 := Lib.hid h2; have W3 := Lib.hid h3; have W4 := Lib.hid h4
  have hz := zc_out (show zc T p k = true by rw [← hw]; exact wn_hit T p 8 0 (by omega))
  obtain ⟨z1, z2, z3⟩ := hz
  have z1' : (T k).st = 2 := by simpa using z1
  have z2' : ((k : Int) == p) = false := by simpa using z2
  have hk0 : (0 : Int) ≤ k := by omega
  have hk7 : (k : Int) ≤ 7 := by omega
  clear h1 h2 h3 h4 hw z1 z2 hlp
  obtain ⟨k1, k2⟩ := killT_ok hl
  obtain ⟨x1, x2⟩ := exitT_ok (s := 3) (lives_kill hl)
  have K1 := Lib.hid k1; have K2 := Lib.hid k2; have E1 := Lib.hid x1; have E2 := Lib.hid x2
  have hst := lives_st hl
  have HST := Lib.hid hst
  clear k1 k2 x1 x2 hl hst
  go_enter Try.func7, Try.ntmps7
  go_wp2_with fail
  refine (c_shown _).mono ?_; rintro e w1 ⟨rfl, g1⟩
  have B1 := Lib.hid (blk_gr g1 B0.out)
  have G1 := Lib.hid (galloc _ g1)
  clear g1
  go_wp2_with (first | (refine wpList_load_row rfl 25 _ rfl _ rfl 25 _ (0, 0) _ B1.out Try.underlying25 rfl (by kernel_rfl) ?_))
  refine (c_wait T p _).mono ?_; rintro e w2 ⟨rfl, g2⟩
  rw [W1.out, W2.out, W3.out, W4.out]
  have B1' := Lib.hid (blk_gr g2 B1.out)
  have lB1 := blk_lt B1'.out
  have NA := Lib.hid (blk_new w2 (.cells (tc Z0) 25))
  have GGA := Lib.hid (gtrans G1.out g2)
  go_upto_region 3 with (refine wpList_store_row rfl 25 _ _ rfl _ _ rfl rfl 25 _ NA.out (tc_info _) (tc_szs _ _) (tc_one _) ?_)
  have XA : RowKit.Hid (((w2.alloc (.cells (tc Z0) 25)).setRow w2.heap.size (tc (up T k ⟨0, 0, 0, false⟩))).heap[w2.heap.size]? = some (.cells (tc (up T k ⟨0, 0, 0, false⟩)) 25)) := Lib.hid (setRow_heap _ _ _ _ _ _ NA.out)
  have B1_A : RowKit.Hid (((w2.alloc (.cells (tc Z0) 25)).setRow w2.heap.size (tc (up T k ⟨0, 0, 0, false⟩))).heap[w.heap.size]? = some (.cells (tc T) 25)) := Lib.hid (kept B1'.out (by omega))
  have GA : RowKit.Hid (Gr w ((w2.alloc (.cells (tc Z0) 25)).setRow w2.heap.size (tc (up T k ⟨0, 0, 0, false⟩)))) := Lib.hid (below_setRow (Below.alloc GGA.out GGA.out.size _) GGA.out.size _)
  clear g2 B1' lB1 NA
  generalize hwA : ((w2.alloc (.cells (tc Z0) 25)).setRow w2.heap.size (tc (up T k ⟨0, 0, 0, false⟩))) = wa at *
  clear hwA
  have a0 := blk_cell B1_A.out (k * 4) (tc_st T k (by omega))
  have a1 := blk_cell B1_A.out (k * 4 + 1) (tc_pa T k (by omega))
  have a2 := blk_cell B1_A.out (k * 4 + 2) (tc_su T k (by omega))
  have a3 := blk_cell B1_A.out (k * 4 + 3) (tc_ki T k (by omega))
  have b0 := blk_cell XA.out (k * 4) (tc_st (up T k ⟨0, 0, 0, false⟩) k (by omega))
  have b1 := blk_cell XA.out (k * 4 + 1) (tc_pa (up T k ⟨0, 0, 0, false⟩) k (by omega))
  have b2 := blk_cell XA.out (k * 4 + 2) (tc_su (up T k ⟨0, 0, 0, false⟩) k (by omega))
  have b3 := blk_cell XA.out (k * 4 + 3) (tc_ki (up T k ⟨0, 0, 0, false⟩) k (by omega))
  rw [up_at] at b0 b1 b2 b3
  rw [z1'] at a0
  rw [z3] at a1
  clear z1' z3
  go_wp2_with (first | (refine wpList_load_row rfl 25 _ rfl _ rfl 25 _ (0, 0) _ B1_A.out Try.underlying25 rfl (by kernel_rfl) ?_))
  refine (c_kill T q _).mono ?_; rintro e w3 ⟨rfl, g3⟩
  rw [K1.out, K2.out]
  have B1_A' := Lib.hid (blk_gr g3 B1_A.out)
  have lB1_A := blk_lt B1_A'.out
  have XA' := Lib.hid (blk_gr g3 XA.out)
  have lXA := blk_lt XA'.out
  have NB := Lib.hid (blk_new w3 (.cells (tc Z0) 25))
  have GGB := Lib.hid (gtrans GA.out g3)
  go_upto_region 6 with (refine wpList_store_row rfl 25 _ _ rfl _ _ rfl rfl 25 _ NB.out (tc_info _) (tc_szs _ _) (tc_one _) ?_)
  have XB : RowKit.Hid (((w3.alloc (.cells (tc Z0) 25)).setRow w3.heap.size (tc (up T q { T q with ki := true }))).heap[w3.heap.size]? = some (.cells (tc (up T q { T q with ki := true })) 25)) := Lib.hid (setRow_heap _ _ _ _ _ _ NB.out)
  have B1_A_B : RowKit.Hid (((w3.alloc (.cells (tc Z0) 25)).setRow w3.heap.size (tc (up T q { T q with ki := true }))).heap[w.heap.size]? = some (.cells (tc T) 25)) := Lib.hid (kept B1_A'.out (by omega))
  have XA_B : RowKit.Hid (((w3.alloc (.cells (tc Z0) 25)).setRow w3.heap.size (tc (up T q { T q with ki := true }))).heap[w2.heap.size]? = some (.cells (tc (up T k ⟨0, 0, 0, false⟩)) 25)) := Lib.hid (kept XA'.out (by omega))
  have GB : RowKit.Hid (Gr w ((w3.alloc (.cells (tc Z0) 25)).setRow w3.heap.size (tc (up T q { T q with ki := true })))) := Lib.hid (below_setRow (Below.alloc GGB.out GGB.out.size _) GGB.out.size _)
  clear g3 B1_A' lB1_A XA' lXA NB
  generalize hwB : ((w3.alloc (.cells (tc Z0) 25)).setRow w3.heap.size (tc (up T q { T q with ki := true }))) = wb at *
  clear hwB
  have v0 := blk_cell XB.out (q * 4) (tc_st (up T q { T q with ki := true }) q (by omega))
  have v1 := blk_cell XB.out (q * 4 + 1) (tc_pa (up T q { T q with ki := true }) q (by omega))
  have v2 := blk_cell XB.out (q * 4 + 2) (tc_su (up T q { T q with ki := true }) q (by omega))
  have v3 := blk_cell XB.out (q * 4 + 3) (tc_ki (up T q { T q with ki := true }) q (by omega))
  rw [up_at] at v0 v1 v2 v3
  rw [HST.out] at v0
  go_wp2_with (first | (refine wpList_load_row rfl 25 _ rfl _ rfl 25 _ (0, 0) _ XB.out Try.underlying25 rfl (by kernel_rfl) ?_))
  refine (c_exit (up T q { T q with ki := true }) q 3 _).mono ?_; rintro e w4 ⟨rfl, g4⟩
  rw [E1.out, E2.out]
  have B1_A_B' := Lib.hid (blk_gr g4 B1_A_B.out)
  have lB1_A_B := blk_lt B1_A_B'.out
  have XA_B' := Lib.hid (blk_gr g4 XA_B.out)
  have lXA_B := blk_lt XA_B'.out
  have XB' := Lib.hid (blk_gr g4 XB.out)
  have lXB := blk_lt XB'.out
  have NC := Lib.hid (blk_new w4 (.cells (tc Z0) 25))
  have GGC := Lib.hid (gtrans GB.out g4)
  go_upto_region 9 with (refine wpList_store_row rfl 25 _ _ rfl _ _ rfl rfl 25 _ NC.out (tc_info _) (tc_szs _ _) (tc_one _) ?_)
  have XC : RowKit.Hid (((w4.alloc (.cells (tc Z0) 25)).setRow w4.heap.size (tc (up (rp (up T q { T q with ki := true }) q 8) q ⟨2, ((up T q { T q with ki := true }) q).pa, 3, false⟩))).heap[w4.heap.size]? = some (.cells (tc (up (rp (up T q { T q with ki := true }) q 8) q ⟨2, ((up T q { T q with ki := true }) q).pa, 3, false⟩)) 25)) := Lib.hid (setRow_heap _ _ _ _ _ _ NC.out)
  have B1_A_B_C : RowKit.Hid (((w4.alloc (.cells (tc Z0) 25)).setRow w4.heap.size (tc (up (rp (up T q { T q with ki := true }) q 8) q ⟨2, ((up T q { T q with ki := true }) q).pa, 3, false⟩))).heap[w.heap.size]? = some (.cells (tc T) 25)) := Lib.hid (kept B1_A_B'.out (by omega))
  have XA_B_C : RowKit.Hid (((w4.alloc (.cells (tc Z0) 25)).setRow w4.heap.size (tc (up (rp (up T q { T q with ki := true }) q 8) q ⟨2, ((up T q { T q with ki := true }) q).pa, 3, false⟩))).heap[w2.heap.size]? = some (.cells (tc (up T k ⟨0, 0, 0, false⟩)) 25)) := Lib.hid (kept XA_B'.out (by omega))
  have XB_C : RowKit.Hid (((w4.alloc (.cells (tc Z0) 25)).setRow w4.heap.size (tc (up (rp (up T q { T q with ki := true }) q 8) q ⟨2, ((up T q { T q with ki := true }) q).pa, 3, false⟩))).heap[w3.heap.size]? = some (.cells (tc (up T q { T q with ki := true })) 25)) := Lib.hid (kept XB'.out (by omega))
  have GC : RowKit.Hid (Gr w ((w4.alloc (.cells (tc Z0) 25)).setRow w4.heap.size (tc (up (rp (up T q { T q with ki := true }) q 8) q ⟨2, ((up T q { T q with ki := true }) q).pa, 3, false⟩)))) := Lib.hid (below_setRow (Below.alloc GGC.out GGC.out.size _) GGC.out.size _)
  clear g4 B1_A_B' lB1_A_B XA_B' lXA_B XB' lXB NC
  generalize hwC : ((w4.alloc (.cells (tc Z0) 25)).setRow w4.heap.size (tc (up (rp (up T q { T q with ki := true }) q 8) q ⟨2, ((up T q { T q with ki := true }) q).pa, 3, false⟩))) = wz at *
  clear hwC
  have y0 := blk_cell XC.out (q * 4) (tc_st (up (rp (up T q { T q with ki := true }) q 8) q ⟨2, ((up T q { T q with ki := true }) q).pa, 3, false⟩) q (by omega))
  have y1 := blk_cell XC.out (q * 4 + 1) (tc_pa (up (rp (up T q { T q with ki := true }) q 8) q ⟨2, ((up T q { T q with ki := true }) q).pa, 3, false⟩) q (by omega))
  have y2 := blk_cell XC.out (q * 4 + 2) (tc_su (up (rp (up T q { T q with ki := true }) q 8) q ⟨2, ((up T q { T q with ki := true }) q).pa, 3, false⟩) q (by omega))
  have y3 := blk_cell XC.out (q * 4 + 3) (tc_ki (up (rp (up T q { T q with ki := true }) q 8) q ⟨2, ((up T q { T q with ki := true }) q).pa, 3, false⟩) q (by omega))
  rw [up_at] at y0 y1 y2 y3
  go_wp2_with fail
  go_ret
  exact ⟨rfl, GC.out⟩
theorem wait_zero {T : Nat → RowV} {p : Int} (h : ¬ (livesB T p = true ∧ wn T p 8 0 < 8)) : waitT T p = T ∧ waitN T p = 0 ∧ waitS T p = 0 ∧ (waitE T p == 0) = false := by
  have hl : livesB T p = true ∨ livesB T p = false := by cases livesB T p <;> simp
  rcases hl with hl | hl
  · have h8 : wn T p 8 0 = 8 := by
      have := (wn_ge T p 8 0).2
      have : ¬ wn T p 8 0 < 8 := fun g => h ⟨hl, g⟩
      omega
    obtain ⟨q1, q2, q3, q4⟩ := wait_none hl h8
    refine ⟨q1, q2, q3, ?_⟩
    rw [q4]; unfold ec; split <;> rfl
  · obtain ⟨q1, q2, q3, q4⟩ := wait_no hl
    refine ⟨q1, q2, q3, ?_⟩
    rw [q4]; rfl
theorem l_waits (T : Nat → RowV) (p o : Int) (w : World) : Calls Try.prog 7 #[.agg (tc T), .int .i64 p, .int .i64 o] w fun e w' => e = .returned (.bool true) ∧ Gr w w' := by
  have hl : livesB T o = true ∨ livesB T o = false := by cases livesB T o <;> simp
  by_cases hw : livesB T p = true ∧ wn T p 8 0 < 8
  · rcases hl with hl | hl
    · obtain ⟨q, hq, rfl⟩ := lives_nat hl
      exact waits_yy T p q w hq _ hw.2 rfl hw.1 hl
    · exact waits_yn T p o w _ hw.2 rfl hw.1 hl
  · obtain ⟨h1, h2, h3, h4⟩ := wait_zero hw
    rcases hl with hl | hl
    · obtain ⟨q, hq, rfl⟩ := lives_nat hl
      exact waits_ny T p q w hq _ h1 h2 h3 rfl h4 hl
    · exact waits_nn T p o w _ h1 h2 h3 rfl h4 hl
end Go.Proofs.Ytfegnppilhfghaa.P
