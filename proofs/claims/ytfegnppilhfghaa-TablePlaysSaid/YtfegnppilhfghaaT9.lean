/- Stage 14: contracts. No condition. -/
import Derived.Test.YtfegnppilhfghaaT4
import Derived.Deep.RegionHeld3
import Derived.Deep.DeepCutAuto
set_option linter.unusedVariables false
namespace Go.Proofs.Ytfegnppilhfghaa.P
open Go.RowKit
def zc (T : Nat → RowV) (p : Int) (k : Nat) : Bool := childB T k p && (T k).st == 2
/-- The first place from k on of a child that has ended. -/
def wn (T : Nat → RowV) (p : Int) : Nat → Nat → Nat
  | 0, k => k
  | n + 1, k => if zc T p k = true then k else wn T p n (k + 1)
/-- Is there a child below k? -/
def ac (T : Nat → RowV) (p : Int) : Nat → Bool
  | 0 => false
  | k + 1 => ac T p k || childB T k p
def ec (T : Nat → RowV) (p : Int) (k : Nat) : Int := if ac T p k = true then 12 else 19
theorem ec_yes {T : Nat → RowV} {p : Int} {k : Nat} (h : childB T k p = true) : ec T p (k + 1) = 12 := by unfold ec ac; simp [h]
theorem ec_no {T : Nat → RowV} {p : Int} {k : Nat} (h : childB T k p = false) : ec T p (k + 1) = ec T p k := by unfold ec; rw [ac]; simp [h]
def waitT (T : Nat → RowV) (p : Int) : Nat → RowV := if livesB T p = true then (if wn T p 8 0 < 8 then up T (wn T p 8 0) ⟨0, 0, 0, false⟩ else T) else T
def waitN (T : Nat → RowV) (p : Int) : Int := if livesB T p = true then (if wn T p 8 0 < 8 then (wn T p 8 0 : Int) else 0) else 0
def waitS (T : Nat → RowV) (p : Int) : Int := if livesB T p = true then (if wn T p 8 0 < 8 then (T (wn T p 8 0)).su else 0) else 0
def waitE (T : Nat → RowV) (p : Int) : Int := if livesB T p = true then (if wn T p 8 0 < 8 then 0 else ec T p 8) else 5
theorem wait_no {T : Nat → RowV} {p : Int} (h : livesB T p = false) : waitT T p = T ∧ waitN T p = 0 ∧ waitS T p = 0 ∧ waitE T p = 5 := by
  unfold waitT waitN waitS waitE; simp [h]
theorem wait_ok {T : Nat → RowV} {p : Int} (h : livesB T p = true) {k : Nat} (hk : wn T p 8 0 = k) (h8 : k < 8) : waitT T p = up T k ⟨0, 0, 0, false⟩ ∧ waitN T p = (k : Int) ∧ waitS T p = (T k).su ∧ waitE T p = 0 := by
  unfold waitT waitN waitS waitE; simp [h, hk, h8]
theorem wait_none {T : Nat → RowV} {p : Int} (h : livesB T p = true) (h8 : wn T p 8 0 = 8) : waitT T p = T ∧ waitN T p = 0 ∧ waitS T p = 0 ∧ waitE T p = ec T p 8 := by
  unfold waitT waitN waitS waitE; simp [h, h8]
theorem twait_none (T : Nat → RowV) (p : Int)  (hl : livesB T p = false) (w : World) : Calls Try.prog 15 #[.agg (tc T), .int .i64 p] w fun e w' => e = .returned (.tuple #[.agg (tc T), .int .i64 0, .int .i64 0, .int .i64 5]) ∧ Gr w w' := by
  have hc := tc_size T
  have H := Lib.hid hl
  have B0 := Lib.hid (blk_new w (.cells (tc T) 25))
  clear hl
  go_enter Try.func15, Try.ntmps15
  go_wp2_with (refine wpList_load_row rfl 25 _ rfl _ rfl 25 _ (0, 0) _ (blk_alloc _ B0.out) Try.underlying25 rfl (by kernel_rfl) ?_)
  refine (l_lives T p _).mono ?_; rintro e w1 ⟨rfl, g1⟩
  rw [H.out]
  have R0 := blk_gr g1 (blk_new _ _)
  rw [World.size_alloc] at R0
  have R1 : RowKit.Hid (w1.heap[w.heap.size + 1]? = some (.cells (tc Z0) 25)) := Lib.hid R0
  have B1 := Lib.hid (blk_gr g1 (blk_alloc _ B0.out))
  have G1 := Lib.hid (gtrans (Below.alloc (Below.alloc (Below.refl _ _) (Nat.le_refl _) _) (by rw [World.size_alloc]; omega) _) g1 : Gr w w1)
  clear R0 g1
  go_wp2_with (first | (refine wpList_load_row rfl 25 _ rfl _ rfl 25 _ (0, 0) _ B1.out Try.underlying25 rfl (by kernel_rfl) ?_) | (refine wpList_store_row rfl 25 _ _ rfl _ _ rfl rfl 25 _ R1.out (tc_info _) (tc_szs _ _) (tc_one _) ?_))
  exact bodyPost_ret (res4 rfl _ _ _ _ _ rfl (ld (setRow_heap _ _ _ _ _ _ R1.out))) rfl ⟨rfl, below_setRow G1.out (Nat.le_succ _) _⟩
set_option maxHeartbeats 1600000 in
theorem twait_ok (T : Nat → RowV) (n : Nat) (hn : n < 8) (hl : livesB T n = true) (f : Nat) (hf0 : wn T n 8 0 = f) (w : World) : Calls Try.prog 15 #[.agg (tc T), .int .i64 n] w fun e w' => e = .returned (.tuple #[.agg (tc (waitT T n)), .int .i64 (waitN T n), .int .i64 (waitS T n), .int .i64 (waitE T n)]) ∧ Gr w w' := by
  have hc := tc_size T
  have H := Lib.hid hl
  have B0 := Lib.hid (blk_new w (.cells (tc T) 25))
  have HF0 := Lib.hid hf0
  clear hl hf0
  go_enter Try.func15, Try.ntmps15
  go_wp2_with (refine wpList_load_row rfl 25 _ rfl _ rfl 25 _ (0, 0) _ (blk_alloc _ B0.out) Try.underlying25 rfl (by kernel_rfl) ?_)
  refine (l_lives T n _).mono ?_; rintro e w1 ⟨rfl, g1⟩
  rw [H.out]
  have R0 := blk_gr g1 (blk_new _ _)
  rw [World.size_alloc] at R0
  have R1 : RowKit.Hid (w1.heap[w.heap.size + 1]? = some (.cells (tc Z0) 25)) := Lib.hid R0
  have B1 := Lib.hid (blk_gr g1 (blk_alloc _ B0.out))
  have G1 := Lib.hid (gtrans (Below.alloc (Below.alloc (Below.refl _ _) (Nat.le_refl _) _) (by rw [World.size_alloc]; omega) _) g1 : Gr w w1)
  clear R0 g1
  go_wp2_with fail
  go_loopw [8, 16] (fun v8 v16 wr => ∃ k : Nat, k ≤ 8 ∧ v8 = .int .i64 (ec T n k) ∧ v16 = .int .i64 k ∧ f = wn T n (8 - k) k ∧ TL w wr T) (fun _ v16 _ => 8 - (intOf v16).toNat)
  case atStart => exact ⟨0, by omega, rfl, rfl, HF0.out.symm, G1.out, B1.out, R1.out⟩
  case round =>
    obtain ⟨k, hk, rfl, rfl, hf, hg, hb, hr⟩ := hrel
    have HB := Lib.hid hb
    have HG := Lib.hid hg
    have HR := Lib.hid hr
    clear hb hg hr
    by_cases hlt : k < 8
    · have hk' : (k : Int) < 8 := by omega
      have HL := Lib.hid hlt
      have e8 : 8 - k = (7 - k) + 1 := by omega
      rw [e8, wn] at hf
      have e9 : 7 - k = 8 - (k + 1) := by omega
      have ht : childB T k n = true ∨ childB T k n = false := by cases childB T k n <;> simp
      have hs : ((T k).st == 2) = true ∨ ((T k).st == 2) = false := by cases ((T k).st == 2) <;> simp
      have hzc : zc T n k = (childB T k n && ((T k).st == 2)) := rfl
      rcases ht with ht | ht
      · rcases hs with hs | hs
        · have hz : zc T n k = true := by rw [hzc, ht, hs]; rfl
          rw [if_pos hz] at hf
          have HF := Lib.hid hf
          have HT := Lib.hid ht
          clear hf ht hz hzc e8 e9
          go_wp2_with (first | (refine wpList_load_row rfl 25 _ rfl _ rfl 25 _ (0, 0) _ HB.out Try.underlying25 rfl (by kernel_rfl) ?_))
          refine (l_child T k n hlt _).mono ?_; rintro e w2 ⟨rfl, g2⟩
          rw [HT.out]
          have B2 := Lib.hid (blk_gr g2 HB.out); have R2 := Lib.hid (blk_gr g2 HR.out); have G2 := Lib.hid (gtrans HG.out g2)
          clear g2
          have l2 := blk_lt B2.out
          have z0 := blk_frozen B2.out (k * 4)
          have z1 := blk_frozen B2.out (k * 4 + 1)
          have z2 := blk_frozen B2.out (k * 4 + 2)
          have z3 := blk_frozen B2.out (k * 4 + 3)
          have c0 := blk_cell B2.out (k * 4) (tc_st T k HL.out)
          have c1 := blk_cell B2.out (k * 4 + 1) (tc_pa T k HL.out)
          have c2 := blk_cell B2.out (k * 4 + 2) (tc_su T k HL.out)
          have c3 := blk_cell B2.out (k * 4 + 3) (tc_ki T k HL.out)
          go_upto_region 11 with fail
          have B3 : RowKit.Hid (((((w2.setCell ⟨w.heap.size, k * 4, none⟩ (.int .i64 0)).setCell ⟨w.heap.size, k * 4 + 1, none⟩ (.int .i64 0)).setCell ⟨w.heap.size, k * 4 + 2, none⟩ (.int .i64 0)).setCell ⟨w.heap.size, k * 4 + 3, none⟩ (.bool false)).heap[w.heap.size]? = some (.cells (tc (up T k ⟨0, 0, 0, false⟩)) 25)) := Lib.hid (blk_row B2.out k HL.out ⟨0, 0, 0, false⟩)
          have R3 : RowKit.Hid (((((w2.setCell ⟨w.heap.size, k * 4, none⟩ (.int .i64 0)).setCell ⟨w.heap.size, k * 4 + 1, none⟩ (.int .i64 0)).setCell ⟨w.heap.size, k * 4 + 2, none⟩ (.int .i64 0)).setCell ⟨w.heap.size, k * 4 + 3, none⟩ (.bool false)).heap[w.heap.size + 1]? = some (.cells (tc Z0) 25)) := Lib.hid (row_other R2.out (Nat.succ_ne_self _) k ⟨0, 0, 0, false⟩)
          have G3 : RowKit.Hid (Gr w ((((w2.setCell ⟨w.heap.size, k * 4, none⟩ (.int .i64 0)).setCell ⟨w.heap.size, k * 4 + 1, none⟩ (.int .i64 0)).setCell ⟨w.heap.size, k * 4 + 2, none⟩ (.int .i64 0)).setCell ⟨w.heap.size, k * 4 + 3, none⟩ (.bool false))) := Lib.hid (gr_row G2.out (Nat.le_refl _) k ⟨0, 0, 0, false⟩)
          clear z0 z1 z2 z3 c0 c1 c2 c3
          generalize ((((w2.setCell ⟨w.heap.size, k * 4, none⟩ (.int .i64 0)).setCell ⟨w.heap.size, k * 4 + 1, none⟩ (.int .i64 0)).setCell ⟨w.heap.size, k * 4 + 2, none⟩ (.int .i64 0)).setCell ⟨w.heap.size, k * 4 + 3, none⟩ (.bool false)) = wx at *
          go_wp2_with (first | (refine wpList_load_row rfl 25 _ rfl _ rfl 25 _ (0, 0) _ B3.out Try.underlying25 rfl (by kernel_rfl) ?_) | (refine wpList_store_row rfl 25 _ _ rfl _ _ rfl rfl 25 _ R3.out (tc_info _) (tc_szs _ _) (tc_one _) ?_))
          obtain ⟨q1, q2, q3, q4⟩ := wait_ok H.out (HF0.out.trans HF.out) HL.out
          rw [q1, q2, q3, q4]
          exact bodyPost_ret (res4 rfl _ _ _ _ _ rfl (ld (setRow_heap _ _ _ _ _ _ R3.out))) rfl ⟨rfl, below_setRow G3.out (Nat.le_succ _) _⟩
        · have hz : zc T n k = false := by rw [hzc, ht, hs]; rfl
          rw [if_neg (by rw [hz]; simp), e9] at hf
          have HF := Lib.hid hf
          have HT := Lib.hid ht
          clear hf ht hz hzc e8 e9
          go_wp2_with (first | (refine wpList_load_row rfl 25 _ rfl _ rfl 25 _ (0, 0) _ HB.out Try.underlying25 rfl (by kernel_rfl) ?_))
          refine (l_child T k n hlt _).mono ?_; rintro e w2 ⟨rfl, g2⟩
          rw [HT.out]
          have B2 := Lib.hid (blk_gr g2 HB.out); have R2 := Lib.hid (blk_gr g2 HR.out); have G2 := Lib.hid (gtrans HG.out g2)
          clear g2
          have c0 := blk_cell B2.out (k * 4) (tc_st T k HL.out)
          go_wp2_with fail
          exact ⟨⟨k + 1, HL.out, by rw [ec_yes HT.out], rfl, HF.out, G2.out, B2.out, R2.out⟩, by simp only [intOf]; omega⟩
      · have hz : zc T n k = false := by rw [hzc, ht]; rfl
        rw [if_neg (by rw [hz]; simp), e9] at hf
        have HF := Lib.hid hf
        have HT := Lib.hid ht
        clear hf ht hz hzc e8 e9 hs
        go_wp2_with (first | (refine wpList_load_row rfl 25 _ rfl _ rfl 25 _ (0, 0) _ HB.out Try.underlying25 rfl (by kernel_rfl) ?_))
        refine (l_child T k n hlt _).mono ?_; rintro e w2 ⟨rfl, g2⟩
        rw [HT.out]
        have B2 := Lib.hid (blk_gr g2 HB.out); have R2 := Lib.hid (blk_gr g2 HR.out); have G2 := Lib.hid (gtrans HG.out g2)
        clear g2
        go_wp2_with fail
        exact ⟨⟨k + 1, HL.out, by rw [ec_no HT.out], rfl, HF.out, G2.out, B2.out, R2.out⟩, by simp only [intOf]; omega⟩
    · have hk8 : k = 8 := by omega
      subst hk8
      have HF := Lib.hid hf
      clear hf
      go_wp2_with (first | (refine wpList_load_row rfl 25 _ rfl _ rfl 25 _ (0, 0) _ HB.out Try.underlying25 rfl (by kernel_rfl) ?_) | (refine wpList_store_row rfl 25 _ _ rfl _ _ rfl rfl 25 _ HR.out (tc_info _) (tc_szs _ _) (tc_one _) ?_))
      obtain ⟨q1, q2, q3, q4⟩ := wait_none H.out (HF0.out.trans HF.out)
      rw [q1, q2, q3, q4]
      exact bodyPost_ret (res4 rfl _ _ _ _ _ rfl (ld (setRow_heap _ _ _ _ _ _ HR.out))) rfl ⟨rfl, below_setRow HG.out (Nat.le_succ _) _⟩
theorem c_wait (T : Nat → RowV) (p : Int) (w : World) : Calls Try.prog 15 #[.agg (tc T), .int .i64 p] w fun e w' => e = .returned (.tuple #[.agg (tc (waitT T p)), .int .i64 (waitN T p), .int .i64 (waitS T p), .int .i64 (waitE T p)]) ∧ Gr w w' := by
  have h : livesB T p = true ∨ livesB T p = false := by cases livesB T p <;> simp
  rcases h with h | h
  · obtain ⟨n, hn, rfl⟩ := lives_nat h
    exact twait_ok T n hn h _ rfl w
  · obtain ⟨q1, q2, q3, q4⟩ := wait_no h
    rw [q1, q2, q3, q4]
    exact twait_none T p h w
end Go.Proofs.Ytfegnppilhfghaa.P
