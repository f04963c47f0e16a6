/- Stage 14: the walk of TableForks. No condition. -/
import Derived.Test.YtfegnppilhfghaaT14
import Derived.Test.YtfegnppilhfghaaT17
import Derived.Deep.RegionHeld3
import Derived.Deep.DeepCutAuto
import Derived.Deep.QuietTactic
import Derived.Deep.CutRange
set_option linter.unusedVariables false
namespace Go.Proofs.Ytfegnppilhfghaa.P
open Go.RowKit
set_option maxHeartbeats 800000 in
theorem forks_no (T : Nat → RowV) (p : Int) (w : World) (hT : forkT T p = T) (e0 : Int) (hE : forkE T p = e0) (he : (e0 != 0) = true) : Calls Try.prog 6 #[.agg (tc T), .int .i64 p] w fun e w' => e = .returned (.bool true) ∧ Gr w w' := by
  have hc := tc_size T
  have B0 := Lib.hid (blk_new w (.cells (tc T) 25))
  have HT := Lib.hid hT
  have HE := Lib.hid hE
  clear hT hE
  have hz32 : (#[.int .i64 0, .int .i64 0, .int .i64 0, .bool false, .int .i64 0, .int .i64 0, .int .i64 0, .bool false, .int .i64 0, .int .i64 0, .int .i64 0, .bool false, .int .i64 0, .int .i64 0, .int .i64 0, .bool false, .int .i64 0, .int .i64 0, .int .i64 0, .bool false, .int .i64 0, .int .i64 0, .int .i64 0, .bool false, .int .i64 0, .int .i64 0, .int .i64 0, .bool false, .int .i64 0, .int .i64 0, .int .i64 0, .bool false] : Array Value) = tc Z0 := rfl
  have eqt := eqT T
  go_enter Try.func6, Try.ntmps6
  go_wp2_with fail
  refine (c_shown _).mono ?_; rintro e w1 ⟨rfl, g1⟩
  have B1 := Lib.hid (blk_gr g1 B0.out)
  have G1 := Lib.hid (galloc _ g1)
  clear g1
  go_wp2_with (first | (refine wpList_load_row rfl 25 _ rfl _ rfl 25 _ (0, 0) _ B1.out Try.underlying25 rfl (by kernel_rfl) ?_))
  refine (c_fork T p _).mono ?_; rintro e w2 ⟨rfl, g2⟩
  rw [HT.out, HE.out]
  have B2 := Lib.hid (blk_gr g2 B1.out)
  have N2 := Lib.hid (blk_new w2 (.cells (tc Z0) 25))
  have l2 := blk_lt B2.out
  go_upto_region 3 with (refine wpList_store_row rfl 25 _ _ rfl _ _ rfl rfl 25 _ N2.out (tc_info _) (tc_szs _ _) (tc_one _) ?_)
  have X0 : RowKit.Hid (((w2.alloc (.cells (tc Z0) 25)).setRow w2.heap.size (tc T)).heap[w2.heap.size]? = some (.cells (tc T) 25)) := Lib.hid (setRow_heap _ _ _ _ _ _ N2.out)
  have X1 : RowKit.Hid (((w2.alloc (.cells (tc Z0) 25)).setRow w2.heap.size (tc T)).heap[w.heap.size]? = some (.cells (tc T) 25)) := by
    have := blk_alloc (.cells (tc Z0) 25) B2.out
    rw [← setRow_other (w2.alloc (.cells (tc Z0) 25)) w2.heap.size w.heap.size (tc T) (by omega)] at this
    exact this
  have XG : RowKit.Hid (Gr w ((w2.alloc (.cells (tc Z0) 25)).setRow w2.heap.size (tc T))) := Lib.hid (below_setRow (Below.alloc (gtrans G1.out g2) (gtrans G1.out g2).size _) (gtrans G1.out g2).size _)
  clear g2
  generalize ((w2.alloc (.cells (tc Z0) 25)).setRow w2.heap.size (tc T)) = wx at *
  go_wp2_with (first | (refine wpList_load_row rfl 25 _ rfl _ rfl 25 _ (0, 0) _ X0.out Try.underlying25 rfl (by kernel_rfl) ?_) | (refine wpList_load_row rfl 25 _ rfl _ rfl 25 _ (0, 0) _ X1.out Try.underlying25 rfl (by kernel_rfl) ?_) | (refine wpList_load_g ?_ 25 _ rfl _ rfl 25 _ (0, 0) _ X0.out Try.underlying25 rfl (by kernel_rfl) ?_) | (refine wpList_load_g ?_ 25 _ rfl _ rfl 25 _ (0, 0) _ X1.out Try.underlying25 rfl (by kernel_rfl) ?_))
  go_ret
  exact ⟨rfl, XG.out⟩
theorem ff_ge (T : Nat → RowV) : ∀ n k, k ≤ fr T n k ∧ fr T n k ≤ k + n
  | 0, k => by simp [fr]
  | n + 1, k => by
    have := ff_ge T n (k + 1)
    rw [fr]; split
    · omega
    · omega
theorem ff_below (T : Nat → RowV) : ∀ n k i, k ≤ i → i < fr T n k → thereB T i = true
  | 0, k, i, h1, h2 => by simp [fr] at h2; omega
  | n + 1, k, i, h1, h2 => by
    rw [fr] at h2; split at h2
    · rename_i h
      by_cases hi : i = k
      · rw [hi]; exact h
      · exact ff_below T n (k + 1) i (by omega) h2
    · omega
theorem ff_free (T : Nat → RowV) : ∀ n k, fr T n k < k + n → thereB T (fr T n k) = false
  | 0, k, h => by simp [fr] at h
  | n + 1, k, h => by
    rw [fr] at h ⊢; split
    · rename_i h1
      rw [if_pos h1] at h
      exact ff_free T n (k + 1) (by omega)
    · rename_i h1
      simpa using h1
set_option maxHeartbeats 3200000 in
theorem forks_ok (T : Nat → RowV) (n : Nat) (w : World) (hn : n < 8) (hl : livesB T n = true) (f : Nat) (hf : fr T 7 1 = f) (h8 : f < 8) : Calls Try.prog 6 #[.agg (tc T), .int .i64 n] w fun e w' => e = .returned (.bool true) ∧ Gr w w' := by
  have hc := tc_size T
  have B0 := Lib.hid (blk_new w (.cells (tc T) 25))
  have hf1 : 1 ≤ f := by rw [← hf]; exact (ff_ge T 7 1).1
  have hfree : thereB T f = false := by rw [← hf]; exact ff_free T 7 1 (by rw [hf]; omega)
  have hbel : ∀ i, 1 ≤ i → i < f → thereB T i = true := fun i h1 h2 => ff_below T 7 1 i h1 (by rw [hf]; exact h2)
  obtain ⟨q1, q2, q3⟩ := fork_ok hl hf h8
  have Q1 := Lib.hid q1; have Q2 := Lib.hid q2; have Q3 := Lib.hid q3
  have HB := Lib.hid hbel
  obtain ⟨f1, f2⟩ := there_f hfree
  have H8 := Lib.hid h8
  have HF1 := Lib.hid hf1
  have g1i : (1 : Int) ≤ f := by omega
  have g8i : (f : Int) ≤ 7 := by omega
  clear q1 q2 q3 hl hbel hf hfree
  have hz32 : (#[.int .i64 0, .int .i64 0, .int .i64 0, .bool false, .int .i64 0, .int .i64 0, .int .i64 0, .bool false, .int .i64 0, .int .i64 0, .int .i64 0, .bool false, .int .i64 0, .int .i64 0, .int .i64 0, .bool false, .int .i64 0, .int .i64 0, .int .i64 0, .bool false, .int .i64 0, .int .i64 0, .int .i64 0, .bool false, .int .i64 0, .int .i64 0, .int .i64 0, .bool false, .int .i64 0, .int .i64 0, .int .i64 0, .bool false] : Array Value) = tc Z0 := rfl
  go_enter Try.func6, Try.ntmps6
  go_wp2_with fail
  refine (c_shown _).mono ?_; rintro e w1 ⟨rfl, g1⟩
  have B1 := Lib.hid (blk_gr g1 B0.out)
  have G1 := Lib.hid (galloc _ g1)
  clear g1
  go_wp2_with (first | (refine wpList_load_row rfl 25 _ rfl _ rfl 25 _ (0, 0) _ B1.out Try.underlying25 rfl (by kernel_rfl) ?_))
  refine (c_fork T n _).mono ?_; rintro e w2 ⟨rfl, g2⟩
  rw [Q1.out, Q2.out, Q3.out]
  have B2 := Lib.hid (blk_gr g2 B1.out)
  have N2 := Lib.hid (blk_new w2 (.cells (tc Z0) 25))
  have l2 := blk_lt B2.out
  go_upto_region 3 with (refine wpList_store_row rfl 25 _ _ rfl _ _ rfl rfl 25 _ N2.out (tc_info _) (tc_szs _ _) (tc_one _) ?_)
  have X0 : RowKit.Hid (((w2.alloc (.cells (tc Z0) 25)).setRow w2.heap.size (tc (up T f ⟨1, n, 0, false⟩))).heap[w2.heap.size]? = some (.cells (tc (up T f ⟨1, n, 0, false⟩)) 25)) := Lib.hid (setRow_heap _ _ _ _ _ _ N2.out)
  have X1 : RowKit.Hid (((w2.alloc (.cells (tc Z0) 25)).setRow w2.heap.size (tc (up T f ⟨1, n, 0, false⟩))).heap[w.heap.size]? = some (.cells (tc T) 25)) := by
    have := blk_alloc (.cells (tc Z0) 25) B2.out
    rw [← setRow_other (w2.alloc (.cells (tc Z0) 25)) w2.heap.size w.heap.size (tc (up T f ⟨1, n, 0, false⟩)) (by omega)] at this
    exact this
  have XG : RowKit.Hid (Gr w ((w2.alloc (.cells (tc Z0) 25)).setRow w2.heap.size (tc (up T f ⟨1, n, 0, false⟩)))) := Lib.hid (below_setRow (Below.alloc (gtrans G1.out g2) (gtrans G1.out g2).size _) (gtrans G1.out g2).size _)
  clear g2
  generalize ((w2.alloc (.cells (tc Z0) 25)).setRow w2.heap.size (tc (up T f ⟨1, n, 0, false⟩))) = wx at *
  have c0 := blk_cell X1.out (f * 4) (tc_st T f H8.out)
  have u0 := blk_cell X0.out (f * 4) (tc_st (up T f ⟨1, n, 0, false⟩) f H8.out)
  have u1 := blk_cell X0.out (f * 4 + 1) (tc_pa (up T f ⟨1, n, 0, false⟩) f H8.out)
  have u2 := blk_cell X0.out (f * 4 + 2) (tc_su (up T f ⟨1, n, 0, false⟩) f H8.out)
  have u3 := blk_cell X0.out (f * 4 + 3) (tc_ki (up T f ⟨1, n, 0, false⟩) f H8.out)
  rw [up_at] at u0 u1 u2 u3
  go_upto_region 7 with fail
  go_cut [9] from 10 to 53 (fun s9 wc => s9 = .int .i64 0 ∧ wc = wx)
  case first =>
    go_wp2_with fail
    go_meet
    exact ⟨rfl, rfl⟩
  case rest =>
    obtain ⟨rfl, rfl⟩ := hcut
    have HX0 := X0
    have HX1 := X1
    have HXG := XG
    clear X0 X1 XG c0 u0 u1 u2 u3 B0 B1 B2 N2 G1 l2
    go_wp2_with fail
    go_loopw [9] (fun v9 wr => ∃ k : Nat, k ≤ 8 ∧ v9 = .int .i64 k ∧ Gr w wr ∧ wr.heap[w2.heap.size]? = some (.cells (tc (up T f ⟨1, n, 0, false⟩)) 25) ∧ wr.heap[w.heap.size]? = some (.cells (tc T) 25)) (fun v9 _ => 8 - (intOf v9).toNat)
    case atStart => exact ⟨0, by omega, rfl, HXG.out, HX0.out, HX1.out⟩
    case round =>
      clear HX0 HX1 HXG
      obtain ⟨k, hk, rfl, hg, hu, ht⟩ := hrel
      have HG := Lib.hid hg; have HU := Lib.hid hu; have HT := Lib.hid ht
      clear hg hu ht
      by_cases hlt : k < 8
      · have hk' : (k : Int) < 8 := by omega
        have hk0 : (0 : Int) ≤ k := by omega
        have HL := Lib.hid hlt
        have c0 := blk_cell HT.out (k * 4) (tc_st T k hlt)
        have c1 := blk_cell HT.out (k * 4 + 1) (tc_pa T k hlt)
        have c2 := blk_cell HT.out (k * 4 + 2) (tc_su T k hlt)
        have c3 := blk_cell HT.out (k * 4 + 3) (tc_ki T k hlt)
        have u0 := blk_cell HU.out (k * 4) (tc_st _ k hlt)
        have u1 := blk_cell HU.out (k * 4 + 1) (tc_pa _ k hlt)
        have u2 := blk_cell HU.out (k * 4 + 2) (tc_su _ k hlt)
        have u3 := blk_cell HU.out (k * 4 + 3) (tc_ki _ k hlt)
        by_cases hkf : k = f
        · subst hkf
          rw [up_at] at u0 u1 u2 u3
          have e1 : decide (k < k) = false := decide_eq_false (by omega)
          have e2 : decide (0 < k) = true := decide_eq_true (by have := HF1.out; omega)
          have e3 : 0 < k := by have := HF1.out; omega
          go_upto_region 10 with fail
          go_quiet (skip)
          all_goals
            go_wp2_with fail
            go_roundw
            case rel => exact ⟨k + 1, by omega, by go_num, HG.out.drewN _, by simpa using HU.out, by simpa using HT.out⟩
            case measure => simp [intOf]; omega
        · have e0 : up T f ⟨1, n, 0, false⟩ k = T k := by unfold up; rw [if_neg hkf]
          rw [e0] at u0 u1 u2 u3
          have d0 : decide (k = f) = false := decide_eq_false hkf
          have d1 : ((k : Int) == (f : Int)) = false := beq_eq_false_iff_ne.2 (by omega)
          have d2 : ((k : Int) != (f : Int)) = true := by unfold bne; rw [d1]; rfl
          have d3 : ¬ (k : Int) = (f : Int) := by omega
          clear e0
          generalize (T k).pa = x1 at *
          generalize (T k).su = x2 at *
          generalize (T k).ki = x3 at *
          by_cases hz : k = 0
          · have e2 : decide (0 < k) = false := decide_eq_false (by omega)
            have e3 : ¬ 0 < k := by omega
            clear hz
            go_upto_region 10 with fail
            go_quiet (skip)
            all_goals
              go_wp2_with fail
              go_roundw
              case rel => exact ⟨k + 1, by omega, by go_num, HG.out.drewN _, by simpa using HU.out, by simpa using HT.out⟩
              case measure => simp [intOf]; omega
          · have e3 : 0 < k := by omega
            by_cases hkl : k < f
            · have hth := there_t (HB.out k (by omega) hkl)
              have e4 : decide (k < f) = true := decide_eq_true hkl
              have e5 : decide (0 < k) = true := decide_eq_true e3
              generalize (T k).st = x0 at *
              rcases hth with hth | ⟨hth1, hth⟩
              · have hx : x0 = 1 := by simpa using hth
                subst hx
                clear hth
                go_upto_region 10 with fail
                go_quiet (skip)
                all_goals
                  go_wp2_with fail
                  go_roundw
                  case rel => exact ⟨k + 1, by omega, by go_num, HG.out.drewN _, by simpa using HU.out, by simpa using HT.out⟩
                  case measure => simp [intOf]; omega
              · have hx : x0 = 2 := by simpa using hth
                subst hx
                clear hth hth1
                go_upto_region 10 with fail
                go_quiet (skip)
                all_goals
                  go_wp2_with fail
                  go_roundw
                  case rel => exact ⟨k + 1, by omega, by go_num, HG.out.drewN _, by simpa using HU.out, by simpa using HT.out⟩
                  case measure => simp [intOf]; omega
            · have e4 : decide (k < f) = false := decide_eq_false hkl
              have e5 : decide (0 < k) = true := decide_eq_true e3
              go_upto_region 10 with fail
              go_quiet (skip)
              all_goals
                go_wp2_with fail
                go_roundw
                case rel => exact ⟨k + 1, by omega, by go_num, HG.out.drewN _, by simpa using HU.out, by simpa using HT.out⟩
                case measure => simp [intOf]; omega
      · obtain rfl : k = 8 := by omega
        go_wp2_with fail
        go_ret
        exact ⟨rfl, HG.out⟩
theorem l_forks (T : Nat → RowV) (p : Int) (w : World) : Calls Try.prog 6 #[.agg (tc T), .int .i64 p] w fun e w' => e = .returned (.bool true) ∧ Gr w w' := by
  cases hl : livesB T p with
  | false => exact forks_no T p w (fork_no hl).1 5 (fork_no hl).2.2 rfl
  | true =>
    have hge := ff_ge T 7 1
    by_cases h8 : fr T 7 1 < 8
    · obtain ⟨n, hn, rfl⟩ := lives_nat hl
      exact forks_ok T n w hn hl _ rfl h8
    · have hf := fork_full hl (show fr T 7 1 = 8 by omega)
      exact forks_no T p w hf.1 4 hf.2.2 rfl
end Go.Proofs.Ytfegnppilhfghaa.P
