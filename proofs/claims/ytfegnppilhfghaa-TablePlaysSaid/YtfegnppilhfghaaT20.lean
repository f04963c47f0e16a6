/- Stage 14: the walk of TableFair. No condition. -/
import Derived.Test.YtfegnppilhfghaaT19
set_option linter.unusedVariables false
namespace Go.Proofs.Ytfegnppilhfghaa.P
open Go.RowKit
theorem bc_one (B : Nat → Bool) : (bc B).all (·.oneCell') = true := by simp [bc, Value.oneCell']
theorem bc_info (B : Nat → Bool) : (Try.prog.info? 27).map (·.size) = some (bc B).size := by kernel_rfl
set_option maxRecDepth 100000 in
set_option maxHeartbeats 3200000 in
theorem l_fair (T : Nat → RowV) (B : Nat → Bool) (a p : Int) (w : World) : Calls Try.prog 5 #[.agg (fc T B a p)] w fun e w' => e = .returned (.bool true) ∧ Gr w w' := by
  have hc := fc_size T B a p
  have A0 := Lib.hid (blk_new w (.cells (fc T B a p) 54))
  have hz32 : (#[.int .i64 0, .int .i64 0, .int .i64 0, .bool false, .int .i64 0, .int .i64 0, .int .i64 0, .bool false, .int .i64 0, .int .i64 0, .int .i64 0, .bool false, .int .i64 0, .int .i64 0, .int .i64 0, .bool false, .int .i64 0, .int .i64 0, .int .i64 0, .bool false, .int .i64 0, .int .i64 0, .int .i64 0, .bool false, .int .i64 0, .int .i64 0, .int .i64 0, .bool false, .int .i64 0, .int .i64 0, .int .i64 0, .bool false] : Array Value) = tc Z0 := rfl
  have hz8 : (#[.bool false, .bool false, .bool false, .bool false, .bool false, .bool false, .bool false, .bool false] : Array Value) = bc noB := rfl
  go_enter Try.func5, Try.ntmps5
  go_upto_region 1 with fail
  generalize hw0 : w.alloc (.cells (fc T B a p) 54) = wa at *
  have l0 := blk_lt A0.out
  have N1 := Lib.hid (blk_new wa (.cells (tc Z0) 25))
  go_upto_region 2 with ((first | (refine wpList_load_mid rfl 25 _ rfl w.heap.size 0 rfl (tc T).toList _ (fun j v h => blk_cell A0.out (0 + j) (by rw [Nat.zero_add]; exact fc_tab T B a p j v h)) Try.underlying25 rfl (by kernel_rfl) ?_) | (refine wpList_store_row rfl 25 _ _ rfl _ _ rfl rfl 25 _ N1.out (tc_info _) (tc_szs _ _) (tc_one _) ?_)))
  have T1 : RowKit.Hid (((wa.alloc (.cells (tc Z0) 25)).setRow wa.heap.size (tc T)).heap[wa.heap.size]? = some (.cells (tc T) 25)) := Lib.hid (setRow_heap _ _ _ _ _ _ N1.out)
  have A1 : RowKit.Hid (((wa.alloc (.cells (tc Z0) 25)).setRow wa.heap.size (tc T)).heap[w.heap.size]? = some (.cells (fc T B a p) 54)) := by
    have := blk_alloc (.cells (tc Z0) 25) A0.out
    rw [← setRow_other (wa.alloc (.cells (tc Z0) 25)) wa.heap.size w.heap.size (tc T) (by omega)] at this
    exact this
  have GA : RowKit.Hid (Gr w wa) := by rw [← hw0]; exact Below.alloc (Below.refl _ _) (Nat.le_refl _) _
  have G1 : RowKit.Hid (Gr w ((wa.alloc (.cells (tc Z0) 25)).setRow wa.heap.size (tc T))) := Lib.hid (below_setRow (Below.alloc GA.out GA.out.size _) GA.out.size _)
  clear N1 hw0 l0
  generalize hw1 : (wa.alloc (.cells (tc Z0) 25)).setRow wa.heap.size (tc T) = wb at *
  clear hw1
  have l0 := blk_lt A1.out
  have l1 := blk_lt T1.out
  have N2 := Lib.hid (blk_new wb (.cells (bc noB) 27))
  go_upto_region 3 with ((first | (refine wpList_load_mid rfl 27 _ rfl w.heap.size 32 rfl (bc B).toList _ (fun j v h => blk_cell A1.out (32 + j) (fc_busy T B a p j v h)) Try.underlying27 rfl (by kernel_rfl) ?_) | (refine wpList_store_row rfl 27 _ _ rfl _ (bc B) rfl rfl 27 _ N2.out (bc_info _) rfl (bc_one _) ?_)))
  have U2 : RowKit.Hid (((wb.alloc (.cells (bc noB) 27)).setRow wb.heap.size (bc B)).heap[wb.heap.size]? = some (.cells (bc B) 27)) := Lib.hid (setRow_heap _ _ _ _ _ _ N2.out)
  have A2 : RowKit.Hid (((wb.alloc (.cells (bc noB) 27)).setRow wb.heap.size (bc B)).heap[w.heap.size]? = some (.cells (fc T B a p) 54)) := by
    have := blk_alloc (.cells (bc noB) 27) A1.out
    rw [← setRow_other (wb.alloc (.cells (bc noB) 27)) wb.heap.size w.heap.size (bc B) (by omega)] at this
    exact this
  have T2 : RowKit.Hid (((wb.alloc (.cells (bc noB) 27)).setRow wb.heap.size (bc B)).heap[wa.heap.size]? = some (.cells (tc T) 25)) := by
    have := blk_alloc (.cells (bc noB) 27) T1.out
    rw [← setRow_other (wb.alloc (.cells (bc noB) 27)) wb.heap.size wa.heap.size (bc B) (by omega)] at this
    exact this
  have G2 : RowKit.Hid (Gr w ((wb.alloc (.cells (bc noB) 27)).setRow wb.heap.size (bc B))) := Lib.hid (below_setRow (Below.alloc G1.out G1.out.size _) G1.out.size _)
  clear N2 l0 l1
  generalize hw2 : (wb.alloc (.cells (bc noB) 27)).setRow wb.heap.size (bc B) = wd at *
  clear hw2
  have c40 := blk_cell A2.out 40 (fc_a T B a p)
  have c41 := blk_cell A2.out 41 (fc_p T B a p)
  go_wp2_with fail
  refine (c_shown _).mono ?_; rintro e w1 ⟨rfl, g1⟩
  have T3 := Lib.hid (blk_gr g1 T2.out)
  have U3 := Lib.hid (blk_gr g1 U2.out)
  have G3 := Lib.hid (gtrans G2.out g1)
  clear g1 c40 c41
  by_cases p1 : p < 0
  · go_wp2_with fail
    go_ret
    exact ⟨rfl, G3.out⟩
  · by_cases p2 : 7 < p
    · go_wp2_with fail
      go_ret
      exact ⟨rfl, G3.out⟩
    · obtain ⟨n, rfl⟩ : ∃ n : Nat, p = (n : Int) := ⟨p.toNat, by omega⟩
      have hn : n < 8 := by omega
      have c0 := blk_cell T3.out (n * 4) (tc_st T n hn)
      have b0 := blk_cell U3.out n (bc_get B n hn)
      have HN := Lib.hid hn
      have hst : ((T n).st != 1) = true ∨ ((T n).st != 1) = false := by cases ((T n).st != 1) <;> simp
      rcases hst with hst | hst
      · go_wp2_with fail
        go_ret
        exact ⟨rfl, G3.out⟩
      · have hbb : B n = true ∨ B n = false := by cases B n <;> simp
        rcases hbb with hbb | hbb
        · rw [hbb] at b0
          clear hbb
          go_wp2_with fail
          go_ret
          exact ⟨rfl, G3.out⟩
        · have hlv : livesB T n = true := by
            unfold livesB
            have : (T n).st = 1 := by simpa using hst
            simp [this]; omega
          have HD := Lib.hid (fun x => next_dst T B n hn hlv hbb x)
          rw [hbb] at b0
          clear hbb hlv
          go_wp2_with fail
          have hd0 : dst n a < 8 := by unfold dst; omega
          have HD0 := Lib.hid hd0
          clear hd0 hz32 hz8 c0 b0
          go_loopw [8, 9] (fun v8 v9 wr => ∃ (x : Int) (k : Nat), k ≤ 8 ∧ v8 = .int .i64 x ∧ v9 = .int .i64 k ∧ dst n x < 8 - k ∧ Gr w wr ∧ wr.heap[wa.heap.size]? = some (.cells (tc T) 25) ∧ wr.heap[wb.heap.size]? = some (.cells (bc B) 27)) (fun _ v9 _ => 8 - (intOf v9).toNat)
          case atStart => exact ⟨a, 0, by omega, rfl, rfl, HD0.out, G3.out, T3.out, U3.out⟩
          case round =>
            obtain ⟨x, k, hk, rfl, rfl, hdd, hg, ht, hu⟩ := hrel
            have HT := Lib.hid ht; have HU := Lib.hid hu; have HG := Lib.hid hg; have HDD := Lib.hid hdd
            have hk8 : (k : Int) < 8 := by omega
            have hk8n : k < 8 := by omega
            have HK := Lib.hid hk8n
            clear ht hu hg hdd hk8n
            obtain ⟨m, hm8, hm1, hm2⟩ := HD.out x
            have HM1 := Lib.hid hm1; have HM2 := Lib.hid hm2
            have hm0 : (0 : Int) ≤ m := by omega
            clear hm1 hm2
            by_cases hmn : m = n
            · subst hmn
              go_wp2_with (first | (refine wpList_load_row rfl 25 _ rfl _ rfl 25 _ (0, 0) _ HT.out Try.underlying25 rfl (by kernel_rfl) ?_) | (refine wpList_load_row rfl 27 _ rfl _ rfl 27 _ (0, 0) _ HU.out Try.underlying27 rfl (by kernel_rfl) ?_))
              refine (tnext T x B _).mono ?_; rintro e w2 ⟨rfl, g2⟩
              rw [HM1.out]
              have G4 := Lib.hid (gtrans HG.out g2)
              clear g2
              go_wp2_with fail
              go_ret
              exact ⟨rfl, G4.out⟩
            · have hmn2 : ((m : Int) == n) = false := by simp; omega
              have HM3 : RowKit.Hid (dst n m < dst n x) := by
                rcases HM2.out with h | h
                · exact absurd h hmn
                · exact h
              clear hmn
              go_wp2_with (first | (refine wpList_load_row rfl 25 _ rfl _ rfl 25 _ (0, 0) _ HT.out Try.underlying25 rfl (by kernel_rfl) ?_) | (refine wpList_load_row rfl 27 _ rfl _ rfl 27 _ (0, 0) _ HU.out Try.underlying27 rfl (by kernel_rfl) ?_))
              refine (tnext T x B _).mono ?_; rintro e w2 ⟨rfl, g2⟩
              rw [HM1.out]
              have T4 := Lib.hid (blk_gr g2 HT.out); have U4 := Lib.hid (blk_gr g2 HU.out); have G4 := Lib.hid (gtrans HG.out g2)
              clear g2
              go_wp2_with fail
              exact ⟨⟨m, k + 1, HK.out, rfl, rfl, by have h1 := HM3.out; have h2 := HDD.out; have h3 := HK.out; omega, G4.out, T4.out, U4.out⟩, by simp only [intOf]; omega⟩
end Go.Proofs.Ytfegnppilhfghaa.P
