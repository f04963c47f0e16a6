/- Stage 2: the document's May refuses what is no register. No condition. -/
import Derived.Test.YthcfobefpknjeaaDoorM2
set_option linter.unusedVariables false
set_option linter.unusedSimpArgs false
set_option maxRecDepth 100000
namespace Go.Proofs.YthcfobefpknjeaaDoor.P
open Go.RowKit
set_option maxHeartbeats 1600000 in
theorem r_may_bad (k : Nat) (hk : k < 88) (h1 : 1 ≤ k) (rd a b i : Int) (w : World) (h : (regB rd && regB a && regB b) = false) : Calls Tryd.prog 12 #[iv (k : Int) rd a b i] w fun e w' => e = .returned (.bool false) ∧ Gr w w' := by
  have k1 : ¬ (k : Int) < 1 := by omega
  have k2 : ¬ (87 : Int) < k := by omega
  have C1 := Lib.hid (fun w => r_reg rd w)
  have C2 := Lib.hid (fun w => r_reg a w)
  have C3 := Lib.hid (fun w => r_reg b w)
  unfold regB at h
  generalize (decide (0 ≤ rd) && decide (rd ≤ 31)) = x at *
  generalize (decide (0 ≤ a) && decide (a ≤ 31)) = y at *
  generalize (decide (0 ≤ b) && decide (b ≤ 31)) = z at *
  obtain ⟨wb, hwb⟩ : ∃ wb, wb = w.alloc (.cells #[.int .i64 (k : Int), .int .i64 rd, .int .i64 a, .int .i64 b, .int .i64 i] 23) := ⟨_, rfl⟩
  have gb : Gr w wb := by rw [hwb]; exact (Gr.refl w).alloc (Nat.le_refl _) _
  have hB : wb.heap[w.heap.size]? = some (.cells #[.int .i64 (k : Int), .int .i64 rd, .int .i64 a, .int .i64 b, .int .i64 i] 23) := by rw [hwb]; exact blk_new w _
  have GB := Lib.hid gb
  have c0 := blk_cell hB 0 (v := .int .i64 (k : Int)) rfl
  have c1 := blk_cell hB 1 (v := .int .i64 rd) rfl
  have c2 := blk_cell hB 2 (v := .int .i64 a) rfl
  have c3 := blk_cell hB 3 (v := .int .i64 b) rfl
  clear gb hB
  cases x <;> cases y <;> cases z <;> simp only [Bool.and_true, Bool.and_false, Bool.true_and, Bool.false_and, Bool.true_eq_false] at h
  all_goals
    go_enter Tryd.func12, Tryd.ntmps12
    go_upto_region 3 with fail
    rw [← hwb]
    generalize w.heap.size = B at *
    clear hwb
    go_upto_region 4 with (go_at_call 25; refine (C1.out _).mono ?_; rintro e w5 ⟨rfl, rfl⟩)
    go_upto_region 5 with (go_at_call 25; refine (C2.out _).mono ?_; rintro e w5 ⟨rfl, rfl⟩)
    go_wp2_with (go_at_call 25; refine (C3.out _).mono ?_; rintro e w5 ⟨rfl, rfl⟩)
    go_ret
    exact ⟨rfl, GB.out⟩
end Go.Proofs.YthcfobefpknjeaaDoor.P
