/- Stage 2: the document's May. No condition. -/
import Derived.Test.YtngeabphjdfdgaaGreatDoorM1
import Derived.Deep.RegionHeld3
import Derived.Deep.RegionWith
import Derived.Deep.Cut
import Derived.Deep.CutBlock
set_option linter.unusedVariables false
set_option linter.unusedSimpArgs false
set_option maxRecDepth 100000
namespace Go.Proofs.YtngeabphjdfdgaaGreatDoor.P
open Go.RowKit
def regB (n : Int) : Bool := decide (0 ≤ n) && decide (n ≤ 31)
theorem r_may_out (op rd a b i : Int) (h : op < 1 ∨ 87 < op) (w : World) : Calls Tryz.prog 77 #[iv op rd a b i] w fun e w' => e = .returned (.bool false) ∧ Gr w w' := by
  rcases h with h | h
  · go_enter Tryz.func77, Tryz.ntmps77
    go_wp2
    go_ret
    exact ⟨rfl, by go_grown⟩
  · have h1 : ¬ op < 1 := by omega
    go_enter Tryz.func77, Tryz.ntmps77
    go_wp2
    go_ret
    exact ⟨rfl, by go_grown⟩
set_option maxHeartbeats 1600000 in
theorem r_may_85 (k : Nat) (hk : k < 88) (h1 : 1 ≤ k) (hv : fmT k = 85) (rd a b i : Int) (hi : i64 i) (w : World) (hr : regB rd = true) (ha : regB a = true) (hb : regB b = true) : Calls Tryz.prog 77 #[iv (k : Int) rd a b i] w fun e w' => e = .returned (.bool (decide (a = 0) && decide (b = 0) && withinF i (-2147483648) 2147479552 4096)) ∧ Gr w w' := by
  have hfr : frT k = ⟨#[85]⟩ := by rw [fr_is k hk h1, hv]; rfl
  have HF := Lib.hid hfr
  clear hfr hv
  have CW := Lib.hid (fun w => r_within i (-2147483648) 2147479552 4096 (Or.inr (Or.inr rfl)) hi w)
  generalize withinF i (-2147483648) 2147479552 4096 = wi at *
  have k1 : ¬ (k : Int) < 1 := by omega
  have k2 : ¬ (87 : Int) < k := by omega
  have k3 : (0 : Int) ≤ k := by omega
  have k4 : (k : Int) < 88 := by omega
  have CA : Hid (∀ n : Int, regB n = true → ∀ w, Calls Tryz.prog 93 #[.int .i64 n] w fun e w' => e = .returned (.bool true) ∧ w' = w) := Lib.hid (fun n hn w => by have := r_reg n w; unfold regB at hn; rw [hn] at this; exact this)
  have CR : Hid (∀ w, Calls Tryz.prog 74 #[] w fun e w' => ∃ N, e = .returned (.slice (some ⟨N, 0, none⟩) 88 88) ∧ Gr w w' ∧ w'.heap[N]? = some (.cells rowsC 136)) := Lib.hid (fun w => (r_rows w).mono fun e w' h => ⟨w.heap.size, h⟩)
  have RC := Lib.hid (fun j (hj : j < 5) => rows_cell (k := k) hk hj)
  obtain ⟨wb, hwb⟩ : ∃ wb, wb = w.alloc (.cells #[.int .i64 (k : Int), .int .i64 rd, .int .i64 a, .int .i64 b, .int .i64 i] 61) := ⟨_, rfl⟩
  have gb : Gr w wb := by rw [hwb]; exact (Gr.refl w).alloc (Nat.le_refl _) _
  have hB : wb.heap[w.heap.size]? = some (.cells #[.int .i64 (k : Int), .int .i64 rd, .int .i64 a, .int .i64 b, .int .i64 i] 61) := by rw [hwb]; exact blk_new w _
  have GB := Lib.hid gb
  have c0 := blk_cell hB 0 (v := .int .i64 (k : Int)) rfl
  have c1 := blk_cell hB 1 (v := .int .i64 rd) rfl
  have c2 := blk_cell hB 2 (v := .int .i64 a) rfl
  have c3 := blk_cell hB 3 (v := .int .i64 b) rfl
  have c4 := blk_cell hB 4 (v := .int .i64 i) rfl
  have HB := Lib.hid hB
  clear gb hB
  go_enter Tryz.func77, Tryz.ntmps77
  go_upto_region 3 with fail
  rw [← hwb]
  generalize w.heap.size = B at *
  clear hwb
  go_upto_region 8 with (go_at_call 93; refine (CA.out _ (by assumption) _).mono ?_; rintro e w5 ⟨rfl, rfl⟩)
  clear c1 c2 c3 c4
  have lB0 := cell_lt c0
  go_cut [6] from 8 (fun s6 wx => ∃ X : Nat, s6 = .pointer (some ⟨X, 0, none⟩) ∧ Gr w wx ∧ wx.heap[X]? = some (.cells #[.string (nmT k), .string (frT k), .int .u32 (rcT k), .int .u32 (r3T k), .int .u32 (r7T k)] 136) ∧ wx.heap[B]? = some (.cells #[.int .i64 (k : Int), .int .i64 rd, .int .i64 a, .int .i64 b, .int .i64 i] 61))
  case first =>
    first
      | (go_region_with (go_at_call 74; refine (CR.out _).mono ?_; rintro e w6 ⟨N, rfl, g6, h6⟩; have h7 := blk_gr g6 (by first | exact HB.out | exact blk_alloc _ HB.out); have f0 := blk_cell h7 0 (v := .int .i64 (k : Int)) rfl; have e0 := blk_cell h6 (k * 5) (v := .string (nmT k)) ((RC.out 0 (by decide)).trans rfl); have e1 := blk_cell h6 (k * 5 + 1) (v := .string (frT k)) ((RC.out 1 (by decide)).trans rfl); have e2 := blk_cell h6 (k * 5 + 2) (v := .int .u32 (rcT k)) ((RC.out 2 (by decide)).trans rfl); have e3 := blk_cell h6 (k * 5 + 3) (v := .int .u32 (r3T k)) ((RC.out 3 (by decide)).trans rfl); have e4 := blk_cell h6 (k * 5 + 4) (v := .int .u32 (r7T k)) ((RC.out 4 (by decide)).trans rfl); have lN := cell_lt e0; have lB := cell_lt f0; try (have x7 : w6.heap[w5.heap.size]? = _ := blk_gr g6 (blk_new w5.drew _); have y0 := blk_cell x7 0 rfl; have z0 := blk_frozen x7 0; have y1 := blk_cell x7 1 rfl; have z1 := blk_frozen x7 1; have y2 := blk_cell x7 2 rfl; have z2 := blk_frozen x7 2; have y3 := blk_cell x7 3 rfl; have z3 := blk_frozen x7 3; have y4 := blk_cell x7 4 rfl; have z4 := blk_frozen x7 4; have lX := cell_lt y0)))
      | fail
    all_goals
      go_wp2_with fail
      go_meet
      case rel =>
        first
          | exact ⟨_, rfl, gr_al (gtrans GB.out (undrew g6)) _, blk_new w6 _, blk_alloc _ h7⟩
          | exact ⟨_, rfl, Below.setCell (Below.setCell (Below.setCell (Below.setCell (Below.setCell (gtrans GB.out (undrew (gtrans (gr_al (Gr.refl _) _) g6))) GB.out.size _) GB.out.size _) GB.out.size _) GB.out.size _) GB.out.size _, blk_set (blk_set (blk_set (blk_set (blk_set x7 0 _) 1 _) 2 _) 3 _) 4 _, blk_other (blk_other (blk_other (blk_other (blk_other h7 _ _ (Nat.ne_of_lt lB0)) _ _ (Nat.ne_of_lt lB0)) _ _ (Nat.ne_of_lt lB0)) _ _ (Nat.ne_of_lt lB0)) _ _ (Nat.ne_of_lt lB0)⟩
  case rest =>
    clear CA CR RC HB GB c0 lB0
    obtain ⟨X, rfl, gx, hX, hB⟩ := hcut
    rw [HF.out] at hX
    have x1 := blk_cell hX 1 (v := .string ⟨#[85]⟩) rfl
    have c0 := blk_cell hB 0 (v := .int .i64 (k : Int)) rfl
    have c1 := blk_cell hB 1 (v := .int .i64 rd) rfl
    have c2 := blk_cell hB 2 (v := .int .i64 a) rfl
    have c3 := blk_cell hB 3 (v := .int .i64 b) rfl
    have c4 := blk_cell hB 4 (v := .int .i64 i) rfl
    have GX := Lib.hid gx
    clear gx hX hB
    by_cases ha0 : a = 0
    · have eA : decide (a = 0) = true := decide_eq_true ha0
      by_cases hb0 : b = 0
      · have eB : decide (b = 0) = true := decide_eq_true hb0
        go_wp2_with (go_at_call 94; refine (CW.out _).mono ?_; rintro e w7 ⟨rfl, rfl⟩)
        all_goals
          go_ret
          exact ⟨ret_b (by simp [*]), GX.out⟩
      · have eB : decide (b = 0) = false := decide_eq_false hb0
        go_wp2_with (go_at_call 94; refine (CW.out _).mono ?_; rintro e w7 ⟨rfl, rfl⟩)
        all_goals
          go_ret
          exact ⟨ret_b (by simp [*]), GX.out⟩
    · have eA : decide (a = 0) = false := decide_eq_false ha0
      go_wp2_with (go_at_call 94; refine (CW.out _).mono ?_; rintro e w7 ⟨rfl, rfl⟩)
      all_goals
        go_ret
        exact ⟨ret_b (by simp [*]), GX.out⟩
end Go.Proofs.YtngeabphjdfdgaaGreatDoor.P
