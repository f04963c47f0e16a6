/- Stage 2: the document's May, further forms. No condition. -/
import Derived.Test.YtngeabphjdfdgaaGreatDoorM2
import Derived.Deep.RegionWith
import Derived.Deep.Cut
import Derived.Test.YtngeabphjdfdgaaGreatDoorM4
set_option linter.unusedVariables false
set_option linter.unusedSimpArgs false
set_option maxRecDepth 100000
namespace Go.Proofs.YtngeabphjdfdgaaGreatDoor.P
open Go.RowKit
set_option maxHeartbeats 1600000 in
theorem r_may_82 (k : Nat) (hk : k < 88) (h1 : 1 ≤ k) (hv : fmT k = 82) (rd a b i : Int) (hi : i64 i) (w : World) (hr : regB rd = true) (ha : regB a = true) (hb : regB b = true) : Calls Tryz.prog 77 #[iv (k : Int) rd a b i] w fun e w' => e = .returned (.bool (decide (i = 0) && true)) ∧ Gr w w' := by
  have hfr : frT k = ⟨#[82]⟩ := by rw [fr_is k hk h1, hv]; rfl
  have HF := Lib.hid hfr
  clear hfr hv
  have k1 : ¬ (k : Int) < 1 := by omega
  have k2 : ¬ (87 : Int) < k := by omega
  have k3 : (0 : Int) ≤ k := by omega
  have k4 : (k : Int) < 88 := by omega
  have CA : Hid (∀ n : Int, regB n = true → ∀ w, Calls Tryz.prog 93 #[.int .i64 n] w fun e w' => e = .returned (.bool true) ∧ w' = w) := Lib.hid (fun n hn w => by have := r_reg n w; unfold regB at hn; rw [hn] at this; exact this)
  have CR : Hid (∀ w, Calls Tryz.prog 74 #[] w fun e w' => ∃ N, e = .returned (.slice (some ⟨N, 0, none⟩) 88 88) ∧ Gr w w' ∧ w'.heap[N]? = some (.cells rowsC 136)) := Lib.hid (fun w => (r_rows w).mono fun e w' h => ⟨w.heap.size, h⟩)
  have RC := Lib.hid (fun j (hj : j < 5) => rows_cell (k := k) hk hj)
  obtain ⟨wb, hwb⟩ : ∃ wb, wb = w.alloc (.cells #[.int .i64 (k : Int), .int .i64 rd, .int .i64 a, .int .i64 b, .int .i64 i] 61) := ⟨_, rfl⟩
  have gb : Gr w wb := by rw [hwb]; exact (Gr.refl w).alloc (Nat.le_refl _) _
  have hB : wb.heap[w.heap.size]? = some (.cells #[.int .i64 (k : Int), .int .i64 rd, .int .i64 a, .int .i64 b, .int .i64 i] 61) := by rw [hwb]; exact blk_new w _
  have GB := Lib.hid gb
  have c0 := blk_cell hB 0 (v := .int .i64 (k : Int)) rfl
  have c1 := blk_cell hB 1 (v := .int .i64 rd) rfl
  have c2 := blk_cell hB 2 (v := .int .i64 a) rfl
  have c3 := blk_cell hB 3 (v := .int .i64 b) rfl
  have c4 := blk_cell hB 4 (v := .int .i64 i) rfl
  have HB := Lib.hid hB
  clear gb hB
  go_enter Tryz.func77, Tryz.ntmps77
  go_upto_region 3 with fail
  rw [← hwb]
  generalize w.heap.size = B at *
  clear hwb
  go_upto_region 8 with (go_at_call 93; refine (CA.out _ (by assumption) _).mono ?_; rintro e w5 ⟨rfl, rfl⟩)
  clear c1 c2 c3 c4
  have lB0 := cell_lt c0
  go_cut [6] from 8 (fun s6 wx => ∃ X : Nat, s6 = .pointer (some ⟨X, 0, none⟩) ∧ Gr w wx ∧ wx.heap[X]? = some (.cells #[.string (nmT k), .string (frT k), .int .u32 (rcT k), .int .u32 (r3T k), .int .u32 (r7T k)] 136) ∧ wx.heap[B]? = some (.cells #[.int .i64 (k : Int), .int .i64 rd, .int .i64 a, .int .i64 b, .int .i64 i] 61))
  case first =>
    first
      | (go_region_with (go_at_call 74; refine (CR.out _).mono ?_; rintro e w6 ⟨N, rfl, g6, h6⟩; have h7 := blk_gr g6 (by first | exact HB.out | exact blk_alloc _ HB.out); have f0 := blk_cell h7 0 (v := .int .i64 (k : Int)) rfl; have e0 := blk_cell h6 (k * 5) (v := .string (nmT k)) ((RC.out 0 (by decide)).trans rfl); have e1 := blk_cell h6 (k * 5 + 1) (v := .string (frT k)) ((RC.out 1 (by decide)).trans rfl); have e2 := blk_cell h6 (k * 5 + 2) (v := .int .u32 (rcT k)) ((RC.out 2 (by decide)).trans rfl); have e3 := blk_cell h6 (k * 5 + 3) (v := .int .u32 (r3T k)) ((RC.out 3 (by decide)).trans rfl); have e4 := blk_cell h6 (k * 5 + 4) (v := .int .u32 (r7T k)) ((RC.out 4 (by decide)).trans rfl); have lN := cell_lt e0; have lB := cell_lt f0; try (have x7 : w6.heap[w5.heap.size]? = _ := blk_gr g6 (blk_new w5.drew _); have y0 := blk_cell x7 0 rfl; have z0 := blk_frozen x7 0; have y1 := blk_cell x7 1 rfl; have z1 := blk_frozen x7 1; have y2 := blk_cell x7 2 rfl; have z2 := blk_frozen x7 2; have y3 := blk_cell x7 3 rfl; have z3 := blk_frozen x7 3; have y4 := blk_cell x7 4 rfl; have z4 := blk_frozen x7 4; have lX := cell_lt y0)))
      | fail
    all_goals
      go_wp2_with fail
      go_meet
      case rel =>
        first
          | exact ⟨_, rfl, gr_al (gtrans GB.out (undrew g6)) _, blk_new w6 _, blk_alloc _ h7⟩
          | exact ⟨_, rfl, Below.setCell (Below.setCell (Below.setCell (Below.setCell (Below.setCell (gtrans GB.out (undrew (gtrans (gr_al (Gr.refl _) _) g6))) GB.out.size _) GB.out.size _) GB.out.size _) GB.out.size _) GB.out.size _, blk_set (blk_set (blk_set (blk_set (blk_set x7 0 _) 1 _) 2 _) 3 _) 4 _, blk_other (blk_other (blk_other (blk_other (blk_other h7 _ _ (Nat.ne_of_lt lB0)) _ _ (Nat.ne_of_lt lB0)) _ _ (Nat.ne_of_lt lB0)) _ _ (Nat.ne_of_lt lB0)) _ _ (Nat.ne_of_lt lB0)⟩
  case rest =>
    clear CA CR RC HB GB c0 lB0
    obtain ⟨X, rfl, gx, hX, hB⟩ := hcut
    rw [HF.out] at hX
    have x1 := blk_cell hX 1 (v := .string ⟨#[82]⟩) rfl
    have c0 := blk_cell hB 0 (v := .int .i64 (k : Int)) rfl
    have c1 := blk_cell hB 1 (v := .int .i64 rd) rfl
    have c2 := blk_cell hB 2 (v := .int .i64 a) rfl
    have c3 := blk_cell hB 3 (v := .int .i64 b) rfl
    have c4 := blk_cell hB 4 (v := .int .i64 i) rfl
    have GX := Lib.hid gx
    clear gx hX hB
    by_cases h00 : i = 0
    · have e0 : decide (i = 0) = true := decide_eq_true h00
      go_wp2_with fail
      all_goals
        go_ret
        exact ⟨ret_b (by simp [*]), GX.out⟩
    · have e0 : decide (i = 0) = false := decide_eq_false h00
      go_wp2_with fail
      all_goals
        go_ret
        exact ⟨ret_b (by simp [*]), GX.out⟩
end Go.Proofs.YtngeabphjdfdgaaGreatDoor.P
namespace Go.Proofs.YtngeabphjdfdgaaGreatDoor.P
open Go.RowKit
set_option maxHeartbeats 1600000 in
theorem r_may_78 (k : Nat) (hk : k < 88) (h1 : 1 ≤ k) (hv : fmT k = 78) (rd a b i : Int) (hi : i64 i) (w : World) (hr : regB rd = true) (ha : regB a = true) (hb : regB b = true) : Calls Tryz.prog 77 #[iv (k : Int) rd a b i] w fun e w' => e = .returned (.bool (decide (rd = 0) && decide (a = 0) && decide (b = 0) && decide (i = 0) && true)) ∧ Gr w w' := by
  have hfr : frT k = ⟨#[78]⟩ := by rw [fr_is k hk h1, hv]; rfl
  have HF := Lib.hid hfr
  clear hfr hv
  have k1 : ¬ (k : Int) < 1 := by omega
  have k2 : ¬ (87 : Int) < k := by omega
  have k3 : (0 : Int) ≤ k := by omega
  have k4 : (k : Int) < 88 := by omega
  have CA : Hid (∀ n : Int, regB n = true → ∀ w, Calls Tryz.prog 93 #[.int .i64 n] w fun e w' => e = .returned (.bool true) ∧ w' = w) := Lib.hid (fun n hn w => by have := r_reg n w; unfold regB at hn; rw [hn] at this; exact this)
  have CR : Hid (∀ w, Calls Tryz.prog 74 #[] w fun e w' => ∃ N, e = .returned (.slice (some ⟨N, 0, none⟩) 88 88) ∧ Gr w w' ∧ w'.heap[N]? = some (.cells rowsC 136)) := Lib.hid (fun w => (r_rows w).mono fun e w' h => ⟨w.heap.size, h⟩)
  have RC := Lib.hid (fun j (hj : j < 5) => rows_cell (k := k) hk hj)
  obtain ⟨wb, hwb⟩ : ∃ wb, wb = w.alloc (.cells #[.int .i64 (k : Int), .int .i64 rd, .int .i64 a, .int .i64 b, .int .i64 i] 61) := ⟨_, rfl⟩
  have gb : Gr w wb := by rw [hwb]; exact (Gr.refl w).alloc (Nat.le_refl _) _
  have hB : wb.heap[w.heap.size]? = some (.cells #[.int .i64 (k : Int), .int .i64 rd, .int .i64 a, .int .i64 b, .int .i64 i] 61) := by rw [hwb]; exact blk_new w _
  have GB := Lib.hid gb
  have c0 := blk_cell hB 0 (v := .int .i64 (k : Int)) rfl
  have c1 := blk_cell hB 1 (v := .int .i64 rd) rfl
  have c2 := blk_cell hB 2 (v := .int .i64 a) rfl
  have c3 := blk_cell hB 3 (v := .int .i64 b) rfl
  have c4 := blk_cell hB 4 (v := .int .i64 i) rfl
  have HB := Lib.hid hB
  clear gb hB
  go_enter Tryz.func77, Tryz.ntmps77
  go_upto_region 3 with fail
  rw [← hwb]
  generalize w.heap.size = B at *
  clear hwb
  go_upto_region 8 with (go_at_call 93; refine (CA.out _ (by assumption) _).mono ?_; rintro e w5 ⟨rfl, rfl⟩)
  clear c1 c2 c3 c4
  have lB0 := cell_lt c0
  go_cut [6] from 8 (fun s6 wx => ∃ X : Nat, s6 = .pointer (some ⟨X, 0, none⟩) ∧ Gr w wx ∧ wx.heap[X]? = some (.cells #[.string (nmT k), .string (frT k), .int .u32 (rcT k), .int .u32 (r3T k), .int .u32 (r7T k)] 136) ∧ wx.heap[B]? = some (.cells #[.int .i64 (k : Int), .int .i64 rd, .int .i64 a, .int .i64 b, .int .i64 i] 61))
  case first =>
    first
      | (go_region_with (go_at_call 74; refine (CR.out _).mono ?_; rintro e w6 ⟨N, rfl, g6, h6⟩; have h7 := blk_gr g6 (by first | exact HB.out | exact blk_alloc _ HB.out); have f0 := blk_cell h7 0 (v := .int .i64 (k : Int)) rfl; have e0 := blk_cell h6 (k * 5) (v := .string (nmT k)) ((RC.out 0 (by decide)).trans rfl); have e1 := blk_cell h6 (k * 5 + 1) (v := .string (frT k)) ((RC.out 1 (by decide)).trans rfl); have e2 := blk_cell h6 (k * 5 + 2) (v := .int .u32 (rcT k)) ((RC.out 2 (by decide)).trans rfl); have e3 := blk_cell h6 (k * 5 + 3) (v := .int .u32 (r3T k)) ((RC.out 3 (by decide)).trans rfl); have e4 := blk_cell h6 (k * 5 + 4) (v := .int .u32 (r7T k)) ((RC.out 4 (by decide)).trans rfl); have lN := cell_lt e0; have lB := cell_lt f0; try (have x7 : w6.heap[w5.heap.size]? = _ := blk_gr g6 (blk_new w5.drew _); have y0 := blk_cell x7 0 rfl; have z0 := blk_frozen x7 0; have y1 := blk_cell x7 1 rfl; have z1 := blk_frozen x7 1; have y2 := blk_cell x7 2 rfl; have z2 := blk_frozen x7 2; have y3 := blk_cell x7 3 rfl; have z3 := blk_frozen x7 3; have y4 := blk_cell x7 4 rfl; have z4 := blk_frozen x7 4; have lX := cell_lt y0)))
      | fail
    all_goals
      go_wp2_with fail
      go_meet
      case rel =>
        first
          | exact ⟨_, rfl, gr_al (gtrans GB.out (undrew g6)) _, blk_new w6 _, blk_alloc _ h7⟩
          | exact ⟨_, rfl, Below.setCell (Below.setCell (Below.setCell (Below.setCell (Below.setCell (gtrans GB.out (undrew (gtrans (gr_al (Gr.refl _) _) g6))) GB.out.size _) GB.out.size _) GB.out.size _) GB.out.size _) GB.out.size _, blk_set (blk_set (blk_set (blk_set (blk_set x7 0 _) 1 _) 2 _) 3 _) 4 _, blk_other (blk_other (blk_other (blk_other (blk_other h7 _ _ (Nat.ne_of_lt lB0)) _ _ (Nat.ne_of_lt lB0)) _ _ (Nat.ne_of_lt lB0)) _ _ (Nat.ne_of_lt lB0)) _ _ (Nat.ne_of_lt lB0)⟩
  case rest =>
    clear CA CR RC HB GB c0 lB0
    obtain ⟨X, rfl, gx, hX, hB⟩ := hcut
    rw [HF.out] at hX
    have x1 := blk_cell hX 1 (v := .string ⟨#[78]⟩) rfl
    have c0 := blk_cell hB 0 (v := .int .i64 (k : Int)) rfl
    have c1 := blk_cell hB 1 (v := .int .i64 rd) rfl
    have c2 := blk_cell hB 2 (v := .int .i64 a) rfl
    have c3 := blk_cell hB 3 (v := .int .i64 b) rfl
    have c4 := blk_cell hB 4 (v := .int .i64 i) rfl
    have GX := Lib.hid gx
    clear gx hX hB
    by_cases h00 : rd = 0
    · have e0 : decide (rd = 0) = true := decide_eq_true h00
      by_cases h10 : a = 0
      · have e1 : decide (a = 0) = true := decide_eq_true h10
        by_cases h20 : b = 0
        · have e2 : decide (b = 0) = true := decide_eq_true h20
          by_cases h30 : i = 0
          · have e3 : decide (i = 0) = true := decide_eq_true h30
            go_wp2_with fail
            all_goals
              go_ret
              exact ⟨ret_b (by simp [*]), GX.out⟩
          · have e3 : decide (i = 0) = false := decide_eq_false h30
            go_wp2_with fail
            all_goals
              go_ret
              exact ⟨ret_b (by simp [*]), GX.out⟩
        · have e2 : decide (b = 0) = false := decide_eq_false h20
          go_wp2_with fail
          all_goals
            go_ret
            exact ⟨ret_b (by simp [*]), GX.out⟩
      · have e1 : decide (a = 0) = false := decide_eq_false h10
        go_wp2_with fail
        all_goals
          go_ret
          exact ⟨ret_b (by simp [*]), GX.out⟩
    · have e0 : decide (rd = 0) = false := decide_eq_false h00
      go_wp2_with fail
      all_goals
        go_ret
        exact ⟨ret_b (by simp [*]), GX.out⟩
end Go.Proofs.YtngeabphjdfdgaaGreatDoor.P
namespace Go.Proofs.YtngeabphjdfdgaaGreatDoor.P
open Go.RowKit
set_option maxHeartbeats 1600000 in
theorem r_may_bad (k : Nat) (hk : k < 88) (h1 : 1 ≤ k) (rd a b i : Int) (w : World) (h : (regB rd && regB a && regB b) = false) : Calls Tryz.prog 77 #[iv (k : Int) rd a b i] w fun e w' => e = .returned (.bool false) ∧ Gr w w' := by
  have k1 : ¬ (k : Int) < 1 := by omega
  have k2 : ¬ (87 : Int) < k := by omega
  have C1 := Lib.hid (fun w => r_reg rd w)
  have C2 := Lib.hid (fun w => r_reg a w)
  have C3 := Lib.hid (fun w => r_reg b w)
  unfold regB at h
  generalize (decide (0 ≤ rd) && decide (rd ≤ 31)) = x at *
  generalize (decide (0 ≤ a) && decide (a ≤ 31)) = y at *
  generalize (decide (0 ≤ b) && decide (b ≤ 31)) = z at *
  obtain ⟨wb, hwb⟩ : ∃ wb, wb = w.alloc (.cells #[.int .i64 (k : Int), .int .i64 rd, .int .i64 a, .int .i64 b, .int .i64 i] 61) := ⟨_, rfl⟩
  have gb : Gr w wb := by rw [hwb]; exact (Gr.refl w).alloc (Nat.le_refl _) _
  have hB : wb.heap[w.heap.size]? = some (.cells #[.int .i64 (k : Int), .int .i64 rd, .int .i64 a, .int .i64 b, .int .i64 i] 61) := by rw [hwb]; exact blk_new w _
  have GB := Lib.hid gb
  have c0 := blk_cell hB 0 (v := .int .i64 (k : Int)) rfl
  have c1 := blk_cell hB 1 (v := .int .i64 rd) rfl
  have c2 := blk_cell hB 2 (v := .int .i64 a) rfl
  have c3 := blk_cell hB 3 (v := .int .i64 b) rfl
  clear gb hB
  cases x <;> cases y <;> cases z <;> simp only [Bool.and_true, Bool.and_false, Bool.true_and, Bool.false_and, Bool.true_eq_false] at h
  all_goals
    go_enter Tryz.func77, Tryz.ntmps77
    go_upto_region 3 with fail
    rw [← hwb]
    generalize w.heap.size = B at *
    clear hwb
    go_upto_region 4 with (go_at_call 93; refine (C1.out _).mono ?_; rintro e w5 ⟨rfl, rfl⟩)
    go_upto_region 5 with (go_at_call 93; refine (C2.out _).mono ?_; rintro e w5 ⟨rfl, rfl⟩)
    go_wp2_with (go_at_call 93; refine (C3.out _).mono ?_; rintro e w5 ⟨rfl, rfl⟩)
    go_ret
    exact ⟨rfl, GB.out⟩
end Go.Proofs.YtngeabphjdfdgaaGreatDoor.P
namespace Go.Proofs.YtngeabphjdfdgaaGreatDoor.P
open Go.RowKit
set_option maxHeartbeats 1600000 in
theorem r_may_65 (k : Nat) (hk : k < 88) (h1 : 1 ≤ k) (hv : fmT k = 65) (rd a b i : Int) (hi : i64 i) (w : World) (hr : regB rd = true) (ha : regB a = true) (hb : regB b = true) : Calls Tryz.prog 77 #[iv (k : Int) rd a b i] w fun e w' => e = .returned (.bool (withinF i 0 3 1 && (!resB k || decide (b = 0)))) ∧ Gr w w' := by
  have hfr : frT k = ⟨#[65]⟩ := by rw [fr_is k hk h1, hv]; rfl
  have HF := Lib.hid hfr
  clear hfr hv
  have CW := Lib.hid (fun w => r_within i 0 3 1 (Or.inl rfl) hi w)
  generalize withinF i 0 3 1 = wi at *
  have k1 : ¬ (k : Int) < 1 := by omega
  have k2 : ¬ (87 : Int) < k := by omega
  have k3 : (0 : Int) ≤ k := by omega
  have k4 : (k : Int) < 88 := by omega
  have CA : Hid (∀ n : Int, regB n = true → ∀ w, Calls Tryz.prog 93 #[.int .i64 n] w fun e w' => e = .returned (.bool true) ∧ w' = w) := Lib.hid (fun n hn w => by have := r_reg n w; unfold regB at hn; rw [hn] at this; exact this)
  have CR : Hid (∀ w, Calls Tryz.prog 74 #[] w fun e w' => ∃ N, e = .returned (.slice (some ⟨N, 0, none⟩) 88 88) ∧ Gr w w' ∧ w'.heap[N]? = some (.cells rowsC 136)) := Lib.hid (fun w => (r_rows w).mono fun e w' h => ⟨w.heap.size, h⟩)
  have RC := Lib.hid (fun j (hj : j < 5) => rows_cell (k := k) hk hj)
  obtain ⟨wb, hwb⟩ : ∃ wb, wb = w.alloc (.cells #[.int .i64 (k : Int), .int .i64 rd, .int .i64 a, .int .i64 b, .int .i64 i] 61) := ⟨_, rfl⟩
  have gb : Gr w wb := by rw [hwb]; exact (Gr.refl w).alloc (Nat.le_refl _) _
  have hB : wb.heap[w.heap.size]? = some (.cells #[.int .i64 (k : Int), .int .i64 rd, .int .i64 a, .int .i64 b, .int .i64 i] 61) := by rw [hwb]; exact blk_new w _
  have GB := Lib.hid gb
  have c0 := blk_cell hB 0 (v := .int .i64 (k : Int)) rfl
  have c1 := blk_cell hB 1 (v := .int .i64 rd) rfl
  have c2 := blk_cell hB 2 (v := .int .i64 a) rfl
  have c3 := blk_cell hB 3 (v := .int .i64 b) rfl
  have c4 := blk_cell hB 4 (v := .int .i64 i) rfl
  have HB := Lib.hid hB
  clear gb hB
  go_enter Tryz.func77, Tryz.ntmps77
  go_upto_region 3 with fail
  rw [← hwb]
  generalize w.heap.size = B at *
  clear hwb
  go_upto_region 8 with (go_at_call 93; refine (CA.out _ (by assumption) _).mono ?_; rintro e w5 ⟨rfl, rfl⟩)
  clear c1 c2 c3 c4
  have lB0 := cell_lt c0
  go_cut [6] from 8 (fun s6 wx => ∃ X : Nat, s6 = .pointer (some ⟨X, 0, none⟩) ∧ Gr w wx ∧ wx.heap[X]? = some (.cells #[.string (nmT k), .string (frT k), .int .u32 (rcT k), .int .u32 (r3T k), .int .u32 (r7T k)] 136) ∧ wx.heap[B]? = some (.cells #[.int .i64 (k : Int), .int .i64 rd, .int .i64 a, .int .i64 b, .int .i64 i] 61))
  case first =>
    first
      | (go_region_with (go_at_call 74; refine (CR.out _).mono ?_; rintro e w6 ⟨N, rfl, g6, h6⟩; have h7 := blk_gr g6 (by first | exact HB.out | exact blk_alloc _ HB.out); have f0 := blk_cell h7 0 (v := .int .i64 (k : Int)) rfl; have e0 := blk_cell h6 (k * 5) (v := .string (nmT k)) ((RC.out 0 (by decide)).trans rfl); have e1 := blk_cell h6 (k * 5 + 1) (v := .string (frT k)) ((RC.out 1 (by decide)).trans rfl); have e2 := blk_cell h6 (k * 5 + 2) (v := .int .u32 (rcT k)) ((RC.out 2 (by decide)).trans rfl); have e3 := blk_cell h6 (k * 5 + 3) (v := .int .u32 (r3T k)) ((RC.out 3 (by decide)).trans rfl); have e4 := blk_cell h6 (k * 5 + 4) (v := .int .u32 (r7T k)) ((RC.out 4 (by decide)).trans rfl); have lN := cell_lt e0; have lB := cell_lt f0; try (have x7 : w6.heap[w5.heap.size]? = _ := blk_gr g6 (blk_new w5.drew _); have y0 := blk_cell x7 0 rfl; have z0 := blk_frozen x7 0; have y1 := blk_cell x7 1 rfl; have z1 := blk_frozen x7 1; have y2 := blk_cell x7 2 rfl; have z2 := blk_frozen x7 2; have y3 := blk_cell x7 3 rfl; have z3 := blk_frozen x7 3; have y4 := blk_cell x7 4 rfl; have z4 := blk_frozen x7 4; have lX := cell_lt y0)))
      | fail
    all_goals
      go_wp2_with fail
      go_meet
      case rel =>
        first
          | exact ⟨_, rfl, gr_al (gtrans GB.out (undrew g6)) _, blk_new w6 _, blk_alloc _ h7⟩
          | exact ⟨_, rfl, Below.setCell (Below.setCell (Below.setCell (Below.setCell (Below.setCell (gtrans GB.out (undrew (gtrans (gr_al (Gr.refl _) _) g6))) GB.out.size _) GB.out.size _) GB.out.size _) GB.out.size _) GB.out.size _, blk_set (blk_set (blk_set (blk_set (blk_set x7 0 _) 1 _) 2 _) 3 _) 4 _, blk_other (blk_other (blk_other (blk_other (blk_other h7 _ _ (Nat.ne_of_lt lB0)) _ _ (Nat.ne_of_lt lB0)) _ _ (Nat.ne_of_lt lB0)) _ _ (Nat.ne_of_lt lB0)) _ _ (Nat.ne_of_lt lB0)⟩
  case rest =>
    clear CA CR RC HB GB c0 lB0
    obtain ⟨X, rfl, gx, hX, hB⟩ := hcut
    rw [HF.out] at hX
    have x1 := blk_cell hX 1 (v := .string ⟨#[65]⟩) rfl
    have c0 := blk_cell hB 0 (v := .int .i64 (k : Int)) rfl
    have c1 := blk_cell hB 1 (v := .int .i64 rd) rfl
    have c2 := blk_cell hB 2 (v := .int .i64 a) rfl
    have c3 := blk_cell hB 3 (v := .int .i64 b) rfl
    have c4 := blk_cell hB 4 (v := .int .i64 i) rfl
    have GX := Lib.hid gx
    clear gx hX hB
    cases wi <;> by_cases h66 : (k : Int) = 66 <;> by_cases h77 : (k : Int) = 77 <;> by_cases hb0 : b = 0
    all_goals
      try (exfalso; omega)
    all_goals
      go_wp2_with (go_at_call 94; refine (CW.out _).mono ?_; rintro e w7 ⟨rfl, rfl⟩)
      all_goals
        go_ret
        exact ⟨ret_b (by simp [resB, *]), GX.out⟩
end Go.Proofs.YtngeabphjdfdgaaGreatDoor.P
namespace Go.Proofs.YtngeabphjdfdgaaGreatDoor.P
open Go.RowKit
theorem may_eq_85 (q : Bool) (rd a b i : Int) (hr : regB rd = true) (ha : regB a = true) (hb : regB b = true) : (mayR 85 q rd a b && mayI 85 i) = (decide (a = 0) && decide (b = 0) && withinF i (-2147483648) 2147479552 4096) := by
  unfold regB at hr ha hb
  rw [Bool.and_eq_true, decide_eq_true_eq, decide_eq_true_eq] at hr ha hb
  rw [Bool.eq_iff_iff]
  simp only [mayR, mayI, fitsB, oneB, withinF, Int.reduceEq, if_false, if_true, Bool.and_eq_true, Bool.or_eq_true, decide_eq_true_eq, Bool.true_and, Bool.false_and, Bool.and_true, Bool.not_true, Bool.not_false, Bool.false_or, Bool.true_or, Bool.or_false, Bool.false_eq_true, or_false, false_and, true_and, and_true, reduceCtorEq]
  all_goals omega
theorem may_eq_74 (q : Bool) (rd a b i : Int) (hr : regB rd = true) (ha : regB a = true) (hb : regB b = true) : (mayR 74 q rd a b && mayI 74 i) = (decide (a = 0) && decide (b = 0) && withinF i (-1048576) 1048574 2) := by
  unfold regB at hr ha hb
  rw [Bool.and_eq_true, decide_eq_true_eq, decide_eq_true_eq] at hr ha hb
  rw [Bool.eq_iff_iff]
  simp only [mayR, mayI, fitsB, oneB, withinF, Int.reduceEq, if_false, if_true, Bool.and_eq_true, Bool.or_eq_true, decide_eq_true_eq, Bool.true_and, Bool.false_and, Bool.and_true, Bool.not_true, Bool.not_false, Bool.false_or, Bool.true_or, Bool.or_false, Bool.false_eq_true, or_false, false_and, true_and, and_true, reduceCtorEq]
  all_goals omega
theorem may_eq_73 (q : Bool) (rd a b i : Int) (hr : regB rd = true) (ha : regB a = true) (hb : regB b = true) : (mayR 73 q rd a b && mayI 73 i) = (decide (b = 0) && withinF i (-2048) 2047 1) := by
  unfold regB at hr ha hb
  rw [Bool.and_eq_true, decide_eq_true_eq, decide_eq_true_eq] at hr ha hb
  rw [Bool.eq_iff_iff]
  simp only [mayR, mayI, fitsB, oneB, withinF, Int.reduceEq, if_false, if_true, Bool.and_eq_true, Bool.or_eq_true, decide_eq_true_eq, Bool.true_and, Bool.false_and, Bool.and_true, Bool.not_true, Bool.not_false, Bool.false_or, Bool.true_or, Bool.or_false, Bool.false_eq_true, or_false, false_and, true_and, and_true, reduceCtorEq]
  all_goals omega
theorem may_eq_66 (q : Bool) (rd a b i : Int) (hr : regB rd = true) (ha : regB a = true) (hb : regB b = true) : (mayR 66 q rd a b && mayI 66 i) = (decide (rd = 0) && withinF i (-4096) 4094 2) := by
  unfold regB at hr ha hb
  rw [Bool.and_eq_true, decide_eq_true_eq, decide_eq_true_eq] at hr ha hb
  rw [Bool.eq_iff_iff]
  simp only [mayR, mayI, fitsB, oneB, withinF, Int.reduceEq, if_false, if_true, Bool.and_eq_true, Bool.or_eq_true, decide_eq_true_eq, Bool.true_and, Bool.false_and, Bool.and_true, Bool.not_true, Bool.not_false, Bool.false_or, Bool.true_or, Bool.or_false, Bool.false_eq_true, or_false, false_and, true_and, and_true, reduceCtorEq]
  all_goals omega
theorem may_eq_83 (q : Bool) (rd a b i : Int) (hr : regB rd = true) (ha : regB a = true) (hb : regB b = true) : (mayR 83 q rd a b && mayI 83 i) = (decide (rd = 0) && withinF i (-2048) 2047 1) := by
  unfold regB at hr ha hb
  rw [Bool.and_eq_true, decide_eq_true_eq, decide_eq_true_eq] at hr ha hb
  rw [Bool.eq_iff_iff]
  simp only [mayR, mayI, fitsB, oneB, withinF, Int.reduceEq, if_false, if_true, Bool.and_eq_true, Bool.or_eq_true, decide_eq_true_eq, Bool.true_and, Bool.false_and, Bool.and_true, Bool.not_true, Bool.not_false, Bool.false_or, Bool.true_or, Bool.or_false, Bool.false_eq_true, or_false, false_and, true_and, and_true, reduceCtorEq]
  all_goals omega
theorem may_eq_72 (q : Bool) (rd a b i : Int) (hr : regB rd = true) (ha : regB a = true) (hb : regB b = true) : (mayR 72 q rd a b && mayI 72 i) = (decide (b = 0) && withinF i 0 63 1) := by
  unfold regB at hr ha hb
  rw [Bool.and_eq_true, decide_eq_true_eq, decide_eq_true_eq] at hr ha hb
  rw [Bool.eq_iff_iff]
  simp only [mayR, mayI, fitsB, oneB, withinF, Int.reduceEq, if_false, if_true, Bool.and_eq_true, Bool.or_eq_true, decide_eq_true_eq, Bool.true_and, Bool.false_and, Bool.and_true, Bool.not_true, Bool.not_false, Bool.false_or, Bool.true_or, Bool.or_false, Bool.false_eq_true, or_false, false_and, true_and, and_true, reduceCtorEq]
  all_goals omega
theorem may_eq_86 (q : Bool) (rd a b i : Int) (hr : regB rd = true) (ha : regB a = true) (hb : regB b = true) : (mayR 86 q rd a b && mayI 86 i) = (decide (b = 0) && withinF i 0 31 1) := by
  unfold regB at hr ha hb
  rw [Bool.and_eq_true, decide_eq_true_eq, decide_eq_true_eq] at hr ha hb
  rw [Bool.eq_iff_iff]
  simp only [mayR, mayI, fitsB, oneB, withinF, Int.reduceEq, if_false, if_true, Bool.and_eq_true, Bool.or_eq_true, decide_eq_true_eq, Bool.true_and, Bool.false_and, Bool.and_true, Bool.not_true, Bool.not_false, Bool.false_or, Bool.true_or, Bool.or_false, Bool.false_eq_true, or_false, false_and, true_and, and_true, reduceCtorEq]
  all_goals omega
theorem may_eq_82 (q : Bool) (rd a b i : Int) (hr : regB rd = true) (ha : regB a = true) (hb : regB b = true) : (mayR 82 q rd a b && mayI 82 i) = (decide (i = 0) && true) := by
  unfold regB at hr ha hb
  rw [Bool.and_eq_true, decide_eq_true_eq, decide_eq_true_eq] at hr ha hb
  rw [Bool.eq_iff_iff]
  simp only [mayR, mayI, fitsB, oneB, withinF, Int.reduceEq, if_false, if_true, Bool.and_eq_true, Bool.or_eq_true, decide_eq_true_eq, Bool.true_and, Bool.false_and, Bool.and_true, Bool.not_true, Bool.not_false, Bool.false_or, Bool.true_or, Bool.or_false, Bool.false_eq_true, or_false, false_and, true_and, and_true, reduceCtorEq]
  all_goals omega
theorem may_eq_65 (q : Bool) (rd a b i : Int) (hr : regB rd = true) (ha : regB a = true) (hb : regB b = true) : (mayR 65 q rd a b && mayI 65 i) = (withinF i 0 3 1 && (!q || decide (b = 0))) := by
  unfold regB at hr ha hb
  rw [Bool.and_eq_true, decide_eq_true_eq, decide_eq_true_eq] at hr ha hb
  rw [Bool.eq_iff_iff]
  cases q <;> simp only [mayR, mayI, fitsB, oneB, withinF, Int.reduceEq, if_false, if_true, Bool.and_eq_true, Bool.or_eq_true, decide_eq_true_eq, Bool.true_and, Bool.false_and, Bool.and_true, Bool.not_true, Bool.not_false, Bool.false_or, Bool.true_or, Bool.or_false, Bool.false_eq_true, or_false, false_and, true_and, and_true, reduceCtorEq] <;> omega
theorem may_eq_78 (q : Bool) (rd a b i : Int) (hr : regB rd = true) (ha : regB a = true) (hb : regB b = true) : (mayR 78 q rd a b && mayI 78 i) = (decide (rd = 0) && decide (a = 0) && decide (b = 0) && decide (i = 0) && true) := by
  unfold regB at hr ha hb
  rw [Bool.and_eq_true, decide_eq_true_eq, decide_eq_true_eq] at hr ha hb
  rw [Bool.eq_iff_iff]
  simp only [mayR, mayI, fitsB, oneB, withinF, Int.reduceEq, if_false, if_true, Bool.and_eq_true, Bool.or_eq_true, decide_eq_true_eq, Bool.true_and, Bool.false_and, Bool.and_true, Bool.not_true, Bool.not_false, Bool.false_or, Bool.true_or, Bool.or_false, Bool.false_eq_true, or_false, false_and, true_and, and_true, reduceCtorEq]
  all_goals omega
theorem may_no (f : Int) (q : Bool) (rd a b : Int) (h : (regB rd && regB a && regB b) = false) : mayR f q rd a b = false := by
  have key : ∀ p r s : Bool, fitsB rd a b p r s = false := by
    intro p r s
    cases e : fitsB rd a b p r s with
    | false => rfl
    | true =>
      exfalso
      unfold fitsB at e
      rw [Bool.and_eq_true, Bool.and_eq_true] at e
      have o : ∀ (n : Int) (b : Bool), oneB n b = true → regB n = true := by
        intro n b hn
        unfold oneB at hn
        unfold regB
        rw [Bool.or_eq_true, Bool.and_eq_true, Bool.and_eq_true, decide_eq_true_eq, decide_eq_true_eq, decide_eq_true_eq] at hn
        rw [Bool.and_eq_true, decide_eq_true_eq, decide_eq_true_eq]
        omega
      rw [o _ _ e.1.1, o _ _ e.1.2, o _ _ e.2] at h
      exact absurd h (by decide)
  unfold mayR
  repeat' split
  all_goals exact key _ _ _
theorem r_may (op rd a b i : Int) (hi : i64 i) (w : World) : Calls Tryz.prog 77 #[iv op rd a b i] w fun e w' => e = .returned (.bool (mayF op rd a b i)) ∧ Gr w w' := by
  by_cases ho : op < 1 ∨ 87 < op
  · have e : mayF op rd a b i = false := by
      unfold mayF
      rcases ho with h | h
      · rw [decide_eq_false (by omega : ¬ 1 ≤ op)]; rfl
      · rw [decide_eq_false (by omega : ¬ op ≤ 87), Bool.and_false]; rfl
    rw [e]
    exact r_may_out op rd a b i ho w
  · obtain ⟨k, rfl⟩ : ∃ k : Nat, op = (k : Int) := ⟨op.toNat, by omega⟩
    have hk : k < 88 := by omega
    have h1 : 1 ≤ k := by omega
    rw [may_in hk h1]
    cases hg : (regB rd && regB a && regB b) with
    | false =>
      rw [may_no _ _ _ _ _ hg, Bool.false_and]
      exact r_may_bad k hk h1 rd a b i w hg
    | true =>
      rw [Bool.and_eq_true, Bool.and_eq_true] at hg
      rcases fm_cases k hk h1 with hv | hv | hv | hv | hv | hv | hv | hv | hv | hv
      · rw [hv, may_eq_85 _ _ _ _ _ hg.1.1 hg.1.2 hg.2]
        exact r_may_85 k hk h1 hv rd a b i hi w hg.1.1 hg.1.2 hg.2
      · rw [hv, may_eq_74 _ _ _ _ _ hg.1.1 hg.1.2 hg.2]
        exact r_may_74 k hk h1 hv rd a b i hi w hg.1.1 hg.1.2 hg.2
      · rw [hv, may_eq_73 _ _ _ _ _ hg.1.1 hg.1.2 hg.2]
        exact r_may_73 k hk h1 hv rd a b i hi w hg.1.1 hg.1.2 hg.2
      · rw [hv, may_eq_66 _ _ _ _ _ hg.1.1 hg.1.2 hg.2]
        exact r_may_66 k hk h1 hv rd a b i hi w hg.1.1 hg.1.2 hg.2
      · rw [hv, may_eq_83 _ _ _ _ _ hg.1.1 hg.1.2 hg.2]
        exact r_may_83 k hk h1 hv rd a b i hi w hg.1.1 hg.1.2 hg.2
      · rw [hv, may_eq_72 _ _ _ _ _ hg.1.1 hg.1.2 hg.2]
        exact r_may_72 k hk h1 hv rd a b i hi w hg.1.1 hg.1.2 hg.2
      · rw [hv, may_eq_86 _ _ _ _ _ hg.1.1 hg.1.2 hg.2]
        exact r_may_86 k hk h1 hv rd a b i hi w hg.1.1 hg.1.2 hg.2
      · rw [hv, may_eq_82 _ _ _ _ _ hg.1.1 hg.1.2 hg.2]
        exact r_may_82 k hk h1 hv rd a b i hi w hg.1.1 hg.1.2 hg.2
      · rw [hv, may_eq_65 _ _ _ _ _ hg.1.1 hg.1.2 hg.2]
        exact r_may_65 k hk h1 hv rd a b i hi w hg.1.1 hg.1.2 hg.2
      · rw [hv, may_eq_78 _ _ _ _ _ hg.1.1 hg.1.2 hg.2]
        exact r_may_78 k hk h1 hv rd a b i hi w hg.1.1 hg.1.2 hg.2
end Go.Proofs.YtngeabphjdfdgaaGreatDoor.P
