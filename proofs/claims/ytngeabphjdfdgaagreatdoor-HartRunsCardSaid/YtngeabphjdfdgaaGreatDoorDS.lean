/- Stage 2: the document's instruction that a word would be, some forms. No condition. -/
import Derived.Test.YtngeabphjdfdgaaGreatDoorDQ
import Derived.Test.YtngeabphjdfdgaaGreatDoorMA
import Derived.Test.YtngeabphjdfdgaaGreatDoorDV
set_option linter.unusedVariables false
set_option linter.unusedSimpArgs false
set_option maxRecDepth 100000
namespace Go.Proofs.YtngeabphjdfdgaaGreatDoor.P
open Go.RowKit
theorem atN_lt (x : Int) (n m : Nat) (p : Int) (h : (2 : Int) ^ m = p) (hp : 0 < p) : 0 ≤ atN x n m ∧ atN x n m < p := by
  unfold atN
  rw [h]
  exact ⟨Int.emod_nonneg _ (Int.ne_of_gt hp), Int.emod_lt_of_pos _ hp⟩
theorem sgN_in (v : Int) (n : Nat) (hn : n = 12 ∨ n = 20) (h0 : 0 ≤ v) (h1 : v < 2 ^ n) : -524288 ≤ sgN v n ∧ sgN v n < 524288 := by
  unfold sgN
  rcases hn with rfl | rfl
  · by_cases h : v < 2048
    · rw [decide_eq_true (by omega)]; simp only [cond_true]; omega
    · rw [decide_eq_false (by omega)]; simp only [cond_false]; omega
  · by_cases h : v < 524288
    · rw [decide_eq_true (by omega)]; simp only [cond_true]; omega
    · rw [decide_eq_false (by omega)]; simp only [cond_false]; omega
set_option maxHeartbeats 3200000 in
theorem r_fit_85 (k : Nat) (hk : k < 88) (h1 : 1 ≤ k) (hv : fmT k = 85) (x : Int) (hx : u32 x) (w : World) : Calls Tryz.prog 48 #[.int .i64 (k : Int), .int .u32 x] w fun e w' => e = .returned (iv (k : Int) (atN x 7 5) 0 0 (sgN (atN x 12 20) 20 * 4096)) ∧ Gr w w' := by
  have hfr : frT k = ⟨#[85]⟩ := by rw [fr_is k hk h1, hv]; rfl
  have HX := Lib.hid hx
  have HF := Lib.hid hfr
  have CR : Hid (∀ w, Calls Tryz.prog 74 #[] w fun e w' => ∃ N, e = .returned (.slice (some ⟨N, 0, none⟩) 88 88) ∧ Gr w w' ∧ w'.heap[N]? = some (.cells rowsC 136)) := Lib.hid (fun w => (r_rows w).mono fun e w' h => ⟨w.heap.size, h⟩)
  have RC := Lib.hid (fun j (hj : j < 5) => rows_cell (k := k) hk hj)
  have k3 : (0 : Int) ≤ k := by omega
  have k4 : (k : Int) < 88 := by omega
  obtain ⟨rb, hrb⟩ : ∃ rb, rb = resB k := ⟨_, rfl⟩
  have p0 := atN_lt x 7 5 32 rfl (by decide)
  have p1 := atN_lt x 15 5 32 rfl (by decide)
  have p2 := atN_lt x 20 5 32 rfl (by decide)
  have p3 := atN_lt x 12 20 1048576 rfl (by decide)
  have ps := sgN_in (atN x 12 20) 20 (by decide) (by omega) (by omega)
  clear hfr hv hx
  have hb := blk_new w (.cells #[.int .i64 0, .int .i64 0, .int .i64 0, .int .i64 0, .int .i64 0] 61)
  have gb := gr_al (Gr.refl w) (.cells #[.int .i64 0, .int .i64 0, .int .i64 0, .int .i64 0, .int .i64 0] 61)
  go_enter Tryz.func48, Tryz.ntmps48
  go_upto_region 1 with fail
  generalize w.alloc (.cells #[.int .i64 0, .int .i64 0, .int .i64 0, .int .i64 0, .int .i64 0] 61) = wA at *
  obtain ⟨B, hB⟩ : ∃ B, B = w.heap.size := ⟨_, rfl⟩
  rw [← hB] at hb ⊢
  have HB := Lib.hid hb
  have GB := Lib.hid gb
  have EB := Lib.hid hB
  clear hb gb hB
  go_upto_region 2 with (go_at_call 74; refine (CR.out _).mono ?_; rintro e w6 ⟨N, rfl, g6, h6⟩; have e0 := blk_cell h6 (k * 5) (v := .string (nmT k)) ((RC.out 0 (by decide)).trans rfl); have e1 := blk_cell h6 (k * 5 + 1) (v := .string (frT k)) ((RC.out 1 (by decide)).trans rfl); have e2 := blk_cell h6 (k * 5 + 2) (v := .int .u32 (rcT k)) ((RC.out 2 (by decide)).trans rfl); have e3 := blk_cell h6 (k * 5 + 3) (v := .int .u32 (r3T k)) ((RC.out 3 (by decide)).trans rfl); have e4 := blk_cell h6 (k * 5 + 4) (v := .int .u32 (r7T k)) ((RC.out 4 (by decide)).trans rfl); have lN := cell_lt e0)
  have hX := blk_new w6 (.cells #[.string (nmT k), .string (frT k), .int .u32 (rcT k), .int .u32 (r3T k), .int .u32 (r7T k)] 136)
  have gx := gr_al (gtrans GB.out g6) (.cells #[.string (nmT k), .string (frT k), .int .u32 (rcT k), .int .u32 (r3T k), .int .u32 (r7T k)] 136)
  have hz := blk_alloc (.cells #[.string (nmT k), .string (frT k), .int .u32 (rcT k), .int .u32 (r3T k), .int .u32 (r7T k)] 136) (blk_gr g6 HB.out)
  generalize w6.alloc (.cells #[.string (nmT k), .string (frT k), .int .u32 (rcT k), .int .u32 (r3T k), .int .u32 (r7T k)] 136) = w7 at *
  generalize w6.heap.size = X at *
  rw [HF.out] at hX
  have x1 := blk_cell hX 1 (v := .string ⟨#[85]⟩) rfl
  have d0 := blk_cell hz 0 (v := .int .i64 0) rfl
  have d1 := blk_cell hz 1 (v := .int .i64 0) rfl
  have d2 := blk_cell hz 2 (v := .int .i64 0) rfl
  have d3 := blk_cell hz 3 (v := .int .i64 0) rfl
  have d4 := blk_cell hz 4 (v := .int .i64 0) rfl
  have z0 := blk_frozen hz 0
  have z1 := blk_frozen hz 1
  have z2 := blk_frozen hz 2
  have z3 := blk_frozen hz 3
  have z4 := blk_frozen hz 4
  have HZ := Lib.hid hz
  have GX := Lib.hid gx
  clear e0 e1 e2 e3 e4 lN g6 h6 hX gx hz CR RC HF HB GB
  go_wp2_with (first
    | (go_at_call 75; refine (r_at x _ _ HX.out (by decide) _).mono ?_; rintro e w8 ⟨rfl, rfl⟩)
    | (go_at_call 76; refine (r_signed _ _ (by decide) (by omega) _).mono ?_; rintro e w8 ⟨rfl, rfl⟩))
  obtain ⟨hy, gz⟩ := set5g (B := B) (by rw [EB.out]; exact Nat.le_refl _) HZ.out GX.out (.int .i64 (k : Int)) (.int .i64 (atN x 7 5)) (.int .i64 0) (.int .i64 0) (.int .i64 (sgN (atN x 12 20) 20 * 4096))
  refine bodyPost_ret (v := iv (k : Int) (atN x 7 5) 0 0 (sgN (atN x 12 20) 20 * 4096)) ?_ rfl ?_
  · have y0 := blk_cell hy 0 (v := .int .i64 (k : Int)) rfl
    have y1 := blk_cell hy 1 (v := .int .i64 (atN x 7 5)) rfl
    have y2 := blk_cell hy 2 (v := .int .i64 0) rfl
    have y3 := blk_cell hy 3 (v := .int .i64 0) rfl
    have y4 := blk_cell hy 4 (v := .int .i64 (sgN (atN x 12 20) 20 * 4096)) rfl
    generalize (World.setCell _ ⟨B, 4, none⟩ _) = wz at *
    simp [results, Tryz.results48, go_sem, y0, y1, y2, y3, y4]
  · exact ⟨rfl, gz⟩
set_option maxHeartbeats 3200000 in
theorem r_fit_74 (k : Nat) (hk : k < 88) (h1 : 1 ≤ k) (hv : fmT k = 74) (x : Int) (hx : u32 x) (w : World) : Calls Tryz.prog 48 #[.int .i64 (k : Int), .int .u32 x] w fun e w' => e = .returned (iv (k : Int) (atN x 7 5) 0 0 (sgN (atN x 31 1 * 524288 + atN x 12 8 * 2048 + atN x 20 1 * 1024 + atN x 21 10) 20 * 2)) ∧ Gr w w' := by
  have hfr : frT k = ⟨#[74]⟩ := by rw [fr_is k hk h1, hv]; rfl
  have HX := Lib.hid hx
  have HF := Lib.hid hfr
  have CR : Hid (∀ w, Calls Tryz.prog 74 #[] w fun e w' => ∃ N, e = .returned (.slice (some ⟨N, 0, none⟩) 88 88) ∧ Gr w w' ∧ w'.heap[N]? = some (.cells rowsC 136)) := Lib.hid (fun w => (r_rows w).mono fun e w' h => ⟨w.heap.size, h⟩)
  have RC := Lib.hid (fun j (hj : j < 5) => rows_cell (k := k) hk hj)
  have k3 : (0 : Int) ≤ k := by omega
  have k4 : (k : Int) < 88 := by omega
  obtain ⟨rb, hrb⟩ : ∃ rb, rb = resB k := ⟨_, rfl⟩
  have p0 := atN_lt x 7 5 32 rfl (by decide)
  have p1 := atN_lt x 15 5 32 rfl (by decide)
  have p2 := atN_lt x 20 5 32 rfl (by decide)
  have p3 := atN_lt x 31 1 2 rfl (by decide)
  have p4 := atN_lt x 12 8 256 rfl (by decide)
  have p5 := atN_lt x 20 1 2 rfl (by decide)
  have p6 := atN_lt x 21 10 1024 rfl (by decide)
  have ps := sgN_in (atN x 31 1 * 524288 + atN x 12 8 * 2048 + atN x 20 1 * 1024 + atN x 21 10) 20 (by decide) (by omega) (by omega)
  clear hfr hv hx
  have hb := blk_new w (.cells #[.int .i64 0, .int .i64 0, .int .i64 0, .int .i64 0, .int .i64 0] 61)
  have gb := gr_al (Gr.refl w) (.cells #[.int .i64 0, .int .i64 0, .int .i64 0, .int .i64 0, .int .i64 0] 61)
  go_enter Tryz.func48, Tryz.ntmps48
  go_upto_region 1 with fail
  generalize w.alloc (.cells #[.int .i64 0, .int .i64 0, .int .i64 0, .int .i64 0, .int .i64 0] 61) = wA at *
  obtain ⟨B, hB⟩ : ∃ B, B = w.heap.size := ⟨_, rfl⟩
  rw [← hB] at hb ⊢
  have HB := Lib.hid hb
  have GB := Lib.hid gb
  have EB := Lib.hid hB
  clear hb gb hB
  go_upto_region 2 with (go_at_call 74; refine (CR.out _).mono ?_; rintro e w6 ⟨N, rfl, g6, h6⟩; have e0 := blk_cell h6 (k * 5) (v := .string (nmT k)) ((RC.out 0 (by decide)).trans rfl); have e1 := blk_cell h6 (k * 5 + 1) (v := .string (frT k)) ((RC.out 1 (by decide)).trans rfl); have e2 := blk_cell h6 (k * 5 + 2) (v := .int .u32 (rcT k)) ((RC.out 2 (by decide)).trans rfl); have e3 := blk_cell h6 (k * 5 + 3) (v := .int .u32 (r3T k)) ((RC.out 3 (by decide)).trans rfl); have e4 := blk_cell h6 (k * 5 + 4) (v := .int .u32 (r7T k)) ((RC.out 4 (by decide)).trans rfl); have lN := cell_lt e0)
  have hX := blk_new w6 (.cells #[.string (nmT k), .string (frT k), .int .u32 (rcT k), .int .u32 (r3T k), .int .u32 (r7T k)] 136)
  have gx := gr_al (gtrans GB.out g6) (.cells #[.string (nmT k), .string (frT k), .int .u32 (rcT k), .int .u32 (r3T k), .int .u32 (r7T k)] 136)
  have hz := blk_alloc (.cells #[.string (nmT k), .string (frT k), .int .u32 (rcT k), .int .u32 (r3T k), .int .u32 (r7T k)] 136) (blk_gr g6 HB.out)
  generalize w6.alloc (.cells #[.string (nmT k), .string (frT k), .int .u32 (rcT k), .int .u32 (r3T k), .int .u32 (r7T k)] 136) = w7 at *
  generalize w6.heap.size = X at *
  rw [HF.out] at hX
  have x1 := blk_cell hX 1 (v := .string ⟨#[74]⟩) rfl
  have d0 := blk_cell hz 0 (v := .int .i64 0) rfl
  have d1 := blk_cell hz 1 (v := .int .i64 0) rfl
  have d2 := blk_cell hz 2 (v := .int .i64 0) rfl
  have d3 := blk_cell hz 3 (v := .int .i64 0) rfl
  have d4 := blk_cell hz 4 (v := .int .i64 0) rfl
  have z0 := blk_frozen hz 0
  have z1 := blk_frozen hz 1
  have z2 := blk_frozen hz 2
  have z3 := blk_frozen hz 3
  have z4 := blk_frozen hz 4
  have HZ := Lib.hid hz
  have GX := Lib.hid gx
  clear e0 e1 e2 e3 e4 lN g6 h6 hX gx hz CR RC HF HB GB
  go_wp2_with (first
    | (go_at_call 75; refine (r_at x _ _ HX.out (by decide) _).mono ?_; rintro e w8 ⟨rfl, rfl⟩)
    | (go_at_call 76; refine (r_signed _ _ (by decide) (by omega) _).mono ?_; rintro e w8 ⟨rfl, rfl⟩))
  obtain ⟨hy, gz⟩ := set5g (B := B) (by rw [EB.out]; exact Nat.le_refl _) HZ.out GX.out (.int .i64 (k : Int)) (.int .i64 (atN x 7 5)) (.int .i64 0) (.int .i64 0) (.int .i64 (sgN (atN x 31 1 * 524288 + atN x 12 8 * 2048 + atN x 20 1 * 1024 + atN x 21 10) 20 * 2))
  refine bodyPost_ret (v := iv (k : Int) (atN x 7 5) 0 0 (sgN (atN x 31 1 * 524288 + atN x 12 8 * 2048 + atN x 20 1 * 1024 + atN x 21 10) 20 * 2)) ?_ rfl ?_
  · have y0 := blk_cell hy 0 (v := .int .i64 (k : Int)) rfl
    have y1 := blk_cell hy 1 (v := .int .i64 (atN x 7 5)) rfl
    have y2 := blk_cell hy 2 (v := .int .i64 0) rfl
    have y3 := blk_cell hy 3 (v := .int .i64 0) rfl
    have y4 := blk_cell hy 4 (v := .int .i64 (sgN (atN x 31 1 * 524288 + atN x 12 8 * 2048 + atN x 20 1 * 1024 + atN x 21 10) 20 * 2)) rfl
    generalize (World.setCell _ ⟨B, 4, none⟩ _) = wz at *
    simp [results, Tryz.results48, go_sem, y0, y1, y2, y3, y4]
  · exact ⟨rfl, gz⟩
set_option maxHeartbeats 3200000 in
theorem r_fit_73 (k : Nat) (hk : k < 88) (h1 : 1 ≤ k) (hv : fmT k = 73) (x : Int) (hx : u32 x) (w : World) : Calls Tryz.prog 48 #[.int .i64 (k : Int), .int .u32 x] w fun e w' => e = .returned (iv (k : Int) (atN x 7 5) (atN x 15 5) 0 (sgN (atN x 20 12) 12)) ∧ Gr w w' := by
  have hfr : frT k = ⟨#[73]⟩ := by rw [fr_is k hk h1, hv]; rfl
  have HX := Lib.hid hx
  have HF := Lib.hid hfr
  have CR : Hid (∀ w, Calls Tryz.prog 74 #[] w fun e w' => ∃ N, e = .returned (.slice (some ⟨N, 0, none⟩) 88 88) ∧ Gr w w' ∧ w'.heap[N]? = some (.cells rowsC 136)) := Lib.hid (fun w => (r_rows w).mono fun e w' h => ⟨w.heap.size, h⟩)
  have RC := Lib.hid (fun j (hj : j < 5) => rows_cell (k := k) hk hj)
  have k3 : (0 : Int) ≤ k := by omega
  have k4 : (k : Int) < 88 := by omega
  obtain ⟨rb, hrb⟩ : ∃ rb, rb = resB k := ⟨_, rfl⟩
  have p0 := atN_lt x 7 5 32 rfl (by decide)
  have p1 := atN_lt x 15 5 32 rfl (by decide)
  have p2 := atN_lt x 20 5 32 rfl (by decide)
  have p3 := atN_lt x 20 12 4096 rfl (by decide)
  have ps := sgN_in (atN x 20 12) 12 (by decide) (by omega) (by omega)
  clear hfr hv hx
  have hb := blk_new w (.cells #[.int .i64 0, .int .i64 0, .int .i64 0, .int .i64 0, .int .i64 0] 61)
  have gb := gr_al (Gr.refl w) (.cells #[.int .i64 0, .int .i64 0, .int .i64 0, .int .i64 0, .int .i64 0] 61)
  go_enter Tryz.func48, Tryz.ntmps48
  go_upto_region 1 with fail
  generalize w.alloc (.cells #[.int .i64 0, .int .i64 0, .int .i64 0, .int .i64 0, .int .i64 0] 61) = wA at *
  obtain ⟨B, hB⟩ : ∃ B, B = w.heap.size := ⟨_, rfl⟩
  rw [← hB] at hb ⊢
  have HB := Lib.hid hb
  have GB := Lib.hid gb
  have EB := Lib.hid hB
  clear hb gb hB
  go_upto_region 2 with (go_at_call 74; refine (CR.out _).mono ?_; rintro e w6 ⟨N, rfl, g6, h6⟩; have e0 := blk_cell h6 (k * 5) (v := .string (nmT k)) ((RC.out 0 (by decide)).trans rfl); have e1 := blk_cell h6 (k * 5 + 1) (v := .string (frT k)) ((RC.out 1 (by decide)).trans rfl); have e2 := blk_cell h6 (k * 5 + 2) (v := .int .u32 (rcT k)) ((RC.out 2 (by decide)).trans rfl); have e3 := blk_cell h6 (k * 5 + 3) (v := .int .u32 (r3T k)) ((RC.out 3 (by decide)).trans rfl); have e4 := blk_cell h6 (k * 5 + 4) (v := .int .u32 (r7T k)) ((RC.out 4 (by decide)).trans rfl); have lN := cell_lt e0)
  have hX := blk_new w6 (.cells #[.string (nmT k), .string (frT k), .int .u32 (rcT k), .int .u32 (r3T k), .int .u32 (r7T k)] 136)
  have gx := gr_al (gtrans GB.out g6) (.cells #[.string (nmT k), .string (frT k), .int .u32 (rcT k), .int .u32 (r3T k), .int .u32 (r7T k)] 136)
  have hz := blk_alloc (.cells #[.string (nmT k), .string (frT k), .int .u32 (rcT k), .int .u32 (r3T k), .int .u32 (r7T k)] 136) (blk_gr g6 HB.out)
  generalize w6.alloc (.cells #[.string (nmT k), .string (frT k), .int .u32 (rcT k), .int .u32 (r3T k), .int .u32 (r7T k)] 136) = w7 at *
  generalize w6.heap.size = X at *
  rw [HF.out] at hX
  have x1 := blk_cell hX 1 (v := .string ⟨#[73]⟩) rfl
  have d0 := blk_cell hz 0 (v := .int .i64 0) rfl
  have d1 := blk_cell hz 1 (v := .int .i64 0) rfl
  have d2 := blk_cell hz 2 (v := .int .i64 0) rfl
  have d3 := blk_cell hz 3 (v := .int .i64 0) rfl
  have d4 := blk_cell hz 4 (v := .int .i64 0) rfl
  have z0 := blk_frozen hz 0
  have z1 := blk_frozen hz 1
  have z2 := blk_frozen hz 2
  have z3 := blk_frozen hz 3
  have z4 := blk_frozen hz 4
  have HZ := Lib.hid hz
  have GX := Lib.hid gx
  clear e0 e1 e2 e3 e4 lN g6 h6 hX gx hz CR RC HF HB GB
  go_wp2_with (first
    | (go_at_call 75; refine (r_at x _ _ HX.out (by decide) _).mono ?_; rintro e w8 ⟨rfl, rfl⟩)
    | (go_at_call 76; refine (r_signed _ _ (by decide) (by omega) _).mono ?_; rintro e w8 ⟨rfl, rfl⟩))
  obtain ⟨hy, gz⟩ := set5g (B := B) (by rw [EB.out]; exact Nat.le_refl _) HZ.out GX.out (.int .i64 (k : Int)) (.int .i64 (atN x 7 5)) (.int .i64 (atN x 15 5)) (.int .i64 0) (.int .i64 (sgN (atN x 20 12) 12))
  refine bodyPost_ret (v := iv (k : Int) (atN x 7 5) (atN x 15 5) 0 (sgN (atN x 20 12) 12)) ?_ rfl ?_
  · have y0 := blk_cell hy 0 (v := .int .i64 (k : Int)) rfl
    have y1 := blk_cell hy 1 (v := .int .i64 (atN x 7 5)) rfl
    have y2 := blk_cell hy 2 (v := .int .i64 (atN x 15 5)) rfl
    have y3 := blk_cell hy 3 (v := .int .i64 0) rfl
    have y4 := blk_cell hy 4 (v := .int .i64 (sgN (atN x 20 12) 12)) rfl
    generalize (World.setCell _ ⟨B, 4, none⟩ _) = wz at *
    simp [results, Tryz.results48, go_sem, y0, y1, y2, y3, y4]
  · exact ⟨rfl, gz⟩
set_option maxHeartbeats 3200000 in
theorem r_fit_66 (k : Nat) (hk : k < 88) (h1 : 1 ≤ k) (hv : fmT k = 66) (x : Int) (hx : u32 x) (w : World) : Calls Tryz.prog 48 #[.int .i64 (k : Int), .int .u32 x] w fun e w' => e = .returned (iv (k : Int) 0 (atN x 15 5) (atN x 20 5) (sgN (atN x 31 1 * 2048 + atN x 7 1 * 1024 + atN x 25 6 * 16 + atN x 8 4) 12 * 2)) ∧ Gr w w' := by
  have hfr : frT k = ⟨#[66]⟩ := by rw [fr_is k hk h1, hv]; rfl
  have HX := Lib.hid hx
  have HF := Lib.hid hfr
  have CR : Hid (∀ w, Calls Tryz.prog 74 #[] w fun e w' => ∃ N, e = .returned (.slice (some ⟨N, 0, none⟩) 88 88) ∧ Gr w w' ∧ w'.heap[N]? = some (.cells rowsC 136)) := Lib.hid (fun w => (r_rows w).mono fun e w' h => ⟨w.heap.size, h⟩)
  have RC := Lib.hid (fun j (hj : j < 5) => rows_cell (k := k) hk hj)
  have k3 : (0 : Int) ≤ k := by omega
  have k4 : (k : Int) < 88 := by omega
  obtain ⟨rb, hrb⟩ : ∃ rb, rb = resB k := ⟨_, rfl⟩
  have p0 := atN_lt x 7 5 32 rfl (by decide)
  have p1 := atN_lt x 15 5 32 rfl (by decide)
  have p2 := atN_lt x 20 5 32 rfl (by decide)
  have p3 := atN_lt x 31 1 2 rfl (by decide)
  have p4 := atN_lt x 7 1 2 rfl (by decide)
  have p5 := atN_lt x 25 6 64 rfl (by decide)
  have p6 := atN_lt x 8 4 16 rfl (by decide)
  have ps := sgN_in (atN x 31 1 * 2048 + atN x 7 1 * 1024 + atN x 25 6 * 16 + atN x 8 4) 12 (by decide) (by omega) (by omega)
  clear hfr hv hx
  have hb := blk_new w (.cells #[.int .i64 0, .int .i64 0, .int .i64 0, .int .i64 0, .int .i64 0] 61)
  have gb := gr_al (Gr.refl w) (.cells #[.int .i64 0, .int .i64 0, .int .i64 0, .int .i64 0, .int .i64 0] 61)
  go_enter Tryz.func48, Tryz.ntmps48
  go_upto_region 1 with fail
  generalize w.alloc (.cells #[.int .i64 0, .int .i64 0, .int .i64 0, .int .i64 0, .int .i64 0] 61) = wA at *
  obtain ⟨B, hB⟩ : ∃ B, B = w.heap.size := ⟨_, rfl⟩
  rw [← hB] at hb ⊢
  have HB := Lib.hid hb
  have GB := Lib.hid gb
  have EB := Lib.hid hB
  clear hb gb hB
  go_upto_region 2 with (go_at_call 74; refine (CR.out _).mono ?_; rintro e w6 ⟨N, rfl, g6, h6⟩; have e0 := blk_cell h6 (k * 5) (v := .string (nmT k)) ((RC.out 0 (by decide)).trans rfl); have e1 := blk_cell h6 (k * 5 + 1) (v := .string (frT k)) ((RC.out 1 (by decide)).trans rfl); have e2 := blk_cell h6 (k * 5 + 2) (v := .int .u32 (rcT k)) ((RC.out 2 (by decide)).trans rfl); have e3 := blk_cell h6 (k * 5 + 3) (v := .int .u32 (r3T k)) ((RC.out 3 (by decide)).trans rfl); have e4 := blk_cell h6 (k * 5 + 4) (v := .int .u32 (r7T k)) ((RC.out 4 (by decide)).trans rfl); have lN := cell_lt e0)
  have hX := blk_new w6 (.cells #[.string (nmT k), .string (frT k), .int .u32 (rcT k), .int .u32 (r3T k), .int .u32 (r7T k)] 136)
  have gx := gr_al (gtrans GB.out g6) (.cells #[.string (nmT k), .string (frT k), .int .u32 (rcT k), .int .u32 (r3T k), .int .u32 (r7T k)] 136)
  have hz := blk_alloc (.cells #[.string (nmT k), .string (frT k), .int .u32 (rcT k), .int .u32 (r3T k), .int .u32 (r7T k)] 136) (blk_gr g6 HB.out)
  generalize w6.alloc (.cells #[.string (nmT k), .string (frT k), .int .u32 (rcT k), .int .u32 (r3T k), .int .u32 (r7T k)] 136) = w7 at *
  generalize w6.heap.size = X at *
  rw [HF.out] at hX
  have x1 := blk_cell hX 1 (v := .string ⟨#[66]⟩) rfl
  have d0 := blk_cell hz 0 (v := .int .i64 0) rfl
  have d1 := blk_cell hz 1 (v := .int .i64 0) rfl
  have d2 := blk_cell hz 2 (v := .int .i64 0) rfl
  have d3 := blk_cell hz 3 (v := .int .i64 0) rfl
  have d4 := blk_cell hz 4 (v := .int .i64 0) rfl
  have z0 := blk_frozen hz 0
  have z1 := blk_frozen hz 1
  have z2 := blk_frozen hz 2
  have z3 := blk_frozen hz 3
  have z4 := blk_frozen hz 4
  have HZ := Lib.hid hz
  have GX := Lib.hid gx
  clear e0 e1 e2 e3 e4 lN g6 h6 hX gx hz CR RC HF HB GB
  go_wp2_with (first
    | (go_at_call 75; refine (r_at x _ _ HX.out (by decide) _).mono ?_; rintro e w8 ⟨rfl, rfl⟩)
    | (go_at_call 76; refine (r_signed _ _ (by decide) (by omega) _).mono ?_; rintro e w8 ⟨rfl, rfl⟩))
  obtain ⟨hy, gz⟩ := set5g (B := B) (by rw [EB.out]; exact Nat.le_refl _) HZ.out GX.out (.int .i64 (k : Int)) (.int .i64 0) (.int .i64 (atN x 15 5)) (.int .i64 (atN x 20 5)) (.int .i64 (sgN (atN x 31 1 * 2048 + atN x 7 1 * 1024 + atN x 25 6 * 16 + atN x 8 4) 12 * 2))
  refine bodyPost_ret (v := iv (k : Int) 0 (atN x 15 5) (atN x 20 5) (sgN (atN x 31 1 * 2048 + atN x 7 1 * 1024 + atN x 25 6 * 16 + atN x 8 4) 12 * 2)) ?_ rfl ?_
  · have y0 := blk_cell hy 0 (v := .int .i64 (k : Int)) rfl
    have y1 := blk_cell hy 1 (v := .int .i64 0) rfl
    have y2 := blk_cell hy 2 (v := .int .i64 (atN x 15 5)) rfl
    have y3 := blk_cell hy 3 (v := .int .i64 (atN x 20 5)) rfl
    have y4 := blk_cell hy 4 (v := .int .i64 (sgN (atN x 31 1 * 2048 + atN x 7 1 * 1024 + atN x 25 6 * 16 + atN x 8 4) 12 * 2)) rfl
    generalize (World.setCell _ ⟨B, 4, none⟩ _) = wz at *
    simp [results, Tryz.results48, go_sem, y0, y1, y2, y3, y4]
  · exact ⟨rfl, gz⟩
set_option maxHeartbeats 3200000 in
theorem r_fit_83 (k : Nat) (hk : k < 88) (h1 : 1 ≤ k) (hv : fmT k = 83) (x : Int) (hx : u32 x) (w : World) : Calls Tryz.prog 48 #[.int .i64 (k : Int), .int .u32 x] w fun e w' => e = .returned (iv (k : Int) 0 (atN x 15 5) (atN x 20 5) (sgN (atN x 25 7 * 32 + atN x 7 5) 12)) ∧ Gr w w' := by
  have hfr : frT k = ⟨#[83]⟩ := by rw [fr_is k hk h1, hv]; rfl
  have HX := Lib.hid hx
  have HF := Lib.hid hfr
  have CR : Hid (∀ w, Calls Tryz.prog 74 #[] w fun e w' => ∃ N, e = .returned (.slice (some ⟨N, 0, none⟩) 88 88) ∧ Gr w w' ∧ w'.heap[N]? = some (.cells rowsC 136)) := Lib.hid (fun w => (r_rows w).mono fun e w' h => ⟨w.heap.size, h⟩)
  have RC := Lib.hid (fun j (hj : j < 5) => rows_cell (k := k) hk hj)
  have k3 : (0 : Int) ≤ k := by omega
  have k4 : (k : Int) < 88 := by omega
  obtain ⟨rb, hrb⟩ : ∃ rb, rb = resB k := ⟨_, rfl⟩
  have p0 := atN_lt x 7 5 32 rfl (by decide)
  have p1 := atN_lt x 15 5 32 rfl (by decide)
  have p2 := atN_lt x 20 5 32 rfl (by decide)
  have p3 := atN_lt x 25 7 128 rfl (by decide)
  have p4 := atN_lt x 7 5 32 rfl (by decide)
  have ps := sgN_in (atN x 25 7 * 32 + atN x 7 5) 12 (by decide) (by omega) (by omega)
  clear hfr hv hx
  have hb := blk_new w (.cells #[.int .i64 0, .int .i64 0, .int .i64 0, .int .i64 0, .int .i64 0] 61)
  have gb := gr_al (Gr.refl w) (.cells #[.int .i64 0, .int .i64 0, .int .i64 0, .int .i64 0, .int .i64 0] 61)
  go_enter Tryz.func48, Tryz.ntmps48
  go_upto_region 1 with fail
  generalize w.alloc (.cells #[.int .i64 0, .int .i64 0, .int .i64 0, .int .i64 0, .int .i64 0] 61) = wA at *
  obtain ⟨B, hB⟩ : ∃ B, B = w.heap.size := ⟨_, rfl⟩
  rw [← hB] at hb ⊢
  have HB := Lib.hid hb
  have GB := Lib.hid gb
  have EB := Lib.hid hB
  clear hb gb hB
  go_upto_region 2 with (go_at_call 74; refine (CR.out _).mono ?_; rintro e w6 ⟨N, rfl, g6, h6⟩; have e0 := blk_cell h6 (k * 5) (v := .string (nmT k)) ((RC.out 0 (by decide)).trans rfl); have e1 := blk_cell h6 (k * 5 + 1) (v := .string (frT k)) ((RC.out 1 (by decide)).trans rfl); have e2 := blk_cell h6 (k * 5 + 2) (v := .int .u32 (rcT k)) ((RC.out 2 (by decide)).trans rfl); have e3 := blk_cell h6 (k * 5 + 3) (v := .int .u32 (r3T k)) ((RC.out 3 (by decide)).trans rfl); have e4 := blk_cell h6 (k * 5 + 4) (v := .int .u32 (r7T k)) ((RC.out 4 (by decide)).trans rfl); have lN := cell_lt e0)
  have hX := blk_new w6 (.cells #[.string (nmT k), .string (frT k), .int .u32 (rcT k), .int .u32 (r3T k), .int .u32 (r7T k)] 136)
  have gx := gr_al (gtrans GB.out g6) (.cells #[.string (nmT k), .string (frT k), .int .u32 (rcT k), .int .u32 (r3T k), .int .u32 (r7T k)] 136)
  have hz := blk_alloc (.cells #[.string (nmT k), .string (frT k), .int .u32 (rcT k), .int .u32 (r3T k), .int .u32 (r7T k)] 136) (blk_gr g6 HB.out)
  generalize w6.alloc (.cells #[.string (nmT k), .string (frT k), .int .u32 (rcT k), .int .u32 (r3T k), .int .u32 (r7T k)] 136) = w7 at *
  generalize w6.heap.size = X at *
  rw [HF.out] at hX
  have x1 := blk_cell hX 1 (v := .string ⟨#[83]⟩) rfl
  have d0 := blk_cell hz 0 (v := .int .i64 0) rfl
  have d1 := blk_cell hz 1 (v := .int .i64 0) rfl
  have d2 := blk_cell hz 2 (v := .int .i64 0) rfl
  have d3 := blk_cell hz 3 (v := .int .i64 0) rfl
  have d4 := blk_cell hz 4 (v := .int .i64 0) rfl
  have z0 := blk_frozen hz 0
  have z1 := blk_frozen hz 1
  have z2 := blk_frozen hz 2
  have z3 := blk_frozen hz 3
  have z4 := blk_frozen hz 4
  have HZ := Lib.hid hz
  have GX := Lib.hid gx
  clear e0 e1 e2 e3 e4 lN g6 h6 hX gx hz CR RC HF HB GB
  go_wp2_with (first
    | (go_at_call 75; refine (r_at x _ _ HX.out (by decide) _).mono ?_; rintro e w8 ⟨rfl, rfl⟩)
    | (go_at_call 76; refine (r_signed _ _ (by decide) (by omega) _).mono ?_; rintro e w8 ⟨rfl, rfl⟩))
  obtain ⟨hy, gz⟩ := set5g (B := B) (by rw [EB.out]; exact Nat.le_refl _) HZ.out GX.out (.int .i64 (k : Int)) (.int .i64 0) (.int .i64 (atN x 15 5)) (.int .i64 (atN x 20 5)) (.int .i64 (sgN (atN x 25 7 * 32 + atN x 7 5) 12))
  refine bodyPost_ret (v := iv (k : Int) 0 (atN x 15 5) (atN x 20 5) (sgN (atN x 25 7 * 32 + atN x 7 5) 12)) ?_ rfl ?_
  · have y0 := blk_cell hy 0 (v := .int .i64 (k : Int)) rfl
    have y1 := blk_cell hy 1 (v := .int .i64 0) rfl
    have y2 := blk_cell hy 2 (v := .int .i64 (atN x 15 5)) rfl
    have y3 := blk_cell hy 3 (v := .int .i64 (atN x 20 5)) rfl
    have y4 := blk_cell hy 4 (v := .int .i64 (sgN (atN x 25 7 * 32 + atN x 7 5) 12)) rfl
    generalize (World.setCell _ ⟨B, 4, none⟩ _) = wz at *
    simp [results, Tryz.results48, go_sem, y0, y1, y2, y3, y4]
  · exact ⟨rfl, gz⟩
end Go.Proofs.YtngeabphjdfdgaaGreatDoor.P
namespace Go.Proofs.YtngeabphjdfdgaaGreatDoor.P
open Go.RowKit
set_option maxHeartbeats 3200000 in
theorem r_fit_72 (k : Nat) (hk : k < 88) (h1 : 1 ≤ k) (hv : fmT k = 72) (x : Int) (hx : u32 x) (w : World) : Calls Tryz.prog 48 #[.int .i64 (k : Int), .int .u32 x] w fun e w' => e = .returned (iv (k : Int) (atN x 7 5) (atN x 15 5) 0 (atN x 20 6)) ∧ Gr w w' := by
  have hfr : frT k = ⟨#[72]⟩ := by rw [fr_is k hk h1, hv]; rfl
  have HX := Lib.hid hx
  have HF := Lib.hid hfr
  have CR : Hid (∀ w, Calls Tryz.prog 74 #[] w fun e w' => ∃ N, e = .returned (.slice (some ⟨N, 0, none⟩) 88 88) ∧ Gr w w' ∧ w'.heap[N]? = some (.cells rowsC 136)) := Lib.hid (fun w => (r_rows w).mono fun e w' h => ⟨w.heap.size, h⟩)
  have RC := Lib.hid (fun j (hj : j < 5) => rows_cell (k := k) hk hj)
  have k3 : (0 : Int) ≤ k := by omega
  have k4 : (k : Int) < 88 := by omega
  obtain ⟨rb, hrb⟩ : ∃ rb, rb = resB k := ⟨_, rfl⟩
  have p0 := atN_lt x 7 5 32 rfl (by decide)
  have p1 := atN_lt x 15 5 32 rfl (by decide)
  have p2 := atN_lt x 20 5 32 rfl (by decide)
  have p3 := atN_lt x 20 6 64 rfl (by decide)
  clear hfr hv hx
  have hb := blk_new w (.cells #[.int .i64 0, .int .i64 0, .int .i64 0, .int .i64 0, .int .i64 0] 61)
  have gb := gr_al (Gr.refl w) (.cells #[.int .i64 0, .int .i64 0, .int .i64 0, .int .i64 0, .int .i64 0] 61)
  go_enter Tryz.func48, Tryz.ntmps48
  go_upto_region 1 with fail
  generalize w.alloc (.cells #[.int .i64 0, .int .i64 0, .int .i64 0, .int .i64 0, .int .i64 0] 61) = wA at *
  obtain ⟨B, hB⟩ : ∃ B, B = w.heap.size := ⟨_, rfl⟩
  rw [← hB] at hb ⊢
  have HB := Lib.hid hb
  have GB := Lib.hid gb
  have EB := Lib.hid hB
  clear hb gb hB
  go_upto_region 2 with (go_at_call 74; refine (CR.out _).mono ?_; rintro e w6 ⟨N, rfl, g6, h6⟩; have e0 := blk_cell h6 (k * 5) (v := .string (nmT k)) ((RC.out 0 (by decide)).trans rfl); have e1 := blk_cell h6 (k * 5 + 1) (v := .string (frT k)) ((RC.out 1 (by decide)).trans rfl); have e2 := blk_cell h6 (k * 5 + 2) (v := .int .u32 (rcT k)) ((RC.out 2 (by decide)).trans rfl); have e3 := blk_cell h6 (k * 5 + 3) (v := .int .u32 (r3T k)) ((RC.out 3 (by decide)).trans rfl); have e4 := blk_cell h6 (k * 5 + 4) (v := .int .u32 (r7T k)) ((RC.out 4 (by decide)).trans rfl); have lN := cell_lt e0)
  have hX := blk_new w6 (.cells #[.string (nmT k), .string (frT k), .int .u32 (rcT k), .int .u32 (r3T k), .int .u32 (r7T k)] 136)
  have gx := gr_al (gtrans GB.out g6) (.cells #[.string (nmT k), .string (frT k), .int .u32 (rcT k), .int .u32 (r3T k), .int .u32 (r7T k)] 136)
  have hz := blk_alloc (.cells #[.string (nmT k), .string (frT k), .int .u32 (rcT k), .int .u32 (r3T k), .int .u32 (r7T k)] 136) (blk_gr g6 HB.out)
  generalize w6.alloc (.cells #[.string (nmT k), .string (frT k), .int .u32 (rcT k), .int .u32 (r3T k), .int .u32 (r7T k)] 136) = w7 at *
  generalize w6.heap.size = X at *
  rw [HF.out] at hX
  have x1 := blk_cell hX 1 (v := .string ⟨#[72]⟩) rfl
  have d0 := blk_cell hz 0 (v := .int .i64 0) rfl
  have d1 := blk_cell hz 1 (v := .int .i64 0) rfl
  have d2 := blk_cell hz 2 (v := .int .i64 0) rfl
  have d3 := blk_cell hz 3 (v := .int .i64 0) rfl
  have d4 := blk_cell hz 4 (v := .int .i64 0) rfl
  have z0 := blk_frozen hz 0
  have z1 := blk_frozen hz 1
  have z2 := blk_frozen hz 2
  have z3 := blk_frozen hz 3
  have z4 := blk_frozen hz 4
  have HZ := Lib.hid hz
  have GX := Lib.hid gx
  clear e0 e1 e2 e3 e4 lN g6 h6 hX gx hz CR RC HF HB GB
  go_wp2_with (first
    | (go_at_call 75; refine (r_at x _ _ HX.out (by decide) _).mono ?_; rintro e w8 ⟨rfl, rfl⟩)
    | (go_at_call 76; refine (r_signed _ _ (by decide) (by omega) _).mono ?_; rintro e w8 ⟨rfl, rfl⟩))
  obtain ⟨hy, gz⟩ := set5g (B := B) (by rw [EB.out]; exact Nat.le_refl _) HZ.out GX.out (.int .i64 (k : Int)) (.int .i64 (atN x 7 5)) (.int .i64 (atN x 15 5)) (.int .i64 0) (.int .i64 (atN x 20 6))
  refine bodyPost_ret (v := iv (k : Int) (atN x 7 5) (atN x 15 5) 0 (atN x 20 6)) ?_ rfl ?_
  · have y0 := blk_cell hy 0 (v := .int .i64 (k : Int)) rfl
    have y1 := blk_cell hy 1 (v := .int .i64 (atN x 7 5)) rfl
    have y2 := blk_cell hy 2 (v := .int .i64 (atN x 15 5)) rfl
    have y3 := blk_cell hy 3 (v := .int .i64 0) rfl
    have y4 := blk_cell hy 4 (v := .int .i64 (atN x 20 6)) rfl
    generalize (World.setCell _ ⟨B, 4, none⟩ _) = wz at *
    simp [results, Tryz.results48, go_sem, y0, y1, y2, y3, y4]
  · exact ⟨rfl, gz⟩
set_option maxHeartbeats 3200000 in
theorem r_fit_86 (k : Nat) (hk : k < 88) (h1 : 1 ≤ k) (hv : fmT k = 86) (x : Int) (hx : u32 x) (w : World) : Calls Tryz.prog 48 #[.int .i64 (k : Int), .int .u32 x] w fun e w' => e = .returned (iv (k : Int) (atN x 7 5) (atN x 15 5) 0 (atN x 20 5)) ∧ Gr w w' := by
  have hfr : frT k = ⟨#[86]⟩ := by rw [fr_is k hk h1, hv]; rfl
  have HX := Lib.hid hx
  have HF := Lib.hid hfr
  have CR : Hid (∀ w, Calls Tryz.prog 74 #[] w fun e w' => ∃ N, e = .returned (.slice (some ⟨N, 0, none⟩) 88 88) ∧ Gr w w' ∧ w'.heap[N]? = some (.cells rowsC 136)) := Lib.hid (fun w => (r_rows w).mono fun e w' h => ⟨w.heap.size, h⟩)
  have RC := Lib.hid (fun j (hj : j < 5) => rows_cell (k := k) hk hj)
  have k3 : (0 : Int) ≤ k := by omega
  have k4 : (k : Int) < 88 := by omega
  obtain ⟨rb, hrb⟩ : ∃ rb, rb = resB k := ⟨_, rfl⟩
  have p0 := atN_lt x 7 5 32 rfl (by decide)
  have p1 := atN_lt x 15 5 32 rfl (by decide)
  have p2 := atN_lt x 20 5 32 rfl (by decide)
  have p3 := atN_lt x 20 5 32 rfl (by decide)
  clear hfr hv hx
  have hb := blk_new w (.cells #[.int .i64 0, .int .i64 0, .int .i64 0, .int .i64 0, .int .i64 0] 61)
  have gb := gr_al (Gr.refl w) (.cells #[.int .i64 0, .int .i64 0, .int .i64 0, .int .i64 0, .int .i64 0] 61)
  go_enter Tryz.func48, Tryz.ntmps48
  go_upto_region 1 with fail
  generalize w.alloc (.cells #[.int .i64 0, .int .i64 0, .int .i64 0, .int .i64 0, .int .i64 0] 61) = wA at *
  obtain ⟨B, hB⟩ : ∃ B, B = w.heap.size := ⟨_, rfl⟩
  rw [← hB] at hb ⊢
  have HB := Lib.hid hb
  have GB := Lib.hid gb
  have EB := Lib.hid hB
  clear hb gb hB
  go_upto_region 2 with (go_at_call 74; refine (CR.out _).mono ?_; rintro e w6 ⟨N, rfl, g6, h6⟩; have e0 := blk_cell h6 (k * 5) (v := .string (nmT k)) ((RC.out 0 (by decide)).trans rfl); have e1 := blk_cell h6 (k * 5 + 1) (v := .string (frT k)) ((RC.out 1 (by decide)).trans rfl); have e2 := blk_cell h6 (k * 5 + 2) (v := .int .u32 (rcT k)) ((RC.out 2 (by decide)).trans rfl); have e3 := blk_cell h6 (k * 5 + 3) (v := .int .u32 (r3T k)) ((RC.out 3 (by decide)).trans rfl); have e4 := blk_cell h6 (k * 5 + 4) (v := .int .u32 (r7T k)) ((RC.out 4 (by decide)).trans rfl); have lN := cell_lt e0)
  have hX := blk_new w6 (.cells #[.string (nmT k), .string (frT k), .int .u32 (rcT k), .int .u32 (r3T k), .int .u32 (r7T k)] 136)
  have gx := gr_al (gtrans GB.out g6) (.cells #[.string (nmT k), .string (frT k), .int .u32 (rcT k), .int .u32 (r3T k), .int .u32 (r7T k)] 136)
  have hz := blk_alloc (.cells #[.string (nmT k), .string (frT k), .int .u32 (rcT k), .int .u32 (r3T k), .int .u32 (r7T k)] 136) (blk_gr g6 HB.out)
  generalize w6.alloc (.cells #[.string (nmT k), .string (frT k), .int .u32 (rcT k), .int .u32 (r3T k), .int .u32 (r7T k)] 136) = w7 at *
  generalize w6.heap.size = X at *
  rw [HF.out] at hX
  have x1 := blk_cell hX 1 (v := .string ⟨#[86]⟩) rfl
  have d0 := blk_cell hz 0 (v := .int .i64 0) rfl
  have d1 := blk_cell hz 1 (v := .int .i64 0) rfl
  have d2 := blk_cell hz 2 (v := .int .i64 0) rfl
  have d3 := blk_cell hz 3 (v := .int .i64 0) rfl
  have d4 := blk_cell hz 4 (v := .int .i64 0) rfl
  have z0 := blk_frozen hz 0
  have z1 := blk_frozen hz 1
  have z2 := blk_frozen hz 2
  have z3 := blk_frozen hz 3
  have z4 := blk_frozen hz 4
  have HZ := Lib.hid hz
  have GX := Lib.hid gx
  clear e0 e1 e2 e3 e4 lN g6 h6 hX gx hz CR RC HF HB GB
  go_wp2_with (first
    | (go_at_call 75; refine (r_at x _ _ HX.out (by decide) _).mono ?_; rintro e w8 ⟨rfl, rfl⟩)
    | (go_at_call 76; refine (r_signed _ _ (by decide) (by omega) _).mono ?_; rintro e w8 ⟨rfl, rfl⟩))
  obtain ⟨hy, gz⟩ := set5g (B := B) (by rw [EB.out]; exact Nat.le_refl _) HZ.out GX.out (.int .i64 (k : Int)) (.int .i64 (atN x 7 5)) (.int .i64 (atN x 15 5)) (.int .i64 0) (.int .i64 (atN x 20 5))
  refine bodyPost_ret (v := iv (k : Int) (atN x 7 5) (atN x 15 5) 0 (atN x 20 5)) ?_ rfl ?_
  · have y0 := blk_cell hy 0 (v := .int .i64 (k : Int)) rfl
    have y1 := blk_cell hy 1 (v := .int .i64 (atN x 7 5)) rfl
    have y2 := blk_cell hy 2 (v := .int .i64 (atN x 15 5)) rfl
    have y3 := blk_cell hy 3 (v := .int .i64 0) rfl
    have y4 := blk_cell hy 4 (v := .int .i64 (atN x 20 5)) rfl
    generalize (World.setCell _ ⟨B, 4, none⟩ _) = wz at *
    simp [results, Tryz.results48, go_sem, y0, y1, y2, y3, y4]
  · exact ⟨rfl, gz⟩
set_option maxHeartbeats 3200000 in
theorem r_fit_82 (k : Nat) (hk : k < 88) (h1 : 1 ≤ k) (hv : fmT k = 82) (x : Int) (hx : u32 x) (w : World) : Calls Tryz.prog 48 #[.int .i64 (k : Int), .int .u32 x] w fun e w' => e = .returned (iv (k : Int) (atN x 7 5) (atN x 15 5) (atN x 20 5) (0)) ∧ Gr w w' := by
  have hfr : frT k = ⟨#[82]⟩ := by rw [fr_is k hk h1, hv]; rfl
  have HX := Lib.hid hx
  have HF := Lib.hid hfr
  have CR : Hid (∀ w, Calls Tryz.prog 74 #[] w fun e w' => ∃ N, e = .returned (.slice (some ⟨N, 0, none⟩) 88 88) ∧ Gr w w' ∧ w'.heap[N]? = some (.cells rowsC 136)) := Lib.hid (fun w => (r_rows w).mono fun e w' h => ⟨w.heap.size, h⟩)
  have RC := Lib.hid (fun j (hj : j < 5) => rows_cell (k := k) hk hj)
  have k3 : (0 : Int) ≤ k := by omega
  have k4 : (k : Int) < 88 := by omega
  obtain ⟨rb, hrb⟩ : ∃ rb, rb = resB k := ⟨_, rfl⟩
  have p0 := atN_lt x 7 5 32 rfl (by decide)
  have p1 := atN_lt x 15 5 32 rfl (by decide)
  have p2 := atN_lt x 20 5 32 rfl (by decide)
  clear hfr hv hx
  have hb := blk_new w (.cells #[.int .i64 0, .int .i64 0, .int .i64 0, .int .i64 0, .int .i64 0] 61)
  have gb := gr_al (Gr.refl w) (.cells #[.int .i64 0, .int .i64 0, .int .i64 0, .int .i64 0, .int .i64 0] 61)
  go_enter Tryz.func48, Tryz.ntmps48
  go_upto_region 1 with fail
  generalize w.alloc (.cells #[.int .i64 0, .int .i64 0, .int .i64 0, .int .i64 0, .int .i64 0] 61) = wA at *
  obtain ⟨B, hB⟩ : ∃ B, B = w.heap.size := ⟨_, rfl⟩
  rw [← hB] at hb ⊢
  have HB := Lib.hid hb
  have GB := Lib.hid gb
  have EB := Lib.hid hB
  clear hb gb hB
  go_upto_region 2 with (go_at_call 74; refine (CR.out _).mono ?_; rintro e w6 ⟨N, rfl, g6, h6⟩; have e0 := blk_cell h6 (k * 5) (v := .string (nmT k)) ((RC.out 0 (by decide)).trans rfl); have e1 := blk_cell h6 (k * 5 + 1) (v := .string (frT k)) ((RC.out 1 (by decide)).trans rfl); have e2 := blk_cell h6 (k * 5 + 2) (v := .int .u32 (rcT k)) ((RC.out 2 (by decide)).trans rfl); have e3 := blk_cell h6 (k * 5 + 3) (v := .int .u32 (r3T k)) ((RC.out 3 (by decide)).trans rfl); have e4 := blk_cell h6 (k * 5 + 4) (v := .int .u32 (r7T k)) ((RC.out 4 (by decide)).trans rfl); have lN := cell_lt e0)
  have hX := blk_new w6 (.cells #[.string (nmT k), .string (frT k), .int .u32 (rcT k), .int .u32 (r3T k), .int .u32 (r7T k)] 136)
  have gx := gr_al (gtrans GB.out g6) (.cells #[.string (nmT k), .string (frT k), .int .u32 (rcT k), .int .u32 (r3T k), .int .u32 (r7T k)] 136)
  have hz := blk_alloc (.cells #[.string (nmT k), .string (frT k), .int .u32 (rcT k), .int .u32 (r3T k), .int .u32 (r7T k)] 136) (blk_gr g6 HB.out)
  generalize w6.alloc (.cells #[.string (nmT k), .string (frT k), .int .u32 (rcT k), .int .u32 (r3T k), .int .u32 (r7T k)] 136) = w7 at *
  generalize w6.heap.size = X at *
  rw [HF.out] at hX
  have x1 := blk_cell hX 1 (v := .string ⟨#[82]⟩) rfl
  have d0 := blk_cell hz 0 (v := .int .i64 0) rfl
  have d1 := blk_cell hz 1 (v := .int .i64 0) rfl
  have d2 := blk_cell hz 2 (v := .int .i64 0) rfl
  have d3 := blk_cell hz 3 (v := .int .i64 0) rfl
  have d4 := blk_cell hz 4 (v := .int .i64 0) rfl
  have z0 := blk_frozen hz 0
  have z1 := blk_frozen hz 1
  have z2 := blk_frozen hz 2
  have z3 := blk_frozen hz 3
  have z4 := blk_frozen hz 4
  have HZ := Lib.hid hz
  have GX := Lib.hid gx
  clear e0 e1 e2 e3 e4 lN g6 h6 hX gx hz CR RC HF HB GB
  go_wp2_with (first
    | (go_at_call 75; refine (r_at x _ _ HX.out (by decide) _).mono ?_; rintro e w8 ⟨rfl, rfl⟩)
    | (go_at_call 76; refine (r_signed _ _ (by decide) (by omega) _).mono ?_; rintro e w8 ⟨rfl, rfl⟩))
  obtain ⟨hy, gz⟩ := set5g (B := B) (by rw [EB.out]; exact Nat.le_refl _) HZ.out GX.out (.int .i64 (k : Int)) (.int .i64 (atN x 7 5)) (.int .i64 (atN x 15 5)) (.int .i64 (atN x 20 5)) (.int .i64 (0))
  refine bodyPost_ret (v := iv (k : Int) (atN x 7 5) (atN x 15 5) (atN x 20 5) (0)) ?_ rfl ?_
  · have y0 := blk_cell hy 0 (v := .int .i64 (k : Int)) rfl
    have y1 := blk_cell hy 1 (v := .int .i64 (atN x 7 5)) rfl
    have y2 := blk_cell hy 2 (v := .int .i64 (atN x 15 5)) rfl
    have y3 := blk_cell hy 3 (v := .int .i64 (atN x 20 5)) rfl
    have y4 := blk_cell hy 4 (v := .int .i64 (0)) rfl
    generalize (World.setCell _ ⟨B, 4, none⟩ _) = wz at *
    simp [results, Tryz.results48, go_sem, y0, y1, y2, y3, y4]
  · exact ⟨rfl, gz⟩
set_option maxHeartbeats 3200000 in
theorem r_fit_65 (k : Nat) (hk : k < 88) (h1 : 1 ≤ k) (hv : fmT k = 65) (x : Int) (hx : u32 x) (w : World) : Calls Tryz.prog 48 #[.int .i64 (k : Int), .int .u32 x] w fun e w' => e = .returned (iv (k : Int) (atN x 7 5) (atN x 15 5) (bif resB k then 0 else atN x 20 5) (atN x 25 2)) ∧ Gr w w' := by
  have hfr : frT k = ⟨#[65]⟩ := by rw [fr_is k hk h1, hv]; rfl
  have HX := Lib.hid hx
  have HF := Lib.hid hfr
  have CR : Hid (∀ w, Calls Tryz.prog 74 #[] w fun e w' => ∃ N, e = .returned (.slice (some ⟨N, 0, none⟩) 88 88) ∧ Gr w w' ∧ w'.heap[N]? = some (.cells rowsC 136)) := Lib.hid (fun w => (r_rows w).mono fun e w' h => ⟨w.heap.size, h⟩)
  have RC := Lib.hid (fun j (hj : j < 5) => rows_cell (k := k) hk hj)
  have k3 : (0 : Int) ≤ k := by omega
  have k4 : (k : Int) < 88 := by omega
  obtain ⟨rb, hrb⟩ : ∃ rb, rb = resB k := ⟨_, rfl⟩
  have p0 := atN_lt x 7 5 32 rfl (by decide)
  have p1 := atN_lt x 15 5 32 rfl (by decide)
  have p2 := atN_lt x 20 5 32 rfl (by decide)
  have p3 := atN_lt x 25 2 4 rfl (by decide)
  clear hfr hv hx
  have hb := blk_new w (.cells #[.int .i64 0, .int .i64 0, .int .i64 0, .int .i64 0, .int .i64 0] 61)
  have gb := gr_al (Gr.refl w) (.cells #[.int .i64 0, .int .i64 0, .int .i64 0, .int .i64 0, .int .i64 0] 61)
  go_enter Tryz.func48, Tryz.ntmps48
  go_upto_region 1 with fail
  generalize w.alloc (.cells #[.int .i64 0, .int .i64 0, .int .i64 0, .int .i64 0, .int .i64 0] 61) = wA at *
  obtain ⟨B, hB⟩ : ∃ B, B = w.heap.size := ⟨_, rfl⟩
  rw [← hB] at hb ⊢
  have HB := Lib.hid hb
  have GB := Lib.hid gb
  have EB := Lib.hid hB
  clear hb gb hB
  go_upto_region 2 with (go_at_call 74; refine (CR.out _).mono ?_; rintro e w6 ⟨N, rfl, g6, h6⟩; have e0 := blk_cell h6 (k * 5) (v := .string (nmT k)) ((RC.out 0 (by decide)).trans rfl); have e1 := blk_cell h6 (k * 5 + 1) (v := .string (frT k)) ((RC.out 1 (by decide)).trans rfl); have e2 := blk_cell h6 (k * 5 + 2) (v := .int .u32 (rcT k)) ((RC.out 2 (by decide)).trans rfl); have e3 := blk_cell h6 (k * 5 + 3) (v := .int .u32 (r3T k)) ((RC.out 3 (by decide)).trans rfl); have e4 := blk_cell h6 (k * 5 + 4) (v := .int .u32 (r7T k)) ((RC.out 4 (by decide)).trans rfl); have lN := cell_lt e0)
  have hX := blk_new w6 (.cells #[.string (nmT k), .string (frT k), .int .u32 (rcT k), .int .u32 (r3T k), .int .u32 (r7T k)] 136)
  have gx := gr_al (gtrans GB.out g6) (.cells #[.string (nmT k), .string (frT k), .int .u32 (rcT k), .int .u32 (r3T k), .int .u32 (r7T k)] 136)
  have hz := blk_alloc (.cells #[.string (nmT k), .string (frT k), .int .u32 (rcT k), .int .u32 (r3T k), .int .u32 (r7T k)] 136) (blk_gr g6 HB.out)
  generalize w6.alloc (.cells #[.string (nmT k), .string (frT k), .int .u32 (rcT k), .int .u32 (r3T k), .int .u32 (r7T k)] 136) = w7 at *
  generalize w6.heap.size = X at *
  rw [HF.out] at hX
  have x1 := blk_cell hX 1 (v := .string ⟨#[65]⟩) rfl
  have d0 := blk_cell hz 0 (v := .int .i64 0) rfl
  have d1 := blk_cell hz 1 (v := .int .i64 0) rfl
  have d2 := blk_cell hz 2 (v := .int .i64 0) rfl
  have d3 := blk_cell hz 3 (v := .int .i64 0) rfl
  have d4 := blk_cell hz 4 (v := .int .i64 0) rfl
  have z0 := blk_frozen hz 0
  have z1 := blk_frozen hz 1
  have z2 := blk_frozen hz 2
  have z3 := blk_frozen hz 3
  have z4 := blk_frozen hz 4
  have HZ := Lib.hid hz
  have GX := Lib.hid gx
  clear e0 e1 e2 e3 e4 lN g6 h6 hX gx hz CR RC HF HB GB
  by_cases h66 : (k : Int) = 66
  · go_wp2_with (first
      | (go_at_call 75; refine (r_at x _ _ HX.out (by decide) _).mono ?_; rintro e w8 ⟨rfl, rfl⟩)
      | (go_at_call 76; refine (r_signed _ _ (by decide) (by omega) _).mono ?_; rintro e w8 ⟨rfl, rfl⟩))
    obtain ⟨hy, gz⟩ := set5g (B := B) (by rw [EB.out]; exact Nat.le_refl _) HZ.out GX.out (.int .i64 66) (.int .i64 (atN x 7 5)) (.int .i64 (atN x 15 5)) (.int .i64 0) (.int .i64 (atN x 25 2))
    refine bodyPost_ret (v := iv 66 (atN x 7 5) (atN x 15 5) 0 (atN x 25 2)) ?_ rfl ?_
    · have y0 := blk_cell hy 0 (v := .int .i64 66) rfl
      have y1 := blk_cell hy 1 (v := .int .i64 (atN x 7 5)) rfl
      have y2 := blk_cell hy 2 (v := .int .i64 (atN x 15 5)) rfl
      have y3 := blk_cell hy 3 (v := .int .i64 0) rfl
      have y4 := blk_cell hy 4 (v := .int .i64 (atN x 25 2)) rfl
      generalize (World.setCell _ ⟨B, 4, none⟩ _) = wz at *
      simp [results, Tryz.results48, go_sem, y0, y1, y2, y3, y4]
    · exact ⟨by rw [show resB k = true by unfold resB; simp [*]]; rw [h66]; rfl, gz⟩
  · by_cases h77 : (k : Int) = 77
    · go_wp2_with (first
        | (go_at_call 75; refine (r_at x _ _ HX.out (by decide) _).mono ?_; rintro e w8 ⟨rfl, rfl⟩)
        | (go_at_call 76; refine (r_signed _ _ (by decide) (by omega) _).mono ?_; rintro e w8 ⟨rfl, rfl⟩))
      obtain ⟨hy, gz⟩ := set5g (B := B) (by rw [EB.out]; exact Nat.le_refl _) HZ.out GX.out (.int .i64 77) (.int .i64 (atN x 7 5)) (.int .i64 (atN x 15 5)) (.int .i64 0) (.int .i64 (atN x 25 2))
      refine bodyPost_ret (v := iv 77 (atN x 7 5) (atN x 15 5) 0 (atN x 25 2)) ?_ rfl ?_
      · have y0 := blk_cell hy 0 (v := .int .i64 77) rfl
        have y1 := blk_cell hy 1 (v := .int .i64 (atN x 7 5)) rfl
        have y2 := blk_cell hy 2 (v := .int .i64 (atN x 15 5)) rfl
        have y3 := blk_cell hy 3 (v := .int .i64 0) rfl
        have y4 := blk_cell hy 4 (v := .int .i64 (atN x 25 2)) rfl
        generalize (World.setCell _ ⟨B, 4, none⟩ _) = wz at *
        simp [results, Tryz.results48, go_sem, y0, y1, y2, y3, y4]
      · exact ⟨by rw [show resB k = true by unfold resB; simp [*]]; rw [h77]; rfl, gz⟩
    · have b66 : ((k : Int) == 66) = false := by simp [h66]
      have b77 : ((k : Int) == 77) = false := by simp [h77]
      go_wp2_with (first
        | (go_at_call 75; refine (r_at x _ _ HX.out (by decide) _).mono ?_; rintro e w8 ⟨rfl, rfl⟩)
        | (go_at_call 76; refine (r_signed _ _ (by decide) (by omega) _).mono ?_; rintro e w8 ⟨rfl, rfl⟩))
      obtain ⟨hy, gz⟩ := set5g (B := B) (by rw [EB.out]; exact Nat.le_refl _) HZ.out GX.out (.int .i64 (k : Int)) (.int .i64 (atN x 7 5)) (.int .i64 (atN x 15 5)) (.int .i64 (atN x 20 5)) (.int .i64 (atN x 25 2))
      refine bodyPost_ret (v := iv (k : Int) (atN x 7 5) (atN x 15 5) (atN x 20 5) (atN x 25 2)) ?_ rfl ?_
      · have y0 := blk_cell hy 0 (v := .int .i64 (k : Int)) rfl
        have y1 := blk_cell hy 1 (v := .int .i64 (atN x 7 5)) rfl
        have y2 := blk_cell hy 2 (v := .int .i64 (atN x 15 5)) rfl
        have y3 := blk_cell hy 3 (v := .int .i64 (atN x 20 5)) rfl
        have y4 := blk_cell hy 4 (v := .int .i64 (atN x 25 2)) rfl
        generalize (World.setCell _ ⟨B, 4, none⟩ _) = wz at *
        simp [results, Tryz.results48, go_sem, y0, y1, y2, y3, y4]
      · exact ⟨by rw [show resB k = false by unfold resB; simp [*]]; rfl, gz⟩
set_option maxHeartbeats 3200000 in
theorem r_fit_78 (k : Nat) (hk : k < 88) (h1 : 1 ≤ k) (hv : fmT k = 78) (x : Int) (hx : u32 x) (w : World) : Calls Tryz.prog 48 #[.int .i64 (k : Int), .int .u32 x] w fun e w' => e = .returned (iv (k : Int) 0 0 0 (0)) ∧ Gr w w' := by
  have hfr : frT k = ⟨#[78]⟩ := by rw [fr_is k hk h1, hv]; rfl
  have HX := Lib.hid hx
  have HF := Lib.hid hfr
  have CR : Hid (∀ w, Calls Tryz.prog 74 #[] w fun e w' => ∃ N, e = .returned (.slice (some ⟨N, 0, none⟩) 88 88) ∧ Gr w w' ∧ w'.heap[N]? = some (.cells rowsC 136)) := Lib.hid (fun w => (r_rows w).mono fun e w' h => ⟨w.heap.size, h⟩)
  have RC := Lib.hid (fun j (hj : j < 5) => rows_cell (k := k) hk hj)
  have k3 : (0 : Int) ≤ k := by omega
  have k4 : (k : Int) < 88 := by omega
  obtain ⟨rb, hrb⟩ : ∃ rb, rb = resB k := ⟨_, rfl⟩
  have p0 := atN_lt x 7 5 32 rfl (by decide)
  have p1 := atN_lt x 15 5 32 rfl (by decide)
  have p2 := atN_lt x 20 5 32 rfl (by decide)
  clear hfr hv hx
  have hb := blk_new w (.cells #[.int .i64 0, .int .i64 0, .int .i64 0, .int .i64 0, .int .i64 0] 61)
  have gb := gr_al (Gr.refl w) (.cells #[.int .i64 0, .int .i64 0, .int .i64 0, .int .i64 0, .int .i64 0] 61)
  go_enter Tryz.func48, Tryz.ntmps48
  go_upto_region 1 with fail
  generalize w.alloc (.cells #[.int .i64 0, .int .i64 0, .int .i64 0, .int .i64 0, .int .i64 0] 61) = wA at *
  obtain ⟨B, hB⟩ : ∃ B, B = w.heap.size := ⟨_, rfl⟩
  rw [← hB] at hb ⊢
  have HB := Lib.hid hb
  have GB := Lib.hid gb
  have EB := Lib.hid hB
  clear hb gb hB
  go_upto_region 2 with (go_at_call 74; refine (CR.out _).mono ?_; rintro e w6 ⟨N, rfl, g6, h6⟩; have e0 := blk_cell h6 (k * 5) (v := .string (nmT k)) ((RC.out 0 (by decide)).trans rfl); have e1 := blk_cell h6 (k * 5 + 1) (v := .string (frT k)) ((RC.out 1 (by decide)).trans rfl); have e2 := blk_cell h6 (k * 5 + 2) (v := .int .u32 (rcT k)) ((RC.out 2 (by decide)).trans rfl); have e3 := blk_cell h6 (k * 5 + 3) (v := .int .u32 (r3T k)) ((RC.out 3 (by decide)).trans rfl); have e4 := blk_cell h6 (k * 5 + 4) (v := .int .u32 (r7T k)) ((RC.out 4 (by decide)).trans rfl); have lN := cell_lt e0)
  have hX := blk_new w6 (.cells #[.string (nmT k), .string (frT k), .int .u32 (rcT k), .int .u32 (r3T k), .int .u32 (r7T k)] 136)
  have gx := gr_al (gtrans GB.out g6) (.cells #[.string (nmT k), .string (frT k), .int .u32 (rcT k), .int .u32 (r3T k), .int .u32 (r7T k)] 136)
  have hz := blk_alloc (.cells #[.string (nmT k), .string (frT k), .int .u32 (rcT k), .int .u32 (r3T k), .int .u32 (r7T k)] 136) (blk_gr g6 HB.out)
  generalize w6.alloc (.cells #[.string (nmT k), .string (frT k), .int .u32 (rcT k), .int .u32 (r3T k), .int .u32 (r7T k)] 136) = w7 at *
  generalize w6.heap.size = X at *
  rw [HF.out] at hX
  have x1 := blk_cell hX 1 (v := .string ⟨#[78]⟩) rfl
  have d0 := blk_cell hz 0 (v := .int .i64 0) rfl
  have d1 := blk_cell hz 1 (v := .int .i64 0) rfl
  have d2 := blk_cell hz 2 (v := .int .i64 0) rfl
  have d3 := blk_cell hz 3 (v := .int .i64 0) rfl
  have d4 := blk_cell hz 4 (v := .int .i64 0) rfl
  have z0 := blk_frozen hz 0
  have z1 := blk_frozen hz 1
  have z2 := blk_frozen hz 2
  have z3 := blk_frozen hz 3
  have z4 := blk_frozen hz 4
  have HZ := Lib.hid hz
  have GX := Lib.hid gx
  clear e0 e1 e2 e3 e4 lN g6 h6 hX gx hz CR RC HF HB GB
  go_wp2_with (first
    | (go_at_call 75; refine (r_at x _ _ HX.out (by decide) _).mono ?_; rintro e w8 ⟨rfl, rfl⟩)
    | (go_at_call 76; refine (r_signed _ _ (by decide) (by omega) _).mono ?_; rintro e w8 ⟨rfl, rfl⟩))
  obtain ⟨hy, gz⟩ := set5g (B := B) (by rw [EB.out]; exact Nat.le_refl _) HZ.out GX.out (.int .i64 (k : Int)) (.int .i64 0) (.int .i64 0) (.int .i64 0) (.int .i64 (0))
  refine bodyPost_ret (v := iv (k : Int) 0 0 0 (0)) ?_ rfl ?_
  · have y0 := blk_cell hy 0 (v := .int .i64 (k : Int)) rfl
    have y1 := blk_cell hy 1 (v := .int .i64 0) rfl
    have y2 := blk_cell hy 2 (v := .int .i64 0) rfl
    have y3 := blk_cell hy 3 (v := .int .i64 0) rfl
    have y4 := blk_cell hy 4 (v := .int .i64 (0)) rfl
    generalize (World.setCell _ ⟨B, 4, none⟩ _) = wz at *
    simp [results, Tryz.results48, go_sem, y0, y1, y2, y3, y4]
  · exact ⟨rfl, gz⟩
end Go.Proofs.YtngeabphjdfdgaaGreatDoor.P
namespace Go.Proofs.YtngeabphjdfdgaaGreatDoor.P
open Go.RowKit
theorem at7 (x : Int) : atN x 7 5 = x / 128 % 32 := by unfold atN; simp only [Int.reducePow]
theorem at15 (x : Int) : atN x 15 5 = x / 32768 % 32 := by unfold atN; simp only [Int.reducePow]
theorem at20 (x : Int) : atN x 20 5 = x / 1048576 % 32 := by unfold atN; simp only [Int.reducePow]
theorem r_fits (k : Nat) (hk : k < 88) (h1 : 1 ≤ k) (x : Int) (hx : u32 x) (w : World) : Calls Tryz.prog 48 #[.int .i64 (k : Int), .int .u32 x] w fun e w' => e = .returned (iv (k : Int) (fitD (fmT k) x) (fitA (fmT k) x) (fitB (fmT k) (resB k) x) (fitI (fmT k) x)) ∧ Gr w w' := by
  rcases fm_cases k hk h1 with hv | hv | hv | hv | hv | hv | hv | hv | hv | hv
  · refine (r_fit_85 k hk h1 hv x hx w).mono ?_; rintro e w' ⟨rfl, g⟩; rw [hv]; exact ⟨ret_iv (at7 x) rfl rfl (by unfold atN fitI; simp only [Int.reducePow, Int.reduceEq, if_false, if_true]), g⟩
  · refine (r_fit_74 k hk h1 hv x hx w).mono ?_; rintro e w' ⟨rfl, g⟩; rw [hv]; exact ⟨ret_iv (at7 x) rfl rfl (by unfold atN fitI; simp only [Int.reducePow, Int.reduceEq, if_false, if_true]), g⟩
  · refine (r_fit_73 k hk h1 hv x hx w).mono ?_; rintro e w' ⟨rfl, g⟩; rw [hv]; exact ⟨ret_iv (at7 x) (at15 x) rfl (by unfold atN fitI; simp only [Int.reducePow, Int.reduceEq, if_false, if_true]), g⟩
  · refine (r_fit_66 k hk h1 hv x hx w).mono ?_; rintro e w' ⟨rfl, g⟩; rw [hv]; exact ⟨ret_iv rfl (at15 x) (at20 x) (by unfold atN fitI; simp only [Int.reducePow, Int.reduceEq, if_false, if_true]), g⟩
  · refine (r_fit_83 k hk h1 hv x hx w).mono ?_; rintro e w' ⟨rfl, g⟩; rw [hv]; exact ⟨ret_iv rfl (at15 x) (at20 x) (by unfold atN fitI; simp only [Int.reducePow, Int.reduceEq, if_false, if_true]), g⟩
  · refine (r_fit_72 k hk h1 hv x hx w).mono ?_; rintro e w' ⟨rfl, g⟩; rw [hv]; exact ⟨ret_iv (at7 x) (at15 x) rfl (by unfold atN fitI; simp only [Int.reducePow, Int.reduceEq, if_false, if_true]), g⟩
  · refine (r_fit_86 k hk h1 hv x hx w).mono ?_; rintro e w' ⟨rfl, g⟩; rw [hv]; exact ⟨ret_iv (at7 x) (at15 x) rfl (by unfold atN fitI; simp only [Int.reducePow, Int.reduceEq, if_false, if_true]), g⟩
  · refine (r_fit_82 k hk h1 hv x hx w).mono ?_; rintro e w' ⟨rfl, g⟩; rw [hv]; exact ⟨ret_iv (at7 x) (at15 x) (at20 x) rfl, g⟩
  · refine (r_fit_65 k hk h1 hv x hx w).mono ?_; rintro e w' ⟨rfl, g⟩; rw [hv]; exact ⟨ret_iv (at7 x) (at15 x) (by rw [at20]; rfl) (by unfold atN fitI; simp only [Int.reducePow, Int.reduceEq, if_false, if_true]), g⟩
  · refine (r_fit_78 k hk h1 hv x hx w).mono ?_; rintro e w' ⟨rfl, g⟩; rw [hv]; exact ⟨ret_iv rfl rfl rfl rfl, g⟩
end Go.Proofs.YtngeabphjdfdgaaGreatDoor.P
