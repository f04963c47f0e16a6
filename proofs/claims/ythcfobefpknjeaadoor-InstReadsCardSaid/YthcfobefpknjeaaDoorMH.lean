/- Stage 2: the document's Encode, some forms. No condition. -/
import Derived.Test.YthcfobefpknjeaaDoorMC
import Derived.Deep.RegionWith
import Derived.Deep.Cut
import Derived.Deep.QuietTactic
set_option linter.unusedVariables false
set_option linter.unusedSimpArgs false
set_option maxRecDepth 100000
namespace Go.Proofs.YthcfobefpknjeaaDoor.P
open Go.RowKit
set_option maxHeartbeats 3200000 in
theorem r_enc_82 (k : Nat) (hk : k < 88) (h1 : 1 ≤ k) (hv : fmT k = 82) (rd a b i : Int) (hi : i64 i) (hm : mayF (k : Int) rd a b i = true) (hrd : 0 ≤ rd ∧ rd < 32) (ha : 0 ≤ a ∧ a < 32) (hb : 0 ≤ b ∧ b < 32) (w : World) : Calls Tryd.prog 14 #[iv (k : Int) rd a b i] w fun e w' => e = .returned (.tuple #[.int .u32 (encF k rd a b i), .int .i64 0]) ∧ Gr w w' := by
  have hfr : frT k = ⟨#[82]⟩ := by rw [fr_is k hk h1, hv]; rfl

  have hrc := rc_in k hk
  have HE := Lib.hid (enc_sum_82 k hk h1 hv rd a b i hi hm hrd ha hb)
  have hr3 := r3_in k hk
  have hr7 := r7_in k hk
  have HF := Lib.hid hfr
  clear hfr hv
  have k1 : ¬ (k : Int) < 1 := by omega
  have k2 : ¬ (87 : Int) < k := by omega
  have k3 : (0 : Int) ≤ k := by omega
  have k4 : (k : Int) < 88 := by omega
  have CM : Hid (∀ w, Calls Tryd.prog 12 #[iv (k : Int) rd a b i] w fun e w' => e = .returned (.bool true) ∧ Gr w w') := Lib.hid (fun w => by have := r_may (k : Int) rd a b i hi w; rw [hm] at this; exact this)
  have CR : Hid (∀ w, Calls Tryd.prog 22 #[] w fun e w' => ∃ N, e = .returned (.slice (some ⟨N, 0, none⟩) 88 88) ∧ Gr w w' ∧ w'.heap[N]? = some (.cells rowsC 47)) := Lib.hid (fun w => (r_rows w).mono fun e w' h => ⟨w.heap.size, h⟩)
  have RC := Lib.hid (fun j (hj : j < 5) => rows_cell (k := k) hk hj)
  have I0 : Hid (i64 i) := Lib.hid hi
  have I1 : Hid (i64 rd) := Lib.hid (by unfold i64; omega)
  have I2 : Hid (i64 a) := Lib.hid (by unfold i64; omega)
  have I3 : Hid (i64 b) := Lib.hid (by unfold i64; omega)
  have I4 : Hid (i64 (r3T k)) := Lib.hid (by unfold i64; omega)
  have I5 : Hid (i64 (r7T k)) := Lib.hid (by unfold i64; omega)
  clear hm hi
  have gb : Gr w (w.alloc (.cells #[.int .i64 (k : Int), .int .i64 rd, .int .i64 a, .int .i64 b, .int .i64 i] 23)) := (Gr.refl w).alloc (Nat.le_refl _) _
  have hB : (w.alloc (.cells #[.int .i64 (k : Int), .int .i64 rd, .int .i64 a, .int .i64 b, .int .i64 i] 23)).heap[w.heap.size]? = some (.cells #[.int .i64 (k : Int), .int .i64 rd, .int .i64 a, .int .i64 b, .int .i64 i] 23) := blk_new w _
  go_enter Tryd.func14, Tryd.ntmps14
  go_upto_region 1 with fail
  generalize w.alloc (.cells #[.int .i64 (k : Int), .int .i64 rd, .int .i64 a, .int .i64 b, .int .i64 i] 23) = wb at *
  generalize w.heap.size = B0 at *
  obtain ⟨B, rfl⟩ : ∃ B, B = B0 := ⟨_, rfl⟩
  have c0 := blk_cell hB 0 (v := .int .i64 (k : Int)) rfl
  have c1 := blk_cell hB 1 (v := .int .i64 rd) rfl
  have c2 := blk_cell hB 2 (v := .int .i64 a) rfl
  have c3 := blk_cell hB 3 (v := .int .i64 b) rfl
  have c4 := blk_cell hB 4 (v := .int .i64 i) rfl
  have HB0 := Lib.hid hB
  have GB0 := Lib.hid gb
  clear hB gb
  go_upto_region 2 with (go_at_call 12; refine (CM.out _).mono ?_; rintro e w5 ⟨rfl, g5⟩)
  have hB := blk_gr g5 HB0.out
  have GB := Lib.hid (gtrans GB0.out g5)
  clear c0 c1 c2 c3 c4 g5 GB0 HB0 CM
  have HB := Lib.hid hB
  have c0 := blk_cell hB 0 (v := .int .i64 (k : Int)) rfl
  clear hB
  go_upto_region 4 with fail
  have lB0 := cell_lt c0
  go_cut [5] from 4 (fun s6 wx => ∃ X : Nat, s6 = .pointer (some ⟨X, 0, none⟩) ∧ Gr w wx ∧ wx.heap[X]? = some (.cells #[.string (nmT k), .string (frT k), .int .u32 (rcT k), .int .u32 (r3T k), .int .u32 (r7T k)] 47) ∧ wx.heap[B]? = some (.cells #[.int .i64 (k : Int), .int .i64 rd, .int .i64 a, .int .i64 b, .int .i64 i] 23))
  case first =>
    first
      | (go_region_with (go_at_call 22; refine (CR.out _).mono ?_; rintro e w6 ⟨N, rfl, g6, h6⟩; have h7 := blk_gr g6 (by first | exact HB.out | exact blk_alloc _ HB.out); have f0 := blk_cell h7 0 (v := .int .i64 (k : Int)) rfl; have e0 := blk_cell h6 (k * 5) (v := .string (nmT k)) ((RC.out 0 (by decide)).trans rfl); have e1 := blk_cell h6 (k * 5 + 1) (v := .string (frT k)) ((RC.out 1 (by decide)).trans rfl); have e2 := blk_cell h6 (k * 5 + 2) (v := .int .u32 (rcT k)) ((RC.out 2 (by decide)).trans rfl); have e3 := blk_cell h6 (k * 5 + 3) (v := .int .u32 (r3T k)) ((RC.out 3 (by decide)).trans rfl); have e4 := blk_cell h6 (k * 5 + 4) (v := .int .u32 (r7T k)) ((RC.out 4 (by decide)).trans rfl); have lN := cell_lt e0; have lB := cell_lt f0; try (have x7 : w6.heap[w5.heap.size]? = _ := blk_gr g6 (blk_new w5.drew _); have y0 := blk_cell x7 0 rfl; have z0 := blk_frozen x7 0; have y1 := blk_cell x7 1 rfl; have z1 := blk_frozen x7 1; have y2 := blk_cell x7 2 rfl; have z2 := blk_frozen x7 2; have y3 := blk_cell x7 3 rfl; have z3 := blk_frozen x7 3; have y4 := blk_cell x7 4 rfl; have z4 := blk_frozen x7 4; have lX := cell_lt y0)))
      | fail
    all_goals
      go_wp2_with fail
      go_meet
      case rel =>
        first
          | exact ⟨_, rfl, gr_al (gtrans GB.out (undrew g6)) _, blk_new w6 _, blk_alloc _ h7⟩
          | exact ⟨_, rfl, Below.setCell (Below.setCell (Below.setCell (Below.setCell (Below.setCell (gtrans GB.out (undrew (gtrans (gr_al (Gr.refl _) _) g6))) GB.out.size _) GB.out.size _) GB.out.size _) GB.out.size _) GB.out.size _, blk_set (blk_set (blk_set (blk_set (blk_set x7 0 _) 1 _) 2 _) 3 _) 4 _, blk_other (blk_other (blk_other (blk_other (blk_other h7 _ _ (Nat.ne_of_lt lB0)) _ _ (Nat.ne_of_lt lB0)) _ _ (Nat.ne_of_lt lB0)) _ _ (Nat.ne_of_lt lB0)) _ _ (Nat.ne_of_lt lB0)⟩
  case rest =>
    clear CR RC HB GB c0 lB0
    obtain ⟨X, rfl, gx, hX, hB⟩ := hcut
    rw [HF.out] at hX
    generalize rcT k = rc at *
    generalize r3T k = f3 at *
    generalize r7T k = f7 at *
    have x1 := blk_cell hX 1 (v := .string ⟨#[82]⟩) rfl
    have x2 := blk_cell hX 2 (v := .int .u32 rc) rfl
    have x3 := blk_cell hX 3 (v := .int .u32 f3) rfl
    have x4 := blk_cell hX 4 (v := .int .u32 f7) rfl
    have c0 := blk_cell hB 0 (v := .int .i64 (k : Int)) rfl
    have c1 := blk_cell hB 1 (v := .int .i64 rd) rfl
    have c2 := blk_cell hB 2 (v := .int .i64 a) rfl
    have c3 := blk_cell hB 3 (v := .int .i64 b) rfl
    have c4 := blk_cell hB 4 (v := .int .i64 i) rfl
    have GX := Lib.hid gx
    clear gx hX hB
    go_upto_region 12 with (go_at_call 30; refine (r_field _ _ _ _ (by first | exact I0.out | exact I1.out | exact I2.out | exact I3.out | exact I4.out | exact I5.out) (by decide) _).mono ?_; rintro e w7 ⟨rfl, rfl⟩)
    have q1 := fldI_in rd 0 5 7 (by decide)
    have q2 := fldI_in f3 0 3 12 (by decide)
    have q3 := fldI_in a 0 5 15 (by decide)
    have q4 := fldI_in b 0 5 20 (by decide)
    have q5 := fldI_in f7 0 7 25 (by decide)

    clear c0 c1 c2 c3 c4
    go_wp2_with fail
    all_goals
      go_ret2
      obtain ⟨he, hl⟩ := HE.out
      exact ⟨ret_ue (by rw [← he] at hl ⊢; first | done | omega) rfl, GX.out⟩
set_option maxHeartbeats 3200000 in
theorem r_enc_65 (k : Nat) (hk : k < 88) (h1 : 1 ≤ k) (hv : fmT k = 65) (rd a b i : Int) (hi : i64 i) (hm : mayF (k : Int) rd a b i = true) (hrd : 0 ≤ rd ∧ rd < 32) (ha : 0 ≤ a ∧ a < 32) (hb : 0 ≤ b ∧ b < 32) (w : World) : Calls Tryd.prog 14 #[iv (k : Int) rd a b i] w fun e w' => e = .returned (.tuple #[.int .u32 (encF k rd a b i), .int .i64 0]) ∧ Gr w w' := by
  have hfr : frT k = ⟨#[65]⟩ := by rw [fr_is k hk h1, hv]; rfl

  have hrc := rc_in k hk
  have HE := Lib.hid (enc_sum_65 k hk h1 hv rd a b i hi hm hrd ha hb)
  have hr3 := r3_in k hk
  have hr7 := r7_in k hk
  have HF := Lib.hid hfr
  clear hfr hv
  have k1 : ¬ (k : Int) < 1 := by omega
  have k2 : ¬ (87 : Int) < k := by omega
  have k3 : (0 : Int) ≤ k := by omega
  have k4 : (k : Int) < 88 := by omega
  have CM : Hid (∀ w, Calls Tryd.prog 12 #[iv (k : Int) rd a b i] w fun e w' => e = .returned (.bool true) ∧ Gr w w') := Lib.hid (fun w => by have := r_may (k : Int) rd a b i hi w; rw [hm] at this; exact this)
  have CR : Hid (∀ w, Calls Tryd.prog 22 #[] w fun e w' => ∃ N, e = .returned (.slice (some ⟨N, 0, none⟩) 88 88) ∧ Gr w w' ∧ w'.heap[N]? = some (.cells rowsC 47)) := Lib.hid (fun w => (r_rows w).mono fun e w' h => ⟨w.heap.size, h⟩)
  have RC := Lib.hid (fun j (hj : j < 5) => rows_cell (k := k) hk hj)
  have I0 : Hid (i64 i) := Lib.hid hi
  have I1 : Hid (i64 rd) := Lib.hid (by unfold i64; omega)
  have I2 : Hid (i64 a) := Lib.hid (by unfold i64; omega)
  have I3 : Hid (i64 b) := Lib.hid (by unfold i64; omega)
  have I4 : Hid (i64 (r3T k)) := Lib.hid (by unfold i64; omega)
  have I5 : Hid (i64 (r7T k)) := Lib.hid (by unfold i64; omega)
  clear hm hi
  have gb : Gr w (w.alloc (.cells #[.int .i64 (k : Int), .int .i64 rd, .int .i64 a, .int .i64 b, .int .i64 i] 23)) := (Gr.refl w).alloc (Nat.le_refl _) _
  have hB : (w.alloc (.cells #[.int .i64 (k : Int), .int .i64 rd, .int .i64 a, .int .i64 b, .int .i64 i] 23)).heap[w.heap.size]? = some (.cells #[.int .i64 (k : Int), .int .i64 rd, .int .i64 a, .int .i64 b, .int .i64 i] 23) := blk_new w _
  go_enter Tryd.func14, Tryd.ntmps14
  go_upto_region 1 with fail
  generalize w.alloc (.cells #[.int .i64 (k : Int), .int .i64 rd, .int .i64 a, .int .i64 b, .int .i64 i] 23) = wb at *
  generalize w.heap.size = B0 at *
  obtain ⟨B, rfl⟩ : ∃ B, B = B0 := ⟨_, rfl⟩
  have c0 := blk_cell hB 0 (v := .int .i64 (k : Int)) rfl
  have c1 := blk_cell hB 1 (v := .int .i64 rd) rfl
  have c2 := blk_cell hB 2 (v := .int .i64 a) rfl
  have c3 := blk_cell hB 3 (v := .int .i64 b) rfl
  have c4 := blk_cell hB 4 (v := .int .i64 i) rfl
  have HB0 := Lib.hid hB
  have GB0 := Lib.hid gb
  clear hB gb
  go_upto_region 2 with (go_at_call 12; refine (CM.out _).mono ?_; rintro e w5 ⟨rfl, g5⟩)
  have hB := blk_gr g5 HB0.out
  have GB := Lib.hid (gtrans GB0.out g5)
  clear c0 c1 c2 c3 c4 g5 GB0 HB0 CM
  have HB := Lib.hid hB
  have c0 := blk_cell hB 0 (v := .int .i64 (k : Int)) rfl
  clear hB
  go_upto_region 4 with fail
  have lB0 := cell_lt c0
  go_cut [5] from 4 (fun s6 wx => ∃ X : Nat, s6 = .pointer (some ⟨X, 0, none⟩) ∧ Gr w wx ∧ wx.heap[X]? = some (.cells #[.string (nmT k), .string (frT k), .int .u32 (rcT k), .int .u32 (r3T k), .int .u32 (r7T k)] 47) ∧ wx.heap[B]? = some (.cells #[.int .i64 (k : Int), .int .i64 rd, .int .i64 a, .int .i64 b, .int .i64 i] 23))
  case first =>
    first
      | (go_region_with (go_at_call 22; refine (CR.out _).mono ?_; rintro e w6 ⟨N, rfl, g6, h6⟩; have h7 := blk_gr g6 (by first | exact HB.out | exact blk_alloc _ HB.out); have f0 := blk_cell h7 0 (v := .int .i64 (k : Int)) rfl; have e0 := blk_cell h6 (k * 5) (v := .string (nmT k)) ((RC.out 0 (by decide)).trans rfl); have e1 := blk_cell h6 (k * 5 + 1) (v := .string (frT k)) ((RC.out 1 (by decide)).trans rfl); have e2 := blk_cell h6 (k * 5 + 2) (v := .int .u32 (rcT k)) ((RC.out 2 (by decide)).trans rfl); have e3 := blk_cell h6 (k * 5 + 3) (v := .int .u32 (r3T k)) ((RC.out 3 (by decide)).trans rfl); have e4 := blk_cell h6 (k * 5 + 4) (v := .int .u32 (r7T k)) ((RC.out 4 (by decide)).trans rfl); have lN := cell_lt e0; have lB := cell_lt f0; try (have x7 : w6.heap[w5.heap.size]? = _ := blk_gr g6 (blk_new w5.drew _); have y0 := blk_cell x7 0 rfl; have z0 := blk_frozen x7 0; have y1 := blk_cell x7 1 rfl; have z1 := blk_frozen x7 1; have y2 := blk_cell x7 2 rfl; have z2 := blk_frozen x7 2; have y3 := blk_cell x7 3 rfl; have z3 := blk_frozen x7 3; have y4 := blk_cell x7 4 rfl; have z4 := blk_frozen x7 4; have lX := cell_lt y0)))
      | fail
    all_goals
      go_wp2_with fail
      go_meet
      case rel =>
        first
          | exact ⟨_, rfl, gr_al (gtrans GB.out (undrew g6)) _, blk_new w6 _, blk_alloc _ h7⟩
          | exact ⟨_, rfl, Below.setCell (Below.setCell (Below.setCell (Below.setCell (Below.setCell (gtrans GB.out (undrew (gtrans (gr_al (Gr.refl _) _) g6))) GB.out.size _) GB.out.size _) GB.out.size _) GB.out.size _) GB.out.size _, blk_set (blk_set (blk_set (blk_set (blk_set x7 0 _) 1 _) 2 _) 3 _) 4 _, blk_other (blk_other (blk_other (blk_other (blk_other h7 _ _ (Nat.ne_of_lt lB0)) _ _ (Nat.ne_of_lt lB0)) _ _ (Nat.ne_of_lt lB0)) _ _ (Nat.ne_of_lt lB0)) _ _ (Nat.ne_of_lt lB0)⟩
  case rest =>
    clear CR RC HB GB c0 lB0
    obtain ⟨X, rfl, gx, hX, hB⟩ := hcut
    rw [HF.out] at hX
    generalize rcT k = rc at *
    generalize r3T k = f3 at *
    generalize r7T k = f7 at *
    have x1 := blk_cell hX 1 (v := .string ⟨#[65]⟩) rfl
    have x2 := blk_cell hX 2 (v := .int .u32 rc) rfl
    have x3 := blk_cell hX 3 (v := .int .u32 f3) rfl
    have x4 := blk_cell hX 4 (v := .int .u32 f7) rfl
    have c0 := blk_cell hB 0 (v := .int .i64 (k : Int)) rfl
    have c1 := blk_cell hB 1 (v := .int .i64 rd) rfl
    have c2 := blk_cell hB 2 (v := .int .i64 a) rfl
    have c3 := blk_cell hB 3 (v := .int .i64 b) rfl
    have c4 := blk_cell hB 4 (v := .int .i64 i) rfl
    have GX := Lib.hid gx
    clear gx hX hB
    go_upto_region 12 with (go_at_call 30; refine (r_field _ _ _ _ (by first | exact I0.out | exact I1.out | exact I2.out | exact I3.out | exact I4.out | exact I5.out) (by decide) _).mono ?_; rintro e w7 ⟨rfl, rfl⟩)
    have q1 := fldI_in rd 0 5 7 (by decide)
    have q2 := fldI_in f3 0 3 12 (by decide)
    have q3 := fldI_in a 0 5 15 (by decide)
    have q4 := fldI_in b 0 5 20 (by decide)
    have q5 := fldI_in f7 0 7 25 (by decide)
    have p4 := fldI_in i 0 2 25 (by decide)
    have p5 := fldI_in f7 0 5 27 (by decide)
    clear c0 c1 c2 c3 c4
    go_upto_region 29 with fail
    go_quiet ((go_at_call 30; exact Calls.quiet_of_same (r_field _ _ _ _ (by first | exact I0.out | exact I5.out) (by decide) _)))
    go_wp2_with fail
    all_goals
      go_ret2
      obtain ⟨he, hl⟩ := HE.out
      exact ⟨ret_ue (by rw [← he] at hl ⊢; first | done | omega) rfl, gtrans GX.out (gr_dN _ nq)⟩
set_option maxHeartbeats 3200000 in
theorem r_enc_78 (k : Nat) (hk : k < 88) (h1 : 1 ≤ k) (hv : fmT k = 78) (rd a b i : Int) (hi : i64 i) (hm : mayF (k : Int) rd a b i = true) (hrd : 0 ≤ rd ∧ rd < 32) (ha : 0 ≤ a ∧ a < 32) (hb : 0 ≤ b ∧ b < 32) (w : World) : Calls Tryd.prog 14 #[iv (k : Int) rd a b i] w fun e w' => e = .returned (.tuple #[.int .u32 (encF k rd a b i), .int .i64 0]) ∧ Gr w w' := by
  have hfr : frT k = ⟨#[78]⟩ := by rw [fr_is k hk h1, hv]; rfl

  have hrc := rc_in k hk
  have HE := Lib.hid (enc_sum_78 k hk h1 hv rd a b i hi hm hrd ha hb)
  have hr3 := r3_in k hk
  have hr7 := r7_in k hk
  have HF := Lib.hid hfr
  clear hfr hv
  have k1 : ¬ (k : Int) < 1 := by omega
  have k2 : ¬ (87 : Int) < k := by omega
  have k3 : (0 : Int) ≤ k := by omega
  have k4 : (k : Int) < 88 := by omega
  have CM : Hid (∀ w, Calls Tryd.prog 12 #[iv (k : Int) rd a b i] w fun e w' => e = .returned (.bool true) ∧ Gr w w') := Lib.hid (fun w => by have := r_may (k : Int) rd a b i hi w; rw [hm] at this; exact this)
  have CR : Hid (∀ w, Calls Tryd.prog 22 #[] w fun e w' => ∃ N, e = .returned (.slice (some ⟨N, 0, none⟩) 88 88) ∧ Gr w w' ∧ w'.heap[N]? = some (.cells rowsC 47)) := Lib.hid (fun w => (r_rows w).mono fun e w' h => ⟨w.heap.size, h⟩)
  have RC := Lib.hid (fun j (hj : j < 5) => rows_cell (k := k) hk hj)
  have I0 : Hid (i64 i) := Lib.hid hi
  have I1 : Hid (i64 rd) := Lib.hid (by unfold i64; omega)
  have I2 : Hid (i64 a) := Lib.hid (by unfold i64; omega)
  have I3 : Hid (i64 b) := Lib.hid (by unfold i64; omega)
  have I4 : Hid (i64 (r3T k)) := Lib.hid (by unfold i64; omega)
  have I5 : Hid (i64 (r7T k)) := Lib.hid (by unfold i64; omega)
  clear hm hi
  have gb : Gr w (w.alloc (.cells #[.int .i64 (k : Int), .int .i64 rd, .int .i64 a, .int .i64 b, .int .i64 i] 23)) := (Gr.refl w).alloc (Nat.le_refl _) _
  have hB : (w.alloc (.cells #[.int .i64 (k : Int), .int .i64 rd, .int .i64 a, .int .i64 b, .int .i64 i] 23)).heap[w.heap.size]? = some (.cells #[.int .i64 (k : Int), .int .i64 rd, .int .i64 a, .int .i64 b, .int .i64 i] 23) := blk_new w _
  go_enter Tryd.func14, Tryd.ntmps14
  go_upto_region 1 with fail
  generalize w.alloc (.cells #[.int .i64 (k : Int), .int .i64 rd, .int .i64 a, .int .i64 b, .int .i64 i] 23) = wb at *
  generalize w.heap.size = B0 at *
  obtain ⟨B, rfl⟩ : ∃ B, B = B0 := ⟨_, rfl⟩
  have c0 := blk_cell hB 0 (v := .int .i64 (k : Int)) rfl
  have c1 := blk_cell hB 1 (v := .int .i64 rd) rfl
  have c2 := blk_cell hB 2 (v := .int .i64 a) rfl
  have c3 := blk_cell hB 3 (v := .int .i64 b) rfl
  have c4 := blk_cell hB 4 (v := .int .i64 i) rfl
  have HB0 := Lib.hid hB
  have GB0 := Lib.hid gb
  clear hB gb
  go_upto_region 2 with (go_at_call 12; refine (CM.out _).mono ?_; rintro e w5 ⟨rfl, g5⟩)
  have hB := blk_gr g5 HB0.out
  have GB := Lib.hid (gtrans GB0.out g5)
  clear c0 c1 c2 c3 c4 g5 GB0 HB0 CM
  have HB := Lib.hid hB
  have c0 := blk_cell hB 0 (v := .int .i64 (k : Int)) rfl
  clear hB
  go_upto_region 4 with fail
  have lB0 := cell_lt c0
  go_cut [5] from 4 (fun s6 wx => ∃ X : Nat, s6 = .pointer (some ⟨X, 0, none⟩) ∧ Gr w wx ∧ wx.heap[X]? = some (.cells #[.string (nmT k), .string (frT k), .int .u32 (rcT k), .int .u32 (r3T k), .int .u32 (r7T k)] 47) ∧ wx.heap[B]? = some (.cells #[.int .i64 (k : Int), .int .i64 rd, .int .i64 a, .int .i64 b, .int .i64 i] 23))
  case first =>
    first
      | (go_region_with (go_at_call 22; refine (CR.out _).mono ?_; rintro e w6 ⟨N, rfl, g6, h6⟩; have h7 := blk_gr g6 (by first | exact HB.out | exact blk_alloc _ HB.out); have f0 := blk_cell h7 0 (v := .int .i64 (k : Int)) rfl; have e0 := blk_cell h6 (k * 5) (v := .string (nmT k)) ((RC.out 0 (by decide)).trans rfl); have e1 := blk_cell h6 (k * 5 + 1) (v := .string (frT k)) ((RC.out 1 (by decide)).trans rfl); have e2 := blk_cell h6 (k * 5 + 2) (v := .int .u32 (rcT k)) ((RC.out 2 (by decide)).trans rfl); have e3 := blk_cell h6 (k * 5 + 3) (v := .int .u32 (r3T k)) ((RC.out 3 (by decide)).trans rfl); have e4 := blk_cell h6 (k * 5 + 4) (v := .int .u32 (r7T k)) ((RC.out 4 (by decide)).trans rfl); have lN := cell_lt e0; have lB := cell_lt f0; try (have x7 : w6.heap[w5.heap.size]? = _ := blk_gr g6 (blk_new w5.drew _); have y0 := blk_cell x7 0 rfl; have z0 := blk_frozen x7 0; have y1 := blk_cell x7 1 rfl; have z1 := blk_frozen x7 1; have y2 := blk_cell x7 2 rfl; have z2 := blk_frozen x7 2; have y3 := blk_cell x7 3 rfl; have z3 := blk_frozen x7 3; have y4 := blk_cell x7 4 rfl; have z4 := blk_frozen x7 4; have lX := cell_lt y0)))
      | fail
    all_goals
      go_wp2_with fail
      go_meet
      case rel =>
        first
          | exact ⟨_, rfl, gr_al (gtrans GB.out (undrew g6)) _, blk_new w6 _, blk_alloc _ h7⟩
          | exact ⟨_, rfl, Below.setCell (Below.setCell (Below.setCell (Below.setCell (Below.setCell (gtrans GB.out (undrew (gtrans (gr_al (Gr.refl _) _) g6))) GB.out.size _) GB.out.size _) GB.out.size _) GB.out.size _) GB.out.size _, blk_set (blk_set (blk_set (blk_set (blk_set x7 0 _) 1 _) 2 _) 3 _) 4 _, blk_other (blk_other (blk_other (blk_other (blk_other h7 _ _ (Nat.ne_of_lt lB0)) _ _ (Nat.ne_of_lt lB0)) _ _ (Nat.ne_of_lt lB0)) _ _ (Nat.ne_of_lt lB0)) _ _ (Nat.ne_of_lt lB0)⟩
  case rest =>
    clear CR RC HB GB c0 lB0
    obtain ⟨X, rfl, gx, hX, hB⟩ := hcut
    rw [HF.out] at hX
    generalize rcT k = rc at *
    generalize r3T k = f3 at *
    generalize r7T k = f7 at *
    have x1 := blk_cell hX 1 (v := .string ⟨#[78]⟩) rfl
    have x2 := blk_cell hX 2 (v := .int .u32 rc) rfl
    have x3 := blk_cell hX 3 (v := .int .u32 f3) rfl
    have x4 := blk_cell hX 4 (v := .int .u32 f7) rfl
    have c0 := blk_cell hB 0 (v := .int .i64 (k : Int)) rfl
    have c1 := blk_cell hB 1 (v := .int .i64 rd) rfl
    have c2 := blk_cell hB 2 (v := .int .i64 a) rfl
    have c3 := blk_cell hB 3 (v := .int .i64 b) rfl
    have c4 := blk_cell hB 4 (v := .int .i64 i) rfl
    have GX := Lib.hid gx
    clear gx hX hB
    go_upto_region 12 with (go_at_call 30; refine (r_field _ _ _ _ (by first | exact I0.out | exact I1.out | exact I2.out | exact I3.out | exact I4.out | exact I5.out) (by decide) _).mono ?_; rintro e w7 ⟨rfl, rfl⟩)
    have q1 := fldI_in rd 0 5 7 (by decide)
    have q2 := fldI_in f3 0 3 12 (by decide)
    have q3 := fldI_in a 0 5 15 (by decide)
    have q4 := fldI_in b 0 5 20 (by decide)
    have q5 := fldI_in f7 0 7 25 (by decide)

    clear c0 c1 c2 c3 c4
    go_wp2_with fail
    all_goals
      go_ret2
      obtain ⟨he, hl⟩ := HE.out
      exact ⟨ret_ue (by rw [← he] at hl ⊢; first | done | omega) rfl, GX.out⟩
end Go.Proofs.YthcfobefpknjeaaDoor.P
