/- Stage 2: the document's Encode, some forms. No condition. -/
import Derived.Test.YtngeabphjdfdgaaGreatDoorMC
import Derived.Deep.RegionWith
import Derived.Deep.Cut
import Derived.Deep.QuietTactic
set_option linter.unusedVariables false
set_option linter.unusedSimpArgs false
set_option maxRecDepth 100000
namespace Go.Proofs.YtngeabphjdfdgaaGreatDoor.P
open Go.RowKit
set_option maxHeartbeats 3200000 in
theorem r_enc_85 (k : Nat) (hk : k < 88) (h1 : 1 ≤ k) (hv : fmT k = 85) (rd a b i : Int) (hi : i64 i) (hm : mayF (k : Int) rd a b i = true) (hrd : 0 ≤ rd ∧ rd < 32) (ha : 0 ≤ a ∧ a < 32) (hb : 0 ≤ b ∧ b < 32) (w : World) : Calls Tryz.prog 49 #[iv (k : Int) rd a b i] w fun e w' => e = .returned (.tuple #[.int .u32 (encF k rd a b i), .int .i64 0]) ∧ Gr w w' := by
  have hfr : frT k = ⟨#[85]⟩ := by rw [fr_is k hk h1, hv]; rfl

  have hrc := rc_in k hk
  have HE := Lib.hid (enc_sum_85 k hk h1 hv rd a b i hi hm hrd ha hb)
  have hr3 := r3_in k hk
  have hr7 := r7_in k hk
  have HF := Lib.hid hfr
  clear hfr hv
  have k1 : ¬ (k : Int) < 1 := by omega
  have k2 : ¬ (87 : Int) < k := by omega
  have k3 : (0 : Int) ≤ k := by omega
  have k4 : (k : Int) < 88 := by omega
  have CM : Hid (∀ w, Calls Tryz.prog 77 #[iv (k : Int) rd a b i] w fun e w' => e = .returned (.bool true) ∧ Gr w w') := Lib.hid (fun w => by have := r_may (k : Int) rd a b i hi w; rw [hm] at this; exact this)
  have CR : Hid (∀ w, Calls Tryz.prog 74 #[] w fun e w' => ∃ N, e = .returned (.slice (some ⟨N, 0, none⟩) 88 88) ∧ Gr w w' ∧ w'.heap[N]? = some (.cells rowsC 136)) := Lib.hid (fun w => (r_rows w).mono fun e w' h => ⟨w.heap.size, h⟩)
  have RC := Lib.hid (fun j (hj : j < 5) => rows_cell (k := k) hk hj)
  have I0 : Hid (i64 i) := Lib.hid hi
  have I1 : Hid (i64 rd) := Lib.hid (by unfold i64; omega)
  have I2 : Hid (i64 a) := Lib.hid (by unfold i64; omega)
  have I3 : Hid (i64 b) := Lib.hid (by unfold i64; omega)
  have I4 : Hid (i64 (r3T k)) := Lib.hid (by unfold i64; omega)
  have I5 : Hid (i64 (r7T k)) := Lib.hid (by unfold i64; omega)
  clear hm hi
  have gb : Gr w (w.alloc (.cells #[.int .i64 (k : Int), .int .i64 rd, .int .i64 a, .int .i64 b, .int .i64 i] 61)) := (Gr.refl w).alloc (Nat.le_refl _) _
  have hB : (w.alloc (.cells #[.int .i64 (k : Int), .int .i64 rd, .int .i64 a, .int .i64 b, .int .i64 i] 61)).heap[w.heap.size]? = some (.cells #[.int .i64 (k : Int), .int .i64 rd, .int .i64 a, .int .i64 b, .int .i64 i] 61) := blk_new w _
  go_enter Tryz.func49, Tryz.ntmps49
  go_upto_region 1 with fail
  generalize w.alloc (.cells #[.int .i64 (k : Int), .int .i64 rd, .int .i64 a, .int .i64 b, .int .i64 i] 61) = wb at *
  generalize w.heap.size = B0 at *
  obtain ⟨B, rfl⟩ : ∃ B, B = B0 := ⟨_, rfl⟩
  have c0 := blk_cell hB 0 (v := .int .i64 (k : Int)) rfl
  have c1 := blk_cell hB 1 (v := .int .i64 rd) rfl
  have c2 := blk_cell hB 2 (v := .int .i64 a) rfl
  have c3 := blk_cell hB 3 (v := .int .i64 b) rfl
  have c4 := blk_cell hB 4 (v := .int .i64 i) rfl
  have HB0 := Lib.hid hB
  have GB0 := Lib.hid gb
  clear hB gb
  go_upto_region 2 with (go_at_call 77; refine (CM.out _).mono ?_; rintro e w5 ⟨rfl, g5⟩)
  have hB := blk_gr g5 HB0.out
  have GB := Lib.hid (gtrans GB0.out g5)
  clear c0 c1 c2 c3 c4 g5 GB0 HB0 CM
  have HB := Lib.hid hB
  have c0 := blk_cell hB 0 (v := .int .i64 (k : Int)) rfl
  clear hB
  go_upto_region 4 with fail
  have lB0 := cell_lt c0
  go_cut [5] from 4 (fun s6 wx => ∃ X : Nat, s6 = .pointer (some ⟨X, 0, none⟩) ∧ Gr w wx ∧ wx.heap[X]? = some (.cells #[.string (nmT k), .string (frT k), .int .u32 (rcT k), .int .u32 (r3T k), .int .u32 (r7T k)] 136) ∧ wx.heap[B]? = some (.cells #[.int .i64 (k : Int), .int .i64 rd, .int .i64 a, .int .i64 b, .int .i64 i] 61))
  case first =>
    first
      | (go_region_with (go_at_call 74; refine (CR.out _).mono ?_; rintro e w6 ⟨N, rfl, g6, h6⟩; have h7 := blk_gr g6 (by first | exact HB.out | exact blk_alloc _ HB.out); have f0 := blk_cell h7 0 (v := .int .i64 (k : Int)) rfl; have e0 := blk_cell h6 (k * 5) (v := .string (nmT k)) ((RC.out 0 (by decide)).trans rfl); have e1 := blk_cell h6 (k * 5 + 1) (v := .string (frT k)) ((RC.out 1 (by decide)).trans rfl); have e2 := blk_cell h6 (k * 5 + 2) (v := .int .u32 (rcT k)) ((RC.out 2 (by decide)).trans rfl); have e3 := blk_cell h6 (k * 5 + 3) (v := .int .u32 (r3T k)) ((RC.out 3 (by decide)).trans rfl); have e4 := blk_cell h6 (k * 5 + 4) (v := .int .u32 (r7T k)) ((RC.out 4 (by decide)).trans rfl); have lN := cell_lt e0; have lB := cell_lt f0; try (have x7 : w6.heap[w5.heap.size]? = _ := blk_gr g6 (blk_new w5.drew _); have y0 := blk_cell x7 0 rfl; have z0 := blk_frozen x7 0; have y1 := blk_cell x7 1 rfl; have z1 := blk_frozen x7 1; have y2 := blk_cell x7 2 rfl; have z2 := blk_frozen x7 2; have y3 := blk_cell x7 3 rfl; have z3 := blk_frozen x7 3; have y4 := blk_cell x7 4 rfl; have z4 := blk_frozen x7 4; have lX := cell_lt y0)))
      | fail
    all_goals
      go_wp2_with fail
      go_meet
      case rel =>
        first
          | exact ⟨_, rfl, gr_al (gtrans GB.out (undrew g6)) _, blk_new w6 _, blk_alloc _ h7⟩
          | exact ⟨_, rfl, Below.setCell (Below.setCell (Below.setCell (Below.setCell (Below.setCell (gtrans GB.out (undrew (gtrans (gr_al (Gr.refl _) _) g6))) GB.out.size _) GB.out.size _) GB.out.size _) GB.out.size _) GB.out.size _, blk_set (blk_set (blk_set (blk_set (blk_set x7 0 _) 1 _) 2 _) 3 _) 4 _, blk_other (blk_other (blk_other (blk_other (blk_other h7 _ _ (Nat.ne_of_lt lB0)) _ _ (Nat.ne_of_lt lB0)) _ _ (Nat.ne_of_lt lB0)) _ _ (Nat.ne_of_lt lB0)) _ _ (Nat.ne_of_lt lB0)⟩
  case rest =>
    clear CR RC HB GB c0 lB0
    obtain ⟨X, rfl, gx, hX, hB⟩ := hcut
    rw [HF.out] at hX
    generalize rcT k = rc at *
    generalize r3T k = f3 at *
    generalize r7T k = f7 at *
    have x1 := blk_cell hX 1 (v := .string ⟨#[85]⟩) rfl
    have x2 := blk_cell hX 2 (v := .int .u32 rc) rfl
    have x3 := blk_cell hX 3 (v := .int .u32 f3) rfl
    have x4 := blk_cell hX 4 (v := .int .u32 f7) rfl
    have c0 := blk_cell hB 0 (v := .int .i64 (k : Int)) rfl
    have c1 := blk_cell hB 1 (v := .int .i64 rd) rfl
    have c2 := blk_cell hB 2 (v := .int .i64 a) rfl
    have c3 := blk_cell hB 3 (v := .int .i64 b) rfl
    have c4 := blk_cell hB 4 (v := .int .i64 i) rfl
    have GX := Lib.hid gx
    clear gx hX hB
    go_upto_region 12 with (go_at_call 78; refine (r_field _ _ _ _ (by first | exact I0.out | exact I1.out | exact I2.out | exact I3.out | exact I4.out | exact I5.out) (by decide) _).mono ?_; rintro e w7 ⟨rfl, rfl⟩)
    have q1 := fldI_in rd 0 5 7 (by decide)
    have q2 := fldI_in f3 0 3 12 (by decide)
    have q3 := fldI_in a 0 5 15 (by decide)
    have q4 := fldI_in b 0 5 20 (by decide)
    have q5 := fldI_in f7 0 7 25 (by decide)
    have p1 := fldI_in i 12 20 12 (by decide)
    clear c0 c1 c2 c3 c4
    go_upto_region 13 with fail
    go_quiet ((go_at_call 78; exact Calls.quiet_of_same (r_field _ _ _ _ (by first | exact I0.out | exact I5.out) (by decide) _)))
    go_wp2_with fail
    all_goals
      go_ret2
      obtain ⟨he, hl⟩ := HE.out
      exact ⟨ret_ue (by rw [← he] at hl ⊢; omega) rfl, gtrans GX.out (gr_dN _ nq)⟩
end Go.Proofs.YtngeabphjdfdgaaGreatDoor.P
namespace Go.Proofs.YtngeabphjdfdgaaGreatDoor.P
open Go.RowKit
set_option maxHeartbeats 3200000 in
theorem r_enc_74 (k : Nat) (hk : k < 88) (h1 : 1 ≤ k) (hv : fmT k = 74) (rd a b i : Int) (hi : i64 i) (hm : mayF (k : Int) rd a b i = true) (hrd : 0 ≤ rd ∧ rd < 32) (ha : 0 ≤ a ∧ a < 32) (hb : 0 ≤ b ∧ b < 32) (w : World) : Calls Tryz.prog 49 #[iv (k : Int) rd a b i] w fun e w' => e = .returned (.tuple #[.int .u32 (encF k rd a b i), .int .i64 0]) ∧ Gr w w' := by
  have hfr : frT k = ⟨#[74]⟩ := by rw [fr_is k hk h1, hv]; rfl

  have hrc := rc_in k hk
  have HE := Lib.hid (enc_sum_74 k hk h1 hv rd a b i hi hm hrd ha hb)
  have hr3 := r3_in k hk
  have hr7 := r7_in k hk
  have HF := Lib.hid hfr
  clear hfr hv
  have k1 : ¬ (k : Int) < 1 := by omega
  have k2 : ¬ (87 : Int) < k := by omega
  have k3 : (0 : Int) ≤ k := by omega
  have k4 : (k : Int) < 88 := by omega
  have CM : Hid (∀ w, Calls Tryz.prog 77 #[iv (k : Int) rd a b i] w fun e w' => e = .returned (.bool true) ∧ Gr w w') := Lib.hid (fun w => by have := r_may (k : Int) rd a b i hi w; rw [hm] at this; exact this)
  have CR : Hid (∀ w, Calls Tryz.prog 74 #[] w fun e w' => ∃ N, e = .returned (.slice (some ⟨N, 0, none⟩) 88 88) ∧ Gr w w' ∧ w'.heap[N]? = some (.cells rowsC 136)) := Lib.hid (fun w => (r_rows w).mono fun e w' h => ⟨w.heap.size, h⟩)
  have RC := Lib.hid (fun j (hj : j < 5) => rows_cell (k := k) hk hj)
  have I0 : Hid (i64 i) := Lib.hid hi
  have I1 : Hid (i64 rd) := Lib.hid (by unfold i64; omega)
  have I2 : Hid (i64 a) := Lib.hid (by unfold i64; omega)
  have I3 : Hid (i64 b) := Lib.hid (by unfold i64; omega)
  have I4 : Hid (i64 (r3T k)) := Lib.hid (by unfold i64; omega)
  have I5 : Hid (i64 (r7T k)) := Lib.hid (by unfold i64; omega)
  clear hm hi
  have gb : Gr w (w.alloc (.cells #[.int .i64 (k : Int), .int .i64 rd, .int .i64 a, .int .i64 b, .int .i64 i] 61)) := (Gr.refl w).alloc (Nat.le_refl _) _
  have hB : (w.alloc (.cells #[.int .i64 (k : Int), .int .i64 rd, .int .i64 a, .int .i64 b, .int .i64 i] 61)).heap[w.heap.size]? = some (.cells #[.int .i64 (k : Int), .int .i64 rd, .int .i64 a, .int .i64 b, .int .i64 i] 61) := blk_new w _
  go_enter Tryz.func49, Tryz.ntmps49
  go_upto_region 1 with fail
  generalize w.alloc (.cells #[.int .i64 (k : Int), .int .i64 rd, .int .i64 a, .int .i64 b, .int .i64 i] 61) = wb at *
  generalize w.heap.size = B0 at *
  obtain ⟨B, rfl⟩ : ∃ B, B = B0 := ⟨_, rfl⟩
  have c0 := blk_cell hB 0 (v := .int .i64 (k : Int)) rfl
  have c1 := blk_cell hB 1 (v := .int .i64 rd) rfl
  have c2 := blk_cell hB 2 (v := .int .i64 a) rfl
  have c3 := blk_cell hB 3 (v := .int .i64 b) rfl
  have c4 := blk_cell hB 4 (v := .int .i64 i) rfl
  have HB0 := Lib.hid hB
  have GB0 := Lib.hid gb
  clear hB gb
  go_upto_region 2 with (go_at_call 77; refine (CM.out _).mono ?_; rintro e w5 ⟨rfl, g5⟩)
  have hB := blk_gr g5 HB0.out
  have GB := Lib.hid (gtrans GB0.out g5)
  clear c0 c1 c2 c3 c4 g5 GB0 HB0 CM
  have HB := Lib.hid hB
  have c0 := blk_cell hB 0 (v := .int .i64 (k : Int)) rfl
  clear hB
  go_upto_region 4 with fail
  have lB0 := cell_lt c0
  go_cut [5] from 4 (fun s6 wx => ∃ X : Nat, s6 = .pointer (some ⟨X, 0, none⟩) ∧ Gr w wx ∧ wx.heap[X]? = some (.cells #[.string (nmT k), .string (frT k), .int .u32 (rcT k), .int .u32 (r3T k), .int .u32 (r7T k)] 136) ∧ wx.heap[B]? = some (.cells #[.int .i64 (k : Int), .int .i64 rd, .int .i64 a, .int .i64 b, .int .i64 i] 61))
  case first =>
    first
      | (go_region_with (go_at_call 74; refine (CR.out _).mono ?_; rintro e w6 ⟨N, rfl, g6, h6⟩; have h7 := blk_gr g6 (by first | exact HB.out | exact blk_alloc _ HB.out); have f0 := blk_cell h7 0 (v := .int .i64 (k : Int)) rfl; have e0 := blk_cell h6 (k * 5) (v := .string (nmT k)) ((RC.out 0 (by decide)).trans rfl); have e1 := blk_cell h6 (k * 5 + 1) (v := .string (frT k)) ((RC.out 1 (by decide)).trans rfl); have e2 := blk_cell h6 (k * 5 + 2) (v := .int .u32 (rcT k)) ((RC.out 2 (by decide)).trans rfl); have e3 := blk_cell h6 (k * 5 + 3) (v := .int .u32 (r3T k)) ((RC.out 3 (by decide)).trans rfl); have e4 := blk_cell h6 (k * 5 + 4) (v := .int .u32 (r7T k)) ((RC.out 4 (by decide)).trans rfl); have lN := cell_lt e0; have lB := cell_lt f0; try (have x7 : w6.heap[w5.heap.size]? = _ := blk_gr g6 (blk_new w5.drew _); have y0 := blk_cell x7 0 rfl; have z0 := blk_frozen x7 0; have y1 := blk_cell x7 1 rfl; have z1 := blk_frozen x7 1; have y2 := blk_cell x7 2 rfl; have z2 := blk_frozen x7 2; have y3 := blk_cell x7 3 rfl; have z3 := blk_frozen x7 3; have y4 := blk_cell x7 4 rfl; have z4 := blk_frozen x7 4; have lX := cell_lt y0)))
      | fail
    all_goals
      go_wp2_with fail
      go_meet
      case rel =>
        first
          | exact ⟨_, rfl, gr_al (gtrans GB.out (undrew g6)) _, blk_new w6 _, blk_alloc _ h7⟩
          | exact ⟨_, rfl, Below.setCell (Below.setCell (Below.setCell (Below.setCell (Below.setCell (gtrans GB.out (undrew (gtrans (gr_al (Gr.refl _) _) g6))) GB.out.size _) GB.out.size _) GB.out.size _) GB.out.size _) GB.out.size _, blk_set (blk_set (blk_set (blk_set (blk_set x7 0 _) 1 _) 2 _) 3 _) 4 _, blk_other (blk_other (blk_other (blk_other (blk_other h7 _ _ (Nat.ne_of_lt lB0)) _ _ (Nat.ne_of_lt lB0)) _ _ (Nat.ne_of_lt lB0)) _ _ (Nat.ne_of_lt lB0)) _ _ (Nat.ne_of_lt lB0)⟩
  case rest =>
    clear CR RC HB GB c0 lB0
    obtain ⟨X, rfl, gx, hX, hB⟩ := hcut
    rw [HF.out] at hX
    generalize rcT k = rc at *
    generalize r3T k = f3 at *
    generalize r7T k = f7 at *
    have x1 := blk_cell hX 1 (v := .string ⟨#[74]⟩) rfl
    have x2 := blk_cell hX 2 (v := .int .u32 rc) rfl
    have x3 := blk_cell hX 3 (v := .int .u32 f3) rfl
    have x4 := blk_cell hX 4 (v := .int .u32 f7) rfl
    have c0 := blk_cell hB 0 (v := .int .i64 (k : Int)) rfl
    have c1 := blk_cell hB 1 (v := .int .i64 rd) rfl
    have c2 := blk_cell hB 2 (v := .int .i64 a) rfl
    have c3 := blk_cell hB 3 (v := .int .i64 b) rfl
    have c4 := blk_cell hB 4 (v := .int .i64 i) rfl
    have GX := Lib.hid gx
    clear gx hX hB
    go_upto_region 12 with (go_at_call 78; refine (r_field _ _ _ _ (by first | exact I0.out | exact I1.out | exact I2.out | exact I3.out | exact I4.out | exact I5.out) (by decide) _).mono ?_; rintro e w7 ⟨rfl, rfl⟩)
    have q1 := fldI_in rd 0 5 7 (by decide)
    have q2 := fldI_in f3 0 3 12 (by decide)
    have q3 := fldI_in a 0 5 15 (by decide)
    have q4 := fldI_in b 0 5 20 (by decide)
    have q5 := fldI_in f7 0 7 25 (by decide)
    have p1 := fldI_in i 20 1 31 (by decide)
    have p2 := fldI_in i 1 10 21 (by decide)
    have p3 := fldI_in i 11 1 20 (by decide)
    have p4 := fldI_in i 12 8 12 (by decide)
    clear c0 c1 c2 c3 c4
    go_upto_region 15 with fail
    go_quiet ((go_at_call 78; exact Calls.quiet_of_same (r_field _ _ _ _ (by first | exact I0.out | exact I5.out) (by decide) _)))
    go_wp2_with fail
    all_goals
      go_ret2
      obtain ⟨he, hl⟩ := HE.out
      exact ⟨ret_ue (by rw [← he] at hl ⊢; omega) rfl, gtrans GX.out (gr_dN _ nq)⟩
set_option maxHeartbeats 3200000 in
theorem r_enc_73 (k : Nat) (hk : k < 88) (h1 : 1 ≤ k) (hv : fmT k = 73) (rd a b i : Int) (hi : i64 i) (hm : mayF (k : Int) rd a b i = true) (hrd : 0 ≤ rd ∧ rd < 32) (ha : 0 ≤ a ∧ a < 32) (hb : 0 ≤ b ∧ b < 32) (w : World) : Calls Tryz.prog 49 #[iv (k : Int) rd a b i] w fun e w' => e = .returned (.tuple #[.int .u32 (encF k rd a b i), .int .i64 0]) ∧ Gr w w' := by
  have hfr : frT k = ⟨#[73]⟩ := by rw [fr_is k hk h1, hv]; rfl

  have hrc := rc_in k hk
  have HE := Lib.hid (enc_sum_73 k hk h1 hv rd a b i hi hm hrd ha hb)
  have hr3 := r3_in k hk
  have hr7 := r7_in k hk
  have HF := Lib.hid hfr
  clear hfr hv
  have k1 : ¬ (k : Int) < 1 := by omega
  have k2 : ¬ (87 : Int) < k := by omega
  have k3 : (0 : Int) ≤ k := by omega
  have k4 : (k : Int) < 88 := by omega
  have CM : Hid (∀ w, Calls Tryz.prog 77 #[iv (k : Int) rd a b i] w fun e w' => e = .returned (.bool true) ∧ Gr w w') := Lib.hid (fun w => by have := r_may (k : Int) rd a b i hi w; rw [hm] at this; exact this)
  have CR : Hid (∀ w, Calls Tryz.prog 74 #[] w fun e w' => ∃ N, e = .returned (.slice (some ⟨N, 0, none⟩) 88 88) ∧ Gr w w' ∧ w'.heap[N]? = some (.cells rowsC 136)) := Lib.hid (fun w => (r_rows w).mono fun e w' h => ⟨w.heap.size, h⟩)
  have RC := Lib.hid (fun j (hj : j < 5) => rows_cell (k := k) hk hj)
  have I0 : Hid (i64 i) := Lib.hid hi
  have I1 : Hid (i64 rd) := Lib.hid (by unfold i64; omega)
  have I2 : Hid (i64 a) := Lib.hid (by unfold i64; omega)
  have I3 : Hid (i64 b) := Lib.hid (by unfold i64; omega)
  have I4 : Hid (i64 (r3T k)) := Lib.hid (by unfold i64; omega)
  have I5 : Hid (i64 (r7T k)) := Lib.hid (by unfold i64; omega)
  clear hm hi
  have gb : Gr w (w.alloc (.cells #[.int .i64 (k : Int), .int .i64 rd, .int .i64 a, .int .i64 b, .int .i64 i] 61)) := (Gr.refl w).alloc (Nat.le_refl _) _
  have hB : (w.alloc (.cells #[.int .i64 (k : Int), .int .i64 rd, .int .i64 a, .int .i64 b, .int .i64 i] 61)).heap[w.heap.size]? = some (.cells #[.int .i64 (k : Int), .int .i64 rd, .int .i64 a, .int .i64 b, .int .i64 i] 61) := blk_new w _
  go_enter Tryz.func49, Tryz.ntmps49
  go_upto_region 1 with fail
  generalize w.alloc (.cells #[.int .i64 (k : Int), .int .i64 rd, .int .i64 a, .int .i64 b, .int .i64 i] 61) = wb at *
  generalize w.heap.size = B0 at *
  obtain ⟨B, rfl⟩ : ∃ B, B = B0 := ⟨_, rfl⟩
  have c0 := blk_cell hB 0 (v := .int .i64 (k : Int)) rfl
  have c1 := blk_cell hB 1 (v := .int .i64 rd) rfl
  have c2 := blk_cell hB 2 (v := .int .i64 a) rfl
  have c3 := blk_cell hB 3 (v := .int .i64 b) rfl
  have c4 := blk_cell hB 4 (v := .int .i64 i) rfl
  have HB0 := Lib.hid hB
  have GB0 := Lib.hid gb
  clear hB gb
  go_upto_region 2 with (go_at_call 77; refine (CM.out _).mono ?_; rintro e w5 ⟨rfl, g5⟩)
  have hB := blk_gr g5 HB0.out
  have GB := Lib.hid (gtrans GB0.out g5)
  clear c0 c1 c2 c3 c4 g5 GB0 HB0 CM
  have HB := Lib.hid hB
  have c0 := blk_cell hB 0 (v := .int .i64 (k : Int)) rfl
  clear hB
  go_upto_region 4 with fail
  have lB0 := cell_lt c0
  go_cut [5] from 4 (fun s6 wx => ∃ X : Nat, s6 = .pointer (some ⟨X, 0, none⟩) ∧ Gr w wx ∧ wx.heap[X]? = some (.cells #[.string (nmT k), .string (frT k), .int .u32 (rcT k), .int .u32 (r3T k), .int .u32 (r7T k)] 136) ∧ wx.heap[B]? = some (.cells #[.int .i64 (k : Int), .int .i64 rd, .int .i64 a, .int .i64 b, .int .i64 i] 61))
  case first =>
    first
      | (go_region_with (go_at_call 74; refine (CR.out _).mono ?_; rintro e w6 ⟨N, rfl, g6, h6⟩; have h7 := blk_gr g6 (by first | exact HB.out | exact blk_alloc _ HB.out); have f0 := blk_cell h7 0 (v := .int .i64 (k : Int)) rfl; have e0 := blk_cell h6 (k * 5) (v := .string (nmT k)) ((RC.out 0 (by decide)).trans rfl); have e1 := blk_cell h6 (k * 5 + 1) (v := .string (frT k)) ((RC.out 1 (by decide)).trans rfl); have e2 := blk_cell h6 (k * 5 + 2) (v := .int .u32 (rcT k)) ((RC.out 2 (by decide)).trans rfl); have e3 := blk_cell h6 (k * 5 + 3) (v := .int .u32 (r3T k)) ((RC.out 3 (by decide)).trans rfl); have e4 := blk_cell h6 (k * 5 + 4) (v := .int .u32 (r7T k)) ((RC.out 4 (by decide)).trans rfl); have lN := cell_lt e0; have lB := cell_lt f0; try (have x7 : w6.heap[w5.heap.size]? = _ := blk_gr g6 (blk_new w5.drew _); have y0 := blk_cell x7 0 rfl; have z0 := blk_frozen x7 0; have y1 := blk_cell x7 1 rfl; have z1 := blk_frozen x7 1; have y2 := blk_cell x7 2 rfl; have z2 := blk_frozen x7 2; have y3 := blk_cell x7 3 rfl; have z3 := blk_frozen x7 3; have y4 := blk_cell x7 4 rfl; have z4 := blk_frozen x7 4; have lX := cell_lt y0)))
      | fail
    all_goals
      go_wp2_with fail
      go_meet
      case rel =>
        first
          | exact ⟨_, rfl, gr_al (gtrans GB.out (undrew g6)) _, blk_new w6 _, blk_alloc _ h7⟩
          | exact ⟨_, rfl, Below.setCell (Below.setCell (Below.setCell (Below.setCell (Below.setCell (gtrans GB.out (undrew (gtrans (gr_al (Gr.refl _) _) g6))) GB.out.size _) GB.out.size _) GB.out.size _) GB.out.size _) GB.out.size _, blk_set (blk_set (blk_set (blk_set (blk_set x7 0 _) 1 _) 2 _) 3 _) 4 _, blk_other (blk_other (blk_other (blk_other (blk_other h7 _ _ (Nat.ne_of_lt lB0)) _ _ (Nat.ne_of_lt lB0)) _ _ (Nat.ne_of_lt lB0)) _ _ (Nat.ne_of_lt lB0)) _ _ (Nat.ne_of_lt lB0)⟩
  case rest =>
    clear CR RC HB GB c0 lB0
    obtain ⟨X, rfl, gx, hX, hB⟩ := hcut
    rw [HF.out] at hX
    generalize rcT k = rc at *
    generalize r3T k = f3 at *
    generalize r7T k = f7 at *
    have x1 := blk_cell hX 1 (v := .string ⟨#[73]⟩) rfl
    have x2 := blk_cell hX 2 (v := .int .u32 rc) rfl
    have x3 := blk_cell hX 3 (v := .int .u32 f3) rfl
    have x4 := blk_cell hX 4 (v := .int .u32 f7) rfl
    have c0 := blk_cell hB 0 (v := .int .i64 (k : Int)) rfl
    have c1 := blk_cell hB 1 (v := .int .i64 rd) rfl
    have c2 := blk_cell hB 2 (v := .int .i64 a) rfl
    have c3 := blk_cell hB 3 (v := .int .i64 b) rfl
    have c4 := blk_cell hB 4 (v := .int .i64 i) rfl
    have GX := Lib.hid gx
    clear gx hX hB
    go_upto_region 12 with (go_at_call 78; refine (r_field _ _ _ _ (by first | exact I0.out | exact I1.out | exact I2.out | exact I3.out | exact I4.out | exact I5.out) (by decide) _).mono ?_; rintro e w7 ⟨rfl, rfl⟩)
    have q1 := fldI_in rd 0 5 7 (by decide)
    have q2 := fldI_in f3 0 3 12 (by decide)
    have q3 := fldI_in a 0 5 15 (by decide)
    have q4 := fldI_in b 0 5 20 (by decide)
    have q5 := fldI_in f7 0 7 25 (by decide)
    have p3 := fldI_in i 0 12 20 (by decide)
    clear c0 c1 c2 c3 c4
    go_upto_region 17 with fail
    go_quiet ((go_at_call 78; exact Calls.quiet_of_same (r_field _ _ _ _ (by first | exact I0.out | exact I5.out) (by decide) _)))
    go_wp2_with fail
    all_goals
      go_ret2
      obtain ⟨he, hl⟩ := HE.out
      exact ⟨ret_ue (by rw [← he] at hl ⊢; omega) rfl, gtrans GX.out (gr_dN _ nq)⟩
set_option maxHeartbeats 3200000 in
theorem r_enc_66 (k : Nat) (hk : k < 88) (h1 : 1 ≤ k) (hv : fmT k = 66) (rd a b i : Int) (hi : i64 i) (hm : mayF (k : Int) rd a b i = true) (hrd : 0 ≤ rd ∧ rd < 32) (ha : 0 ≤ a ∧ a < 32) (hb : 0 ≤ b ∧ b < 32) (w : World) : Calls Tryz.prog 49 #[iv (k : Int) rd a b i] w fun e w' => e = .returned (.tuple #[.int .u32 (encF k rd a b i), .int .i64 0]) ∧ Gr w w' := by
  have hfr : frT k = ⟨#[66]⟩ := by rw [fr_is k hk h1, hv]; rfl

  have hrc := rc_in k hk
  have HE := Lib.hid (enc_sum_66 k hk h1 hv rd a b i hi hm hrd ha hb)
  have hr3 := r3_in k hk
  have hr7 := r7_in k hk
  have HF := Lib.hid hfr
  clear hfr hv
  have k1 : ¬ (k : Int) < 1 := by omega
  have k2 : ¬ (87 : Int) < k := by omega
  have k3 : (0 : Int) ≤ k := by omega
  have k4 : (k : Int) < 88 := by omega
  have CM : Hid (∀ w, Calls Tryz.prog 77 #[iv (k : Int) rd a b i] w fun e w' => e = .returned (.bool true) ∧ Gr w w') := Lib.hid (fun w => by have := r_may (k : Int) rd a b i hi w; rw [hm] at this; exact this)
  have CR : Hid (∀ w, Calls Tryz.prog 74 #[] w fun e w' => ∃ N, e = .returned (.slice (some ⟨N, 0, none⟩) 88 88) ∧ Gr w w' ∧ w'.heap[N]? = some (.cells rowsC 136)) := Lib.hid (fun w => (r_rows w).mono fun e w' h => ⟨w.heap.size, h⟩)
  have RC := Lib.hid (fun j (hj : j < 5) => rows_cell (k := k) hk hj)
  have I0 : Hid (i64 i) := Lib.hid hi
  have I1 : Hid (i64 rd) := Lib.hid (by unfold i64; omega)
  have I2 : Hid (i64 a) := Lib.hid (by unfold i64; omega)
  have I3 : Hid (i64 b) := Lib.hid (by unfold i64; omega)
  have I4 : Hid (i64 (r3T k)) := Lib.hid (by unfold i64; omega)
  have I5 : Hid (i64 (r7T k)) := Lib.hid (by unfold i64; omega)
  clear hm hi
  have gb : Gr w (w.alloc (.cells #[.int .i64 (k : Int), .int .i64 rd, .int .i64 a, .int .i64 b, .int .i64 i] 61)) := (Gr.refl w).alloc (Nat.le_refl _) _
  have hB : (w.alloc (.cells #[.int .i64 (k : Int), .int .i64 rd, .int .i64 a, .int .i64 b, .int .i64 i] 61)).heap[w.heap.size]? = some (.cells #[.int .i64 (k : Int), .int .i64 rd, .int .i64 a, .int .i64 b, .int .i64 i] 61) := blk_new w _
  go_enter Tryz.func49, Tryz.ntmps49
  go_upto_region 1 with fail
  generalize w.alloc (.cells #[.int .i64 (k : Int), .int .i64 rd, .int .i64 a, .int .i64 b, .int .i64 i] 61) = wb at *
  generalize w.heap.size = B0 at *
  obtain ⟨B, rfl⟩ : ∃ B, B = B0 := ⟨_, rfl⟩
  have c0 := blk_cell hB 0 (v := .int .i64 (k : Int)) rfl
  have c1 := blk_cell hB 1 (v := .int .i64 rd) rfl
  have c2 := blk_cell hB 2 (v := .int .i64 a) rfl
  have c3 := blk_cell hB 3 (v := .int .i64 b) rfl
  have c4 := blk_cell hB 4 (v := .int .i64 i) rfl
  have HB0 := Lib.hid hB
  have GB0 := Lib.hid gb
  clear hB gb
  go_upto_region 2 with (go_at_call 77; refine (CM.out _).mono ?_; rintro e w5 ⟨rfl, g5⟩)
  have hB := blk_gr g5 HB0.out
  have GB := Lib.hid (gtrans GB0.out g5)
  clear c0 c1 c2 c3 c4 g5 GB0 HB0 CM
  have HB := Lib.hid hB
  have c0 := blk_cell hB 0 (v := .int .i64 (k : Int)) rfl
  clear hB
  go_upto_region 4 with fail
  have lB0 := cell_lt c0
  go_cut [5] from 4 (fun s6 wx => ∃ X : Nat, s6 = .pointer (some ⟨X, 0, none⟩) ∧ Gr w wx ∧ wx.heap[X]? = some (.cells #[.string (nmT k), .string (frT k), .int .u32 (rcT k), .int .u32 (r3T k), .int .u32 (r7T k)] 136) ∧ wx.heap[B]? = some (.cells #[.int .i64 (k : Int), .int .i64 rd, .int .i64 a, .int .i64 b, .int .i64 i] 61))
  case first =>
    first
      | (go_region_with (go_at_call 74; refine (CR.out _).mono ?_; rintro e w6 ⟨N, rfl, g6, h6⟩; have h7 := blk_gr g6 (by first | exact HB.out | exact blk_alloc _ HB.out); have f0 := blk_cell h7 0 (v := .int .i64 (k : Int)) rfl; have e0 := blk_cell h6 (k * 5) (v := .string (nmT k)) ((RC.out 0 (by decide)).trans rfl); have e1 := blk_cell h6 (k * 5 + 1) (v := .string (frT k)) ((RC.out 1 (by decide)).trans rfl); have e2 := blk_cell h6 (k * 5 + 2) (v := .int .u32 (rcT k)) ((RC.out 2 (by decide)).trans rfl); have e3 := blk_cell h6 (k * 5 + 3) (v := .int .u32 (r3T k)) ((RC.out 3 (by decide)).trans rfl); have e4 := blk_cell h6 (k * 5 + 4) (v := .int .u32 (r7T k)) ((RC.out 4 (by decide)).trans rfl); have lN := cell_lt e0; have lB := cell_lt f0; try (have x7 : w6.heap[w5.heap.size]? = _ := blk_gr g6 (blk_new w5.drew _); have y0 := blk_cell x7 0 rfl; have z0 := blk_frozen x7 0; have y1 := blk_cell x7 1 rfl; have z1 := blk_frozen x7 1; have y2 := blk_cell x7 2 rfl; have z2 := blk_frozen x7 2; have y3 := blk_cell x7 3 rfl; have z3 := blk_frozen x7 3; have y4 := blk_cell x7 4 rfl; have z4 := blk_frozen x7 4; have lX := cell_lt y0)))
      | fail
    all_goals
      go_wp2_with fail
      go_meet
      case rel =>
        first
          | exact ⟨_, rfl, gr_al (gtrans GB.out (undrew g6)) _, blk_new w6 _, blk_alloc _ h7⟩
          | exact ⟨_, rfl, Below.setCell (Below.setCell (Below.setCell (Below.setCell (Below.setCell (gtrans GB.out (undrew (gtrans (gr_al (Gr.refl _) _) g6))) GB.out.size _) GB.out.size _) GB.out.size _) GB.out.size _) GB.out.size _, blk_set (blk_set (blk_set (blk_set (blk_set x7 0 _) 1 _) 2 _) 3 _) 4 _, blk_other (blk_other (blk_other (blk_other (blk_other h7 _ _ (Nat.ne_of_lt lB0)) _ _ (Nat.ne_of_lt lB0)) _ _ (Nat.ne_of_lt lB0)) _ _ (Nat.ne_of_lt lB0)) _ _ (Nat.ne_of_lt lB0)⟩
  case rest =>
    clear CR RC HB GB c0 lB0
    obtain ⟨X, rfl, gx, hX, hB⟩ := hcut
    rw [HF.out] at hX
    generalize rcT k = rc at *
    generalize r3T k = f3 at *
    generalize r7T k = f7 at *
    have x1 := blk_cell hX 1 (v := .string ⟨#[66]⟩) rfl
    have x2 := blk_cell hX 2 (v := .int .u32 rc) rfl
    have x3 := blk_cell hX 3 (v := .int .u32 f3) rfl
    have x4 := blk_cell hX 4 (v := .int .u32 f7) rfl
    have c0 := blk_cell hB 0 (v := .int .i64 (k : Int)) rfl
    have c1 := blk_cell hB 1 (v := .int .i64 rd) rfl
    have c2 := blk_cell hB 2 (v := .int .i64 a) rfl
    have c3 := blk_cell hB 3 (v := .int .i64 b) rfl
    have c4 := blk_cell hB 4 (v := .int .i64 i) rfl
    have GX := Lib.hid gx
    clear gx hX hB
    go_upto_region 12 with (go_at_call 78; refine (r_field _ _ _ _ (by first | exact I0.out | exact I1.out | exact I2.out | exact I3.out | exact I4.out | exact I5.out) (by decide) _).mono ?_; rintro e w7 ⟨rfl, rfl⟩)
    have q1 := fldI_in rd 0 5 7 (by decide)
    have q2 := fldI_in f3 0 3 12 (by decide)
    have q3 := fldI_in a 0 5 15 (by decide)
    have q4 := fldI_in b 0 5 20 (by decide)
    have q5 := fldI_in f7 0 7 25 (by decide)
    have p3 := fldI_in i 12 1 31 (by decide)
    have p4 := fldI_in i 5 6 25 (by decide)
    have p5 := fldI_in i 1 4 8 (by decide)
    have p6 := fldI_in i 11 1 7 (by decide)
    clear c0 c1 c2 c3 c4
    go_upto_region 19 with fail
    go_quiet ((go_at_call 78; exact Calls.quiet_of_same (r_field _ _ _ _ (by first | exact I0.out | exact I5.out) (by decide) _)))
    go_wp2_with fail
    all_goals
      go_ret2
      obtain ⟨he, hl⟩ := HE.out
      exact ⟨ret_ue (by rw [← he] at hl ⊢; omega) rfl, gtrans GX.out (gr_dN _ nq)⟩
end Go.Proofs.YtngeabphjdfdgaaGreatDoor.P
namespace Go.Proofs.YtngeabphjdfdgaaGreatDoor.P
open Go.RowKit
set_option maxHeartbeats 3200000 in
theorem r_enc_83 (k : Nat) (hk : k < 88) (h1 : 1 ≤ k) (hv : fmT k = 83) (rd a b i : Int) (hi : i64 i) (hm : mayF (k : Int) rd a b i = true) (hrd : 0 ≤ rd ∧ rd < 32) (ha : 0 ≤ a ∧ a < 32) (hb : 0 ≤ b ∧ b < 32) (w : World) : Calls Tryz.prog 49 #[iv (k : Int) rd a b i] w fun e w' => e = .returned (.tuple #[.int .u32 (encF k rd a b i), .int .i64 0]) ∧ Gr w w' := by
  have hfr : frT k = ⟨#[83]⟩ := by rw [fr_is k hk h1, hv]; rfl

  have hrc := rc_in k hk
  have HE := Lib.hid (enc_sum_83 k hk h1 hv rd a b i hi hm hrd ha hb)
  have hr3 := r3_in k hk
  have hr7 := r7_in k hk
  have HF := Lib.hid hfr
  clear hfr hv
  have k1 : ¬ (k : Int) < 1 := by omega
  have k2 : ¬ (87 : Int) < k := by omega
  have k3 : (0 : Int) ≤ k := by omega
  have k4 : (k : Int) < 88 := by omega
  have CM : Hid (∀ w, Calls Tryz.prog 77 #[iv (k : Int) rd a b i] w fun e w' => e = .returned (.bool true) ∧ Gr w w') := Lib.hid (fun w => by have := r_may (k : Int) rd a b i hi w; rw [hm] at this; exact this)
  have CR : Hid (∀ w, Calls Tryz.prog 74 #[] w fun e w' => ∃ N, e = .returned (.slice (some ⟨N, 0, none⟩) 88 88) ∧ Gr w w' ∧ w'.heap[N]? = some (.cells rowsC 136)) := Lib.hid (fun w => (r_rows w).mono fun e w' h => ⟨w.heap.size, h⟩)
  have RC := Lib.hid (fun j (hj : j < 5) => rows_cell (k := k) hk hj)
  have I0 : Hid (i64 i) := Lib.hid hi
  have I1 : Hid (i64 rd) := Lib.hid (by unfold i64; omega)
  have I2 : Hid (i64 a) := Lib.hid (by unfold i64; omega)
  have I3 : Hid (i64 b) := Lib.hid (by unfold i64; omega)
  have I4 : Hid (i64 (r3T k)) := Lib.hid (by unfold i64; omega)
  have I5 : Hid (i64 (r7T k)) := Lib.hid (by unfold i64; omega)
  clear hm hi
  have gb : Gr w (w.alloc (.cells #[.int .i64 (k : Int), .int .i64 rd, .int .i64 a, .int .i64 b, .int .i64 i] 61)) := (Gr.refl w).alloc (Nat.le_refl _) _
  have hB : (w.alloc (.cells #[.int .i64 (k : Int), .int .i64 rd, .int .i64 a, .int .i64 b, .int .i64 i] 61)).heap[w.heap.size]? = some (.cells #[.int .i64 (k : Int), .int .i64 rd, .int .i64 a, .int .i64 b, .int .i64 i] 61) := blk_new w _
  go_enter Tryz.func49, Tryz.ntmps49
  go_upto_region 1 with fail
  generalize w.alloc (.cells #[.int .i64 (k : Int), .int .i64 rd, .int .i64 a, .int .i64 b, .int .i64 i] 61) = wb at *
  generalize w.heap.size = B0 at *
  obtain ⟨B, rfl⟩ : ∃ B, B = B0 := ⟨_, rfl⟩
  have c0 := blk_cell hB 0 (v := .int .i64 (k : Int)) rfl
  have c1 := blk_cell hB 1 (v := .int .i64 rd) rfl
  have c2 := blk_cell hB 2 (v := .int .i64 a) rfl
  have c3 := blk_cell hB 3 (v := .int .i64 b) rfl
  have c4 := blk_cell hB 4 (v := .int .i64 i) rfl
  have HB0 := Lib.hid hB
  have GB0 := Lib.hid gb
  clear hB gb
  go_upto_region 2 with (go_at_call 77; refine (CM.out _).mono ?_; rintro e w5 ⟨rfl, g5⟩)
  have hB := blk_gr g5 HB0.out
  have GB := Lib.hid (gtrans GB0.out g5)
  clear c0 c1 c2 c3 c4 g5 GB0 HB0 CM
  have HB := Lib.hid hB
  have c0 := blk_cell hB 0 (v := .int .i64 (k : Int)) rfl
  clear hB
  go_upto_region 4 with fail
  have lB0 := cell_lt c0
  go_cut [5] from 4 (fun s6 wx => ∃ X : Nat, s6 = .pointer (some ⟨X, 0, none⟩) ∧ Gr w wx ∧ wx.heap[X]? = some (.cells #[.string (nmT k), .string (frT k), .int .u32 (rcT k), .int .u32 (r3T k), .int .u32 (r7T k)] 136) ∧ wx.heap[B]? = some (.cells #[.int .i64 (k : Int), .int .i64 rd, .int .i64 a, .int .i64 b, .int .i64 i] 61))
  case first =>
    first
      | (go_region_with (go_at_call 74; refine (CR.out _).mono ?_; rintro e w6 ⟨N, rfl, g6, h6⟩; have h7 := blk_gr g6 (by first | exact HB.out | exact blk_alloc _ HB.out); have f0 := blk_cell h7 0 (v := .int .i64 (k : Int)) rfl; have e0 := blk_cell h6 (k * 5) (v := .string (nmT k)) ((RC.out 0 (by decide)).trans rfl); have e1 := blk_cell h6 (k * 5 + 1) (v := .string (frT k)) ((RC.out 1 (by decide)).trans rfl); have e2 := blk_cell h6 (k * 5 + 2) (v := .int .u32 (rcT k)) ((RC.out 2 (by decide)).trans rfl); have e3 := blk_cell h6 (k * 5 + 3) (v := .int .u32 (r3T k)) ((RC.out 3 (by decide)).trans rfl); have e4 := blk_cell h6 (k * 5 + 4) (v := .int .u32 (r7T k)) ((RC.out 4 (by decide)).trans rfl); have lN := cell_lt e0; have lB := cell_lt f0; try (have x7 : w6.heap[w5.heap.size]? = _ := blk_gr g6 (blk_new w5.drew _); have y0 := blk_cell x7 0 rfl; have z0 := blk_frozen x7 0; have y1 := blk_cell x7 1 rfl; have z1 := blk_frozen x7 1; have y2 := blk_cell x7 2 rfl; have z2 := blk_frozen x7 2; have y3 := blk_cell x7 3 rfl; have z3 := blk_frozen x7 3; have y4 := blk_cell x7 4 rfl; have z4 := blk_frozen x7 4; have lX := cell_lt y0)))
      | fail
    all_goals
      go_wp2_with fail
      go_meet
      case rel =>
        first
          | exact ⟨_, rfl, gr_al (gtrans GB.out (undrew g6)) _, blk_new w6 _, blk_alloc _ h7⟩
          | exact ⟨_, rfl, Below.setCell (Below.setCell (Below.setCell (Below.setCell (Below.setCell (gtrans GB.out (undrew (gtrans (gr_al (Gr.refl _) _) g6))) GB.out.size _) GB.out.size _) GB.out.size _) GB.out.size _) GB.out.size _, blk_set (blk_set (blk_set (blk_set (blk_set x7 0 _) 1 _) 2 _) 3 _) 4 _, blk_other (blk_other (blk_other (blk_other (blk_other h7 _ _ (Nat.ne_of_lt lB0)) _ _ (Nat.ne_of_lt lB0)) _ _ (Nat.ne_of_lt lB0)) _ _ (Nat.ne_of_lt lB0)) _ _ (Nat.ne_of_lt lB0)⟩
  case rest =>
    clear CR RC HB GB c0 lB0
    obtain ⟨X, rfl, gx, hX, hB⟩ := hcut
    rw [HF.out] at hX
    generalize rcT k = rc at *
    generalize r3T k = f3 at *
    generalize r7T k = f7 at *
    have x1 := blk_cell hX 1 (v := .string ⟨#[83]⟩) rfl
    have x2 := blk_cell hX 2 (v := .int .u32 rc) rfl
    have x3 := blk_cell hX 3 (v := .int .u32 f3) rfl
    have x4 := blk_cell hX 4 (v := .int .u32 f7) rfl
    have c0 := blk_cell hB 0 (v := .int .i64 (k : Int)) rfl
    have c1 := blk_cell hB 1 (v := .int .i64 rd) rfl
    have c2 := blk_cell hB 2 (v := .int .i64 a) rfl
    have c3 := blk_cell hB 3 (v := .int .i64 b) rfl
    have c4 := blk_cell hB 4 (v := .int .i64 i) rfl
    have GX := Lib.hid gx
    clear gx hX hB
    go_upto_region 12 with (go_at_call 78; refine (r_field _ _ _ _ (by first | exact I0.out | exact I1.out | exact I2.out | exact I3.out | exact I4.out | exact I5.out) (by decide) _).mono ?_; rintro e w7 ⟨rfl, rfl⟩)
    have q1 := fldI_in rd 0 5 7 (by decide)
    have q2 := fldI_in f3 0 3 12 (by decide)
    have q3 := fldI_in a 0 5 15 (by decide)
    have q4 := fldI_in b 0 5 20 (by decide)
    have q5 := fldI_in f7 0 7 25 (by decide)
    have p3 := fldI_in i 5 7 25 (by decide)
    have p4 := fldI_in i 0 5 7 (by decide)
    clear c0 c1 c2 c3 c4
    go_upto_region 21 with fail
    go_quiet ((go_at_call 78; exact Calls.quiet_of_same (r_field _ _ _ _ (by first | exact I0.out | exact I5.out) (by decide) _)))
    go_wp2_with fail
    all_goals
      go_ret2
      obtain ⟨he, hl⟩ := HE.out
      exact ⟨ret_ue (by rw [← he] at hl ⊢; omega) rfl, gtrans GX.out (gr_dN _ nq)⟩
set_option maxHeartbeats 3200000 in
theorem r_enc_72 (k : Nat) (hk : k < 88) (h1 : 1 ≤ k) (hv : fmT k = 72) (rd a b i : Int) (hi : i64 i) (hm : mayF (k : Int) rd a b i = true) (hrd : 0 ≤ rd ∧ rd < 32) (ha : 0 ≤ a ∧ a < 32) (hb : 0 ≤ b ∧ b < 32) (w : World) : Calls Tryz.prog 49 #[iv (k : Int) rd a b i] w fun e w' => e = .returned (.tuple #[.int .u32 (encF k rd a b i), .int .i64 0]) ∧ Gr w w' := by
  have hfr : frT k = ⟨#[72]⟩ := by rw [fr_is k hk h1, hv]; rfl

  have hrc := rc_in k hk
  have HE := Lib.hid (enc_sum_72 k hk h1 hv rd a b i hi hm hrd ha hb)
  have hr3 := r3_in k hk
  have hr7 := r7_in k hk
  have HF := Lib.hid hfr
  clear hfr hv
  have k1 : ¬ (k : Int) < 1 := by omega
  have k2 : ¬ (87 : Int) < k := by omega
  have k3 : (0 : Int) ≤ k := by omega
  have k4 : (k : Int) < 88 := by omega
  have CM : Hid (∀ w, Calls Tryz.prog 77 #[iv (k : Int) rd a b i] w fun e w' => e = .returned (.bool true) ∧ Gr w w') := Lib.hid (fun w => by have := r_may (k : Int) rd a b i hi w; rw [hm] at this; exact this)
  have CR : Hid (∀ w, Calls Tryz.prog 74 #[] w fun e w' => ∃ N, e = .returned (.slice (some ⟨N, 0, none⟩) 88 88) ∧ Gr w w' ∧ w'.heap[N]? = some (.cells rowsC 136)) := Lib.hid (fun w => (r_rows w).mono fun e w' h => ⟨w.heap.size, h⟩)
  have RC := Lib.hid (fun j (hj : j < 5) => rows_cell (k := k) hk hj)
  have I0 : Hid (i64 i) := Lib.hid hi
  have I1 : Hid (i64 rd) := Lib.hid (by unfold i64; omega)
  have I2 : Hid (i64 a) := Lib.hid (by unfold i64; omega)
  have I3 : Hid (i64 b) := Lib.hid (by unfold i64; omega)
  have I4 : Hid (i64 (r3T k)) := Lib.hid (by unfold i64; omega)
  have I5 : Hid (i64 (r7T k)) := Lib.hid (by unfold i64; omega)
  clear hm hi
  have gb : Gr w (w.alloc (.cells #[.int .i64 (k : Int), .int .i64 rd, .int .i64 a, .int .i64 b, .int .i64 i] 61)) := (Gr.refl w).alloc (Nat.le_refl _) _
  have hB : (w.alloc (.cells #[.int .i64 (k : Int), .int .i64 rd, .int .i64 a, .int .i64 b, .int .i64 i] 61)).heap[w.heap.size]? = some (.cells #[.int .i64 (k : Int), .int .i64 rd, .int .i64 a, .int .i64 b, .int .i64 i] 61) := blk_new w _
  go_enter Tryz.func49, Tryz.ntmps49
  go_upto_region 1 with fail
  generalize w.alloc (.cells #[.int .i64 (k : Int), .int .i64 rd, .int .i64 a, .int .i64 b, .int .i64 i] 61) = wb at *
  generalize w.heap.size = B0 at *
  obtain ⟨B, rfl⟩ : ∃ B, B = B0 := ⟨_, rfl⟩
  have c0 := blk_cell hB 0 (v := .int .i64 (k : Int)) rfl
  have c1 := blk_cell hB 1 (v := .int .i64 rd) rfl
  have c2 := blk_cell hB 2 (v := .int .i64 a) rfl
  have c3 := blk_cell hB 3 (v := .int .i64 b) rfl
  have c4 := blk_cell hB 4 (v := .int .i64 i) rfl
  have HB0 := Lib.hid hB
  have GB0 := Lib.hid gb
  clear hB gb
  go_upto_region 2 with (go_at_call 77; refine (CM.out _).mono ?_; rintro e w5 ⟨rfl, g5⟩)
  have hB := blk_gr g5 HB0.out
  have GB := Lib.hid (gtrans GB0.out g5)
  clear c0 c1 c2 c3 c4 g5 GB0 HB0 CM
  have HB := Lib.hid hB
  have c0 := blk_cell hB 0 (v := .int .i64 (k : Int)) rfl
  clear hB
  go_upto_region 4 with fail
  have lB0 := cell_lt c0
  go_cut [5] from 4 (fun s6 wx => ∃ X : Nat, s6 = .pointer (some ⟨X, 0, none⟩) ∧ Gr w wx ∧ wx.heap[X]? = some (.cells #[.string (nmT k), .string (frT k), .int .u32 (rcT k), .int .u32 (r3T k), .int .u32 (r7T k)] 136) ∧ wx.heap[B]? = some (.cells #[.int .i64 (k : Int), .int .i64 rd, .int .i64 a, .int .i64 b, .int .i64 i] 61))
  case first =>
    first
      | (go_region_with (go_at_call 74; refine (CR.out _).mono ?_; rintro e w6 ⟨N, rfl, g6, h6⟩; have h7 := blk_gr g6 (by first | exact HB.out | exact blk_alloc _ HB.out); have f0 := blk_cell h7 0 (v := .int .i64 (k : Int)) rfl; have e0 := blk_cell h6 (k * 5) (v := .string (nmT k)) ((RC.out 0 (by decide)).trans rfl); have e1 := blk_cell h6 (k * 5 + 1) (v := .string (frT k)) ((RC.out 1 (by decide)).trans rfl); have e2 := blk_cell h6 (k * 5 + 2) (v := .int .u32 (rcT k)) ((RC.out 2 (by decide)).trans rfl); have e3 := blk_cell h6 (k * 5 + 3) (v := .int .u32 (r3T k)) ((RC.out 3 (by decide)).trans rfl); have e4 := blk_cell h6 (k * 5 + 4) (v := .int .u32 (r7T k)) ((RC.out 4 (by decide)).trans rfl); have lN := cell_lt e0; have lB := cell_lt f0; try (have x7 : w6.heap[w5.heap.size]? = _ := blk_gr g6 (blk_new w5.drew _); have y0 := blk_cell x7 0 rfl; have z0 := blk_frozen x7 0; have y1 := blk_cell x7 1 rfl; have z1 := blk_frozen x7 1; have y2 := blk_cell x7 2 rfl; have z2 := blk_frozen x7 2; have y3 := blk_cell x7 3 rfl; have z3 := blk_frozen x7 3; have y4 := blk_cell x7 4 rfl; have z4 := blk_frozen x7 4; have lX := cell_lt y0)))
      | fail
    all_goals
      go_wp2_with fail
      go_meet
      case rel =>
        first
          | exact ⟨_, rfl, gr_al (gtrans GB.out (undrew g6)) _, blk_new w6 _, blk_alloc _ h7⟩
          | exact ⟨_, rfl, Below.setCell (Below.setCell (Below.setCell (Below.setCell (Below.setCell (gtrans GB.out (undrew (gtrans (gr_al (Gr.refl _) _) g6))) GB.out.size _) GB.out.size _) GB.out.size _) GB.out.size _) GB.out.size _, blk_set (blk_set (blk_set (blk_set (blk_set x7 0 _) 1 _) 2 _) 3 _) 4 _, blk_other (blk_other (blk_other (blk_other (blk_other h7 _ _ (Nat.ne_of_lt lB0)) _ _ (Nat.ne_of_lt lB0)) _ _ (Nat.ne_of_lt lB0)) _ _ (Nat.ne_of_lt lB0)) _ _ (Nat.ne_of_lt lB0)⟩
  case rest =>
    clear CR RC HB GB c0 lB0
    obtain ⟨X, rfl, gx, hX, hB⟩ := hcut
    rw [HF.out] at hX
    generalize rcT k = rc at *
    generalize r3T k = f3 at *
    generalize r7T k = f7 at *
    have x1 := blk_cell hX 1 (v := .string ⟨#[72]⟩) rfl
    have x2 := blk_cell hX 2 (v := .int .u32 rc) rfl
    have x3 := blk_cell hX 3 (v := .int .u32 f3) rfl
    have x4 := blk_cell hX 4 (v := .int .u32 f7) rfl
    have c0 := blk_cell hB 0 (v := .int .i64 (k : Int)) rfl
    have c1 := blk_cell hB 1 (v := .int .i64 rd) rfl
    have c2 := blk_cell hB 2 (v := .int .i64 a) rfl
    have c3 := blk_cell hB 3 (v := .int .i64 b) rfl
    have c4 := blk_cell hB 4 (v := .int .i64 i) rfl
    have GX := Lib.hid gx
    clear gx hX hB
    go_upto_region 12 with (go_at_call 78; refine (r_field _ _ _ _ (by first | exact I0.out | exact I1.out | exact I2.out | exact I3.out | exact I4.out | exact I5.out) (by decide) _).mono ?_; rintro e w7 ⟨rfl, rfl⟩)
    have q1 := fldI_in rd 0 5 7 (by decide)
    have q2 := fldI_in f3 0 3 12 (by decide)
    have q3 := fldI_in a 0 5 15 (by decide)
    have q4 := fldI_in b 0 5 20 (by decide)
    have q5 := fldI_in f7 0 7 25 (by decide)
    have p3 := fldI_in i 0 6 20 (by decide)
    clear c0 c1 c2 c3 c4
    go_upto_region 23 with fail
    go_quiet ((go_at_call 78; exact Calls.quiet_of_same (r_field _ _ _ _ (by first | exact I0.out | exact I5.out) (by decide) _)))
    go_wp2_with fail
    all_goals
      go_ret2
      obtain ⟨he, hl⟩ := HE.out
      exact ⟨ret_ue (by rw [← he] at hl ⊢; omega) rfl, gtrans GX.out (gr_dN _ nq)⟩
set_option maxHeartbeats 3200000 in
theorem r_enc_86 (k : Nat) (hk : k < 88) (h1 : 1 ≤ k) (hv : fmT k = 86) (rd a b i : Int) (hi : i64 i) (hm : mayF (k : Int) rd a b i = true) (hrd : 0 ≤ rd ∧ rd < 32) (ha : 0 ≤ a ∧ a < 32) (hb : 0 ≤ b ∧ b < 32) (w : World) : Calls Tryz.prog 49 #[iv (k : Int) rd a b i] w fun e w' => e = .returned (.tuple #[.int .u32 (encF k rd a b i), .int .i64 0]) ∧ Gr w w' := by
  have hfr : frT k = ⟨#[86]⟩ := by rw [fr_is k hk h1, hv]; rfl

  have hrc := rc_in k hk
  have HE := Lib.hid (enc_sum_86 k hk h1 hv rd a b i hi hm hrd ha hb)
  have hr3 := r3_in k hk
  have hr7 := r7_in k hk
  have HF := Lib.hid hfr
  clear hfr hv
  have k1 : ¬ (k : Int) < 1 := by omega
  have k2 : ¬ (87 : Int) < k := by omega
  have k3 : (0 : Int) ≤ k := by omega
  have k4 : (k : Int) < 88 := by omega
  have CM : Hid (∀ w, Calls Tryz.prog 77 #[iv (k : Int) rd a b i] w fun e w' => e = .returned (.bool true) ∧ Gr w w') := Lib.hid (fun w => by have := r_may (k : Int) rd a b i hi w; rw [hm] at this; exact this)
  have CR : Hid (∀ w, Calls Tryz.prog 74 #[] w fun e w' => ∃ N, e = .returned (.slice (some ⟨N, 0, none⟩) 88 88) ∧ Gr w w' ∧ w'.heap[N]? = some (.cells rowsC 136)) := Lib.hid (fun w => (r_rows w).mono fun e w' h => ⟨w.heap.size, h⟩)
  have RC := Lib.hid (fun j (hj : j < 5) => rows_cell (k := k) hk hj)
  have I0 : Hid (i64 i) := Lib.hid hi
  have I1 : Hid (i64 rd) := Lib.hid (by unfold i64; omega)
  have I2 : Hid (i64 a) := Lib.hid (by unfold i64; omega)
  have I3 : Hid (i64 b) := Lib.hid (by unfold i64; omega)
  have I4 : Hid (i64 (r3T k)) := Lib.hid (by unfold i64; omega)
  have I5 : Hid (i64 (r7T k)) := Lib.hid (by unfold i64; omega)
  clear hm hi
  have gb : Gr w (w.alloc (.cells #[.int .i64 (k : Int), .int .i64 rd, .int .i64 a, .int .i64 b, .int .i64 i] 61)) := (Gr.refl w).alloc (Nat.le_refl _) _
  have hB : (w.alloc (.cells #[.int .i64 (k : Int), .int .i64 rd, .int .i64 a, .int .i64 b, .int .i64 i] 61)).heap[w.heap.size]? = some (.cells #[.int .i64 (k : Int), .int .i64 rd, .int .i64 a, .int .i64 b, .int .i64 i] 61) := blk_new w _
  go_enter Tryz.func49, Tryz.ntmps49
  go_upto_region 1 with fail
  generalize w.alloc (.cells #[.int .i64 (k : Int), .int .i64 rd, .int .i64 a, .int .i64 b, .int .i64 i] 61) = wb at *
  generalize w.heap.size = B0 at *
  obtain ⟨B, rfl⟩ : ∃ B, B = B0 := ⟨_, rfl⟩
  have c0 := blk_cell hB 0 (v := .int .i64 (k : Int)) rfl
  have c1 := blk_cell hB 1 (v := .int .i64 rd) rfl
  have c2 := blk_cell hB 2 (v := .int .i64 a) rfl
  have c3 := blk_cell hB 3 (v := .int .i64 b) rfl
  have c4 := blk_cell hB 4 (v := .int .i64 i) rfl
  have HB0 := Lib.hid hB
  have GB0 := Lib.hid gb
  clear hB gb
  go_upto_region 2 with (go_at_call 77; refine (CM.out _).mono ?_; rintro e w5 ⟨rfl, g5⟩)
  have hB := blk_gr g5 HB0.out
  have GB := Lib.hid (gtrans GB0.out g5)
  clear c0 c1 c2 c3 c4 g5 GB0 HB0 CM
  have HB := Lib.hid hB
  have c0 := blk_cell hB 0 (v := .int .i64 (k : Int)) rfl
  clear hB
  go_upto_region 4 with fail
  have lB0 := cell_lt c0
  go_cut [5] from 4 (fun s6 wx => ∃ X : Nat, s6 = .pointer (some ⟨X, 0, none⟩) ∧ Gr w wx ∧ wx.heap[X]? = some (.cells #[.string (nmT k), .string (frT k), .int .u32 (rcT k), .int .u32 (r3T k), .int .u32 (r7T k)] 136) ∧ wx.heap[B]? = some (.cells #[.int .i64 (k : Int), .int .i64 rd, .int .i64 a, .int .i64 b, .int .i64 i] 61))
  case first =>
    first
      | (go_region_with (go_at_call 74; refine (CR.out _).mono ?_; rintro e w6 ⟨N, rfl, g6, h6⟩; have h7 := blk_gr g6 (by first | exact HB.out | exact blk_alloc _ HB.out); have f0 := blk_cell h7 0 (v := .int .i64 (k : Int)) rfl; have e0 := blk_cell h6 (k * 5) (v := .string (nmT k)) ((RC.out 0 (by decide)).trans rfl); have e1 := blk_cell h6 (k * 5 + 1) (v := .string (frT k)) ((RC.out 1 (by decide)).trans rfl); have e2 := blk_cell h6 (k * 5 + 2) (v := .int .u32 (rcT k)) ((RC.out 2 (by decide)).trans rfl); have e3 := blk_cell h6 (k * 5 + 3) (v := .int .u32 (r3T k)) ((RC.out 3 (by decide)).trans rfl); have e4 := blk_cell h6 (k * 5 + 4) (v := .int .u32 (r7T k)) ((RC.out 4 (by decide)).trans rfl); have lN := cell_lt e0; have lB := cell_lt f0; try (have x7 : w6.heap[w5.heap.size]? = _ := blk_gr g6 (blk_new w5.drew _); have y0 := blk_cell x7 0 rfl; have z0 := blk_frozen x7 0; have y1 := blk_cell x7 1 rfl; have z1 := blk_frozen x7 1; have y2 := blk_cell x7 2 rfl; have z2 := blk_frozen x7 2; have y3 := blk_cell x7 3 rfl; have z3 := blk_frozen x7 3; have y4 := blk_cell x7 4 rfl; have z4 := blk_frozen x7 4; have lX := cell_lt y0)))
      | fail
    all_goals
      go_wp2_with fail
      go_meet
      case rel =>
        first
          | exact ⟨_, rfl, gr_al (gtrans GB.out (undrew g6)) _, blk_new w6 _, blk_alloc _ h7⟩
          | exact ⟨_, rfl, Below.setCell (Below.setCell (Below.setCell (Below.setCell (Below.setCell (gtrans GB.out (undrew (gtrans (gr_al (Gr.refl _) _) g6))) GB.out.size _) GB.out.size _) GB.out.size _) GB.out.size _) GB.out.size _, blk_set (blk_set (blk_set (blk_set (blk_set x7 0 _) 1 _) 2 _) 3 _) 4 _, blk_other (blk_other (blk_other (blk_other (blk_other h7 _ _ (Nat.ne_of_lt lB0)) _ _ (Nat.ne_of_lt lB0)) _ _ (Nat.ne_of_lt lB0)) _ _ (Nat.ne_of_lt lB0)) _ _ (Nat.ne_of_lt lB0)⟩
  case rest =>
    clear CR RC HB GB c0 lB0
    obtain ⟨X, rfl, gx, hX, hB⟩ := hcut
    rw [HF.out] at hX
    generalize rcT k = rc at *
    generalize r3T k = f3 at *
    generalize r7T k = f7 at *
    have x1 := blk_cell hX 1 (v := .string ⟨#[86]⟩) rfl
    have x2 := blk_cell hX 2 (v := .int .u32 rc) rfl
    have x3 := blk_cell hX 3 (v := .int .u32 f3) rfl
    have x4 := blk_cell hX 4 (v := .int .u32 f7) rfl
    have c0 := blk_cell hB 0 (v := .int .i64 (k : Int)) rfl
    have c1 := blk_cell hB 1 (v := .int .i64 rd) rfl
    have c2 := blk_cell hB 2 (v := .int .i64 a) rfl
    have c3 := blk_cell hB 3 (v := .int .i64 b) rfl
    have c4 := blk_cell hB 4 (v := .int .i64 i) rfl
    have GX := Lib.hid gx
    clear gx hX hB
    go_upto_region 12 with (go_at_call 78; refine (r_field _ _ _ _ (by first | exact I0.out | exact I1.out | exact I2.out | exact I3.out | exact I4.out | exact I5.out) (by decide) _).mono ?_; rintro e w7 ⟨rfl, rfl⟩)
    have q1 := fldI_in rd 0 5 7 (by decide)
    have q2 := fldI_in f3 0 3 12 (by decide)
    have q3 := fldI_in a 0 5 15 (by decide)
    have q4 := fldI_in b 0 5 20 (by decide)
    have q5 := fldI_in f7 0 7 25 (by decide)
    have p3 := fldI_in i 0 5 20 (by decide)
    clear c0 c1 c2 c3 c4
    go_upto_region 25 with fail
    go_quiet ((go_at_call 78; exact Calls.quiet_of_same (r_field _ _ _ _ (by first | exact I0.out | exact I5.out) (by decide) _)))
    go_wp2_with fail
    all_goals
      go_ret2
      obtain ⟨he, hl⟩ := HE.out
      exact ⟨ret_ue (by rw [← he] at hl ⊢; omega) rfl, gtrans GX.out (gr_dN _ nq)⟩
end Go.Proofs.YtngeabphjdfdgaaGreatDoor.P
namespace Go.Proofs.YtngeabphjdfdgaaGreatDoor.P
open Go.RowKit
set_option maxHeartbeats 3200000 in
theorem r_enc_82 (k : Nat) (hk : k < 88) (h1 : 1 ≤ k) (hv : fmT k = 82) (rd a b i : Int) (hi : i64 i) (hm : mayF (k : Int) rd a b i = true) (hrd : 0 ≤ rd ∧ rd < 32) (ha : 0 ≤ a ∧ a < 32) (hb : 0 ≤ b ∧ b < 32) (w : World) : Calls Tryz.prog 49 #[iv (k : Int) rd a b i] w fun e w' => e = .returned (.tuple #[.int .u32 (encF k rd a b i), .int .i64 0]) ∧ Gr w w' := by
  have hfr : frT k = ⟨#[82]⟩ := by rw [fr_is k hk h1, hv]; rfl

  have hrc := rc_in k hk
  have HE := Lib.hid (enc_sum_82 k hk h1 hv rd a b i hi hm hrd ha hb)
  have hr3 := r3_in k hk
  have hr7 := r7_in k hk
  have HF := Lib.hid hfr
  clear hfr hv
  have k1 : ¬ (k : Int) < 1 := by omega
  have k2 : ¬ (87 : Int) < k := by omega
  have k3 : (0 : Int) ≤ k := by omega
  have k4 : (k : Int) < 88 := by omega
  have CM : Hid (∀ w, Calls Tryz.prog 77 #[iv (k : Int) rd a b i] w fun e w' => e = .returned (.bool true) ∧ Gr w w') := Lib.hid (fun w => by have := r_may (k : Int) rd a b i hi w; rw [hm] at this; exact this)
  have CR : Hid (∀ w, Calls Tryz.prog 74 #[] w fun e w' => ∃ N, e = .returned (.slice (some ⟨N, 0, none⟩) 88 88) ∧ Gr w w' ∧ w'.heap[N]? = some (.cells rowsC 136)) := Lib.hid (fun w => (r_rows w).mono fun e w' h => ⟨w.heap.size, h⟩)
  have RC := Lib.hid (fun j (hj : j < 5) => rows_cell (k := k) hk hj)
  have I0 : Hid (i64 i) := Lib.hid hi
  have I1 : Hid (i64 rd) := Lib.hid (by unfold i64; omega)
  have I2 : Hid (i64 a) := Lib.hid (by unfold i64; omega)
  have I3 : Hid (i64 b) := Lib.hid (by unfold i64; omega)
  have I4 : Hid (i64 (r3T k)) := Lib.hid (by unfold i64; omega)
  have I5 : Hid (i64 (r7T k)) := Lib.hid (by unfold i64; omega)
  clear hm hi
  have gb : Gr w (w.alloc (.cells #[.int .i64 (k : Int), .int .i64 rd, .int .i64 a, .int .i64 b, .int .i64 i] 61)) := (Gr.refl w).alloc (Nat.le_refl _) _
  have hB : (w.alloc (.cells #[.int .i64 (k : Int), .int .i64 rd, .int .i64 a, .int .i64 b, .int .i64 i] 61)).heap[w.heap.size]? = some (.cells #[.int .i64 (k : Int), .int .i64 rd, .int .i64 a, .int .i64 b, .int .i64 i] 61) := blk_new w _
  go_enter Tryz.func49, Tryz.ntmps49
  go_upto_region 1 with fail
  generalize w.alloc (.cells #[.int .i64 (k : Int), .int .i64 rd, .int .i64 a, .int .i64 b, .int .i64 i] 61) = wb at *
  generalize w.heap.size = B0 at *
  obtain ⟨B, rfl⟩ : ∃ B, B = B0 := ⟨_, rfl⟩
  have c0 := blk_cell hB 0 (v := .int .i64 (k : Int)) rfl
  have c1 := blk_cell hB 1 (v := .int .i64 rd) rfl
  have c2 := blk_cell hB 2 (v := .int .i64 a) rfl
  have c3 := blk_cell hB 3 (v := .int .i64 b) rfl
  have c4 := blk_cell hB 4 (v := .int .i64 i) rfl
  have HB0 := Lib.hid hB
  have GB0 := Lib.hid gb
  clear hB gb
  go_upto_region 2 with (go_at_call 77; refine (CM.out _).mono ?_; rintro e w5 ⟨rfl, g5⟩)
  have hB := blk_gr g5 HB0.out
  have GB := Lib.hid (gtrans GB0.out g5)
  clear c0 c1 c2 c3 c4 g5 GB0 HB0 CM
  have HB := Lib.hid hB
  have c0 := blk_cell hB 0 (v := .int .i64 (k : Int)) rfl
  clear hB
  go_upto_region 4 with fail
  have lB0 := cell_lt c0
  go_cut [5] from 4 (fun s6 wx => ∃ X : Nat, s6 = .pointer (some ⟨X, 0, none⟩) ∧ Gr w wx ∧ wx.heap[X]? = some (.cells #[.string (nmT k), .string (frT k), .int .u32 (rcT k), .int .u32 (r3T k), .int .u32 (r7T k)] 136) ∧ wx.heap[B]? = some (.cells #[.int .i64 (k : Int), .int .i64 rd, .int .i64 a, .int .i64 b, .int .i64 i] 61))
  case first =>
    first
      | (go_region_with (go_at_call 74; refine (CR.out _).mono ?_; rintro e w6 ⟨N, rfl, g6, h6⟩; have h7 := blk_gr g6 (by first | exact HB.out | exact blk_alloc _ HB.out); have f0 := blk_cell h7 0 (v := .int .i64 (k : Int)) rfl; have e0 := blk_cell h6 (k * 5) (v := .string (nmT k)) ((RC.out 0 (by decide)).trans rfl); have e1 := blk_cell h6 (k * 5 + 1) (v := .string (frT k)) ((RC.out 1 (by decide)).trans rfl); have e2 := blk_cell h6 (k * 5 + 2) (v := .int .u32 (rcT k)) ((RC.out 2 (by decide)).trans rfl); have e3 := blk_cell h6 (k * 5 + 3) (v := .int .u32 (r3T k)) ((RC.out 3 (by decide)).trans rfl); have e4 := blk_cell h6 (k * 5 + 4) (v := .int .u32 (r7T k)) ((RC.out 4 (by decide)).trans rfl); have lN := cell_lt e0; have lB := cell_lt f0; try (have x7 : w6.heap[w5.heap.size]? = _ := blk_gr g6 (blk_new w5.drew _); have y0 := blk_cell x7 0 rfl; have z0 := blk_frozen x7 0; have y1 := blk_cell x7 1 rfl; have z1 := blk_frozen x7 1; have y2 := blk_cell x7 2 rfl; have z2 := blk_frozen x7 2; have y3 := blk_cell x7 3 rfl; have z3 := blk_frozen x7 3; have y4 := blk_cell x7 4 rfl; have z4 := blk_frozen x7 4; have lX := cell_lt y0)))
      | fail
    all_goals
      go_wp2_with fail
      go_meet
      case rel =>
        first
          | exact ⟨_, rfl, gr_al (gtrans GB.out (undrew g6)) _, blk_new w6 _, blk_alloc _ h7⟩
          | exact ⟨_, rfl, Below.setCell (Below.setCell (Below.setCell (Below.setCell (Below.setCell (gtrans GB.out (undrew (gtrans (gr_al (Gr.refl _) _) g6))) GB.out.size _) GB.out.size _) GB.out.size _) GB.out.size _) GB.out.size _, blk_set (blk_set (blk_set (blk_set (blk_set x7 0 _) 1 _) 2 _) 3 _) 4 _, blk_other (blk_other (blk_other (blk_other (blk_other h7 _ _ (Nat.ne_of_lt lB0)) _ _ (Nat.ne_of_lt lB0)) _ _ (Nat.ne_of_lt lB0)) _ _ (Nat.ne_of_lt lB0)) _ _ (Nat.ne_of_lt lB0)⟩
  case rest =>
    clear CR RC HB GB c0 lB0
    obtain ⟨X, rfl, gx, hX, hB⟩ := hcut
    rw [HF.out] at hX
    generalize rcT k = rc at *
    generalize r3T k = f3 at *
    generalize r7T k = f7 at *
    have x1 := blk_cell hX 1 (v := .string ⟨#[82]⟩) rfl
    have x2 := blk_cell hX 2 (v := .int .u32 rc) rfl
    have x3 := blk_cell hX 3 (v := .int .u32 f3) rfl
    have x4 := blk_cell hX 4 (v := .int .u32 f7) rfl
    have c0 := blk_cell hB 0 (v := .int .i64 (k : Int)) rfl
    have c1 := blk_cell hB 1 (v := .int .i64 rd) rfl
    have c2 := blk_cell hB 2 (v := .int .i64 a) rfl
    have c3 := blk_cell hB 3 (v := .int .i64 b) rfl
    have c4 := blk_cell hB 4 (v := .int .i64 i) rfl
    have GX := Lib.hid gx
    clear gx hX hB
    go_upto_region 12 with (go_at_call 78; refine (r_field _ _ _ _ (by first | exact I0.out | exact I1.out | exact I2.out | exact I3.out | exact I4.out | exact I5.out) (by decide) _).mono ?_; rintro e w7 ⟨rfl, rfl⟩)
    have q1 := fldI_in rd 0 5 7 (by decide)
    have q2 := fldI_in f3 0 3 12 (by decide)
    have q3 := fldI_in a 0 5 15 (by decide)
    have q4 := fldI_in b 0 5 20 (by decide)
    have q5 := fldI_in f7 0 7 25 (by decide)

    clear c0 c1 c2 c3 c4
    go_wp2_with fail
    all_goals
      go_ret2
      obtain ⟨he, hl⟩ := HE.out
      exact ⟨ret_ue (by rw [← he] at hl ⊢; first | done | omega) rfl, GX.out⟩
set_option maxHeartbeats 3200000 in
theorem r_enc_65 (k : Nat) (hk : k < 88) (h1 : 1 ≤ k) (hv : fmT k = 65) (rd a b i : Int) (hi : i64 i) (hm : mayF (k : Int) rd a b i = true) (hrd : 0 ≤ rd ∧ rd < 32) (ha : 0 ≤ a ∧ a < 32) (hb : 0 ≤ b ∧ b < 32) (w : World) : Calls Tryz.prog 49 #[iv (k : Int) rd a b i] w fun e w' => e = .returned (.tuple #[.int .u32 (encF k rd a b i), .int .i64 0]) ∧ Gr w w' := by
  have hfr : frT k = ⟨#[65]⟩ := by rw [fr_is k hk h1, hv]; rfl

  have hrc := rc_in k hk
  have HE := Lib.hid (enc_sum_65 k hk h1 hv rd a b i hi hm hrd ha hb)
  have hr3 := r3_in k hk
  have hr7 := r7_in k hk
  have HF := Lib.hid hfr
  clear hfr hv
  have k1 : ¬ (k : Int) < 1 := by omega
  have k2 : ¬ (87 : Int) < k := by omega
  have k3 : (0 : Int) ≤ k := by omega
  have k4 : (k : Int) < 88 := by omega
  have CM : Hid (∀ w, Calls Tryz.prog 77 #[iv (k : Int) rd a b i] w fun e w' => e = .returned (.bool true) ∧ Gr w w') := Lib.hid (fun w => by have := r_may (k : Int) rd a b i hi w; rw [hm] at this; exact this)
  have CR : Hid (∀ w, Calls Tryz.prog 74 #[] w fun e w' => ∃ N, e = .returned (.slice (some ⟨N, 0, none⟩) 88 88) ∧ Gr w w' ∧ w'.heap[N]? = some (.cells rowsC 136)) := Lib.hid (fun w => (r_rows w).mono fun e w' h => ⟨w.heap.size, h⟩)
  have RC := Lib.hid (fun j (hj : j < 5) => rows_cell (k := k) hk hj)
  have I0 : Hid (i64 i) := Lib.hid hi
  have I1 : Hid (i64 rd) := Lib.hid (by unfold i64; omega)
  have I2 : Hid (i64 a) := Lib.hid (by unfold i64; omega)
  have I3 : Hid (i64 b) := Lib.hid (by unfold i64; omega)
  have I4 : Hid (i64 (r3T k)) := Lib.hid (by unfold i64; omega)
  have I5 : Hid (i64 (r7T k)) := Lib.hid (by unfold i64; omega)
  clear hm hi
  have gb : Gr w (w.alloc (.cells #[.int .i64 (k : Int), .int .i64 rd, .int .i64 a, .int .i64 b, .int .i64 i] 61)) := (Gr.refl w).alloc (Nat.le_refl _) _
  have hB : (w.alloc (.cells #[.int .i64 (k : Int), .int .i64 rd, .int .i64 a, .int .i64 b, .int .i64 i] 61)).heap[w.heap.size]? = some (.cells #[.int .i64 (k : Int), .int .i64 rd, .int .i64 a, .int .i64 b, .int .i64 i] 61) := blk_new w _
  go_enter Tryz.func49, Tryz.ntmps49
  go_upto_region 1 with fail
  generalize w.alloc (.cells #[.int .i64 (k : Int), .int .i64 rd, .int .i64 a, .int .i64 b, .int .i64 i] 61) = wb at *
  generalize w.heap.size = B0 at *
  obtain ⟨B, rfl⟩ : ∃ B, B = B0 := ⟨_, rfl⟩
  have c0 := blk_cell hB 0 (v := .int .i64 (k : Int)) rfl
  have c1 := blk_cell hB 1 (v := .int .i64 rd) rfl
  have c2 := blk_cell hB 2 (v := .int .i64 a) rfl
  have c3 := blk_cell hB 3 (v := .int .i64 b) rfl
  have c4 := blk_cell hB 4 (v := .int .i64 i) rfl
  have HB0 := Lib.hid hB
  have GB0 := Lib.hid gb
  clear hB gb
  go_upto_region 2 with (go_at_call 77; refine (CM.out _).mono ?_; rintro e w5 ⟨rfl, g5⟩)
  have hB := blk_gr g5 HB0.out
  have GB := Lib.hid (gtrans GB0.out g5)
  clear c0 c1 c2 c3 c4 g5 GB0 HB0 CM
  have HB := Lib.hid hB
  have c0 := blk_cell hB 0 (v := .int .i64 (k : Int)) rfl
  clear hB
  go_upto_region 4 with fail
  have lB0 := cell_lt c0
  go_cut [5] from 4 (fun s6 wx => ∃ X : Nat, s6 = .pointer (some ⟨X, 0, none⟩) ∧ Gr w wx ∧ wx.heap[X]? = some (.cells #[.string (nmT k), .string (frT k), .int .u32 (rcT k), .int .u32 (r3T k), .int .u32 (r7T k)] 136) ∧ wx.heap[B]? = some (.cells #[.int .i64 (k : Int), .int .i64 rd, .int .i64 a, .int .i64 b, .int .i64 i] 61))
  case first =>
    first
      | (go_region_with (go_at_call 74; refine (CR.out _).mono ?_; rintro e w6 ⟨N, rfl, g6, h6⟩; have h7 := blk_gr g6 (by first | exact HB.out | exact blk_alloc _ HB.out); have f0 := blk_cell h7 0 (v := .int .i64 (k : Int)) rfl; have e0 := blk_cell h6 (k * 5) (v := .string (nmT k)) ((RC.out 0 (by decide)).trans rfl); have e1 := blk_cell h6 (k * 5 + 1) (v := .string (frT k)) ((RC.out 1 (by decide)).trans rfl); have e2 := blk_cell h6 (k * 5 + 2) (v := .int .u32 (rcT k)) ((RC.out 2 (by decide)).trans rfl); have e3 := blk_cell h6 (k * 5 + 3) (v := .int .u32 (r3T k)) ((RC.out 3 (by decide)).trans rfl); have e4 := blk_cell h6 (k * 5 + 4) (v := .int .u32 (r7T k)) ((RC.out 4 (by decide)).trans rfl); have lN := cell_lt e0; have lB := cell_lt f0; try (have x7 : w6.heap[w5.heap.size]? = _ := blk_gr g6 (blk_new w5.drew _); have y0 := blk_cell x7 0 rfl; have z0 := blk_frozen x7 0; have y1 := blk_cell x7 1 rfl; have z1 := blk_frozen x7 1; have y2 := blk_cell x7 2 rfl; have z2 := blk_frozen x7 2; have y3 := blk_cell x7 3 rfl; have z3 := blk_frozen x7 3; have y4 := blk_cell x7 4 rfl; have z4 := blk_frozen x7 4; have lX := cell_lt y0)))
      | fail
    all_goals
      go_wp2_with fail
      go_meet
      case rel =>
        first
          | exact ⟨_, rfl, gr_al (gtrans GB.out (undrew g6)) _, blk_new w6 _, blk_alloc _ h7⟩
          | exact ⟨_, rfl, Below.setCell (Below.setCell (Below.setCell (Below.setCell (Below.setCell (gtrans GB.out (undrew (gtrans (gr_al (Gr.refl _) _) g6))) GB.out.size _) GB.out.size _) GB.out.size _) GB.out.size _) GB.out.size _, blk_set (blk_set (blk_set (blk_set (blk_set x7 0 _) 1 _) 2 _) 3 _) 4 _, blk_other (blk_other (blk_other (blk_other (blk_other h7 _ _ (Nat.ne_of_lt lB0)) _ _ (Nat.ne_of_lt lB0)) _ _ (Nat.ne_of_lt lB0)) _ _ (Nat.ne_of_lt lB0)) _ _ (Nat.ne_of_lt lB0)⟩
  case rest =>
    clear CR RC HB GB c0 lB0
    obtain ⟨X, rfl, gx, hX, hB⟩ := hcut
    rw [HF.out] at hX
    generalize rcT k = rc at *
    generalize r3T k = f3 at *
    generalize r7T k = f7 at *
    have x1 := blk_cell hX 1 (v := .string ⟨#[65]⟩) rfl
    have x2 := blk_cell hX 2 (v := .int .u32 rc) rfl
    have x3 := blk_cell hX 3 (v := .int .u32 f3) rfl
    have x4 := blk_cell hX 4 (v := .int .u32 f7) rfl
    have c0 := blk_cell hB 0 (v := .int .i64 (k : Int)) rfl
    have c1 := blk_cell hB 1 (v := .int .i64 rd) rfl
    have c2 := blk_cell hB 2 (v := .int .i64 a) rfl
    have c3 := blk_cell hB 3 (v := .int .i64 b) rfl
    have c4 := blk_cell hB 4 (v := .int .i64 i) rfl
    have GX := Lib.hid gx
    clear gx hX hB
    go_upto_region 12 with (go_at_call 78; refine (r_field _ _ _ _ (by first | exact I0.out | exact I1.out | exact I2.out | exact I3.out | exact I4.out | exact I5.out) (by decide) _).mono ?_; rintro e w7 ⟨rfl, rfl⟩)
    have q1 := fldI_in rd 0 5 7 (by decide)
    have q2 := fldI_in f3 0 3 12 (by decide)
    have q3 := fldI_in a 0 5 15 (by decide)
    have q4 := fldI_in b 0 5 20 (by decide)
    have q5 := fldI_in f7 0 7 25 (by decide)
    have p4 := fldI_in i 0 2 25 (by decide)
    have p5 := fldI_in f7 0 5 27 (by decide)
    clear c0 c1 c2 c3 c4
    go_upto_region 29 with fail
    go_quiet ((go_at_call 78; exact Calls.quiet_of_same (r_field _ _ _ _ (by first | exact I0.out | exact I5.out) (by decide) _)))
    go_wp2_with fail
    all_goals
      go_ret2
      obtain ⟨he, hl⟩ := HE.out
      exact ⟨ret_ue (by rw [← he] at hl ⊢; first | done | omega) rfl, gtrans GX.out (gr_dN _ nq)⟩
set_option maxHeartbeats 3200000 in
theorem r_enc_78 (k : Nat) (hk : k < 88) (h1 : 1 ≤ k) (hv : fmT k = 78) (rd a b i : Int) (hi : i64 i) (hm : mayF (k : Int) rd a b i = true) (hrd : 0 ≤ rd ∧ rd < 32) (ha : 0 ≤ a ∧ a < 32) (hb : 0 ≤ b ∧ b < 32) (w : World) : Calls Tryz.prog 49 #[iv (k : Int) rd a b i] w fun e w' => e = .returned (.tuple #[.int .u32 (encF k rd a b i), .int .i64 0]) ∧ Gr w w' := by
  have hfr : frT k = ⟨#[78]⟩ := by rw [fr_is k hk h1, hv]; rfl

  have hrc := rc_in k hk
  have HE := Lib.hid (enc_sum_78 k hk h1 hv rd a b i hi hm hrd ha hb)
  have hr3 := r3_in k hk
  have hr7 := r7_in k hk
  have HF := Lib.hid hfr
  clear hfr hv
  have k1 : ¬ (k : Int) < 1 := by omega
  have k2 : ¬ (87 : Int) < k := by omega
  have k3 : (0 : Int) ≤ k := by omega
  have k4 : (k : Int) < 88 := by omega
  have CM : Hid (∀ w, Calls Tryz.prog 77 #[iv (k : Int) rd a b i] w fun e w' => e = .returned (.bool true) ∧ Gr w w') := Lib.hid (fun w => by have := r_may (k : Int) rd a b i hi w; rw [hm] at this; exact this)
  have CR : Hid (∀ w, Calls Tryz.prog 74 #[] w fun e w' => ∃ N, e = .returned (.slice (some ⟨N, 0, none⟩) 88 88) ∧ Gr w w' ∧ w'.heap[N]? = some (.cells rowsC 136)) := Lib.hid (fun w => (r_rows w).mono fun e w' h => ⟨w.heap.size, h⟩)
  have RC := Lib.hid (fun j (hj : j < 5) => rows_cell (k := k) hk hj)
  have I0 : Hid (i64 i) := Lib.hid hi
  have I1 : Hid (i64 rd) := Lib.hid (by unfold i64; omega)
  have I2 : Hid (i64 a) := Lib.hid (by unfold i64; omega)
  have I3 : Hid (i64 b) := Lib.hid (by unfold i64; omega)
  have I4 : Hid (i64 (r3T k)) := Lib.hid (by unfold i64; omega)
  have I5 : Hid (i64 (r7T k)) := Lib.hid (by unfold i64; omega)
  clear hm hi
  have gb : Gr w (w.alloc (.cells #[.int .i64 (k : Int), .int .i64 rd, .int .i64 a, .int .i64 b, .int .i64 i] 61)) := (Gr.refl w).alloc (Nat.le_refl _) _
  have hB : (w.alloc (.cells #[.int .i64 (k : Int), .int .i64 rd, .int .i64 a, .int .i64 b, .int .i64 i] 61)).heap[w.heap.size]? = some (.cells #[.int .i64 (k : Int), .int .i64 rd, .int .i64 a, .int .i64 b, .int .i64 i] 61) := blk_new w _
  go_enter Tryz.func49, Tryz.ntmps49
  go_upto_region 1 with fail
  generalize w.alloc (.cells #[.int .i64 (k : Int), .int .i64 rd, .int .i64 a, .int .i64 b, .int .i64 i] 61) = wb at *
  generalize w.heap.size = B0 at *
  obtain ⟨B, rfl⟩ : ∃ B, B = B0 := ⟨_, rfl⟩
  have c0 := blk_cell hB 0 (v := .int .i64 (k : Int)) rfl
  have c1 := blk_cell hB 1 (v := .int .i64 rd) rfl
  have c2 := blk_cell hB 2 (v := .int .i64 a) rfl
  have c3 := blk_cell hB 3 (v := .int .i64 b) rfl
  have c4 := blk_cell hB 4 (v := .int .i64 i) rfl
  have HB0 := Lib.hid hB
  have GB0 := Lib.hid gb
  clear hB gb
  go_upto_region 2 with (go_at_call 77; refine (CM.out _).mono ?_; rintro e w5 ⟨rfl, g5⟩)
  have hB := blk_gr g5 HB0.out
  have GB := Lib.hid (gtrans GB0.out g5)
  clear c0 c1 c2 c3 c4 g5 GB0 HB0 CM
  have HB := Lib.hid hB
  have c0 := blk_cell hB 0 (v := .int .i64 (k : Int)) rfl
  clear hB
  go_upto_region 4 with fail
  have lB0 := cell_lt c0
  go_cut [5] from 4 (fun s6 wx => ∃ X : Nat, s6 = .pointer (some ⟨X, 0, none⟩) ∧ Gr w wx ∧ wx.heap[X]? = some (.cells #[.string (nmT k), .string (frT k), .int .u32 (rcT k), .int .u32 (r3T k), .int .u32 (r7T k)] 136) ∧ wx.heap[B]? = some (.cells #[.int .i64 (k : Int), .int .i64 rd, .int .i64 a, .int .i64 b, .int .i64 i] 61))
  case first =>
    first
      | (go_region_with (go_at_call 74; refine (CR.out _).mono ?_; rintro e w6 ⟨N, rfl, g6, h6⟩; have h7 := blk_gr g6 (by first | exact HB.out | exact blk_alloc _ HB.out); have f0 := blk_cell h7 0 (v := .int .i64 (k : Int)) rfl; have e0 := blk_cell h6 (k * 5) (v := .string (nmT k)) ((RC.out 0 (by decide)).trans rfl); have e1 := blk_cell h6 (k * 5 + 1) (v := .string (frT k)) ((RC.out 1 (by decide)).trans rfl); have e2 := blk_cell h6 (k * 5 + 2) (v := .int .u32 (rcT k)) ((RC.out 2 (by decide)).trans rfl); have e3 := blk_cell h6 (k * 5 + 3) (v := .int .u32 (r3T k)) ((RC.out 3 (by decide)).trans rfl); have e4 := blk_cell h6 (k * 5 + 4) (v := .int .u32 (r7T k)) ((RC.out 4 (by decide)).trans rfl); have lN := cell_lt e0; have lB := cell_lt f0; try (have x7 : w6.heap[w5.heap.size]? = _ := blk_gr g6 (blk_new w5.drew _); have y0 := blk_cell x7 0 rfl; have z0 := blk_frozen x7 0; have y1 := blk_cell x7 1 rfl; have z1 := blk_frozen x7 1; have y2 := blk_cell x7 2 rfl; have z2 := blk_frozen x7 2; have y3 := blk_cell x7 3 rfl; have z3 := blk_frozen x7 3; have y4 := blk_cell x7 4 rfl; have z4 := blk_frozen x7 4; have lX := cell_lt y0)))
      | fail
    all_goals
      go_wp2_with fail
      go_meet
      case rel =>
        first
          | exact ⟨_, rfl, gr_al (gtrans GB.out (undrew g6)) _, blk_new w6 _, blk_alloc _ h7⟩
          | exact ⟨_, rfl, Below.setCell (Below.setCell (Below.setCell (Below.setCell (Below.setCell (gtrans GB.out (undrew (gtrans (gr_al (Gr.refl _) _) g6))) GB.out.size _) GB.out.size _) GB.out.size _) GB.out.size _) GB.out.size _, blk_set (blk_set (blk_set (blk_set (blk_set x7 0 _) 1 _) 2 _) 3 _) 4 _, blk_other (blk_other (blk_other (blk_other (blk_other h7 _ _ (Nat.ne_of_lt lB0)) _ _ (Nat.ne_of_lt lB0)) _ _ (Nat.ne_of_lt lB0)) _ _ (Nat.ne_of_lt lB0)) _ _ (Nat.ne_of_lt lB0)⟩
  case rest =>
    clear CR RC HB GB c0 lB0
    obtain ⟨X, rfl, gx, hX, hB⟩ := hcut
    rw [HF.out] at hX
    generalize rcT k = rc at *
    generalize r3T k = f3 at *
    generalize r7T k = f7 at *
    have x1 := blk_cell hX 1 (v := .string ⟨#[78]⟩) rfl
    have x2 := blk_cell hX 2 (v := .int .u32 rc) rfl
    have x3 := blk_cell hX 3 (v := .int .u32 f3) rfl
    have x4 := blk_cell hX 4 (v := .int .u32 f7) rfl
    have c0 := blk_cell hB 0 (v := .int .i64 (k : Int)) rfl
    have c1 := blk_cell hB 1 (v := .int .i64 rd) rfl
    have c2 := blk_cell hB 2 (v := .int .i64 a) rfl
    have c3 := blk_cell hB 3 (v := .int .i64 b) rfl
    have c4 := blk_cell hB 4 (v := .int .i64 i) rfl
    have GX := Lib.hid gx
    clear gx hX hB
    go_upto_region 12 with (go_at_call 78; refine (r_field _ _ _ _ (by first | exact I0.out | exact I1.out | exact I2.out | exact I3.out | exact I4.out | exact I5.out) (by decide) _).mono ?_; rintro e w7 ⟨rfl, rfl⟩)
    have q1 := fldI_in rd 0 5 7 (by decide)
    have q2 := fldI_in f3 0 3 12 (by decide)
    have q3 := fldI_in a 0 5 15 (by decide)
    have q4 := fldI_in b 0 5 20 (by decide)
    have q5 := fldI_in f7 0 7 25 (by decide)

    clear c0 c1 c2 c3 c4
    go_wp2_with fail
    all_goals
      go_ret2
      obtain ⟨he, hl⟩ := HE.out
      exact ⟨ret_ue (by rw [← he] at hl ⊢; first | done | omega) rfl, GX.out⟩
end Go.Proofs.YtngeabphjdfdgaaGreatDoor.P
namespace Go.Proofs.YtngeabphjdfdgaaGreatDoor.P
open Go.RowKit
theorem r_enc_no (op rd a b i : Int) (hi : i64 i) (hm : mayF op rd a b i = false) (w : World) : Calls Tryz.prog 49 #[iv op rd a b i] w fun e w' => e = .returned (.tuple #[.int .u32 0, .int .i64 2]) ∧ Gr w w' := by
  have gb : Gr w (w.alloc (.cells #[.int .i64 op, .int .i64 rd, .int .i64 a, .int .i64 b, .int .i64 i] 61)) := (Gr.refl w).alloc (Nat.le_refl _) _
  have CM : Hid (∀ w1, Calls Tryz.prog 77 #[iv op rd a b i] w1 fun e w' => e = .returned (.bool false) ∧ Gr w1 w') := Lib.hid (fun w1 => by have := r_may op rd a b i hi w1; rw [hm] at this; exact this)
  have GB := Lib.hid gb
  clear hm gb
  go_enter Tryz.func49, Tryz.ntmps49
  go_wp2_with (first
    | (go_at_call 77; refine (CM.out _).mono ?_; rintro e w2 ⟨rfl, g2⟩))
  go_ret2
  exact ⟨rfl, gtrans GB.out g2⟩
theorem one_in {n : Int} {b : Bool} (h : oneB n b = true) : 0 ≤ n ∧ n < 32 := by
  unfold oneB at h
  rw [Bool.or_eq_true, Bool.and_eq_true, Bool.and_eq_true, decide_eq_true_eq, decide_eq_true_eq, decide_eq_true_eq] at h
  omega
theorem may_regs {f rd a b : Int} {q : Bool} (h : mayR f q rd a b = true) : (0 ≤ rd ∧ rd < 32) ∧ (0 ≤ a ∧ a < 32) ∧ (0 ≤ b ∧ b < 32) := by
  have key : ∀ p r s : Bool, fitsB rd a b p r s = true → (0 ≤ rd ∧ rd < 32) ∧ (0 ≤ a ∧ a < 32) ∧ (0 ≤ b ∧ b < 32) := fun p r s e => by
    obtain ⟨x, y, z⟩ := fits_yes e
    exact ⟨one_in x, one_in y, one_in z⟩
  unfold mayR at h
  repeat' split at h
  all_goals exact key _ _ _ h
theorem r_encode (op rd a b i : Int) (hi : i64 i) (w : World) : Calls Tryz.prog 49 #[iv op rd a b i] w fun e w' => e = .returned (.tuple #[.int .u32 (encV op rd a b i), .int .i64 (encE op rd a b i)]) ∧ Gr w w' := by
  cases hm : mayF op rd a b i with
  | false =>
    unfold encV encE
    rw [hm]
    exact r_enc_no op rd a b i hi hm w
  | true =>
    unfold encV encE
    rw [hm]
    obtain ⟨k, rfl, hk, h1, hr, hj⟩ := may_op hm
    rw [cond_true, cond_true, Int.toNat_natCast]
    obtain ⟨x, y, z⟩ := may_regs hr
    rcases fm_cases k hk h1 with hv | hv | hv | hv | hv | hv | hv | hv | hv | hv
    · exact r_enc_85 k hk h1 hv rd a b i hi hm x y z w
    · exact r_enc_74 k hk h1 hv rd a b i hi hm x y z w
    · exact r_enc_73 k hk h1 hv rd a b i hi hm x y z w
    · exact r_enc_66 k hk h1 hv rd a b i hi hm x y z w
    · exact r_enc_83 k hk h1 hv rd a b i hi hm x y z w
    · exact r_enc_72 k hk h1 hv rd a b i hi hm x y z w
    · exact r_enc_86 k hk h1 hv rd a b i hi hm x y z w
    · exact r_enc_82 k hk h1 hv rd a b i hi hm x y z w
    · exact r_enc_65 k hk h1 hv rd a b i hi hm x y z w
    · exact r_enc_78 k hk h1 hv rd a b i hi hm x y z w
end Go.Proofs.YtngeabphjdfdgaaGreatDoor.P
