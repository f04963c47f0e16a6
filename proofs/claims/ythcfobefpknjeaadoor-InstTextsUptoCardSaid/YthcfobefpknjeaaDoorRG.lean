/- Stage 2: the document's Text, some forms. No condition. -/
import Derived.Test.YthcfobefpknjeaaDoorR3
import Derived.Deep.RegionWith
import Derived.Deep.RegionHeld3
import Derived.Deep.Cut
set_option linter.unusedVariables false
set_option linter.unusedSimpArgs false
set_option maxRecDepth 100000
namespace Go.Proofs.YthcfobefpknjeaaDoor.P
open Go.RowKit
set_option maxHeartbeats 3200000 in
theorem r_text_73n (k : Nat) (hk : k < 88) (h1 : 1 ≤ k) (hv : fmT k = 73) (rd a b : Nat) (i : Int) (hi : i64 i) (hm : mayF (k : Int) rd a b i = true) (hrd : rd < 32) (ha : a < 32) (hb : b < 32) (hld : loadB k = false) (w : World) : Calls Tryd.prog 18 #[iv (k : Int) rd a b i] w fun e w' => e = .returned (.tuple #[.string (textB k rd a b i), .int .i64 0]) ∧ Gr w w' := by
  have hfr : frT k = ⟨#[73]⟩ := by rw [fr_is k hk h1, hv]; rfl

  have hrc := rc_in k hk
  have HLD := Lib.hid hld
  have n3 : (rcT k == 3) = false := beq_eq_false_iff_ne.2 (fun e => by rw [rc_three k hk h1 (.inl e)] at hld; cases hld)
  have n4 : ((k : Int) == 4) = false := beq_eq_false_iff_ne.2 (fun e => by rw [rc_three k hk h1 (.inr (by omega))] at hld; cases hld)
  have nn4 : ¬ (k : Int) = 4 := fun e => by rw [rc_three k hk h1 (.inr (by omega))] at hld; cases hld
  clear hld
  have hr3 := r3_in k hk
  have hr7 := r7_in k hk
  have HF := Lib.hid hfr
  have HV := Lib.hid hv
  have hsz := nm_size k hk
  have HTX := Lib.hid (fun t (h : t.data.toList = textL k rd a b i) => (ByteArray.ext (Array.ext' h) : t = textB k rd a b i))
  clear hfr hv
  have k1 : ¬ (k : Int) < 1 := by omega
  have k2 : ¬ (87 : Int) < k := by omega
  have k3 : (0 : Int) ≤ k := by omega
  have k4 : (k : Int) < 88 := by omega
  have CM : Hid (∀ w, Calls Tryd.prog 12 #[iv (k : Int) rd a b i] w fun e w' => e = .returned (.bool true) ∧ Gr w w') := Lib.hid (fun w => by have := r_may (k : Int) rd a b i hi w; rw [hm] at this; exact this)
  have CR : Hid (∀ w, Calls Tryd.prog 22 #[] w fun e w' => ∃ N, e = .returned (.slice (some ⟨N, 0, none⟩) 88 88) ∧ Gr w w' ∧ w'.heap[N]? = some (.cells rowsC 47)) := Lib.hid (fun w => (r_rows w).mono fun e w' h => ⟨w.heap.size, h⟩)
  have RC := Lib.hid (fun j (hj : j < 5) => rows_cell (k := k) hk hj)
  have I0 : Hid (i64 i) := Lib.hid hi
  have I1 : Hid (i64 (rd : Int)) := Lib.hid (by unfold i64; omega)
  have I2 : Hid (i64 (a : Int)) := Lib.hid (by unfold i64; omega)
  have I3 : Hid (i64 (b : Int)) := Lib.hid (by unfold i64; omega)
  clear hm hi
  have gb : Gr w (w.alloc (.cells #[.int .i64 (k : Int), .int .i64 rd, .int .i64 a, .int .i64 b, .int .i64 i] 23)) := (Gr.refl w).alloc (Nat.le_refl _) _
  have hB : (w.alloc (.cells #[.int .i64 (k : Int), .int .i64 rd, .int .i64 a, .int .i64 b, .int .i64 i] 23)).heap[w.heap.size]? = some (.cells #[.int .i64 (k : Int), .int .i64 rd, .int .i64 a, .int .i64 b, .int .i64 i] 23) := blk_new w _
  go_enter Tryd.func18, Tryd.ntmps18
  go_upto_region 1 with fail
  generalize w.alloc (.cells #[.int .i64 (k : Int), .int .i64 rd, .int .i64 a, .int .i64 b, .int .i64 i] 23) = wb at *
  generalize w.heap.size = B0 at *
  obtain ⟨B, rfl⟩ : ∃ B, B = B0 := ⟨_, rfl⟩
  have c0 := blk_cell hB 0 (v := .int .i64 (k : Int)) rfl
  have c1 := blk_cell hB 1 (v := .int .i64 rd) rfl
  have c2 := blk_cell hB 2 (v := .int .i64 a) rfl
  have c3 := blk_cell hB 3 (v := .int .i64 b) rfl
  have c4 := blk_cell hB 4 (v := .int .i64 i) rfl
  have HB0 := Lib.hid hB
  have GB0 := Lib.hid gb
  clear hB gb
  go_upto_region 2 with (go_at_call 12; refine (CM.out _).mono ?_; rintro e w5 ⟨rfl, g5⟩)
  have hB := blk_gr g5 HB0.out
  have GB := Lib.hid (gtrans GB0.out g5)
  clear c0 c1 c2 c3 c4 g5 GB0 HB0 CM
  have HB := Lib.hid hB
  have c0 := blk_cell hB 0 (v := .int .i64 (k : Int)) rfl
  clear hB
  go_upto_region 4 with fail
  have lB0 := cell_lt c0
  go_cut [5] from 4 (fun s5 wx => ∃ X : Nat, s5 = .pointer (some ⟨X, 0, none⟩) ∧ Gr w wx ∧ wx.heap[X]? = some (.cells #[.string (nmT k), .string (frT k), .int .u32 (rcT k), .int .u32 (r3T k), .int .u32 (r7T k)] 47) ∧ wx.heap[B]? = some (.cells #[.int .i64 (k : Int), .int .i64 rd, .int .i64 a, .int .i64 b, .int .i64 i] 23))
  case first =>
    first
      | (go_region_with (go_at_call 22; refine (CR.out _).mono ?_; rintro e w6 ⟨N, rfl, g6, h6⟩; have h7 := blk_gr g6 (by first | exact HB.out | exact blk_alloc _ HB.out); have f0 := blk_cell h7 0 (v := .int .i64 (k : Int)) rfl; have e0 := blk_cell h6 (k * 5) (v := .string (nmT k)) ((RC.out 0 (by decide)).trans rfl); have e1 := blk_cell h6 (k * 5 + 1) (v := .string (frT k)) ((RC.out 1 (by decide)).trans rfl); have e2 := blk_cell h6 (k * 5 + 2) (v := .int .u32 (rcT k)) ((RC.out 2 (by decide)).trans rfl); have e3 := blk_cell h6 (k * 5 + 3) (v := .int .u32 (r3T k)) ((RC.out 3 (by decide)).trans rfl); have e4 := blk_cell h6 (k * 5 + 4) (v := .int .u32 (r7T k)) ((RC.out 4 (by decide)).trans rfl); have lN := cell_lt e0; have lB := cell_lt f0; try (have x7 : w6.heap[w5.heap.size]? = _ := blk_gr g6 (blk_new w5.drew _); have y0 := blk_cell x7 0 rfl; have z0 := blk_frozen x7 0; have y1 := blk_cell x7 1 rfl; have z1 := blk_frozen x7 1; have y2 := blk_cell x7 2 rfl; have z2 := blk_frozen x7 2; have y3 := blk_cell x7 3 rfl; have z3 := blk_frozen x7 3; have y4 := blk_cell x7 4 rfl; have z4 := blk_frozen x7 4; have lX := cell_lt y0)))
      | fail
    all_goals
      go_wp2_with fail
      go_meet
      case rel =>
        first
          | exact ⟨_, rfl, gr_al (gtrans GB.out (undrew g6)) _, blk_new w6 _, blk_alloc _ h7⟩
          | exact ⟨_, rfl, Below.setCell (Below.setCell (Below.setCell (Below.setCell (Below.setCell (gtrans GB.out (undrew (gtrans (gr_al (Gr.refl _) _) g6))) GB.out.size _) GB.out.size _) GB.out.size _) GB.out.size _) GB.out.size _, blk_set (blk_set (blk_set (blk_set (blk_set x7 0 _) 1 _) 2 _) 3 _) 4 _, blk_other (blk_other (blk_other (blk_other (blk_other h7 _ _ (Nat.ne_of_lt lB0)) _ _ (Nat.ne_of_lt lB0)) _ _ (Nat.ne_of_lt lB0)) _ _ (Nat.ne_of_lt lB0)) _ _ (Nat.ne_of_lt lB0)⟩
  case rest =>
    clear CR RC HB GB c0 lB0
    obtain ⟨X, rfl, gx, hX, hB⟩ := hcut
    rw [HF.out] at hX
    generalize rcT k = rc at *
    generalize r3T k = f3 at *
    generalize r7T k = f7 at *
    have x1 := blk_cell hX 1 (v := .string ⟨#[73]⟩) rfl
    have x2 := blk_cell hX 2 (v := .int .u32 rc) rfl
    have x3 := blk_cell hX 3 (v := .int .u32 f3) rfl
    have x4 := blk_cell hX 4 (v := .int .u32 f7) rfl
    have c0 := blk_cell hB 0 (v := .int .i64 (k : Int)) rfl
    have c1 := blk_cell hB 1 (v := .int .i64 rd) rfl
    have c2 := blk_cell hB 2 (v := .int .i64 a) rfl
    have c3 := blk_cell hB 3 (v := .int .i64 b) rfl
    have c4 := blk_cell hB 4 (v := .int .i64 i) rfl
    have x0 := blk_cell hX 0 (v := .string (nmT k)) rfl
    have HX := Lib.hid hX
    have HB2 := Lib.hid hB
    have GX := Lib.hid gx
    clear gx hX hB
    go_upto_region 6 with (go_at_call 39; refine (r_decimal i I0.out _).mono ?_; rintro e w7 ⟨rfl, g7⟩)
    have hX := blk_gr g7 HX.out
    have hB := blk_gr g7 HB2.out
    have GY := Lib.hid (gtrans GX.out g7)
    clear x0 x1 x2 x3 x4 c0 c1 c2 c3 c4 g7 GX HX HB2
    have HB2 := Lib.hid hB
    have HX := Lib.hid hX
    have x0 := blk_cell hX 0 (v := .string (nmT k)) rfl
    have x1 := blk_cell hX 1 (v := .string ⟨#[73]⟩) rfl
    have x2 := blk_cell hX 2 (v := .int .u32 rc) rfl
    have c0 := blk_cell hB 0 (v := .int .i64 (k : Int)) rfl
    have c1 := blk_cell hB 1 (v := .int .i64 (rd : Int)) rfl
    have c2 := blk_cell hB 2 (v := .int .i64 (a : Int)) rfl
    have c3 := blk_cell hB 3 (v := .int .i64 (b : Int)) rfl
    have c4 := blk_cell hB 4 (v := .int .i64 i) rfl
    clear hX hB
    have hF21 : (cB (Lib.itoa i)).size ≤ 21 := by rw [cB_size]; exact Lib.itoa_length_le i I0.out.1 I0.out.2
    have FL : Hid ((cB (Lib.itoa i)).data.toList = Lib.itoa i) := Lib.hid rfl
    generalize cB (Lib.itoa i) = F at *
    have C1 := Lib.hid (r_rn rd hrd)
    have C2 := Lib.hid (r_rn a ha)
    have C3 := Lib.hid (r_rn b hb)
    have z1 := rB_size rd hrd
    have z2 := rB_size a ha
    have z3 := rB_size b hb
    have L1 := Lib.hid (rB_L rd)
    have L2 := Lib.hid (rB_L a)
    have L3 := Lib.hid (rB_L b)
    have NL : Hid (nmE k 0 = (nmT k).data.toList) := Lib.hid (nmE_0 k)
    generalize rB rd = R1 at *
    generalize rB a = R2 at *
    generalize rB b = R3 at *
    generalize nmT k = nm at *
    have sq0 : (9223372036854775807 < nm.size + 1) = False := eq_false (by omega)
    have sq1 : (9223372036854775807 < nm.size + 1 + R1.size) = False := eq_false (by omega)
    have sq2 : (9223372036854775807 < nm.size + 1 + R1.size + 2) = False := eq_false (by omega)
    have sq3 : (9223372036854775807 < nm.size + 1 + R1.size + 2 + R2.size) = False := eq_false (by omega)
    have sq4 : (9223372036854775807 < nm.size + 1 + R1.size + 2 + R2.size + 2) = False := eq_false (by omega)
    have sq5 : (9223372036854775807 < nm.size + 1 + R1.size + 2 + R2.size + 2 + F.size) = False := eq_false (by omega)
    go_upto_region 27 with fail
    have g0 : Gr w w7 := GY.out
    have g0d : Gr w w7.drew := Gr.drewN g0 1
    have t0 : Gr w7 w7 := Gr.refl _
    have t0d : Gr w7 w7.drew := Gr.drewN t0 1
    go_region_held3 (fun w' => (w'.cell? ⟨B, 1, none⟩ = some (.int .i64 (rd : Int)) ∧ w'.cell? ⟨B, 2, none⟩ = some (.int .i64 (a : Int)) ∧ w'.cell? ⟨B, 3, none⟩ = some (.int .i64 (b : Int))) ∧ Gr w7 w')
      ((refine ⟨⟨?_, ?_, ?_⟩, ?_⟩ <;> first | assumption | exact cell_drew6 (by assumption) | exact Gr.drewN (by assumption) 1))
      (first | (go_at_call 40; refine (C1.out _).mono ?_; rintro e w8 ⟨rfl, g8⟩; have t8 := gtrans (by assumption) g8; have y1 := blk_cell (blk_gr t8 HB2.out) 1 (v := .int .i64 (rd : Int)) rfl; have y2 := blk_cell (blk_gr t8 HB2.out) 2 (v := .int .i64 (a : Int)) rfl; have y3 := blk_cell (blk_gr t8 HB2.out) 3 (v := .int .i64 (b : Int)) rfl) | (go_at_call 40; refine (C2.out _).mono ?_; rintro e w8 ⟨rfl, g8⟩; have t8 := gtrans (by assumption) g8; have y1 := blk_cell (blk_gr t8 HB2.out) 1 (v := .int .i64 (rd : Int)) rfl; have y2 := blk_cell (blk_gr t8 HB2.out) 2 (v := .int .i64 (a : Int)) rfl; have y3 := blk_cell (blk_gr t8 HB2.out) 3 (v := .int .i64 (b : Int)) rfl) | (go_at_call 40; refine (C3.out _).mono ?_; rintro e w8 ⟨rfl, g8⟩; have t8 := gtrans (by assumption) g8; have y1 := blk_cell (blk_gr t8 HB2.out) 1 (v := .int .i64 (rd : Int)) rfl; have y2 := blk_cell (blk_gr t8 HB2.out) 2 (v := .int .i64 (a : Int)) rfl; have y3 := blk_cell (blk_gr t8 HB2.out) 3 (v := .int .i64 (b : Int)) rfl))
    all_goals
      go_wp2_with fail
    all_goals
      go_ret2
      refine ⟨ret_se (HTX.out _ ?_) rfl, gtrans GY.out (by first | assumption | exact Gr.drewN (by assumption) 1)⟩
      unfold textL argL eF
      rw [HV.out]
      simp only [Int.reduceEq, or_false, false_or, or_true, true_or, if_false, if_true]
      rw [HLD.out]
      simp only [cond_true, cond_false]
      simp [ByteArray.data_append, L1.out, L2.out, L3.out, FL.out, NL.out]
set_option maxHeartbeats 3200000 in
theorem r_text_73y (k : Nat) (hk : k < 88) (h1 : 1 ≤ k) (hv : fmT k = 73) (rd a b : Nat) (i : Int) (hi : i64 i) (hm : mayF (k : Int) rd a b i = true) (hrd : rd < 32) (ha : a < 32) (hb : b < 32) (hld : loadB k = true) (hk4 : k ≠ 4) (w : World) : Calls Tryd.prog 18 #[iv (k : Int) rd a b i] w fun e w' => e = .returned (.tuple #[.string (textB k rd a b i), .int .i64 0]) ∧ Gr w w' := by
  have hfr : frT k = ⟨#[73]⟩ := by rw [fr_is k hk h1, hv]; rfl

  have hrc := rc_in k hk
  have HLD := Lib.hid hld
  have H3 : Hid (rcT k = 3) := Lib.hid (rc_load k hk h1 hld hk4)
  clear hld
  have hr3 := r3_in k hk
  have hr7 := r7_in k hk
  have HF := Lib.hid hfr
  have HV := Lib.hid hv
  have hsz := nm_size k hk
  have HTX := Lib.hid (fun t (h : t.data.toList = textL k rd a b i) => (ByteArray.ext (Array.ext' h) : t = textB k rd a b i))
  clear hfr hv
  have k1 : ¬ (k : Int) < 1 := by omega
  have k2 : ¬ (87 : Int) < k := by omega
  have k3 : (0 : Int) ≤ k := by omega
  have k4 : (k : Int) < 88 := by omega
  have CM : Hid (∀ w, Calls Tryd.prog 12 #[iv (k : Int) rd a b i] w fun e w' => e = .returned (.bool true) ∧ Gr w w') := Lib.hid (fun w => by have := r_may (k : Int) rd a b i hi w; rw [hm] at this; exact this)
  have CR : Hid (∀ w, Calls Tryd.prog 22 #[] w fun e w' => ∃ N, e = .returned (.slice (some ⟨N, 0, none⟩) 88 88) ∧ Gr w w' ∧ w'.heap[N]? = some (.cells rowsC 47)) := Lib.hid (fun w => (r_rows w).mono fun e w' h => ⟨w.heap.size, h⟩)
  have RC := Lib.hid (fun j (hj : j < 5) => rows_cell (k := k) hk hj)
  have I0 : Hid (i64 i) := Lib.hid hi
  have I1 : Hid (i64 (rd : Int)) := Lib.hid (by unfold i64; omega)
  have I2 : Hid (i64 (a : Int)) := Lib.hid (by unfold i64; omega)
  have I3 : Hid (i64 (b : Int)) := Lib.hid (by unfold i64; omega)
  clear hm hi
  have gb : Gr w (w.alloc (.cells #[.int .i64 (k : Int), .int .i64 rd, .int .i64 a, .int .i64 b, .int .i64 i] 23)) := (Gr.refl w).alloc (Nat.le_refl _) _
  have hB : (w.alloc (.cells #[.int .i64 (k : Int), .int .i64 rd, .int .i64 a, .int .i64 b, .int .i64 i] 23)).heap[w.heap.size]? = some (.cells #[.int .i64 (k : Int), .int .i64 rd, .int .i64 a, .int .i64 b, .int .i64 i] 23) := blk_new w _
  go_enter Tryd.func18, Tryd.ntmps18
  go_upto_region 1 with fail
  generalize w.alloc (.cells #[.int .i64 (k : Int), .int .i64 rd, .int .i64 a, .int .i64 b, .int .i64 i] 23) = wb at *
  generalize w.heap.size = B0 at *
  obtain ⟨B, rfl⟩ : ∃ B, B = B0 := ⟨_, rfl⟩
  have c0 := blk_cell hB 0 (v := .int .i64 (k : Int)) rfl
  have c1 := blk_cell hB 1 (v := .int .i64 rd) rfl
  have c2 := blk_cell hB 2 (v := .int .i64 a) rfl
  have c3 := blk_cell hB 3 (v := .int .i64 b) rfl
  have c4 := blk_cell hB 4 (v := .int .i64 i) rfl
  have HB0 := Lib.hid hB
  have GB0 := Lib.hid gb
  clear hB gb
  go_upto_region 2 with (go_at_call 12; refine (CM.out _).mono ?_; rintro e w5 ⟨rfl, g5⟩)
  have hB := blk_gr g5 HB0.out
  have GB := Lib.hid (gtrans GB0.out g5)
  clear c0 c1 c2 c3 c4 g5 GB0 HB0 CM
  have HB := Lib.hid hB
  have c0 := blk_cell hB 0 (v := .int .i64 (k : Int)) rfl
  clear hB
  go_upto_region 4 with fail
  have lB0 := cell_lt c0
  go_cut [5] from 4 (fun s5 wx => ∃ X : Nat, s5 = .pointer (some ⟨X, 0, none⟩) ∧ Gr w wx ∧ wx.heap[X]? = some (.cells #[.string (nmT k), .string (frT k), .int .u32 (rcT k), .int .u32 (r3T k), .int .u32 (r7T k)] 47) ∧ wx.heap[B]? = some (.cells #[.int .i64 (k : Int), .int .i64 rd, .int .i64 a, .int .i64 b, .int .i64 i] 23))
  case first =>
    first
      | (go_region_with (go_at_call 22; refine (CR.out _).mono ?_; rintro e w6 ⟨N, rfl, g6, h6⟩; have h7 := blk_gr g6 (by first | exact HB.out | exact blk_alloc _ HB.out); have f0 := blk_cell h7 0 (v := .int .i64 (k : Int)) rfl; have e0 := blk_cell h6 (k * 5) (v := .string (nmT k)) ((RC.out 0 (by decide)).trans rfl); have e1 := blk_cell h6 (k * 5 + 1) (v := .string (frT k)) ((RC.out 1 (by decide)).trans rfl); have e2 := blk_cell h6 (k * 5 + 2) (v := .int .u32 (rcT k)) ((RC.out 2 (by decide)).trans rfl); have e3 := blk_cell h6 (k * 5 + 3) (v := .int .u32 (r3T k)) ((RC.out 3 (by decide)).trans rfl); have e4 := blk_cell h6 (k * 5 + 4) (v := .int .u32 (r7T k)) ((RC.out 4 (by decide)).trans rfl); have lN := cell_lt e0; have lB := cell_lt f0; try (have x7 : w6.heap[w5.heap.size]? = _ := blk_gr g6 (blk_new w5.drew _); have y0 := blk_cell x7 0 rfl; have z0 := blk_frozen x7 0; have y1 := blk_cell x7 1 rfl; have z1 := blk_frozen x7 1; have y2 := blk_cell x7 2 rfl; have z2 := blk_frozen x7 2; have y3 := blk_cell x7 3 rfl; have z3 := blk_frozen x7 3; have y4 := blk_cell x7 4 rfl; have z4 := blk_frozen x7 4; have lX := cell_lt y0)))
      | fail
    all_goals
      go_wp2_with fail
      go_meet
      case rel =>
        first
          | exact ⟨_, rfl, gr_al (gtrans GB.out (undrew g6)) _, blk_new w6 _, blk_alloc _ h7⟩
          | exact ⟨_, rfl, Below.setCell (Below.setCell (Below.setCell (Below.setCell (Below.setCell (gtrans GB.out (undrew (gtrans (gr_al (Gr.refl _) _) g6))) GB.out.size _) GB.out.size _) GB.out.size _) GB.out.size _) GB.out.size _, blk_set (blk_set (blk_set (blk_set (blk_set x7 0 _) 1 _) 2 _) 3 _) 4 _, blk_other (blk_other (blk_other (blk_other (blk_other h7 _ _ (Nat.ne_of_lt lB0)) _ _ (Nat.ne_of_lt lB0)) _ _ (Nat.ne_of_lt lB0)) _ _ (Nat.ne_of_lt lB0)) _ _ (Nat.ne_of_lt lB0)⟩
  case rest =>
    clear CR RC HB GB c0 lB0
    obtain ⟨X, rfl, gx, hX, hB⟩ := hcut
    rw [HF.out] at hX
    generalize rcT k = rc at *
    generalize r3T k = f3 at *
    generalize r7T k = f7 at *
    have x1 := blk_cell hX 1 (v := .string ⟨#[73]⟩) rfl
    have x2 := blk_cell hX 2 (v := .int .u32 rc) rfl
    have x3 := blk_cell hX 3 (v := .int .u32 f3) rfl
    have x4 := blk_cell hX 4 (v := .int .u32 f7) rfl
    have c0 := blk_cell hB 0 (v := .int .i64 (k : Int)) rfl
    have c1 := blk_cell hB 1 (v := .int .i64 rd) rfl
    have c2 := blk_cell hB 2 (v := .int .i64 a) rfl
    have c3 := blk_cell hB 3 (v := .int .i64 b) rfl
    have c4 := blk_cell hB 4 (v := .int .i64 i) rfl
    have x0 := blk_cell hX 0 (v := .string (nmT k)) rfl
    have HX := Lib.hid hX
    have HB2 := Lib.hid hB
    have GX := Lib.hid gx
    clear gx hX hB
    go_upto_region 6 with (go_at_call 39; refine (r_decimal i I0.out _).mono ?_; rintro e w7 ⟨rfl, g7⟩)
    have hX := blk_gr g7 HX.out
    have hB := blk_gr g7 HB2.out
    have GY := Lib.hid (gtrans GX.out g7)
    clear x0 x1 x2 x3 x4 c0 c1 c2 c3 c4 g7 GX HX HB2
    have HB2 := Lib.hid hB
    have HX := Lib.hid hX
    have x0 := blk_cell hX 0 (v := .string (nmT k)) rfl
    have x1 := blk_cell hX 1 (v := .string ⟨#[73]⟩) rfl
    have x2 := blk_cell hX 2 (v := .int .u32 rc) rfl
    have c0 := blk_cell hB 0 (v := .int .i64 (k : Int)) rfl
    have c1 := blk_cell hB 1 (v := .int .i64 (rd : Int)) rfl
    have c2 := blk_cell hB 2 (v := .int .i64 (a : Int)) rfl
    have c3 := blk_cell hB 3 (v := .int .i64 (b : Int)) rfl
    have c4 := blk_cell hB 4 (v := .int .i64 i) rfl
    clear hX hB
    have hF21 : (cB (Lib.itoa i)).size ≤ 21 := by rw [cB_size]; exact Lib.itoa_length_le i I0.out.1 I0.out.2
    have FL : Hid ((cB (Lib.itoa i)).data.toList = Lib.itoa i) := Lib.hid rfl
    generalize cB (Lib.itoa i) = F at *
    have C1 := Lib.hid (r_rn rd hrd)
    have C2 := Lib.hid (r_rn a ha)
    have C3 := Lib.hid (r_rn b hb)
    have z1 := rB_size rd hrd
    have z2 := rB_size a ha
    have z3 := rB_size b hb
    have L1 := Lib.hid (rB_L rd)
    have L2 := Lib.hid (rB_L a)
    have L3 := Lib.hid (rB_L b)
    have NL : Hid (nmE k 0 = (nmT k).data.toList) := Lib.hid (nmE_0 k)
    generalize rB rd = R1 at *
    generalize rB a = R2 at *
    generalize rB b = R3 at *
    generalize nmT k = nm at *
    have sq0 : (9223372036854775807 < nm.size + 1) = False := eq_false (by omega)
    have sq1 : (9223372036854775807 < nm.size + 1 + R1.size) = False := eq_false (by omega)
    have sq2 : (9223372036854775807 < nm.size + 1 + R1.size + 2) = False := eq_false (by omega)
    have sq3 : (9223372036854775807 < nm.size + 1 + R1.size + 2 + F.size) = False := eq_false (by omega)
    have sq4 : (9223372036854775807 < nm.size + 1 + R1.size + 2 + F.size + 1) = False := eq_false (by omega)
    have sq5 : (9223372036854775807 < nm.size + 1 + R1.size + 2 + F.size + 1 + R2.size) = False := eq_false (by omega)
    have sq6 : (9223372036854775807 < nm.size + 1 + R1.size + 2 + F.size + 1 + R2.size + 1) = False := eq_false (by omega)
    have h3 := H3.out
    go_upto_region 26 with fail
    have g0 : Gr w w7 := GY.out
    have g0d : Gr w w7.drew := Gr.drewN g0 1
    have t0 : Gr w7 w7 := Gr.refl _
    have t0d : Gr w7 w7.drew := Gr.drewN t0 1
    go_region_held3 (fun w' => (w'.cell? ⟨B, 1, none⟩ = some (.int .i64 (rd : Int)) ∧ w'.cell? ⟨B, 2, none⟩ = some (.int .i64 (a : Int)) ∧ w'.cell? ⟨B, 3, none⟩ = some (.int .i64 (b : Int))) ∧ Gr w7 w')
      ((refine ⟨⟨?_, ?_, ?_⟩, ?_⟩ <;> first | assumption | exact cell_drew6 (by assumption) | exact Gr.drewN (by assumption) 1))
      (first | (go_at_call 40; refine (C1.out _).mono ?_; rintro e w8 ⟨rfl, g8⟩; have t8 := gtrans (by assumption) g8; have y1 := blk_cell (blk_gr t8 HB2.out) 1 (v := .int .i64 (rd : Int)) rfl; have y2 := blk_cell (blk_gr t8 HB2.out) 2 (v := .int .i64 (a : Int)) rfl; have y3 := blk_cell (blk_gr t8 HB2.out) 3 (v := .int .i64 (b : Int)) rfl) | (go_at_call 40; refine (C2.out _).mono ?_; rintro e w8 ⟨rfl, g8⟩; have t8 := gtrans (by assumption) g8; have y1 := blk_cell (blk_gr t8 HB2.out) 1 (v := .int .i64 (rd : Int)) rfl; have y2 := blk_cell (blk_gr t8 HB2.out) 2 (v := .int .i64 (a : Int)) rfl; have y3 := blk_cell (blk_gr t8 HB2.out) 3 (v := .int .i64 (b : Int)) rfl) | (go_at_call 40; refine (C3.out _).mono ?_; rintro e w8 ⟨rfl, g8⟩; have t8 := gtrans (by assumption) g8; have y1 := blk_cell (blk_gr t8 HB2.out) 1 (v := .int .i64 (rd : Int)) rfl; have y2 := blk_cell (blk_gr t8 HB2.out) 2 (v := .int .i64 (a : Int)) rfl; have y3 := blk_cell (blk_gr t8 HB2.out) 3 (v := .int .i64 (b : Int)) rfl))
    all_goals
      go_wp2_with fail
    all_goals
      go_ret2
      refine ⟨ret_se (HTX.out _ ?_) rfl, gtrans GY.out (by first | assumption | exact Gr.drewN (by assumption) 1)⟩
      unfold textL argL eF
      rw [HV.out]
      simp only [Int.reduceEq, or_false, false_or, or_true, true_or, if_false, if_true]
      rw [HLD.out]
      simp only [cond_true, cond_false]
      simp [ByteArray.data_append, L1.out, L2.out, L3.out, FL.out, NL.out]
end Go.Proofs.YthcfobefpknjeaaDoor.P
namespace Go.Proofs.YthcfobefpknjeaaDoor.P
open Go.RowKit
set_option maxHeartbeats 3200000 in
theorem r_text_72n (k : Nat) (hk : k < 88) (h1 : 1 ≤ k) (hv : fmT k = 72) (rd a b : Nat) (i : Int) (hi : i64 i) (hm : mayF (k : Int) rd a b i = true) (hrd : rd < 32) (ha : a < 32) (hb : b < 32) (hld : loadB k = false) (w : World) : Calls Tryd.prog 18 #[iv (k : Int) rd a b i] w fun e w' => e = .returned (.tuple #[.string (textB k rd a b i), .int .i64 0]) ∧ Gr w w' := by
  have hfr : frT k = ⟨#[72]⟩ := by rw [fr_is k hk h1, hv]; rfl

  have hrc := rc_in k hk
  have HLD := Lib.hid hld
  have n3 : (rcT k == 3) = false := beq_eq_false_iff_ne.2 (fun e => by rw [rc_three k hk h1 (.inl e)] at hld; cases hld)
  have n4 : ((k : Int) == 4) = false := beq_eq_false_iff_ne.2 (fun e => by rw [rc_three k hk h1 (.inr (by omega))] at hld; cases hld)
  have nn4 : ¬ (k : Int) = 4 := fun e => by rw [rc_three k hk h1 (.inr (by omega))] at hld; cases hld
  clear hld
  have hr3 := r3_in k hk
  have hr7 := r7_in k hk
  have HF := Lib.hid hfr
  have HV := Lib.hid hv
  have hsz := nm_size k hk
  have HTX := Lib.hid (fun t (h : t.data.toList = textL k rd a b i) => (ByteArray.ext (Array.ext' h) : t = textB k rd a b i))
  clear hfr hv
  have k1 : ¬ (k : Int) < 1 := by omega
  have k2 : ¬ (87 : Int) < k := by omega
  have k3 : (0 : Int) ≤ k := by omega
  have k4 : (k : Int) < 88 := by omega
  have CM : Hid (∀ w, Calls Tryd.prog 12 #[iv (k : Int) rd a b i] w fun e w' => e = .returned (.bool true) ∧ Gr w w') := Lib.hid (fun w => by have := r_may (k : Int) rd a b i hi w; rw [hm] at this; exact this)
  have CR : Hid (∀ w, Calls Tryd.prog 22 #[] w fun e w' => ∃ N, e = .returned (.slice (some ⟨N, 0, none⟩) 88 88) ∧ Gr w w' ∧ w'.heap[N]? = some (.cells rowsC 47)) := Lib.hid (fun w => (r_rows w).mono fun e w' h => ⟨w.heap.size, h⟩)
  have RC := Lib.hid (fun j (hj : j < 5) => rows_cell (k := k) hk hj)
  have I0 : Hid (i64 i) := Lib.hid hi
  have I1 : Hid (i64 (rd : Int)) := Lib.hid (by unfold i64; omega)
  have I2 : Hid (i64 (a : Int)) := Lib.hid (by unfold i64; omega)
  have I3 : Hid (i64 (b : Int)) := Lib.hid (by unfold i64; omega)
  clear hm hi
  have gb : Gr w (w.alloc (.cells #[.int .i64 (k : Int), .int .i64 rd, .int .i64 a, .int .i64 b, .int .i64 i] 23)) := (Gr.refl w).alloc (Nat.le_refl _) _
  have hB : (w.alloc (.cells #[.int .i64 (k : Int), .int .i64 rd, .int .i64 a, .int .i64 b, .int .i64 i] 23)).heap[w.heap.size]? = some (.cells #[.int .i64 (k : Int), .int .i64 rd, .int .i64 a, .int .i64 b, .int .i64 i] 23) := blk_new w _
  go_enter Tryd.func18, Tryd.ntmps18
  go_upto_region 1 with fail
  generalize w.alloc (.cells #[.int .i64 (k : Int), .int .i64 rd, .int .i64 a, .int .i64 b, .int .i64 i] 23) = wb at *
  generalize w.heap.size = B0 at *
  obtain ⟨B, rfl⟩ : ∃ B, B = B0 := ⟨_, rfl⟩
  have c0 := blk_cell hB 0 (v := .int .i64 (k : Int)) rfl
  have c1 := blk_cell hB 1 (v := .int .i64 rd) rfl
  have c2 := blk_cell hB 2 (v := .int .i64 a) rfl
  have c3 := blk_cell hB 3 (v := .int .i64 b) rfl
  have c4 := blk_cell hB 4 (v := .int .i64 i) rfl
  have HB0 := Lib.hid hB
  have GB0 := Lib.hid gb
  clear hB gb
  go_upto_region 2 with (go_at_call 12; refine (CM.out _).mono ?_; rintro e w5 ⟨rfl, g5⟩)
  have hB := blk_gr g5 HB0.out
  have GB := Lib.hid (gtrans GB0.out g5)
  clear c0 c1 c2 c3 c4 g5 GB0 HB0 CM
  have HB := Lib.hid hB
  have c0 := blk_cell hB 0 (v := .int .i64 (k : Int)) rfl
  clear hB
  go_upto_region 4 with fail
  have lB0 := cell_lt c0
  go_cut [5] from 4 (fun s5 wx => ∃ X : Nat, s5 = .pointer (some ⟨X, 0, none⟩) ∧ Gr w wx ∧ wx.heap[X]? = some (.cells #[.string (nmT k), .string (frT k), .int .u32 (rcT k), .int .u32 (r3T k), .int .u32 (r7T k)] 47) ∧ wx.heap[B]? = some (.cells #[.int .i64 (k : Int), .int .i64 rd, .int .i64 a, .int .i64 b, .int .i64 i] 23))
  case first =>
    first
      | (go_region_with (go_at_call 22; refine (CR.out _).mono ?_; rintro e w6 ⟨N, rfl, g6, h6⟩; have h7 := blk_gr g6 (by first | exact HB.out | exact blk_alloc _ HB.out); have f0 := blk_cell h7 0 (v := .int .i64 (k : Int)) rfl; have e0 := blk_cell h6 (k * 5) (v := .string (nmT k)) ((RC.out 0 (by decide)).trans rfl); have e1 := blk_cell h6 (k * 5 + 1) (v := .string (frT k)) ((RC.out 1 (by decide)).trans rfl); have e2 := blk_cell h6 (k * 5 + 2) (v := .int .u32 (rcT k)) ((RC.out 2 (by decide)).trans rfl); have e3 := blk_cell h6 (k * 5 + 3) (v := .int .u32 (r3T k)) ((RC.out 3 (by decide)).trans rfl); have e4 := blk_cell h6 (k * 5 + 4) (v := .int .u32 (r7T k)) ((RC.out 4 (by decide)).trans rfl); have lN := cell_lt e0; have lB := cell_lt f0; try (have x7 : w6.heap[w5.heap.size]? = _ := blk_gr g6 (blk_new w5.drew _); have y0 := blk_cell x7 0 rfl; have z0 := blk_frozen x7 0; have y1 := blk_cell x7 1 rfl; have z1 := blk_frozen x7 1; have y2 := blk_cell x7 2 rfl; have z2 := blk_frozen x7 2; have y3 := blk_cell x7 3 rfl; have z3 := blk_frozen x7 3; have y4 := blk_cell x7 4 rfl; have z4 := blk_frozen x7 4; have lX := cell_lt y0)))
      | fail
    all_goals
      go_wp2_with fail
      go_meet
      case rel =>
        first
          | exact ⟨_, rfl, gr_al (gtrans GB.out (undrew g6)) _, blk_new w6 _, blk_alloc _ h7⟩
          | exact ⟨_, rfl, Below.setCell (Below.setCell (Below.setCell (Below.setCell (Below.setCell (gtrans GB.out (undrew (gtrans (gr_al (Gr.refl _) _) g6))) GB.out.size _) GB.out.size _) GB.out.size _) GB.out.size _) GB.out.size _, blk_set (blk_set (blk_set (blk_set (blk_set x7 0 _) 1 _) 2 _) 3 _) 4 _, blk_other (blk_other (blk_other (blk_other (blk_other h7 _ _ (Nat.ne_of_lt lB0)) _ _ (Nat.ne_of_lt lB0)) _ _ (Nat.ne_of_lt lB0)) _ _ (Nat.ne_of_lt lB0)) _ _ (Nat.ne_of_lt lB0)⟩
  case rest =>
    clear CR RC HB GB c0 lB0
    obtain ⟨X, rfl, gx, hX, hB⟩ := hcut
    rw [HF.out] at hX
    generalize rcT k = rc at *
    generalize r3T k = f3 at *
    generalize r7T k = f7 at *
    have x1 := blk_cell hX 1 (v := .string ⟨#[72]⟩) rfl
    have x2 := blk_cell hX 2 (v := .int .u32 rc) rfl
    have x3 := blk_cell hX 3 (v := .int .u32 f3) rfl
    have x4 := blk_cell hX 4 (v := .int .u32 f7) rfl
    have c0 := blk_cell hB 0 (v := .int .i64 (k : Int)) rfl
    have c1 := blk_cell hB 1 (v := .int .i64 rd) rfl
    have c2 := blk_cell hB 2 (v := .int .i64 a) rfl
    have c3 := blk_cell hB 3 (v := .int .i64 b) rfl
    have c4 := blk_cell hB 4 (v := .int .i64 i) rfl
    have x0 := blk_cell hX 0 (v := .string (nmT k)) rfl
    have HX := Lib.hid hX
    have HB2 := Lib.hid hB
    have GX := Lib.hid gx
    clear gx hX hB
    go_upto_region 6 with (go_at_call 39; refine (r_decimal i I0.out _).mono ?_; rintro e w7 ⟨rfl, g7⟩)
    have hX := blk_gr g7 HX.out
    have hB := blk_gr g7 HB2.out
    have GY := Lib.hid (gtrans GX.out g7)
    clear x0 x1 x2 x3 x4 c0 c1 c2 c3 c4 g7 GX HX HB2
    have HB2 := Lib.hid hB
    have HX := Lib.hid hX
    have x0 := blk_cell hX 0 (v := .string (nmT k)) rfl
    have x1 := blk_cell hX 1 (v := .string ⟨#[72]⟩) rfl
    have x2 := blk_cell hX 2 (v := .int .u32 rc) rfl
    have c0 := blk_cell hB 0 (v := .int .i64 (k : Int)) rfl
    have c1 := blk_cell hB 1 (v := .int .i64 (rd : Int)) rfl
    have c2 := blk_cell hB 2 (v := .int .i64 (a : Int)) rfl
    have c3 := blk_cell hB 3 (v := .int .i64 (b : Int)) rfl
    have c4 := blk_cell hB 4 (v := .int .i64 i) rfl
    clear hX hB
    have hF21 : (cB (Lib.itoa i)).size ≤ 21 := by rw [cB_size]; exact Lib.itoa_length_le i I0.out.1 I0.out.2
    have FL : Hid ((cB (Lib.itoa i)).data.toList = Lib.itoa i) := Lib.hid rfl
    generalize cB (Lib.itoa i) = F at *
    have C1 := Lib.hid (r_rn rd hrd)
    have C2 := Lib.hid (r_rn a ha)
    have C3 := Lib.hid (r_rn b hb)
    have z1 := rB_size rd hrd
    have z2 := rB_size a ha
    have z3 := rB_size b hb
    have L1 := Lib.hid (rB_L rd)
    have L2 := Lib.hid (rB_L a)
    have L3 := Lib.hid (rB_L b)
    have NL : Hid (nmE k 0 = (nmT k).data.toList) := Lib.hid (nmE_0 k)
    generalize rB rd = R1 at *
    generalize rB a = R2 at *
    generalize rB b = R3 at *
    generalize nmT k = nm at *
    have sq0 : (9223372036854775807 < nm.size + 1) = False := eq_false (by omega)
    have sq1 : (9223372036854775807 < nm.size + 1 + R1.size) = False := eq_false (by omega)
    have sq2 : (9223372036854775807 < nm.size + 1 + R1.size + 2) = False := eq_false (by omega)
    have sq3 : (9223372036854775807 < nm.size + 1 + R1.size + 2 + R2.size) = False := eq_false (by omega)
    have sq4 : (9223372036854775807 < nm.size + 1 + R1.size + 2 + R2.size + 2) = False := eq_false (by omega)
    have sq5 : (9223372036854775807 < nm.size + 1 + R1.size + 2 + R2.size + 2 + F.size) = False := eq_false (by omega)
    go_upto_region 27 with fail
    have g0 : Gr w w7 := GY.out
    have g0d : Gr w w7.drew := Gr.drewN g0 1
    have t0 : Gr w7 w7 := Gr.refl _
    have t0d : Gr w7 w7.drew := Gr.drewN t0 1
    go_region_held3 (fun w' => (w'.cell? ⟨B, 1, none⟩ = some (.int .i64 (rd : Int)) ∧ w'.cell? ⟨B, 2, none⟩ = some (.int .i64 (a : Int)) ∧ w'.cell? ⟨B, 3, none⟩ = some (.int .i64 (b : Int))) ∧ Gr w7 w')
      ((refine ⟨⟨?_, ?_, ?_⟩, ?_⟩ <;> first | assumption | exact cell_drew6 (by assumption) | exact Gr.drewN (by assumption) 1))
      (first | (go_at_call 40; refine (C1.out _).mono ?_; rintro e w8 ⟨rfl, g8⟩; have t8 := gtrans (by assumption) g8; have y1 := blk_cell (blk_gr t8 HB2.out) 1 (v := .int .i64 (rd : Int)) rfl; have y2 := blk_cell (blk_gr t8 HB2.out) 2 (v := .int .i64 (a : Int)) rfl; have y3 := blk_cell (blk_gr t8 HB2.out) 3 (v := .int .i64 (b : Int)) rfl) | (go_at_call 40; refine (C2.out _).mono ?_; rintro e w8 ⟨rfl, g8⟩; have t8 := gtrans (by assumption) g8; have y1 := blk_cell (blk_gr t8 HB2.out) 1 (v := .int .i64 (rd : Int)) rfl; have y2 := blk_cell (blk_gr t8 HB2.out) 2 (v := .int .i64 (a : Int)) rfl; have y3 := blk_cell (blk_gr t8 HB2.out) 3 (v := .int .i64 (b : Int)) rfl) | (go_at_call 40; refine (C3.out _).mono ?_; rintro e w8 ⟨rfl, g8⟩; have t8 := gtrans (by assumption) g8; have y1 := blk_cell (blk_gr t8 HB2.out) 1 (v := .int .i64 (rd : Int)) rfl; have y2 := blk_cell (blk_gr t8 HB2.out) 2 (v := .int .i64 (a : Int)) rfl; have y3 := blk_cell (blk_gr t8 HB2.out) 3 (v := .int .i64 (b : Int)) rfl))
    all_goals
      go_wp2_with fail
    all_goals
      go_ret2
      refine ⟨ret_se (HTX.out _ ?_) rfl, gtrans GY.out (by first | assumption | exact Gr.drewN (by assumption) 1)⟩
      unfold textL argL eF
      rw [HV.out]
      simp only [Int.reduceEq, or_false, false_or, or_true, true_or, if_false, if_true]
      rw [HLD.out]
      simp only [cond_true, cond_false]
      simp [ByteArray.data_append, L1.out, L2.out, L3.out, FL.out, NL.out]
set_option maxHeartbeats 3200000 in
theorem r_text_86n (k : Nat) (hk : k < 88) (h1 : 1 ≤ k) (hv : fmT k = 86) (rd a b : Nat) (i : Int) (hi : i64 i) (hm : mayF (k : Int) rd a b i = true) (hrd : rd < 32) (ha : a < 32) (hb : b < 32) (hld : loadB k = false) (w : World) : Calls Tryd.prog 18 #[iv (k : Int) rd a b i] w fun e w' => e = .returned (.tuple #[.string (textB k rd a b i), .int .i64 0]) ∧ Gr w w' := by
  have hfr : frT k = ⟨#[86]⟩ := by rw [fr_is k hk h1, hv]; rfl

  have hrc := rc_in k hk
  have HLD := Lib.hid hld
  have n3 : (rcT k == 3) = false := beq_eq_false_iff_ne.2 (fun e => by rw [rc_three k hk h1 (.inl e)] at hld; cases hld)
  have n4 : ((k : Int) == 4) = false := beq_eq_false_iff_ne.2 (fun e => by rw [rc_three k hk h1 (.inr (by omega))] at hld; cases hld)
  have nn4 : ¬ (k : Int) = 4 := fun e => by rw [rc_three k hk h1 (.inr (by omega))] at hld; cases hld
  clear hld
  have hr3 := r3_in k hk
  have hr7 := r7_in k hk
  have HF := Lib.hid hfr
  have HV := Lib.hid hv
  have hsz := nm_size k hk
  have HTX := Lib.hid (fun t (h : t.data.toList = textL k rd a b i) => (ByteArray.ext (Array.ext' h) : t = textB k rd a b i))
  clear hfr hv
  have k1 : ¬ (k : Int) < 1 := by omega
  have k2 : ¬ (87 : Int) < k := by omega
  have k3 : (0 : Int) ≤ k := by omega
  have k4 : (k : Int) < 88 := by omega
  have CM : Hid (∀ w, Calls Tryd.prog 12 #[iv (k : Int) rd a b i] w fun e w' => e = .returned (.bool true) ∧ Gr w w') := Lib.hid (fun w => by have := r_may (k : Int) rd a b i hi w; rw [hm] at this; exact this)
  have CR : Hid (∀ w, Calls Tryd.prog 22 #[] w fun e w' => ∃ N, e = .returned (.slice (some ⟨N, 0, none⟩) 88 88) ∧ Gr w w' ∧ w'.heap[N]? = some (.cells rowsC 47)) := Lib.hid (fun w => (r_rows w).mono fun e w' h => ⟨w.heap.size, h⟩)
  have RC := Lib.hid (fun j (hj : j < 5) => rows_cell (k := k) hk hj)
  have I0 : Hid (i64 i) := Lib.hid hi
  have I1 : Hid (i64 (rd : Int)) := Lib.hid (by unfold i64; omega)
  have I2 : Hid (i64 (a : Int)) := Lib.hid (by unfold i64; omega)
  have I3 : Hid (i64 (b : Int)) := Lib.hid (by unfold i64; omega)
  clear hm hi
  have gb : Gr w (w.alloc (.cells #[.int .i64 (k : Int), .int .i64 rd, .int .i64 a, .int .i64 b, .int .i64 i] 23)) := (Gr.refl w).alloc (Nat.le_refl _) _
  have hB : (w.alloc (.cells #[.int .i64 (k : Int), .int .i64 rd, .int .i64 a, .int .i64 b, .int .i64 i] 23)).heap[w.heap.size]? = some (.cells #[.int .i64 (k : Int), .int .i64 rd, .int .i64 a, .int .i64 b, .int .i64 i] 23) := blk_new w _
  go_enter Tryd.func18, Tryd.ntmps18
  go_upto_region 1 with fail
  generalize w.alloc (.cells #[.int .i64 (k : Int), .int .i64 rd, .int .i64 a, .int .i64 b, .int .i64 i] 23) = wb at *
  generalize w.heap.size = B0 at *
  obtain ⟨B, rfl⟩ : ∃ B, B = B0 := ⟨_, rfl⟩
  have c0 := blk_cell hB 0 (v := .int .i64 (k : Int)) rfl
  have c1 := blk_cell hB 1 (v := .int .i64 rd) rfl
  have c2 := blk_cell hB 2 (v := .int .i64 a) rfl
  have c3 := blk_cell hB 3 (v := .int .i64 b) rfl
  have c4 := blk_cell hB 4 (v := .int .i64 i) rfl
  have HB0 := Lib.hid hB
  have GB0 := Lib.hid gb
  clear hB gb
  go_upto_region 2 with (go_at_call 12; refine (CM.out _).mono ?_; rintro e w5 ⟨rfl, g5⟩)
  have hB := blk_gr g5 HB0.out
  have GB := Lib.hid (gtrans GB0.out g5)
  clear c0 c1 c2 c3 c4 g5 GB0 HB0 CM
  have HB := Lib.hid hB
  have c0 := blk_cell hB 0 (v := .int .i64 (k : Int)) rfl
  clear hB
  go_upto_region 4 with fail
  have lB0 := cell_lt c0
  go_cut [5] from 4 (fun s5 wx => ∃ X : Nat, s5 = .pointer (some ⟨X, 0, none⟩) ∧ Gr w wx ∧ wx.heap[X]? = some (.cells #[.string (nmT k), .string (frT k), .int .u32 (rcT k), .int .u32 (r3T k), .int .u32 (r7T k)] 47) ∧ wx.heap[B]? = some (.cells #[.int .i64 (k : Int), .int .i64 rd, .int .i64 a, .int .i64 b, .int .i64 i] 23))
  case first =>
    first
      | (go_region_with (go_at_call 22; refine (CR.out _).mono ?_; rintro e w6 ⟨N, rfl, g6, h6⟩; have h7 := blk_gr g6 (by first | exact HB.out | exact blk_alloc _ HB.out); have f0 := blk_cell h7 0 (v := .int .i64 (k : Int)) rfl; have e0 := blk_cell h6 (k * 5) (v := .string (nmT k)) ((RC.out 0 (by decide)).trans rfl); have e1 := blk_cell h6 (k * 5 + 1) (v := .string (frT k)) ((RC.out 1 (by decide)).trans rfl); have e2 := blk_cell h6 (k * 5 + 2) (v := .int .u32 (rcT k)) ((RC.out 2 (by decide)).trans rfl); have e3 := blk_cell h6 (k * 5 + 3) (v := .int .u32 (r3T k)) ((RC.out 3 (by decide)).trans rfl); have e4 := blk_cell h6 (k * 5 + 4) (v := .int .u32 (r7T k)) ((RC.out 4 (by decide)).trans rfl); have lN := cell_lt e0; have lB := cell_lt f0; try (have x7 : w6.heap[w5.heap.size]? = _ := blk_gr g6 (blk_new w5.drew _); have y0 := blk_cell x7 0 rfl; have z0 := blk_frozen x7 0; have y1 := blk_cell x7 1 rfl; have z1 := blk_frozen x7 1; have y2 := blk_cell x7 2 rfl; have z2 := blk_frozen x7 2; have y3 := blk_cell x7 3 rfl; have z3 := blk_frozen x7 3; have y4 := blk_cell x7 4 rfl; have z4 := blk_frozen x7 4; have lX := cell_lt y0)))
      | fail
    all_goals
      go_wp2_with fail
      go_meet
      case rel =>
        first
          | exact ⟨_, rfl, gr_al (gtrans GB.out (undrew g6)) _, blk_new w6 _, blk_alloc _ h7⟩
          | exact ⟨_, rfl, Below.setCell (Below.setCell (Below.setCell (Below.setCell (Below.setCell (gtrans GB.out (undrew (gtrans (gr_al (Gr.refl _) _) g6))) GB.out.size _) GB.out.size _) GB.out.size _) GB.out.size _) GB.out.size _, blk_set (blk_set (blk_set (blk_set (blk_set x7 0 _) 1 _) 2 _) 3 _) 4 _, blk_other (blk_other (blk_other (blk_other (blk_other h7 _ _ (Nat.ne_of_lt lB0)) _ _ (Nat.ne_of_lt lB0)) _ _ (Nat.ne_of_lt lB0)) _ _ (Nat.ne_of_lt lB0)) _ _ (Nat.ne_of_lt lB0)⟩
  case rest =>
    clear CR RC HB GB c0 lB0
    obtain ⟨X, rfl, gx, hX, hB⟩ := hcut
    rw [HF.out] at hX
    generalize rcT k = rc at *
    generalize r3T k = f3 at *
    generalize r7T k = f7 at *
    have x1 := blk_cell hX 1 (v := .string ⟨#[86]⟩) rfl
    have x2 := blk_cell hX 2 (v := .int .u32 rc) rfl
    have x3 := blk_cell hX 3 (v := .int .u32 f3) rfl
    have x4 := blk_cell hX 4 (v := .int .u32 f7) rfl
    have c0 := blk_cell hB 0 (v := .int .i64 (k : Int)) rfl
    have c1 := blk_cell hB 1 (v := .int .i64 rd) rfl
    have c2 := blk_cell hB 2 (v := .int .i64 a) rfl
    have c3 := blk_cell hB 3 (v := .int .i64 b) rfl
    have c4 := blk_cell hB 4 (v := .int .i64 i) rfl
    have x0 := blk_cell hX 0 (v := .string (nmT k)) rfl
    have HX := Lib.hid hX
    have HB2 := Lib.hid hB
    have GX := Lib.hid gx
    clear gx hX hB
    go_upto_region 6 with (go_at_call 39; refine (r_decimal i I0.out _).mono ?_; rintro e w7 ⟨rfl, g7⟩)
    have hX := blk_gr g7 HX.out
    have hB := blk_gr g7 HB2.out
    have GY := Lib.hid (gtrans GX.out g7)
    clear x0 x1 x2 x3 x4 c0 c1 c2 c3 c4 g7 GX HX HB2
    have HB2 := Lib.hid hB
    have HX := Lib.hid hX
    have x0 := blk_cell hX 0 (v := .string (nmT k)) rfl
    have x1 := blk_cell hX 1 (v := .string ⟨#[86]⟩) rfl
    have x2 := blk_cell hX 2 (v := .int .u32 rc) rfl
    have c0 := blk_cell hB 0 (v := .int .i64 (k : Int)) rfl
    have c1 := blk_cell hB 1 (v := .int .i64 (rd : Int)) rfl
    have c2 := blk_cell hB 2 (v := .int .i64 (a : Int)) rfl
    have c3 := blk_cell hB 3 (v := .int .i64 (b : Int)) rfl
    have c4 := blk_cell hB 4 (v := .int .i64 i) rfl
    clear hX hB
    have hF21 : (cB (Lib.itoa i)).size ≤ 21 := by rw [cB_size]; exact Lib.itoa_length_le i I0.out.1 I0.out.2
    have FL : Hid ((cB (Lib.itoa i)).data.toList = Lib.itoa i) := Lib.hid rfl
    generalize cB (Lib.itoa i) = F at *
    have C1 := Lib.hid (r_rn rd hrd)
    have C2 := Lib.hid (r_rn a ha)
    have C3 := Lib.hid (r_rn b hb)
    have z1 := rB_size rd hrd
    have z2 := rB_size a ha
    have z3 := rB_size b hb
    have L1 := Lib.hid (rB_L rd)
    have L2 := Lib.hid (rB_L a)
    have L3 := Lib.hid (rB_L b)
    have NL : Hid (nmE k 0 = (nmT k).data.toList) := Lib.hid (nmE_0 k)
    generalize rB rd = R1 at *
    generalize rB a = R2 at *
    generalize rB b = R3 at *
    generalize nmT k = nm at *
    have sq0 : (9223372036854775807 < nm.size + 1) = False := eq_false (by omega)
    have sq1 : (9223372036854775807 < nm.size + 1 + R1.size) = False := eq_false (by omega)
    have sq2 : (9223372036854775807 < nm.size + 1 + R1.size + 2) = False := eq_false (by omega)
    have sq3 : (9223372036854775807 < nm.size + 1 + R1.size + 2 + R2.size) = False := eq_false (by omega)
    have sq4 : (9223372036854775807 < nm.size + 1 + R1.size + 2 + R2.size + 2) = False := eq_false (by omega)
    have sq5 : (9223372036854775807 < nm.size + 1 + R1.size + 2 + R2.size + 2 + F.size) = False := eq_false (by omega)
    go_upto_region 27 with fail
    have g0 : Gr w w7 := GY.out
    have g0d : Gr w w7.drew := Gr.drewN g0 1
    have t0 : Gr w7 w7 := Gr.refl _
    have t0d : Gr w7 w7.drew := Gr.drewN t0 1
    go_region_held3 (fun w' => (w'.cell? ⟨B, 1, none⟩ = some (.int .i64 (rd : Int)) ∧ w'.cell? ⟨B, 2, none⟩ = some (.int .i64 (a : Int)) ∧ w'.cell? ⟨B, 3, none⟩ = some (.int .i64 (b : Int))) ∧ Gr w7 w')
      ((refine ⟨⟨?_, ?_, ?_⟩, ?_⟩ <;> first | assumption | exact cell_drew6 (by assumption) | exact Gr.drewN (by assumption) 1))
      (first | (go_at_call 40; refine (C1.out _).mono ?_; rintro e w8 ⟨rfl, g8⟩; have t8 := gtrans (by assumption) g8; have y1 := blk_cell (blk_gr t8 HB2.out) 1 (v := .int .i64 (rd : Int)) rfl; have y2 := blk_cell (blk_gr t8 HB2.out) 2 (v := .int .i64 (a : Int)) rfl; have y3 := blk_cell (blk_gr t8 HB2.out) 3 (v := .int .i64 (b : Int)) rfl) | (go_at_call 40; refine (C2.out _).mono ?_; rintro e w8 ⟨rfl, g8⟩; have t8 := gtrans (by assumption) g8; have y1 := blk_cell (blk_gr t8 HB2.out) 1 (v := .int .i64 (rd : Int)) rfl; have y2 := blk_cell (blk_gr t8 HB2.out) 2 (v := .int .i64 (a : Int)) rfl; have y3 := blk_cell (blk_gr t8 HB2.out) 3 (v := .int .i64 (b : Int)) rfl) | (go_at_call 40; refine (C3.out _).mono ?_; rintro e w8 ⟨rfl, g8⟩; have t8 := gtrans (by assumption) g8; have y1 := blk_cell (blk_gr t8 HB2.out) 1 (v := .int .i64 (rd : Int)) rfl; have y2 := blk_cell (blk_gr t8 HB2.out) 2 (v := .int .i64 (a : Int)) rfl; have y3 := blk_cell (blk_gr t8 HB2.out) 3 (v := .int .i64 (b : Int)) rfl))
    all_goals
      go_wp2_with fail
    all_goals
      go_ret2
      refine ⟨ret_se (HTX.out _ ?_) rfl, gtrans GY.out (by first | assumption | exact Gr.drewN (by assumption) 1)⟩
      unfold textL argL eF
      rw [HV.out]
      simp only [Int.reduceEq, or_false, false_or, or_true, true_or, if_false, if_true]
      rw [HLD.out]
      simp only [cond_true, cond_false]
      simp [ByteArray.data_append, L1.out, L2.out, L3.out, FL.out, NL.out]
end Go.Proofs.YthcfobefpknjeaaDoor.P
namespace Go.Proofs.YthcfobefpknjeaaDoor.P
open Go.RowKit
set_option maxHeartbeats 3200000 in
theorem r_text_73z (k : Nat) (hk : k < 88) (h1 : 1 ≤ k) (hv : fmT k = 73) (rd a b : Nat) (i : Int) (hi : i64 i) (hm : mayF (k : Int) rd a b i = true) (hrd : rd < 32) (ha : a < 32) (hb : b < 32) (hk4 : k = 4) (w : World) : Calls Tryd.prog 18 #[iv (k : Int) rd a b i] w fun e w' => e = .returned (.tuple #[.string (textB k rd a b i), .int .i64 0]) ∧ Gr w w' := by
  have hfr : frT k = ⟨#[73]⟩ := by rw [fr_is k hk h1, hv]; rfl

  have hrc := rc_in k hk
  have HLD : Hid (loadB k = true) := Lib.hid (by rw [hk4]; decide)
  have n3 : (rcT k == 3) = false := by rw [hk4]; decide
  have H4 : Hid ((k : Int) = 4) := Lib.hid (by omega)
  clear hk4
  have hr3 := r3_in k hk
  have hr7 := r7_in k hk
  have HF := Lib.hid hfr
  have HV := Lib.hid hv
  have hsz := nm_size k hk
  have HTX := Lib.hid (fun t (h : t.data.toList = textL k rd a b i) => (ByteArray.ext (Array.ext' h) : t = textB k rd a b i))
  clear hfr hv
  have k1 : ¬ (k : Int) < 1 := by omega
  have k2 : ¬ (87 : Int) < k := by omega
  have k3 : (0 : Int) ≤ k := by omega
  have k4 : (k : Int) < 88 := by omega
  have CM : Hid (∀ w, Calls Tryd.prog 12 #[iv (k : Int) rd a b i] w fun e w' => e = .returned (.bool true) ∧ Gr w w') := Lib.hid (fun w => by have := r_may (k : Int) rd a b i hi w; rw [hm] at this; exact this)
  have CR : Hid (∀ w, Calls Tryd.prog 22 #[] w fun e w' => ∃ N, e = .returned (.slice (some ⟨N, 0, none⟩) 88 88) ∧ Gr w w' ∧ w'.heap[N]? = some (.cells rowsC 47)) := Lib.hid (fun w => (r_rows w).mono fun e w' h => ⟨w.heap.size, h⟩)
  have RC := Lib.hid (fun j (hj : j < 5) => rows_cell (k := k) hk hj)
  have I0 : Hid (i64 i) := Lib.hid hi
  have I1 : Hid (i64 (rd : Int)) := Lib.hid (by unfold i64; omega)
  have I2 : Hid (i64 (a : Int)) := Lib.hid (by unfold i64; omega)
  have I3 : Hid (i64 (b : Int)) := Lib.hid (by unfold i64; omega)
  clear hm hi
  have gb : Gr w (w.alloc (.cells #[.int .i64 (k : Int), .int .i64 rd, .int .i64 a, .int .i64 b, .int .i64 i] 23)) := (Gr.refl w).alloc (Nat.le_refl _) _
  have hB : (w.alloc (.cells #[.int .i64 (k : Int), .int .i64 rd, .int .i64 a, .int .i64 b, .int .i64 i] 23)).heap[w.heap.size]? = some (.cells #[.int .i64 (k : Int), .int .i64 rd, .int .i64 a, .int .i64 b, .int .i64 i] 23) := blk_new w _
  go_enter Tryd.func18, Tryd.ntmps18
  go_upto_region 1 with fail
  generalize w.alloc (.cells #[.int .i64 (k : Int), .int .i64 rd, .int .i64 a, .int .i64 b, .int .i64 i] 23) = wb at *
  generalize w.heap.size = B0 at *
  obtain ⟨B, rfl⟩ : ∃ B, B = B0 := ⟨_, rfl⟩
  have c0 := blk_cell hB 0 (v := .int .i64 (k : Int)) rfl
  have c1 := blk_cell hB 1 (v := .int .i64 rd) rfl
  have c2 := blk_cell hB 2 (v := .int .i64 a) rfl
  have c3 := blk_cell hB 3 (v := .int .i64 b) rfl
  have c4 := blk_cell hB 4 (v := .int .i64 i) rfl
  have HB0 := Lib.hid hB
  have GB0 := Lib.hid gb
  clear hB gb
  go_upto_region 2 with (go_at_call 12; refine (CM.out _).mono ?_; rintro e w5 ⟨rfl, g5⟩)
  have hB := blk_gr g5 HB0.out
  have GB := Lib.hid (gtrans GB0.out g5)
  clear c0 c1 c2 c3 c4 g5 GB0 HB0 CM
  have HB := Lib.hid hB
  have c0 := blk_cell hB 0 (v := .int .i64 (k : Int)) rfl
  clear hB
  go_upto_region 4 with fail
  have lB0 := cell_lt c0
  go_cut [5] from 4 (fun s5 wx => ∃ X : Nat, s5 = .pointer (some ⟨X, 0, none⟩) ∧ Gr w wx ∧ wx.heap[X]? = some (.cells #[.string (nmT k), .string (frT k), .int .u32 (rcT k), .int .u32 (r3T k), .int .u32 (r7T k)] 47) ∧ wx.heap[B]? = some (.cells #[.int .i64 (k : Int), .int .i64 rd, .int .i64 a, .int .i64 b, .int .i64 i] 23))
  case first =>
    first
      | (go_region_with (go_at_call 22; refine (CR.out _).mono ?_; rintro e w6 ⟨N, rfl, g6, h6⟩; have h7 := blk_gr g6 (by first | exact HB.out | exact blk_alloc _ HB.out); have f0 := blk_cell h7 0 (v := .int .i64 (k : Int)) rfl; have e0 := blk_cell h6 (k * 5) (v := .string (nmT k)) ((RC.out 0 (by decide)).trans rfl); have e1 := blk_cell h6 (k * 5 + 1) (v := .string (frT k)) ((RC.out 1 (by decide)).trans rfl); have e2 := blk_cell h6 (k * 5 + 2) (v := .int .u32 (rcT k)) ((RC.out 2 (by decide)).trans rfl); have e3 := blk_cell h6 (k * 5 + 3) (v := .int .u32 (r3T k)) ((RC.out 3 (by decide)).trans rfl); have e4 := blk_cell h6 (k * 5 + 4) (v := .int .u32 (r7T k)) ((RC.out 4 (by decide)).trans rfl); have lN := cell_lt e0; have lB := cell_lt f0; try (have x7 : w6.heap[w5.heap.size]? = _ := blk_gr g6 (blk_new w5.drew _); have y0 := blk_cell x7 0 rfl; have z0 := blk_frozen x7 0; have y1 := blk_cell x7 1 rfl; have z1 := blk_frozen x7 1; have y2 := blk_cell x7 2 rfl; have z2 := blk_frozen x7 2; have y3 := blk_cell x7 3 rfl; have z3 := blk_frozen x7 3; have y4 := blk_cell x7 4 rfl; have z4 := blk_frozen x7 4; have lX := cell_lt y0)))
      | fail
    all_goals
      go_wp2_with fail
      go_meet
      case rel =>
        first
          | exact ⟨_, rfl, gr_al (gtrans GB.out (undrew g6)) _, blk_new w6 _, blk_alloc _ h7⟩
          | exact ⟨_, rfl, Below.setCell (Below.setCell (Below.setCell (Below.setCell (Below.setCell (gtrans GB.out (undrew (gtrans (gr_al (Gr.refl _) _) g6))) GB.out.size _) GB.out.size _) GB.out.size _) GB.out.size _) GB.out.size _, blk_set (blk_set (blk_set (blk_set (blk_set x7 0 _) 1 _) 2 _) 3 _) 4 _, blk_other (blk_other (blk_other (blk_other (blk_other h7 _ _ (Nat.ne_of_lt lB0)) _ _ (Nat.ne_of_lt lB0)) _ _ (Nat.ne_of_lt lB0)) _ _ (Nat.ne_of_lt lB0)) _ _ (Nat.ne_of_lt lB0)⟩
  case rest =>
    clear CR RC HB GB c0 lB0
    obtain ⟨X, rfl, gx, hX, hB⟩ := hcut
    rw [HF.out] at hX
    generalize rcT k = rc at *
    generalize r3T k = f3 at *
    generalize r7T k = f7 at *
    have x1 := blk_cell hX 1 (v := .string ⟨#[73]⟩) rfl
    have x2 := blk_cell hX 2 (v := .int .u32 rc) rfl
    have x3 := blk_cell hX 3 (v := .int .u32 f3) rfl
    have x4 := blk_cell hX 4 (v := .int .u32 f7) rfl
    have c0 := blk_cell hB 0 (v := .int .i64 (k : Int)) rfl
    have c1 := blk_cell hB 1 (v := .int .i64 rd) rfl
    have c2 := blk_cell hB 2 (v := .int .i64 a) rfl
    have c3 := blk_cell hB 3 (v := .int .i64 b) rfl
    have c4 := blk_cell hB 4 (v := .int .i64 i) rfl
    have x0 := blk_cell hX 0 (v := .string (nmT k)) rfl
    have HX := Lib.hid hX
    have HB2 := Lib.hid hB
    have GX := Lib.hid gx
    clear gx hX hB
    go_upto_region 6 with (go_at_call 39; refine (r_decimal i I0.out _).mono ?_; rintro e w7 ⟨rfl, g7⟩)
    have hX := blk_gr g7 HX.out
    have hB := blk_gr g7 HB2.out
    have GY := Lib.hid (gtrans GX.out g7)
    clear x0 x1 x2 x3 x4 c0 c1 c2 c3 c4 g7 GX HX HB2
    have HB2 := Lib.hid hB
    have HX := Lib.hid hX
    have x0 := blk_cell hX 0 (v := .string (nmT k)) rfl
    have x1 := blk_cell hX 1 (v := .string ⟨#[73]⟩) rfl
    have x2 := blk_cell hX 2 (v := .int .u32 rc) rfl
    have c0 := blk_cell hB 0 (v := .int .i64 (k : Int)) rfl
    have c1 := blk_cell hB 1 (v := .int .i64 (rd : Int)) rfl
    have c2 := blk_cell hB 2 (v := .int .i64 (a : Int)) rfl
    have c3 := blk_cell hB 3 (v := .int .i64 (b : Int)) rfl
    have c4 := blk_cell hB 4 (v := .int .i64 i) rfl
    clear hX hB
    have hF21 : (cB (Lib.itoa i)).size ≤ 21 := by rw [cB_size]; exact Lib.itoa_length_le i I0.out.1 I0.out.2
    have FL : Hid ((cB (Lib.itoa i)).data.toList = Lib.itoa i) := Lib.hid rfl
    generalize cB (Lib.itoa i) = F at *
    have C1 := Lib.hid (r_rn rd hrd)
    have C2 := Lib.hid (r_rn a ha)
    have C3 := Lib.hid (r_rn b hb)
    have z1 := rB_size rd hrd
    have z2 := rB_size a ha
    have z3 := rB_size b hb
    have L1 := Lib.hid (rB_L rd)
    have L2 := Lib.hid (rB_L a)
    have L3 := Lib.hid (rB_L b)
    have NL : Hid (nmE k 0 = (nmT k).data.toList) := Lib.hid (nmE_0 k)
    generalize rB rd = R1 at *
    generalize rB a = R2 at *
    generalize rB b = R3 at *
    generalize nmT k = nm at *
    have sq0 : (9223372036854775807 < nm.size + 1) = False := eq_false (by omega)
    have sq1 : (9223372036854775807 < nm.size + 1 + R1.size) = False := eq_false (by omega)
    have sq2 : (9223372036854775807 < nm.size + 1 + R1.size + 2) = False := eq_false (by omega)
    have sq3 : (9223372036854775807 < nm.size + 1 + R1.size + 2 + F.size) = False := eq_false (by omega)
    have sq4 : (9223372036854775807 < nm.size + 1 + R1.size + 2 + F.size + 1) = False := eq_false (by omega)
    have sq5 : (9223372036854775807 < nm.size + 1 + R1.size + 2 + F.size + 1 + R2.size) = False := eq_false (by omega)
    have sq6 : (9223372036854775807 < nm.size + 1 + R1.size + 2 + F.size + 1 + R2.size + 1) = False := eq_false (by omega)
    have h4 := H4.out
    go_upto_region 26 with fail
    have g0 : Gr w w7 := GY.out
    have g0d : Gr w w7.drew := Gr.drewN g0 1
    have t0 : Gr w7 w7 := Gr.refl _
    have t0d : Gr w7 w7.drew := Gr.drewN t0 1
    go_region_held3 (fun w' => (w'.cell? ⟨B, 1, none⟩ = some (.int .i64 (rd : Int)) ∧ w'.cell? ⟨B, 2, none⟩ = some (.int .i64 (a : Int)) ∧ w'.cell? ⟨B, 3, none⟩ = some (.int .i64 (b : Int))) ∧ Gr w7 w')
      ((refine ⟨⟨?_, ?_, ?_⟩, ?_⟩ <;> first | assumption | exact cell_drew6 (by assumption) | exact Gr.drewN (by assumption) 1))
      (first | (go_at_call 40; refine (C1.out _).mono ?_; rintro e w8 ⟨rfl, g8⟩; have t8 := gtrans (by assumption) g8; have y1 := blk_cell (blk_gr t8 HB2.out) 1 (v := .int .i64 (rd : Int)) rfl; have y2 := blk_cell (blk_gr t8 HB2.out) 2 (v := .int .i64 (a : Int)) rfl; have y3 := blk_cell (blk_gr t8 HB2.out) 3 (v := .int .i64 (b : Int)) rfl) | (go_at_call 40; refine (C2.out _).mono ?_; rintro e w8 ⟨rfl, g8⟩; have t8 := gtrans (by assumption) g8; have y1 := blk_cell (blk_gr t8 HB2.out) 1 (v := .int .i64 (rd : Int)) rfl; have y2 := blk_cell (blk_gr t8 HB2.out) 2 (v := .int .i64 (a : Int)) rfl; have y3 := blk_cell (blk_gr t8 HB2.out) 3 (v := .int .i64 (b : Int)) rfl) | (go_at_call 40; refine (C3.out _).mono ?_; rintro e w8 ⟨rfl, g8⟩; have t8 := gtrans (by assumption) g8; have y1 := blk_cell (blk_gr t8 HB2.out) 1 (v := .int .i64 (rd : Int)) rfl; have y2 := blk_cell (blk_gr t8 HB2.out) 2 (v := .int .i64 (a : Int)) rfl; have y3 := blk_cell (blk_gr t8 HB2.out) 3 (v := .int .i64 (b : Int)) rfl))
    all_goals
      go_wp2_with fail
    all_goals
      go_ret2
      refine ⟨ret_se (HTX.out _ ?_) rfl, gtrans GY.out (by first | assumption | exact Gr.drewN (by assumption) 1)⟩
      unfold textL argL eF
      rw [HV.out]
      simp only [Int.reduceEq, or_false, false_or, or_true, true_or, if_false, if_true]
      rw [HLD.out]
      simp only [cond_true, cond_false]
      simp [ByteArray.data_append, L1.out, L2.out, L3.out, FL.out, NL.out]
end Go.Proofs.YthcfobefpknjeaaDoor.P
