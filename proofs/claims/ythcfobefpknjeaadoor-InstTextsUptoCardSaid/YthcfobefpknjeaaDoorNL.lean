/- Stage 2: the only instruction whose text it may be, at some forms, whatever the text's numbers. No condition. -/
import Derived.Test.YthcfobefpknjeaaDoorN7
set_option linter.unusedVariables false
set_option linter.unusedSimpArgs false
set_option maxRecDepth 100000
namespace Go.Proofs.YthcfobefpknjeaaDoor.P
open Go.RowKit
set_option maxHeartbeats 3200000 in
theorem c_gue_85 (k : Nat) (hk : k < 88) (h1 : 1 ≤ k) (hv : fmT k = 85) (s nm y : ByteArray) (f : Bool) (hl : s.size ≤ 100) (h : Lib.cut s.data.toList [32] = (nm.data.toList, y.data.toList, f)) (im v0 v1 v2 : Int) (w : World) (hF : FT w) (hM : ML w)
    (CND : ∀ w1, Gr w w1 → Calls Tryd.prog 53 #[.string nm] w1 fun e w' => e = .returned (iv (k : Int) 0 0 0 im) ∧ Gr w1 w')
    (CNU : ∀ w1, Gr w w1 → Calls Tryd.prog 54 #[.string y] w1 fun e w' => e = .returned (.agg #[.int .i64 v0, .int .i64 v1, .int .i64 v2]) ∧ Gr w1 w') :
    Calls Tryd.prog 41 #[.string s] w fun e w' => e = .returned (iv (k : Int) v0 0 0 v1) ∧ Gr w w' := by
  have HFT := Lib.hid (fun w1 (g : Gr w w1) => FT.gr hF g)
  have hlf : 0 < w.heap.size := cell_lt (hF 0 (by omega))
  have CC := Lib.hid (fun w1 (g : Gr w w1) => c_cut s nm y f hl h w1 (hM.gr g))
  have CD := Lib.hid CND
  have CU := Lib.hid CNU
  have hb := blk_new w (.cells #[.int .i64 0, .int .i64 0, .int .i64 0, .int .i64 0, .int .i64 0] 23)
  have gb : Gr w (w.alloc (.cells #[.int .i64 0, .int .i64 0, .int .i64 0, .int .i64 0, .int .i64 0] 23)) := (Gr.refl w).alloc (Nat.le_refl _) _
  have HV := Lib.hid hv
  clear hF hM h CNU CND hv
  go_enter Tryd.func41, Tryd.ntmps41
  go_upto_region 1 with fail
  generalize w.alloc (.cells #[.int .i64 0, .int .i64 0, .int .i64 0, .int .i64 0, .int .i64 0] 23) = wA at *
  obtain ⟨B, hB⟩ : ∃ B, B = w.heap.size := ⟨_, rfl⟩
  rw [← hB] at hb ⊢
  have HB := Lib.hid hb
  have GB := Lib.hid gb
  have EB := Lib.hid hB
  clear hb gb hB
  go_upto_region 2 with (go_at_call 52; refine (CC.out _ GB.out).mono ?_; rintro e w1 ⟨rfl, g1⟩)
  have HB1 := Lib.hid (blk_gr g1 HB.out)
  have GB1 := Lib.hid (gtrans GB.out g1)
  clear g1 CC
  go_upto_region 3 with (go_at_call 53; refine (CD.out _ GB1.out).mono ?_; rintro e w2 ⟨rfl, g2⟩)
  have HB3 := Lib.hid (blk_alloc (.cells #[.int .i64 (k : Int), .int .i64 0, .int .i64 0, .int .i64 0, .int .i64 im] 23) (blk_gr g2 HB1.out))
  have GB3 := Lib.hid (gr_al (gtrans GB1.out g2) (.cells #[.int .i64 (k : Int), .int .i64 0, .int .i64 0, .int .i64 0, .int .i64 im] 23))
  have hc3 := blk_new w2 (.cells #[.int .i64 (k : Int), .int .i64 0, .int .i64 0, .int .i64 0, .int .i64 im] 23)
  have hle : w.heap.size ≤ w2.heap.size := (gtrans GB1.out g2).size
  have hne : B < w2.heap.size := blk_lt (blk_gr g2 HB1.out)
  clear g2 HB1 GB1 CD
  generalize w2.alloc (.cells #[.int .i64 (k : Int), .int .i64 0, .int .i64 0, .int .i64 0, .int .i64 im] 23) = w3 at *
  generalize w2.heap.size = C at *
  have HC3 := Lib.hid hc3
  have c0 := blk_cell hc3 0 (v := .int .i64 (k : Int)) rfl
  have ek : ((k : Int) == 0) = false := beq_eq_false_iff_ne.2 (by omega)
  clear hc3
  go_upto_region 6 with (go_at_call 54; refine (CU.out _ GB3.out).mono ?_; rintro e w4 ⟨rfl, g4⟩)
  have HB4 := Lib.hid (blk_alloc (.cells #[.int .i64 v0, .int .i64 v1, .int .i64 v2] 86) (blk_gr g4 HB3.out))
  have GB4 := Lib.hid (gr_al (gtrans GB3.out g4) (.cells #[.int .i64 v0, .int .i64 v1, .int .i64 v2] 86))
  have hc4 := blk_alloc (.cells #[.int .i64 v0, .int .i64 v1, .int .i64 v2] 86) (blk_gr g4 HC3.out)
  have hd4 := blk_new w4 (.cells #[.int .i64 v0, .int .i64 v1, .int .i64 v2] 86)
  have hne4 : C < w4.heap.size := blk_lt (blk_gr g4 HC3.out)
  clear g4 HB3 GB3 CU c0
  go_upto_region 6 with fail
  generalize w4.alloc (.cells #[.int .i64 v0, .int .i64 v1, .int .i64 v2] 86) = w5 at *
  generalize w4.heap.size = D at *
  have hcx := HFT.out _ GB4.out k (by omega)
  rw [HV.out] at hcx
  have hk88 : (k : Int) < 88 := by omega
  have hl5 : 0 < w5.heap.size := cell_lt hcx
  have c0 := blk_cell hc4 0 (v := .int .i64 (k : Int)) rfl
  have c1 := blk_cell hc4 1 (v := .int .i64 0) rfl
  have c2 := blk_cell hc4 2 (v := .int .i64 0) rfl
  have c3 := blk_cell hc4 3 (v := .int .i64 0) rfl
  have c4 := blk_cell hc4 4 (v := .int .i64 im) rfl
  have z0 := blk_frozen hc4 0
  have z1 := blk_frozen hc4 1
  have z2 := blk_frozen hc4 2
  have z3 := blk_frozen hc4 3
  have z4 := blk_frozen hc4 4
  have y0 := blk_cell hd4 0 (v := .int .i64 v0) rfl
  have y1 := blk_cell hd4 1 (v := .int .i64 v1) rfl
  have y2 := blk_cell hd4 2 (v := .int .i64 v2) rfl
  have HC4 := Lib.hid hc4
  clear hc4 hd4
  have hCD : ¬ C = D := by omega
  have hDC : ¬ D = C := by omega
  go_upto_block 0 with fail
  go_cut [] (fun wx => wx.heap[C]? = some (.cells #[.int .i64 (k : Int), .int .i64 v0, .int .i64 0, .int .i64 0, .int .i64 v1] 23) ∧ wx.heap[B]? = some (.cells #[.int .i64 0, .int .i64 0, .int .i64 0, .int .i64 0, .int .i64 0] 23) ∧ Gr w wx)
  case first =>
    go_wp2_with fail
    go_region
    all_goals
      go_wp2_with fail
      go_meet
      exact ⟨blk_set (blk_set (HC4.out) 1 _) 4 _, blk_other (blk_other (HB4.out) _ _ (by show B ≠ C; omega)) _ _ (by show B ≠ C; omega), Gr.drewN (gset (gset (GB4.out) (by show w.heap.size ≤ C; omega) _) (by show w.heap.size ≤ C; omega) _) 1⟩
  case rest =>
    obtain ⟨h1, h2, h3⟩ := hcut
    have HB5 := Lib.hid h2
    have GB5 := Lib.hid h3
    clear c0 c1 c2 c3 c4 z0 z1 z2 z3 z4
    have c0 := blk_cell h1 0 (v := .int .i64 (k : Int)) rfl
    have c1 := blk_cell h1 1 (v := .int .i64 v0) rfl
    have c2 := blk_cell h1 2 (v := .int .i64 0) rfl
    have c3 := blk_cell h1 3 (v := .int .i64 0) rfl
    have c4 := blk_cell h1 4 (v := .int .i64 v1) rfl
    have d0 := blk_cell h2 0 (v := .int .i64 0) rfl
    have d1 := blk_cell h2 1 (v := .int .i64 0) rfl
    have d2 := blk_cell h2 2 (v := .int .i64 0) rfl
    have d3 := blk_cell h2 3 (v := .int .i64 0) rfl
    have d4 := blk_cell h2 4 (v := .int .i64 0) rfl
    have z0 := blk_frozen h2 0
    have z1 := blk_frozen h2 1
    have z2 := blk_frozen h2 2
    have z3 := blk_frozen h2 3
    have z4 := blk_frozen h2 4
    clear h1 h2 h3
    go_wp2_with fail
    obtain ⟨hz, gz⟩ := set5 EB.out HB5.out GB5.out (.int .i64 (k : Int)) (.int .i64 v0) (.int .i64 0) (.int .i64 0) (.int .i64 v1)
    generalize ((((wc.setCell ⟨B, 0, none⟩ (.int .i64 (k : Int))).setCell ⟨B, 1, none⟩ (.int .i64 v0)).setCell ⟨B, 2, none⟩ (.int .i64 0)).setCell ⟨B, 3, none⟩ (.int .i64 0)).setCell ⟨B, 4, none⟩ (.int .i64 v1) = wz at *
    have x0 := blk_cell hz 0 (v := .int .i64 (k : Int)) rfl
    have x1 := blk_cell hz 1 (v := .int .i64 v0) rfl
    have x2 := blk_cell hz 2 (v := .int .i64 0) rfl
    have x3 := blk_cell hz 3 (v := .int .i64 0) rfl
    have x4 := blk_cell hz 4 (v := .int .i64 v1) rfl
    exact bodyPost_ret (v := iv (k : Int) v0 0 0 v1) (by simp [results, Tryd.results41, go_sem, x0, x1, x2, x3, x4]) rfl ⟨rfl, gz⟩
set_option maxHeartbeats 3200000 in
theorem c_gue_66 (k : Nat) (hk : k < 88) (h1 : 1 ≤ k) (hv : fmT k = 66) (s nm y : ByteArray) (f : Bool) (hl : s.size ≤ 100) (h : Lib.cut s.data.toList [32] = (nm.data.toList, y.data.toList, f)) (im v0 v1 v2 : Int) (w : World) (hF : FT w) (hM : ML w)
    (CND : ∀ w1, Gr w w1 → Calls Tryd.prog 53 #[.string nm] w1 fun e w' => e = .returned (iv (k : Int) 0 0 0 im) ∧ Gr w1 w')
    (CNU : ∀ w1, Gr w w1 → Calls Tryd.prog 54 #[.string y] w1 fun e w' => e = .returned (.agg #[.int .i64 v0, .int .i64 v1, .int .i64 v2]) ∧ Gr w1 w') :
    Calls Tryd.prog 41 #[.string s] w fun e w' => e = .returned (iv (k : Int) 0 v0 v1 v2) ∧ Gr w w' := by
  have HFT := Lib.hid (fun w1 (g : Gr w w1) => FT.gr hF g)
  have hlf : 0 < w.heap.size := cell_lt (hF 0 (by omega))
  have CC := Lib.hid (fun w1 (g : Gr w w1) => c_cut s nm y f hl h w1 (hM.gr g))
  have CD := Lib.hid CND
  have CU := Lib.hid CNU
  have hb := blk_new w (.cells #[.int .i64 0, .int .i64 0, .int .i64 0, .int .i64 0, .int .i64 0] 23)
  have gb : Gr w (w.alloc (.cells #[.int .i64 0, .int .i64 0, .int .i64 0, .int .i64 0, .int .i64 0] 23)) := (Gr.refl w).alloc (Nat.le_refl _) _
  have HV := Lib.hid hv
  clear hF hM h CNU CND hv
  go_enter Tryd.func41, Tryd.ntmps41
  go_upto_region 1 with fail
  generalize w.alloc (.cells #[.int .i64 0, .int .i64 0, .int .i64 0, .int .i64 0, .int .i64 0] 23) = wA at *
  obtain ⟨B, hB⟩ : ∃ B, B = w.heap.size := ⟨_, rfl⟩
  rw [← hB] at hb ⊢
  have HB := Lib.hid hb
  have GB := Lib.hid gb
  have EB := Lib.hid hB
  clear hb gb hB
  go_upto_region 2 with (go_at_call 52; refine (CC.out _ GB.out).mono ?_; rintro e w1 ⟨rfl, g1⟩)
  have HB1 := Lib.hid (blk_gr g1 HB.out)
  have GB1 := Lib.hid (gtrans GB.out g1)
  clear g1 CC
  go_upto_region 3 with (go_at_call 53; refine (CD.out _ GB1.out).mono ?_; rintro e w2 ⟨rfl, g2⟩)
  have HB3 := Lib.hid (blk_alloc (.cells #[.int .i64 (k : Int), .int .i64 0, .int .i64 0, .int .i64 0, .int .i64 im] 23) (blk_gr g2 HB1.out))
  have GB3 := Lib.hid (gr_al (gtrans GB1.out g2) (.cells #[.int .i64 (k : Int), .int .i64 0, .int .i64 0, .int .i64 0, .int .i64 im] 23))
  have hc3 := blk_new w2 (.cells #[.int .i64 (k : Int), .int .i64 0, .int .i64 0, .int .i64 0, .int .i64 im] 23)
  have hle : w.heap.size ≤ w2.heap.size := (gtrans GB1.out g2).size
  have hne : B < w2.heap.size := blk_lt (blk_gr g2 HB1.out)
  clear g2 HB1 GB1 CD
  generalize w2.alloc (.cells #[.int .i64 (k : Int), .int .i64 0, .int .i64 0, .int .i64 0, .int .i64 im] 23) = w3 at *
  generalize w2.heap.size = C at *
  have HC3 := Lib.hid hc3
  have c0 := blk_cell hc3 0 (v := .int .i64 (k : Int)) rfl
  have ek : ((k : Int) == 0) = false := beq_eq_false_iff_ne.2 (by omega)
  clear hc3
  go_upto_region 6 with (go_at_call 54; refine (CU.out _ GB3.out).mono ?_; rintro e w4 ⟨rfl, g4⟩)
  have HB4 := Lib.hid (blk_alloc (.cells #[.int .i64 v0, .int .i64 v1, .int .i64 v2] 86) (blk_gr g4 HB3.out))
  have GB4 := Lib.hid (gr_al (gtrans GB3.out g4) (.cells #[.int .i64 v0, .int .i64 v1, .int .i64 v2] 86))
  have hc4 := blk_alloc (.cells #[.int .i64 v0, .int .i64 v1, .int .i64 v2] 86) (blk_gr g4 HC3.out)
  have hd4 := blk_new w4 (.cells #[.int .i64 v0, .int .i64 v1, .int .i64 v2] 86)
  have hne4 : C < w4.heap.size := blk_lt (blk_gr g4 HC3.out)
  clear g4 HB3 GB3 CU c0
  go_upto_region 6 with fail
  generalize w4.alloc (.cells #[.int .i64 v0, .int .i64 v1, .int .i64 v2] 86) = w5 at *
  generalize w4.heap.size = D at *
  have hcx := HFT.out _ GB4.out k (by omega)
  rw [HV.out] at hcx
  have hk88 : (k : Int) < 88 := by omega
  have hl5 : 0 < w5.heap.size := cell_lt hcx
  have c0 := blk_cell hc4 0 (v := .int .i64 (k : Int)) rfl
  have c1 := blk_cell hc4 1 (v := .int .i64 0) rfl
  have c2 := blk_cell hc4 2 (v := .int .i64 0) rfl
  have c3 := blk_cell hc4 3 (v := .int .i64 0) rfl
  have c4 := blk_cell hc4 4 (v := .int .i64 im) rfl
  have z0 := blk_frozen hc4 0
  have z1 := blk_frozen hc4 1
  have z2 := blk_frozen hc4 2
  have z3 := blk_frozen hc4 3
  have z4 := blk_frozen hc4 4
  have y0 := blk_cell hd4 0 (v := .int .i64 v0) rfl
  have y1 := blk_cell hd4 1 (v := .int .i64 v1) rfl
  have y2 := blk_cell hd4 2 (v := .int .i64 v2) rfl
  have HC4 := Lib.hid hc4
  clear hc4 hd4
  have hCD : ¬ C = D := by omega
  have hDC : ¬ D = C := by omega
  go_upto_block 0 with fail
  go_cut [] (fun wx => wx.heap[C]? = some (.cells #[.int .i64 (k : Int), .int .i64 0, .int .i64 v0, .int .i64 v1, .int .i64 v2] 23) ∧ wx.heap[B]? = some (.cells #[.int .i64 0, .int .i64 0, .int .i64 0, .int .i64 0, .int .i64 0] 23) ∧ Gr w wx)
  case first =>
    go_wp2_with fail
    go_region
    all_goals
      go_wp2_with fail
      go_meet
      exact ⟨blk_set (blk_set (blk_set (HC4.out) 2 _) 3 _) 4 _, blk_other (blk_other (blk_other (HB4.out) _ _ (by show B ≠ C; omega)) _ _ (by show B ≠ C; omega)) _ _ (by show B ≠ C; omega), Gr.drewN (gset (gset (gset (GB4.out) (by show w.heap.size ≤ C; omega) _) (by show w.heap.size ≤ C; omega) _) (by show w.heap.size ≤ C; omega) _) 1⟩
  case rest =>
    obtain ⟨h1, h2, h3⟩ := hcut
    have HB5 := Lib.hid h2
    have GB5 := Lib.hid h3
    clear c0 c1 c2 c3 c4 z0 z1 z2 z3 z4
    have c0 := blk_cell h1 0 (v := .int .i64 (k : Int)) rfl
    have c1 := blk_cell h1 1 (v := .int .i64 0) rfl
    have c2 := blk_cell h1 2 (v := .int .i64 v0) rfl
    have c3 := blk_cell h1 3 (v := .int .i64 v1) rfl
    have c4 := blk_cell h1 4 (v := .int .i64 v2) rfl
    have d0 := blk_cell h2 0 (v := .int .i64 0) rfl
    have d1 := blk_cell h2 1 (v := .int .i64 0) rfl
    have d2 := blk_cell h2 2 (v := .int .i64 0) rfl
    have d3 := blk_cell h2 3 (v := .int .i64 0) rfl
    have d4 := blk_cell h2 4 (v := .int .i64 0) rfl
    have z0 := blk_frozen h2 0
    have z1 := blk_frozen h2 1
    have z2 := blk_frozen h2 2
    have z3 := blk_frozen h2 3
    have z4 := blk_frozen h2 4
    clear h1 h2 h3
    go_wp2_with fail
    obtain ⟨hz, gz⟩ := set5 EB.out HB5.out GB5.out (.int .i64 (k : Int)) (.int .i64 0) (.int .i64 v0) (.int .i64 v1) (.int .i64 v2)
    generalize ((((wc.setCell ⟨B, 0, none⟩ (.int .i64 (k : Int))).setCell ⟨B, 1, none⟩ (.int .i64 0)).setCell ⟨B, 2, none⟩ (.int .i64 v0)).setCell ⟨B, 3, none⟩ (.int .i64 v1)).setCell ⟨B, 4, none⟩ (.int .i64 v2) = wz at *
    have x0 := blk_cell hz 0 (v := .int .i64 (k : Int)) rfl
    have x1 := blk_cell hz 1 (v := .int .i64 0) rfl
    have x2 := blk_cell hz 2 (v := .int .i64 v0) rfl
    have x3 := blk_cell hz 3 (v := .int .i64 v1) rfl
    have x4 := blk_cell hz 4 (v := .int .i64 v2) rfl
    exact bodyPost_ret (v := iv (k : Int) 0 v0 v1 v2) (by simp [results, Tryd.results41, go_sem, x0, x1, x2, x3, x4]) rfl ⟨rfl, gz⟩
set_option maxHeartbeats 3200000 in
theorem c_gue_78 (k : Nat) (hk : k < 88) (h1 : 1 ≤ k) (hv : fmT k = 78) (s nm y : ByteArray) (f : Bool) (hl : s.size ≤ 100) (h : Lib.cut s.data.toList [32] = (nm.data.toList, y.data.toList, f)) (im v0 v1 v2 : Int) (w : World) (hF : FT w) (hM : ML w)
    (CND : ∀ w1, Gr w w1 → Calls Tryd.prog 53 #[.string nm] w1 fun e w' => e = .returned (iv (k : Int) 0 0 0 im) ∧ Gr w1 w')
    (CNU : ∀ w1, Gr w w1 → Calls Tryd.prog 54 #[.string y] w1 fun e w' => e = .returned (.agg #[.int .i64 v0, .int .i64 v1, .int .i64 v2]) ∧ Gr w1 w') :
    Calls Tryd.prog 41 #[.string s] w fun e w' => e = .returned (iv (k : Int) 0 0 0 im) ∧ Gr w w' := by
  have HFT := Lib.hid (fun w1 (g : Gr w w1) => FT.gr hF g)
  have hlf : 0 < w.heap.size := cell_lt (hF 0 (by omega))
  have CC := Lib.hid (fun w1 (g : Gr w w1) => c_cut s nm y f hl h w1 (hM.gr g))
  have CD := Lib.hid CND
  have CU := Lib.hid CNU
  have hb := blk_new w (.cells #[.int .i64 0, .int .i64 0, .int .i64 0, .int .i64 0, .int .i64 0] 23)
  have gb : Gr w (w.alloc (.cells #[.int .i64 0, .int .i64 0, .int .i64 0, .int .i64 0, .int .i64 0] 23)) := (Gr.refl w).alloc (Nat.le_refl _) _
  have HV := Lib.hid hv
  clear hF hM h CNU CND hv
  go_enter Tryd.func41, Tryd.ntmps41
  go_upto_region 1 with fail
  generalize w.alloc (.cells #[.int .i64 0, .int .i64 0, .int .i64 0, .int .i64 0, .int .i64 0] 23) = wA at *
  obtain ⟨B, hB⟩ : ∃ B, B = w.heap.size := ⟨_, rfl⟩
  rw [← hB] at hb ⊢
  have HB := Lib.hid hb
  have GB := Lib.hid gb
  have EB := Lib.hid hB
  clear hb gb hB
  go_upto_region 2 with (go_at_call 52; refine (CC.out _ GB.out).mono ?_; rintro e w1 ⟨rfl, g1⟩)
  have HB1 := Lib.hid (blk_gr g1 HB.out)
  have GB1 := Lib.hid (gtrans GB.out g1)
  clear g1 CC
  go_upto_region 3 with (go_at_call 53; refine (CD.out _ GB1.out).mono ?_; rintro e w2 ⟨rfl, g2⟩)
  have HB3 := Lib.hid (blk_alloc (.cells #[.int .i64 (k : Int), .int .i64 0, .int .i64 0, .int .i64 0, .int .i64 im] 23) (blk_gr g2 HB1.out))
  have GB3 := Lib.hid (gr_al (gtrans GB1.out g2) (.cells #[.int .i64 (k : Int), .int .i64 0, .int .i64 0, .int .i64 0, .int .i64 im] 23))
  have hc3 := blk_new w2 (.cells #[.int .i64 (k : Int), .int .i64 0, .int .i64 0, .int .i64 0, .int .i64 im] 23)
  have hle : w.heap.size ≤ w2.heap.size := (gtrans GB1.out g2).size
  have hne : B < w2.heap.size := blk_lt (blk_gr g2 HB1.out)
  clear g2 HB1 GB1 CD
  generalize w2.alloc (.cells #[.int .i64 (k : Int), .int .i64 0, .int .i64 0, .int .i64 0, .int .i64 im] 23) = w3 at *
  generalize w2.heap.size = C at *
  have HC3 := Lib.hid hc3
  have c0 := blk_cell hc3 0 (v := .int .i64 (k : Int)) rfl
  have ek : ((k : Int) == 0) = false := beq_eq_false_iff_ne.2 (by omega)
  clear hc3
  go_upto_region 6 with (go_at_call 54; refine (CU.out _ GB3.out).mono ?_; rintro e w4 ⟨rfl, g4⟩)
  have HB4 := Lib.hid (blk_alloc (.cells #[.int .i64 v0, .int .i64 v1, .int .i64 v2] 86) (blk_gr g4 HB3.out))
  have GB4 := Lib.hid (gr_al (gtrans GB3.out g4) (.cells #[.int .i64 v0, .int .i64 v1, .int .i64 v2] 86))
  have hc4 := blk_alloc (.cells #[.int .i64 v0, .int .i64 v1, .int .i64 v2] 86) (blk_gr g4 HC3.out)
  have hd4 := blk_new w4 (.cells #[.int .i64 v0, .int .i64 v1, .int .i64 v2] 86)
  have hne4 : C < w4.heap.size := blk_lt (blk_gr g4 HC3.out)
  clear g4 HB3 GB3 CU c0
  go_upto_region 6 with fail
  generalize w4.alloc (.cells #[.int .i64 v0, .int .i64 v1, .int .i64 v2] 86) = w5 at *
  generalize w4.heap.size = D at *
  have hcx := HFT.out _ GB4.out k (by omega)
  rw [HV.out] at hcx
  have hk88 : (k : Int) < 88 := by omega
  have hl5 : 0 < w5.heap.size := cell_lt hcx
  have c0 := blk_cell hc4 0 (v := .int .i64 (k : Int)) rfl
  have c1 := blk_cell hc4 1 (v := .int .i64 0) rfl
  have c2 := blk_cell hc4 2 (v := .int .i64 0) rfl
  have c3 := blk_cell hc4 3 (v := .int .i64 0) rfl
  have c4 := blk_cell hc4 4 (v := .int .i64 im) rfl
  have z0 := blk_frozen hc4 0
  have z1 := blk_frozen hc4 1
  have z2 := blk_frozen hc4 2
  have z3 := blk_frozen hc4 3
  have z4 := blk_frozen hc4 4
  have y0 := blk_cell hd4 0 (v := .int .i64 v0) rfl
  have y1 := blk_cell hd4 1 (v := .int .i64 v1) rfl
  have y2 := blk_cell hd4 2 (v := .int .i64 v2) rfl
  have HC4 := Lib.hid hc4
  clear hc4 hd4
  have hCD : ¬ C = D := by omega
  have hDC : ¬ D = C := by omega
  go_upto_block 0 with fail
  go_cut [] (fun wx => wx.heap[C]? = some (.cells #[.int .i64 (k : Int), .int .i64 0, .int .i64 0, .int .i64 0, .int .i64 im] 23) ∧ wx.heap[B]? = some (.cells #[.int .i64 0, .int .i64 0, .int .i64 0, .int .i64 0, .int .i64 0] 23) ∧ Gr w wx)
  case first =>
    go_wp2_with fail
    go_meet
    exact ⟨HC4.out, HB4.out, GB4.out⟩
  case rest =>
    obtain ⟨h1, h2, h3⟩ := hcut
    have HB5 := Lib.hid h2
    have GB5 := Lib.hid h3
    clear c0 c1 c2 c3 c4 z0 z1 z2 z3 z4
    have c0 := blk_cell h1 0 (v := .int .i64 (k : Int)) rfl
    have c1 := blk_cell h1 1 (v := .int .i64 0) rfl
    have c2 := blk_cell h1 2 (v := .int .i64 0) rfl
    have c3 := blk_cell h1 3 (v := .int .i64 0) rfl
    have c4 := blk_cell h1 4 (v := .int .i64 im) rfl
    have d0 := blk_cell h2 0 (v := .int .i64 0) rfl
    have d1 := blk_cell h2 1 (v := .int .i64 0) rfl
    have d2 := blk_cell h2 2 (v := .int .i64 0) rfl
    have d3 := blk_cell h2 3 (v := .int .i64 0) rfl
    have d4 := blk_cell h2 4 (v := .int .i64 0) rfl
    have z0 := blk_frozen h2 0
    have z1 := blk_frozen h2 1
    have z2 := blk_frozen h2 2
    have z3 := blk_frozen h2 3
    have z4 := blk_frozen h2 4
    clear h1 h2 h3
    go_wp2_with fail
    obtain ⟨hz, gz⟩ := set5 EB.out HB5.out GB5.out (.int .i64 (k : Int)) (.int .i64 0) (.int .i64 0) (.int .i64 0) (.int .i64 im)
    generalize ((((wc.setCell ⟨B, 0, none⟩ (.int .i64 (k : Int))).setCell ⟨B, 1, none⟩ (.int .i64 0)).setCell ⟨B, 2, none⟩ (.int .i64 0)).setCell ⟨B, 3, none⟩ (.int .i64 0)).setCell ⟨B, 4, none⟩ (.int .i64 im) = wz at *
    have x0 := blk_cell hz 0 (v := .int .i64 (k : Int)) rfl
    have x1 := blk_cell hz 1 (v := .int .i64 0) rfl
    have x2 := blk_cell hz 2 (v := .int .i64 0) rfl
    have x3 := blk_cell hz 3 (v := .int .i64 0) rfl
    have x4 := blk_cell hz 4 (v := .int .i64 im) rfl
    exact bodyPost_ret (v := iv (k : Int) 0 0 0 im) (by simp [results, Tryd.results41, go_sem, x0, x1, x2, x3, x4]) rfl ⟨rfl, gz⟩
end Go.Proofs.YthcfobefpknjeaaDoor.P
namespace Go.Proofs.YthcfobefpknjeaaDoor.P
open Go.RowKit
set_option maxHeartbeats 3200000 in
theorem c_gue_74 (k : Nat) (hk : k < 88) (h1 : 1 ≤ k) (hv : fmT k = 74) (s nm y : ByteArray) (f : Bool) (hl : s.size ≤ 100) (h : Lib.cut s.data.toList [32] = (nm.data.toList, y.data.toList, f)) (im v0 v1 v2 : Int) (w : World) (hF : FT w) (hM : ML w)
    (CND : ∀ w1, Gr w w1 → Calls Tryd.prog 53 #[.string nm] w1 fun e w' => e = .returned (iv (k : Int) 0 0 0 im) ∧ Gr w1 w')
    (CNU : ∀ w1, Gr w w1 → Calls Tryd.prog 54 #[.string y] w1 fun e w' => e = .returned (.agg #[.int .i64 v0, .int .i64 v1, .int .i64 v2]) ∧ Gr w1 w') :
    Calls Tryd.prog 41 #[.string s] w fun e w' => e = .returned (iv (k : Int) v0 0 0 v1) ∧ Gr w w' := by
  have HFT := Lib.hid (fun w1 (g : Gr w w1) => FT.gr hF g)
  have hlf : 0 < w.heap.size := cell_lt (hF 0 (by omega))
  have CC := Lib.hid (fun w1 (g : Gr w w1) => c_cut s nm y f hl h w1 (hM.gr g))
  have CD := Lib.hid CND
  have CU := Lib.hid CNU
  have hb := blk_new w (.cells #[.int .i64 0, .int .i64 0, .int .i64 0, .int .i64 0, .int .i64 0] 23)
  have gb : Gr w (w.alloc (.cells #[.int .i64 0, .int .i64 0, .int .i64 0, .int .i64 0, .int .i64 0] 23)) := (Gr.refl w).alloc (Nat.le_refl _) _
  have HV := Lib.hid hv
  clear hF hM h CNU CND hv
  go_enter Tryd.func41, Tryd.ntmps41
  go_upto_region 1 with fail
  generalize w.alloc (.cells #[.int .i64 0, .int .i64 0, .int .i64 0, .int .i64 0, .int .i64 0] 23) = wA at *
  obtain ⟨B, hB⟩ : ∃ B, B = w.heap.size := ⟨_, rfl⟩
  rw [← hB] at hb ⊢
  have HB := Lib.hid hb
  have GB := Lib.hid gb
  have EB := Lib.hid hB
  clear hb gb hB
  go_upto_region 2 with (go_at_call 52; refine (CC.out _ GB.out).mono ?_; rintro e w1 ⟨rfl, g1⟩)
  have HB1 := Lib.hid (blk_gr g1 HB.out)
  have GB1 := Lib.hid (gtrans GB.out g1)
  clear g1 CC
  go_upto_region 3 with (go_at_call 53; refine (CD.out _ GB1.out).mono ?_; rintro e w2 ⟨rfl, g2⟩)
  have HB3 := Lib.hid (blk_alloc (.cells #[.int .i64 (k : Int), .int .i64 0, .int .i64 0, .int .i64 0, .int .i64 im] 23) (blk_gr g2 HB1.out))
  have GB3 := Lib.hid (gr_al (gtrans GB1.out g2) (.cells #[.int .i64 (k : Int), .int .i64 0, .int .i64 0, .int .i64 0, .int .i64 im] 23))
  have hc3 := blk_new w2 (.cells #[.int .i64 (k : Int), .int .i64 0, .int .i64 0, .int .i64 0, .int .i64 im] 23)
  have hle : w.heap.size ≤ w2.heap.size := (gtrans GB1.out g2).size
  have hne : B < w2.heap.size := blk_lt (blk_gr g2 HB1.out)
  clear g2 HB1 GB1 CD
  generalize w2.alloc (.cells #[.int .i64 (k : Int), .int .i64 0, .int .i64 0, .int .i64 0, .int .i64 im] 23) = w3 at *
  generalize w2.heap.size = C at *
  have HC3 := Lib.hid hc3
  have c0 := blk_cell hc3 0 (v := .int .i64 (k : Int)) rfl
  have ek : ((k : Int) == 0) = false := beq_eq_false_iff_ne.2 (by omega)
  clear hc3
  go_upto_region 6 with (go_at_call 54; refine (CU.out _ GB3.out).mono ?_; rintro e w4 ⟨rfl, g4⟩)
  have HB4 := Lib.hid (blk_alloc (.cells #[.int .i64 v0, .int .i64 v1, .int .i64 v2] 86) (blk_gr g4 HB3.out))
  have GB4 := Lib.hid (gr_al (gtrans GB3.out g4) (.cells #[.int .i64 v0, .int .i64 v1, .int .i64 v2] 86))
  have hc4 := blk_alloc (.cells #[.int .i64 v0, .int .i64 v1, .int .i64 v2] 86) (blk_gr g4 HC3.out)
  have hd4 := blk_new w4 (.cells #[.int .i64 v0, .int .i64 v1, .int .i64 v2] 86)
  have hne4 : C < w4.heap.size := blk_lt (blk_gr g4 HC3.out)
  clear g4 HB3 GB3 CU c0
  go_upto_region 6 with fail
  generalize w4.alloc (.cells #[.int .i64 v0, .int .i64 v1, .int .i64 v2] 86) = w5 at *
  generalize w4.heap.size = D at *
  have hcx := HFT.out _ GB4.out k (by omega)
  rw [HV.out] at hcx
  have hk88 : (k : Int) < 88 := by omega
  have hl5 : 0 < w5.heap.size := cell_lt hcx
  have c0 := blk_cell hc4 0 (v := .int .i64 (k : Int)) rfl
  have c1 := blk_cell hc4 1 (v := .int .i64 0) rfl
  have c2 := blk_cell hc4 2 (v := .int .i64 0) rfl
  have c3 := blk_cell hc4 3 (v := .int .i64 0) rfl
  have c4 := blk_cell hc4 4 (v := .int .i64 im) rfl
  have z0 := blk_frozen hc4 0
  have z1 := blk_frozen hc4 1
  have z2 := blk_frozen hc4 2
  have z3 := blk_frozen hc4 3
  have z4 := blk_frozen hc4 4
  have y0 := blk_cell hd4 0 (v := .int .i64 v0) rfl
  have y1 := blk_cell hd4 1 (v := .int .i64 v1) rfl
  have y2 := blk_cell hd4 2 (v := .int .i64 v2) rfl
  have HC4 := Lib.hid hc4
  clear hc4 hd4
  have hCD : ¬ C = D := by omega
  have hDC : ¬ D = C := by omega
  go_upto_block 0 with fail
  go_cut [] (fun wx => wx.heap[C]? = some (.cells #[.int .i64 (k : Int), .int .i64 v0, .int .i64 0, .int .i64 0, .int .i64 v1] 23) ∧ wx.heap[B]? = some (.cells #[.int .i64 0, .int .i64 0, .int .i64 0, .int .i64 0, .int .i64 0] 23) ∧ Gr w wx)
  case first =>
    go_wp2_with fail
    go_region
    all_goals
      go_wp2_with fail
      go_meet
      exact ⟨blk_set (blk_set (HC4.out) 1 _) 4 _, blk_other (blk_other (HB4.out) _ _ (by show B ≠ C; omega)) _ _ (by show B ≠ C; omega), Gr.drewN (gset (gset (GB4.out) (by show w.heap.size ≤ C; omega) _) (by show w.heap.size ≤ C; omega) _) 1⟩
  case rest =>
    obtain ⟨h1, h2, h3⟩ := hcut
    have HB5 := Lib.hid h2
    have GB5 := Lib.hid h3
    clear c0 c1 c2 c3 c4 z0 z1 z2 z3 z4
    have c0 := blk_cell h1 0 (v := .int .i64 (k : Int)) rfl
    have c1 := blk_cell h1 1 (v := .int .i64 v0) rfl
    have c2 := blk_cell h1 2 (v := .int .i64 0) rfl
    have c3 := blk_cell h1 3 (v := .int .i64 0) rfl
    have c4 := blk_cell h1 4 (v := .int .i64 v1) rfl
    have d0 := blk_cell h2 0 (v := .int .i64 0) rfl
    have d1 := blk_cell h2 1 (v := .int .i64 0) rfl
    have d2 := blk_cell h2 2 (v := .int .i64 0) rfl
    have d3 := blk_cell h2 3 (v := .int .i64 0) rfl
    have d4 := blk_cell h2 4 (v := .int .i64 0) rfl
    have z0 := blk_frozen h2 0
    have z1 := blk_frozen h2 1
    have z2 := blk_frozen h2 2
    have z3 := blk_frozen h2 3
    have z4 := blk_frozen h2 4
    clear h1 h2 h3
    go_wp2_with fail
    obtain ⟨hz, gz⟩ := set5 EB.out HB5.out GB5.out (.int .i64 (k : Int)) (.int .i64 v0) (.int .i64 0) (.int .i64 0) (.int .i64 v1)
    generalize ((((wc.setCell ⟨B, 0, none⟩ (.int .i64 (k : Int))).setCell ⟨B, 1, none⟩ (.int .i64 v0)).setCell ⟨B, 2, none⟩ (.int .i64 0)).setCell ⟨B, 3, none⟩ (.int .i64 0)).setCell ⟨B, 4, none⟩ (.int .i64 v1) = wz at *
    have x0 := blk_cell hz 0 (v := .int .i64 (k : Int)) rfl
    have x1 := blk_cell hz 1 (v := .int .i64 v0) rfl
    have x2 := blk_cell hz 2 (v := .int .i64 0) rfl
    have x3 := blk_cell hz 3 (v := .int .i64 0) rfl
    have x4 := blk_cell hz 4 (v := .int .i64 v1) rfl
    exact bodyPost_ret (v := iv (k : Int) v0 0 0 v1) (by simp [results, Tryd.results41, go_sem, x0, x1, x2, x3, x4]) rfl ⟨rfl, gz⟩
set_option maxHeartbeats 3200000 in
theorem c_gue_83 (k : Nat) (hk : k < 88) (h1 : 1 ≤ k) (hv : fmT k = 83) (s nm y : ByteArray) (f : Bool) (hl : s.size ≤ 100) (h : Lib.cut s.data.toList [32] = (nm.data.toList, y.data.toList, f)) (im v0 v1 v2 : Int) (w : World) (hF : FT w) (hM : ML w)
    (CND : ∀ w1, Gr w w1 → Calls Tryd.prog 53 #[.string nm] w1 fun e w' => e = .returned (iv (k : Int) 0 0 0 im) ∧ Gr w1 w')
    (CNU : ∀ w1, Gr w w1 → Calls Tryd.prog 54 #[.string y] w1 fun e w' => e = .returned (.agg #[.int .i64 v0, .int .i64 v1, .int .i64 v2]) ∧ Gr w1 w') :
    Calls Tryd.prog 41 #[.string s] w fun e w' => e = .returned (iv (k : Int) 0 v2 v0 v1) ∧ Gr w w' := by
  have HFT := Lib.hid (fun w1 (g : Gr w w1) => FT.gr hF g)
  have hlf : 0 < w.heap.size := cell_lt (hF 0 (by omega))
  have CC := Lib.hid (fun w1 (g : Gr w w1) => c_cut s nm y f hl h w1 (hM.gr g))
  have CD := Lib.hid CND
  have CU := Lib.hid CNU
  have hb := blk_new w (.cells #[.int .i64 0, .int .i64 0, .int .i64 0, .int .i64 0, .int .i64 0] 23)
  have gb : Gr w (w.alloc (.cells #[.int .i64 0, .int .i64 0, .int .i64 0, .int .i64 0, .int .i64 0] 23)) := (Gr.refl w).alloc (Nat.le_refl _) _
  have HV := Lib.hid hv
  clear hF hM h CNU CND hv
  go_enter Tryd.func41, Tryd.ntmps41
  go_upto_region 1 with fail
  generalize w.alloc (.cells #[.int .i64 0, .int .i64 0, .int .i64 0, .int .i64 0, .int .i64 0] 23) = wA at *
  obtain ⟨B, hB⟩ : ∃ B, B = w.heap.size := ⟨_, rfl⟩
  rw [← hB] at hb ⊢
  have HB := Lib.hid hb
  have GB := Lib.hid gb
  have EB := Lib.hid hB
  clear hb gb hB
  go_upto_region 2 with (go_at_call 52; refine (CC.out _ GB.out).mono ?_; rintro e w1 ⟨rfl, g1⟩)
  have HB1 := Lib.hid (blk_gr g1 HB.out)
  have GB1 := Lib.hid (gtrans GB.out g1)
  clear g1 CC
  go_upto_region 3 with (go_at_call 53; refine (CD.out _ GB1.out).mono ?_; rintro e w2 ⟨rfl, g2⟩)
  have HB3 := Lib.hid (blk_alloc (.cells #[.int .i64 (k : Int), .int .i64 0, .int .i64 0, .int .i64 0, .int .i64 im] 23) (blk_gr g2 HB1.out))
  have GB3 := Lib.hid (gr_al (gtrans GB1.out g2) (.cells #[.int .i64 (k : Int), .int .i64 0, .int .i64 0, .int .i64 0, .int .i64 im] 23))
  have hc3 := blk_new w2 (.cells #[.int .i64 (k : Int), .int .i64 0, .int .i64 0, .int .i64 0, .int .i64 im] 23)
  have hle : w.heap.size ≤ w2.heap.size := (gtrans GB1.out g2).size
  have hne : B < w2.heap.size := blk_lt (blk_gr g2 HB1.out)
  clear g2 HB1 GB1 CD
  generalize w2.alloc (.cells #[.int .i64 (k : Int), .int .i64 0, .int .i64 0, .int .i64 0, .int .i64 im] 23) = w3 at *
  generalize w2.heap.size = C at *
  have HC3 := Lib.hid hc3
  have c0 := blk_cell hc3 0 (v := .int .i64 (k : Int)) rfl
  have ek : ((k : Int) == 0) = false := beq_eq_false_iff_ne.2 (by omega)
  clear hc3
  go_upto_region 6 with (go_at_call 54; refine (CU.out _ GB3.out).mono ?_; rintro e w4 ⟨rfl, g4⟩)
  have HB4 := Lib.hid (blk_alloc (.cells #[.int .i64 v0, .int .i64 v1, .int .i64 v2] 86) (blk_gr g4 HB3.out))
  have GB4 := Lib.hid (gr_al (gtrans GB3.out g4) (.cells #[.int .i64 v0, .int .i64 v1, .int .i64 v2] 86))
  have hc4 := blk_alloc (.cells #[.int .i64 v0, .int .i64 v1, .int .i64 v2] 86) (blk_gr g4 HC3.out)
  have hd4 := blk_new w4 (.cells #[.int .i64 v0, .int .i64 v1, .int .i64 v2] 86)
  have hne4 : C < w4.heap.size := blk_lt (blk_gr g4 HC3.out)
  clear g4 HB3 GB3 CU c0
  go_upto_region 6 with fail
  generalize w4.alloc (.cells #[.int .i64 v0, .int .i64 v1, .int .i64 v2] 86) = w5 at *
  generalize w4.heap.size = D at *
  have hcx := HFT.out _ GB4.out k (by omega)
  rw [HV.out] at hcx
  have hk88 : (k : Int) < 88 := by omega
  have hl5 : 0 < w5.heap.size := cell_lt hcx
  have c0 := blk_cell hc4 0 (v := .int .i64 (k : Int)) rfl
  have c1 := blk_cell hc4 1 (v := .int .i64 0) rfl
  have c2 := blk_cell hc4 2 (v := .int .i64 0) rfl
  have c3 := blk_cell hc4 3 (v := .int .i64 0) rfl
  have c4 := blk_cell hc4 4 (v := .int .i64 im) rfl
  have z0 := blk_frozen hc4 0
  have z1 := blk_frozen hc4 1
  have z2 := blk_frozen hc4 2
  have z3 := blk_frozen hc4 3
  have z4 := blk_frozen hc4 4
  have y0 := blk_cell hd4 0 (v := .int .i64 v0) rfl
  have y1 := blk_cell hd4 1 (v := .int .i64 v1) rfl
  have y2 := blk_cell hd4 2 (v := .int .i64 v2) rfl
  have HC4 := Lib.hid hc4
  clear hc4 hd4
  have hCD : ¬ C = D := by omega
  have hDC : ¬ D = C := by omega
  go_upto_block 0 with fail
  go_cut [] (fun wx => wx.heap[C]? = some (.cells #[.int .i64 (k : Int), .int .i64 0, .int .i64 v2, .int .i64 v0, .int .i64 v1] 23) ∧ wx.heap[B]? = some (.cells #[.int .i64 0, .int .i64 0, .int .i64 0, .int .i64 0, .int .i64 0] 23) ∧ Gr w wx)
  case first =>
    go_wp2_with fail
    go_region
    all_goals
      go_wp2_with fail
      go_meet
      exact ⟨blk_set (blk_set (blk_set (HC4.out) 3 _) 4 _) 2 _, blk_other (blk_other (blk_other (HB4.out) _ _ (by show B ≠ C; omega)) _ _ (by show B ≠ C; omega)) _ _ (by show B ≠ C; omega), Gr.drewN (gset (gset (gset (GB4.out) (by show w.heap.size ≤ C; omega) _) (by show w.heap.size ≤ C; omega) _) (by show w.heap.size ≤ C; omega) _) 1⟩
  case rest =>
    obtain ⟨h1, h2, h3⟩ := hcut
    have HB5 := Lib.hid h2
    have GB5 := Lib.hid h3
    clear c0 c1 c2 c3 c4 z0 z1 z2 z3 z4
    have c0 := blk_cell h1 0 (v := .int .i64 (k : Int)) rfl
    have c1 := blk_cell h1 1 (v := .int .i64 0) rfl
    have c2 := blk_cell h1 2 (v := .int .i64 v2) rfl
    have c3 := blk_cell h1 3 (v := .int .i64 v0) rfl
    have c4 := blk_cell h1 4 (v := .int .i64 v1) rfl
    have d0 := blk_cell h2 0 (v := .int .i64 0) rfl
    have d1 := blk_cell h2 1 (v := .int .i64 0) rfl
    have d2 := blk_cell h2 2 (v := .int .i64 0) rfl
    have d3 := blk_cell h2 3 (v := .int .i64 0) rfl
    have d4 := blk_cell h2 4 (v := .int .i64 0) rfl
    have z0 := blk_frozen h2 0
    have z1 := blk_frozen h2 1
    have z2 := blk_frozen h2 2
    have z3 := blk_frozen h2 3
    have z4 := blk_frozen h2 4
    clear h1 h2 h3
    go_wp2_with fail
    obtain ⟨hz, gz⟩ := set5 EB.out HB5.out GB5.out (.int .i64 (k : Int)) (.int .i64 0) (.int .i64 v2) (.int .i64 v0) (.int .i64 v1)
    generalize ((((wc.setCell ⟨B, 0, none⟩ (.int .i64 (k : Int))).setCell ⟨B, 1, none⟩ (.int .i64 0)).setCell ⟨B, 2, none⟩ (.int .i64 v2)).setCell ⟨B, 3, none⟩ (.int .i64 v0)).setCell ⟨B, 4, none⟩ (.int .i64 v1) = wz at *
    have x0 := blk_cell hz 0 (v := .int .i64 (k : Int)) rfl
    have x1 := blk_cell hz 1 (v := .int .i64 0) rfl
    have x2 := blk_cell hz 2 (v := .int .i64 v2) rfl
    have x3 := blk_cell hz 3 (v := .int .i64 v0) rfl
    have x4 := blk_cell hz 4 (v := .int .i64 v1) rfl
    exact bodyPost_ret (v := iv (k : Int) 0 v2 v0 v1) (by simp [results, Tryd.results41, go_sem, x0, x1, x2, x3, x4]) rfl ⟨rfl, gz⟩
set_option maxHeartbeats 3200000 in
theorem c_gue_82 (k : Nat) (hk : k < 88) (h1 : 1 ≤ k) (hv : fmT k = 82) (s nm y : ByteArray) (f : Bool) (hl : s.size ≤ 100) (h : Lib.cut s.data.toList [32] = (nm.data.toList, y.data.toList, f)) (im v0 v1 v2 : Int) (w : World) (hF : FT w) (hM : ML w)
    (CND : ∀ w1, Gr w w1 → Calls Tryd.prog 53 #[.string nm] w1 fun e w' => e = .returned (iv (k : Int) 0 0 0 im) ∧ Gr w1 w')
    (CNU : ∀ w1, Gr w w1 → Calls Tryd.prog 54 #[.string y] w1 fun e w' => e = .returned (.agg #[.int .i64 v0, .int .i64 v1, .int .i64 v2]) ∧ Gr w1 w') :
    Calls Tryd.prog 41 #[.string s] w fun e w' => e = .returned (iv (k : Int) v0 v1 v2 im) ∧ Gr w w' := by
  have HFT := Lib.hid (fun w1 (g : Gr w w1) => FT.gr hF g)
  have hlf : 0 < w.heap.size := cell_lt (hF 0 (by omega))
  have CC := Lib.hid (fun w1 (g : Gr w w1) => c_cut s nm y f hl h w1 (hM.gr g))
  have CD := Lib.hid CND
  have CU := Lib.hid CNU
  have hb := blk_new w (.cells #[.int .i64 0, .int .i64 0, .int .i64 0, .int .i64 0, .int .i64 0] 23)
  have gb : Gr w (w.alloc (.cells #[.int .i64 0, .int .i64 0, .int .i64 0, .int .i64 0, .int .i64 0] 23)) := (Gr.refl w).alloc (Nat.le_refl _) _
  have HV := Lib.hid hv
  clear hF hM h CNU CND hv
  go_enter Tryd.func41, Tryd.ntmps41
  go_upto_region 1 with fail
  generalize w.alloc (.cells #[.int .i64 0, .int .i64 0, .int .i64 0, .int .i64 0, .int .i64 0] 23) = wA at *
  obtain ⟨B, hB⟩ : ∃ B, B = w.heap.size := ⟨_, rfl⟩
  rw [← hB] at hb ⊢
  have HB := Lib.hid hb
  have GB := Lib.hid gb
  have EB := Lib.hid hB
  clear hb gb hB
  go_upto_region 2 with (go_at_call 52; refine (CC.out _ GB.out).mono ?_; rintro e w1 ⟨rfl, g1⟩)
  have HB1 := Lib.hid (blk_gr g1 HB.out)
  have GB1 := Lib.hid (gtrans GB.out g1)
  clear g1 CC
  go_upto_region 3 with (go_at_call 53; refine (CD.out _ GB1.out).mono ?_; rintro e w2 ⟨rfl, g2⟩)
  have HB3 := Lib.hid (blk_alloc (.cells #[.int .i64 (k : Int), .int .i64 0, .int .i64 0, .int .i64 0, .int .i64 im] 23) (blk_gr g2 HB1.out))
  have GB3 := Lib.hid (gr_al (gtrans GB1.out g2) (.cells #[.int .i64 (k : Int), .int .i64 0, .int .i64 0, .int .i64 0, .int .i64 im] 23))
  have hc3 := blk_new w2 (.cells #[.int .i64 (k : Int), .int .i64 0, .int .i64 0, .int .i64 0, .int .i64 im] 23)
  have hle : w.heap.size ≤ w2.heap.size := (gtrans GB1.out g2).size
  have hne : B < w2.heap.size := blk_lt (blk_gr g2 HB1.out)
  clear g2 HB1 GB1 CD
  generalize w2.alloc (.cells #[.int .i64 (k : Int), .int .i64 0, .int .i64 0, .int .i64 0, .int .i64 im] 23) = w3 at *
  generalize w2.heap.size = C at *
  have HC3 := Lib.hid hc3
  have c0 := blk_cell hc3 0 (v := .int .i64 (k : Int)) rfl
  have ek : ((k : Int) == 0) = false := beq_eq_false_iff_ne.2 (by omega)
  clear hc3
  go_upto_region 6 with (go_at_call 54; refine (CU.out _ GB3.out).mono ?_; rintro e w4 ⟨rfl, g4⟩)
  have HB4 := Lib.hid (blk_alloc (.cells #[.int .i64 v0, .int .i64 v1, .int .i64 v2] 86) (blk_gr g4 HB3.out))
  have GB4 := Lib.hid (gr_al (gtrans GB3.out g4) (.cells #[.int .i64 v0, .int .i64 v1, .int .i64 v2] 86))
  have hc4 := blk_alloc (.cells #[.int .i64 v0, .int .i64 v1, .int .i64 v2] 86) (blk_gr g4 HC3.out)
  have hd4 := blk_new w4 (.cells #[.int .i64 v0, .int .i64 v1, .int .i64 v2] 86)
  have hne4 : C < w4.heap.size := blk_lt (blk_gr g4 HC3.out)
  clear g4 HB3 GB3 CU c0
  go_upto_region 6 with fail
  generalize w4.alloc (.cells #[.int .i64 v0, .int .i64 v1, .int .i64 v2] 86) = w5 at *
  generalize w4.heap.size = D at *
  have hcx := HFT.out _ GB4.out k (by omega)
  rw [HV.out] at hcx
  have hk88 : (k : Int) < 88 := by omega
  have hl5 : 0 < w5.heap.size := cell_lt hcx
  have c0 := blk_cell hc4 0 (v := .int .i64 (k : Int)) rfl
  have c1 := blk_cell hc4 1 (v := .int .i64 0) rfl
  have c2 := blk_cell hc4 2 (v := .int .i64 0) rfl
  have c3 := blk_cell hc4 3 (v := .int .i64 0) rfl
  have c4 := blk_cell hc4 4 (v := .int .i64 im) rfl
  have z0 := blk_frozen hc4 0
  have z1 := blk_frozen hc4 1
  have z2 := blk_frozen hc4 2
  have z3 := blk_frozen hc4 3
  have z4 := blk_frozen hc4 4
  have y0 := blk_cell hd4 0 (v := .int .i64 v0) rfl
  have y1 := blk_cell hd4 1 (v := .int .i64 v1) rfl
  have y2 := blk_cell hd4 2 (v := .int .i64 v2) rfl
  have HC4 := Lib.hid hc4
  clear hc4 hd4
  have hCD : ¬ C = D := by omega
  have hDC : ¬ D = C := by omega
  go_upto_block 0 with fail
  go_cut [] (fun wx => wx.heap[C]? = some (.cells #[.int .i64 (k : Int), .int .i64 v0, .int .i64 v1, .int .i64 v2, .int .i64 im] 23) ∧ wx.heap[B]? = some (.cells #[.int .i64 0, .int .i64 0, .int .i64 0, .int .i64 0, .int .i64 0] 23) ∧ Gr w wx)
  case first =>
    go_wp2_with fail
    go_region
    all_goals
      go_wp2_with fail
      go_meet
      exact ⟨blk_set (blk_set (blk_set (HC4.out) 1 _) 2 _) 3 _, blk_other (blk_other (blk_other (HB4.out) _ _ (by show B ≠ C; omega)) _ _ (by show B ≠ C; omega)) _ _ (by show B ≠ C; omega), Gr.drewN (gset (gset (gset (GB4.out) (by show w.heap.size ≤ C; omega) _) (by show w.heap.size ≤ C; omega) _) (by show w.heap.size ≤ C; omega) _) 1⟩
  case rest =>
    obtain ⟨h1, h2, h3⟩ := hcut
    have HB5 := Lib.hid h2
    have GB5 := Lib.hid h3
    clear c0 c1 c2 c3 c4 z0 z1 z2 z3 z4
    have c0 := blk_cell h1 0 (v := .int .i64 (k : Int)) rfl
    have c1 := blk_cell h1 1 (v := .int .i64 v0) rfl
    have c2 := blk_cell h1 2 (v := .int .i64 v1) rfl
    have c3 := blk_cell h1 3 (v := .int .i64 v2) rfl
    have c4 := blk_cell h1 4 (v := .int .i64 im) rfl
    have d0 := blk_cell h2 0 (v := .int .i64 0) rfl
    have d1 := blk_cell h2 1 (v := .int .i64 0) rfl
    have d2 := blk_cell h2 2 (v := .int .i64 0) rfl
    have d3 := blk_cell h2 3 (v := .int .i64 0) rfl
    have d4 := blk_cell h2 4 (v := .int .i64 0) rfl
    have z0 := blk_frozen h2 0
    have z1 := blk_frozen h2 1
    have z2 := blk_frozen h2 2
    have z3 := blk_frozen h2 3
    have z4 := blk_frozen h2 4
    clear h1 h2 h3
    go_wp2_with fail
    obtain ⟨hz, gz⟩ := set5 EB.out HB5.out GB5.out (.int .i64 (k : Int)) (.int .i64 v0) (.int .i64 v1) (.int .i64 v2) (.int .i64 im)
    generalize ((((wc.setCell ⟨B, 0, none⟩ (.int .i64 (k : Int))).setCell ⟨B, 1, none⟩ (.int .i64 v0)).setCell ⟨B, 2, none⟩ (.int .i64 v1)).setCell ⟨B, 3, none⟩ (.int .i64 v2)).setCell ⟨B, 4, none⟩ (.int .i64 im) = wz at *
    have x0 := blk_cell hz 0 (v := .int .i64 (k : Int)) rfl
    have x1 := blk_cell hz 1 (v := .int .i64 v0) rfl
    have x2 := blk_cell hz 2 (v := .int .i64 v1) rfl
    have x3 := blk_cell hz 3 (v := .int .i64 v2) rfl
    have x4 := blk_cell hz 4 (v := .int .i64 im) rfl
    exact bodyPost_ret (v := iv (k : Int) v0 v1 v2 im) (by simp [results, Tryd.results41, go_sem, x0, x1, x2, x3, x4]) rfl ⟨rfl, gz⟩
end Go.Proofs.YthcfobefpknjeaaDoor.P
