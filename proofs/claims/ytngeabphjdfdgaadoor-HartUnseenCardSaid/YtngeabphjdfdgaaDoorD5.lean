/- Stage 2: the instruction of a word, its fields. No condition. -/
import Derived.Test.YtngeabphjdfdgaaDoorD1
set_option linter.unusedVariables false
set_option linter.unusedSimpArgs false
set_option maxRecDepth 100000
namespace Go.Proofs.YtngeabphjdfdgaaDoor.P
open Go.RowKit
set_option maxHeartbeats 3200000 in
theorem c_fld_82 (k : Nat) (hk : k < 88) (h1 : 1 ≤ k) (hv : fmT k = 82) (x : Int) (hx : u32 x) (w : World) (hF : FT w) : Calls Tryd.prog 39 #[.int .i64 (k : Int), .int .u32 x] w fun e w' => e = .returned (iv (k : Int) (x / 128 % 32) (x / 32768 % 32) (x / 1048576 % 32) (fldR (fmT k) x)) ∧ Gr w w' := by
  have HX := Lib.hid hx
  have HFT := Lib.hid (fun w1 (g : Gr w w1) => FT.gr hF g)
  have hl : 1 < w.heap.size := cell_lt (hF 0 (by omega))
  have hk88 : (k : Int) < 88 := by omega
  have HV := Lib.hid hv
  have C1 := Lib.hid (c_bits_11_7 x hx)
  have C2 := Lib.hid (c_bits_19_15 x hx)
  have C3 := Lib.hid (c_bits_24_20 x hx)
  have C4 := Lib.hid (c_bits_31_31 x hx)
  obtain ⟨x0, x1⟩ := hx
  have k2 := blk_alloc (.cells #[.int .i64 0, .int .i64 0, .int .i64 0, .int .i64 0, .int .i64 0] 63) (blk_new w (.cells #[.int .u32 x] 47))
  have k3 := blk_new1 w (.cells #[.int .u32 x] 47) (.cells #[.int .i64 0, .int .i64 0, .int .i64 0, .int .i64 0, .int .i64 0] 63)
  have gb := gr_al (gr_al (Gr.refl w) (.cells #[.int .u32 x] 47)) (.cells #[.int .i64 0, .int .i64 0, .int .i64 0, .int .i64 0, .int .i64 0] 63)
  clear hF hv
  go_enter Tryd.func39, Tryd.ntmps39
  go_upto_region 1 with fail
  generalize ((w.alloc (.cells #[.int .u32 x] 47)).alloc (.cells #[.int .i64 0, .int .i64 0, .int .i64 0, .int .i64 0, .int .i64 0] 63)) = wA at *
  obtain ⟨B, hB⟩ : ∃ B, B = w.heap.size := ⟨_, rfl⟩
  rw [← hB] at k2 k3 ⊢
  have hlA : 1 < wA.heap.size := Nat.lt_of_lt_of_le hl gb.size
  have c0 := blk_cell k2 0 (v := .int .u32 x) rfl
  have hcx := HFT.out _ gb k hk
  rw [HV.out] at hcx
  have K3 := Lib.hid k3
  have GB := Lib.hid gb
  have EB := Lib.hid hB
  clear k2 k3 gb hB
  have bb1 := bG_in x 11 7
  have bb2 := bG_in x 19 15
  have bb3 := bG_in x 24 20
  go_quiet ((go_at_call 36; exact Calls.quiet_of_same (c_bits_gen x HX.out _ _ (by decide) _)))
  have K4 := Lib.hid (blk_gr (gr_dN wA nq) K3.out)
  have G4 := Lib.hid (gtrans GB.out (gr_dN wA nq))
  have q0 : (wA.drewN nq).cell? ⟨B, 0, none⟩ = some (.int .u32 x) := kcell (gr_dN wA nq) c0
  have q1 : (wA.drewN nq).cell? ⟨1, k, none⟩ = some (.int .u8 82) := kcell (gr_dN wA nq) hcx
  have hlB : 1 < (wA.drewN nq).heap.size := hlA
  generalize wA.drewN nq = wB at *
  have d0 := blk_cell K4.out 0 (v := .int .i64 0) rfl
  have d1 := blk_cell K4.out 1 (v := .int .i64 0) rfl
  have d2 := blk_cell K4.out 2 (v := .int .i64 0) rfl
  have d3 := blk_cell K4.out 3 (v := .int .i64 0) rfl
  have d4 := blk_cell K4.out 4 (v := .int .i64 0) rfl
  have z0 := blk_frozen K4.out 0
  have z1 := blk_frozen K4.out 1
  have z2 := blk_frozen K4.out 2
  have z3 := blk_frozen K4.out 3
  have z4 := blk_frozen K4.out 4
  go_upto_region 3 with (go_at_call 36; refine (C4.out _).mono ?_; rintro e w3 ⟨rfl, rfl⟩)
  go_wp2_with (first | fail)
  obtain ⟨hz, gz⟩ := set5g (B := B + 1) (by rw [EB.out]; omega) K4.out G4.out (.int .i64 (k : Int)) (.int .i64 (bG x 11 7)) (.int .i64 (bG x 19 15)) (.int .i64 (bG x 24 20)) (.int .i64 (0))
  refine bodyPost_ret (v := iv (k : Int) (bG x 11 7) (bG x 19 15) (bG x 24 20) (0)) ?_ rfl ?_
  · have y0 := blk_cell hz 0 (v := .int .i64 (k : Int)) rfl
    have y1 := blk_cell hz 1 (v := .int .i64 (bG x 11 7)) rfl
    have y2 := blk_cell hz 2 (v := .int .i64 (bG x 19 15)) rfl
    have y3 := blk_cell hz 3 (v := .int .i64 (bG x 24 20)) rfl
    have y4 := blk_cell hz 4 (v := .int .i64 (0)) rfl
    generalize (World.setCell _ ⟨B + 1, 4, none⟩ _) = wz at *
    simp [results, Tryd.results39, go_sem, y0, y1, y2, y3, y4]
  · exact ⟨by rw [HV.out]; rfl, gz⟩
set_option maxHeartbeats 3200000 in
theorem c_fld_65 (k : Nat) (hk : k < 88) (h1 : 1 ≤ k) (hv : fmT k = 65) (x : Int) (hx : u32 x) (w : World) (hF : FT w) : Calls Tryd.prog 39 #[.int .i64 (k : Int), .int .u32 x] w fun e w' => e = .returned (iv (k : Int) (x / 128 % 32) (x / 32768 % 32) (x / 1048576 % 32) (fldR (fmT k) x)) ∧ Gr w w' := by
  have HX := Lib.hid hx
  have HFT := Lib.hid (fun w1 (g : Gr w w1) => FT.gr hF g)
  have hl : 1 < w.heap.size := cell_lt (hF 0 (by omega))
  have hk88 : (k : Int) < 88 := by omega
  have HV := Lib.hid hv
  have C1 := Lib.hid (c_bits_11_7 x hx)
  have C2 := Lib.hid (c_bits_19_15 x hx)
  have C3 := Lib.hid (c_bits_24_20 x hx)
  have C4 := Lib.hid (c_bits_31_31 x hx)
  obtain ⟨x0, x1⟩ := hx
  have k2 := blk_alloc (.cells #[.int .i64 0, .int .i64 0, .int .i64 0, .int .i64 0, .int .i64 0] 63) (blk_new w (.cells #[.int .u32 x] 47))
  have k3 := blk_new1 w (.cells #[.int .u32 x] 47) (.cells #[.int .i64 0, .int .i64 0, .int .i64 0, .int .i64 0, .int .i64 0] 63)
  have gb := gr_al (gr_al (Gr.refl w) (.cells #[.int .u32 x] 47)) (.cells #[.int .i64 0, .int .i64 0, .int .i64 0, .int .i64 0, .int .i64 0] 63)
  clear hF hv
  go_enter Tryd.func39, Tryd.ntmps39
  go_upto_region 1 with fail
  generalize ((w.alloc (.cells #[.int .u32 x] 47)).alloc (.cells #[.int .i64 0, .int .i64 0, .int .i64 0, .int .i64 0, .int .i64 0] 63)) = wA at *
  obtain ⟨B, hB⟩ : ∃ B, B = w.heap.size := ⟨_, rfl⟩
  rw [← hB] at k2 k3 ⊢
  have hlA : 1 < wA.heap.size := Nat.lt_of_lt_of_le hl gb.size
  have c0 := blk_cell k2 0 (v := .int .u32 x) rfl
  have hcx := HFT.out _ gb k hk
  rw [HV.out] at hcx
  have K3 := Lib.hid k3
  have GB := Lib.hid gb
  have EB := Lib.hid hB
  clear k2 k3 gb hB
  have bb1 := bG_in x 11 7
  have bb2 := bG_in x 19 15
  have bb3 := bG_in x 24 20
  go_quiet ((go_at_call 36; exact Calls.quiet_of_same (c_bits_gen x HX.out _ _ (by decide) _)))
  have K4 := Lib.hid (blk_gr (gr_dN wA nq) K3.out)
  have G4 := Lib.hid (gtrans GB.out (gr_dN wA nq))
  have q0 : (wA.drewN nq).cell? ⟨B, 0, none⟩ = some (.int .u32 x) := kcell (gr_dN wA nq) c0
  have q1 : (wA.drewN nq).cell? ⟨1, k, none⟩ = some (.int .u8 65) := kcell (gr_dN wA nq) hcx
  have hlB : 1 < (wA.drewN nq).heap.size := hlA
  generalize wA.drewN nq = wB at *
  have d0 := blk_cell K4.out 0 (v := .int .i64 0) rfl
  have d1 := blk_cell K4.out 1 (v := .int .i64 0) rfl
  have d2 := blk_cell K4.out 2 (v := .int .i64 0) rfl
  have d3 := blk_cell K4.out 3 (v := .int .i64 0) rfl
  have d4 := blk_cell K4.out 4 (v := .int .i64 0) rfl
  have z0 := blk_frozen K4.out 0
  have z1 := blk_frozen K4.out 1
  have z2 := blk_frozen K4.out 2
  have z3 := blk_frozen K4.out 3
  have z4 := blk_frozen K4.out 4
  go_upto_region 3 with (go_at_call 36; refine (C4.out _).mono ?_; rintro e w3 ⟨rfl, rfl⟩)
  go_wp2_with (first | (go_at_call 54; (with_reducible refine (c_put_26_25_0 _ HX.out _ _ (by assumption)).mono ?_); rintro e w3 ⟨rfl, rfl⟩)| fail)
  obtain ⟨hz, gz⟩ := set5g (B := B + 1) (by rw [EB.out]; omega) K4.out G4.out (.int .i64 (k : Int)) (.int .i64 (bG x 11 7)) (.int .i64 (bG x 19 15)) (.int .i64 (bG x 24 20)) (.int .i64 (x / 33554432 % 4))
  refine bodyPost_ret (v := iv (k : Int) (bG x 11 7) (bG x 19 15) (bG x 24 20) (x / 33554432 % 4)) ?_ rfl ?_
  · have y0 := blk_cell hz 0 (v := .int .i64 (k : Int)) rfl
    have y1 := blk_cell hz 1 (v := .int .i64 (bG x 11 7)) rfl
    have y2 := blk_cell hz 2 (v := .int .i64 (bG x 19 15)) rfl
    have y3 := blk_cell hz 3 (v := .int .i64 (bG x 24 20)) rfl
    have y4 := blk_cell hz 4 (v := .int .i64 (x / 33554432 % 4)) rfl
    generalize (World.setCell _ ⟨B + 1, 4, none⟩ _) = wz at *
    simp [results, Tryd.results39, go_sem, y0, y1, y2, y3, y4]
  · exact ⟨by rw [HV.out]; rfl, gz⟩
set_option maxHeartbeats 3200000 in
theorem c_fld_78 (k : Nat) (hk : k < 88) (h1 : 1 ≤ k) (hv : fmT k = 78) (x : Int) (hx : u32 x) (w : World) (hF : FT w) : Calls Tryd.prog 39 #[.int .i64 (k : Int), .int .u32 x] w fun e w' => e = .returned (iv (k : Int) 0 0 0 (fldR (fmT k) x)) ∧ Gr w w' := by
  have HX := Lib.hid hx
  have HFT := Lib.hid (fun w1 (g : Gr w w1) => FT.gr hF g)
  have hl : 1 < w.heap.size := cell_lt (hF 0 (by omega))
  have hk88 : (k : Int) < 88 := by omega
  have HV := Lib.hid hv
  have C1 := Lib.hid (c_bits_11_7 x hx)
  have C2 := Lib.hid (c_bits_19_15 x hx)
  have C3 := Lib.hid (c_bits_24_20 x hx)
  have C4 := Lib.hid (c_bits_31_31 x hx)
  obtain ⟨x0, x1⟩ := hx
  have k2 := blk_alloc (.cells #[.int .i64 0, .int .i64 0, .int .i64 0, .int .i64 0, .int .i64 0] 63) (blk_new w (.cells #[.int .u32 x] 47))
  have k3 := blk_new1 w (.cells #[.int .u32 x] 47) (.cells #[.int .i64 0, .int .i64 0, .int .i64 0, .int .i64 0, .int .i64 0] 63)
  have gb := gr_al (gr_al (Gr.refl w) (.cells #[.int .u32 x] 47)) (.cells #[.int .i64 0, .int .i64 0, .int .i64 0, .int .i64 0, .int .i64 0] 63)
  clear hF hv
  go_enter Tryd.func39, Tryd.ntmps39
  go_upto_region 1 with fail
  generalize ((w.alloc (.cells #[.int .u32 x] 47)).alloc (.cells #[.int .i64 0, .int .i64 0, .int .i64 0, .int .i64 0, .int .i64 0] 63)) = wA at *
  obtain ⟨B, hB⟩ : ∃ B, B = w.heap.size := ⟨_, rfl⟩
  rw [← hB] at k2 k3 ⊢
  have hlA : 1 < wA.heap.size := Nat.lt_of_lt_of_le hl gb.size
  have c0 := blk_cell k2 0 (v := .int .u32 x) rfl
  have hcx := HFT.out _ gb k hk
  rw [HV.out] at hcx
  have K3 := Lib.hid k3
  have GB := Lib.hid gb
  have EB := Lib.hid hB
  clear k2 k3 gb hB
  have bb1 := bG_in x 11 7
  have bb2 := bG_in x 19 15
  have bb3 := bG_in x 24 20
  go_quiet ((go_at_call 36; exact Calls.quiet_of_same (c_bits_gen x HX.out _ _ (by decide) _)))
  have K4 := Lib.hid (blk_gr (gr_dN wA nq) K3.out)
  have G4 := Lib.hid (gtrans GB.out (gr_dN wA nq))
  have q0 : (wA.drewN nq).cell? ⟨B, 0, none⟩ = some (.int .u32 x) := kcell (gr_dN wA nq) c0
  have q1 : (wA.drewN nq).cell? ⟨1, k, none⟩ = some (.int .u8 78) := kcell (gr_dN wA nq) hcx
  have hlB : 1 < (wA.drewN nq).heap.size := hlA
  generalize wA.drewN nq = wB at *
  have d0 := blk_cell K4.out 0 (v := .int .i64 0) rfl
  have d1 := blk_cell K4.out 1 (v := .int .i64 0) rfl
  have d2 := blk_cell K4.out 2 (v := .int .i64 0) rfl
  have d3 := blk_cell K4.out 3 (v := .int .i64 0) rfl
  have d4 := blk_cell K4.out 4 (v := .int .i64 0) rfl
  have z0 := blk_frozen K4.out 0
  have z1 := blk_frozen K4.out 1
  have z2 := blk_frozen K4.out 2
  have z3 := blk_frozen K4.out 3
  have z4 := blk_frozen K4.out 4
  go_upto_region 3 with (go_at_call 36; refine (C4.out _).mono ?_; rintro e w3 ⟨rfl, rfl⟩)
  go_wp2_with (first | fail)
  obtain ⟨hz, gz⟩ := set5g (B := B + 1) (by rw [EB.out]; omega) K4.out G4.out (.int .i64 (k : Int)) (.int .i64 0) (.int .i64 0) (.int .i64 0) (.int .i64 (0))
  refine bodyPost_ret (v := iv (k : Int) 0 0 0 (0)) ?_ rfl ?_
  · have y0 := blk_cell hz 0 (v := .int .i64 (k : Int)) rfl
    have y1 := blk_cell hz 1 (v := .int .i64 0) rfl
    have y2 := blk_cell hz 2 (v := .int .i64 0) rfl
    have y3 := blk_cell hz 3 (v := .int .i64 0) rfl
    have y4 := blk_cell hz 4 (v := .int .i64 (0)) rfl
    generalize (World.setCell _ ⟨B + 1, 4, none⟩ _) = wz at *
    simp [results, Tryd.results39, go_sem, y0, y1, y2, y3, y4]
  · exact ⟨by rw [HV.out]; rfl, gz⟩
end Go.Proofs.YtngeabphjdfdgaaDoor.P
