/- Stage 2: InstReads. No condition. -/
import Derived.Test.YthcfobefpknjeaaDoorDT
import Derived.Test.YthcfobefpknjeaaDoorL1
set_option linter.unusedVariables false
set_option linter.unusedSimpArgs false
set_option maxRecDepth 100000
namespace Go.Proofs.YthcfobefpknjeaaDoor.P
open Go.RowKit
theorem wf_u32 {x : Int} (h : (Lit.int .u32 x).wf = true) : u32 x := by
  simp [Lit.wf, IntKind.min, IntKind.max, IntKind.bits, IntKind.signed] at h; exact ⟨by omega, by omega⟩
theorem decV_iv (x : Int) : ∃ op rd a b i : Int, decV x = iv op rd a b i := by
  unfold decV
  split
  · exact ⟨_, _, _, _, _, rfl⟩
  · exact ⟨_, _, _, _, _, rfl⟩
set_option maxHeartbeats 1600000 in
theorem l_reads (w : World) (hF : FT w) (hM : ML w) (x : Int) (hx : u32 x) : Calls Tryd.prog 4 #[.int .u32 x] w fun e w' => e = .returned (.bool true) ∧ Gr w w' := by
  have CS := Lib.hid (fun w1 (g : Gr w w1) => c_shown2 w1 (hF.gr g) (hM.gr g))
  have C1 := Lib.hid (fun w1 (g : Gr w w1) => c_decode x hx w1 (hF.gr g))
  have C2 := Lib.hid (fun w1 => r_decode x hx w1)
  obtain ⟨op, rd, a, b, i, hd⟩ := decV_iv x
  rw [hd] at C1 C2
  generalize decE x = ee at *
  clear hF hM hd
  go_enter Tryd.func4, Tryd.ntmps4
  go_upto_region 2 with (go_at_call 10; refine (CS.out _ (Gr.refl _)).mono ?_; rintro e w1 ⟨rfl, g1⟩)
  have G1 := Lib.hid g1
  clear g1 CS
  go_upto_region 3 with (go_at_call 15; refine (C1.out _ G1.out).mono ?_; rintro e w2 ⟨rfl, g2⟩)
  have k2 := blk_new w2 (.cells #[.int .i64 op, .int .i64 rd, .int .i64 a, .int .i64 b, .int .i64 i] 23)
  have g3 := gr_al (gtrans G1.out g2) (.cells #[.int .i64 op, .int .i64 rd, .int .i64 a, .int .i64 b, .int .i64 i] 23)
  generalize w2.alloc (.cells #[.int .i64 op, .int .i64 rd, .int .i64 a, .int .i64 b, .int .i64 i] 23) = w3 at *
  generalize w2.heap.size = B at *
  have K2 := Lib.hid k2
  have G3 := Lib.hid g3
  clear k2 g3 g2 G1 C1
  go_upto_region 4 with (go_at_call 16; refine (C2.out _).mono ?_; rintro e w4 ⟨rfl, g4⟩)
  have k4 := blk_new w4 (.cells #[.int .i64 op, .int .i64 rd, .int .i64 a, .int .i64 b, .int .i64 i] 23)
  have k3 := blk_alloc (.cells #[.int .i64 op, .int .i64 rd, .int .i64 a, .int .i64 b, .int .i64 i] 23) (blk_gr g4 K2.out)
  have G5 := Lib.hid (gr_al (gtrans G3.out g4) (.cells #[.int .i64 op, .int .i64 rd, .int .i64 a, .int .i64 b, .int .i64 i] 23))
  generalize w4.alloc (.cells #[.int .i64 op, .int .i64 rd, .int .i64 a, .int .i64 b, .int .i64 i] 23) = w5 at *
  generalize w4.heap.size = X at *
  have c0 := blk_cell k3 0 (v := .int .i64 op) rfl
  have c1 := blk_cell k3 1 (v := .int .i64 rd) rfl
  have c2 := blk_cell k3 2 (v := .int .i64 a) rfl
  have c3 := blk_cell k3 3 (v := .int .i64 b) rfl
  have c4 := blk_cell k3 4 (v := .int .i64 i) rfl
  have d0 := blk_cell k4 0 (v := .int .i64 op) rfl
  have d1 := blk_cell k4 1 (v := .int .i64 rd) rfl
  have d2 := blk_cell k4 2 (v := .int .i64 a) rfl
  have d3 := blk_cell k4 3 (v := .int .i64 b) rfl
  have d4 := blk_cell k4 4 (v := .int .i64 i) rfl
  clear k3 k4 g4 G3 K2 C2
  go_wp2_with fail
  all_goals
    go_ret
    exact ⟨ret_b (by simp [*]), G5.out⟩
end Go.Proofs.YthcfobefpknjeaaDoor.P
