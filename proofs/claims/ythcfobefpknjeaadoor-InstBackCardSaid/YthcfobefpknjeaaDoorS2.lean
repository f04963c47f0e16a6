/- Stage 2: the example at the head of all laws. No condition. -/
import Derived.Test.YthcfobefpknjeaaDoorS1
set_option linter.unusedVariables false
set_option linter.unusedSimpArgs false
set_option maxRecDepth 100000
namespace Go.Proofs.YthcfobefpknjeaaDoor.P
open Go.RowKit
set_option maxHeartbeats 6400000 in
theorem c_shown2 (w : World) (hF : FT w) (hM : ML w) : Calls Tryd.prog 10 #[] w fun e w' => e = .returned (.bool true) ∧ Gr w w' := by
  have CE := Lib.hid (fun w1 (g : Gr w w1) => ex_enc w1 (hF.gr g))
  have CD := Lib.hid (fun w1 (g : Gr w w1) => ex_dec w1 (hF.gr g))
  have CT := Lib.hid (fun w1 (g : Gr w w1) => ex_text w1 (hF.gr g))
  have CP := Lib.hid (fun w1 (g : Gr w w1) => ex_parse w1 (hF.gr g) (hM.gr g))
  clear hF hM
  go_enter Tryd.func10, Tryd.ntmps10
  go_upto_region 2 with (go_at_call 13; refine (CE.out _ (Gr.refl _)).mono ?_; rintro e w1 ⟨rfl, g1⟩)
  have G1 := Lib.hid g1
  clear g1 CE
  go_upto_region 3 with (go_at_call 15; refine (CD.out _ G1.out).mono ?_; rintro e w2 ⟨rfl, g2⟩)
  have G3 := Lib.hid (gr_al (gtrans G1.out g2) (.cells #[.int .i64 5, .int .i64 0, .int .i64 1, .int .i64 2, .int .i64 (-4)] 23))
  have hb3 := blk_new w2 (.cells #[.int .i64 5, .int .i64 0, .int .i64 1, .int .i64 2, .int .i64 (-4)] 23)
  generalize w2.alloc (.cells #[.int .i64 5, .int .i64 0, .int .i64 1, .int .i64 2, .int .i64 (-4)] 23) = w3 at *
  generalize w2.heap.size = B at *
  have HB3 := Lib.hid hb3
  clear hb3 g2 CD G1
  go_upto_region 4 with (go_at_call 17; refine (CT.out _ G3.out).mono ?_; rintro e w4 ⟨rfl, g4⟩)
  have HB4 := Lib.hid (blk_gr g4 HB3.out)
  have G4 := Lib.hid (gtrans G3.out g4)
  clear g4 HB3 G3 CT
  go_upto_region 5 with (go_at_call 19; refine (CP.out _ G4.out).mono ?_; rintro e w5 ⟨rfl, g5⟩)
  have G6 := Lib.hid (gr_al (gtrans G4.out g5) (.cells #[.int .i64 21, .int .i64 0, .int .i64 2, .int .i64 1, .int .i64 16] 23))
  have hb6 := blk_new w5 (.cells #[.int .i64 21, .int .i64 0, .int .i64 2, .int .i64 1, .int .i64 16] 23)
  have hb4 := blk_alloc (.cells #[.int .i64 21, .int .i64 0, .int .i64 2, .int .i64 1, .int .i64 16] 23) (blk_gr g5 HB4.out)
  generalize w5.alloc (.cells #[.int .i64 21, .int .i64 0, .int .i64 2, .int .i64 1, .int .i64 16] 23) = w6 at *
  generalize w5.heap.size = C at *
  have c0 := blk_cell hb4 0 (v := .int .i64 5) rfl
  have c1 := blk_cell hb4 1 (v := .int .i64 0) rfl
  have c2 := blk_cell hb4 2 (v := .int .i64 1) rfl
  have c3 := blk_cell hb4 3 (v := .int .i64 2) rfl
  have c4 := blk_cell hb4 4 (v := .int .i64 (-4)) rfl
  have d0 := blk_cell hb6 0 (v := .int .i64 21) rfl
  have d1 := blk_cell hb6 1 (v := .int .i64 0) rfl
  have d2 := blk_cell hb6 2 (v := .int .i64 2) rfl
  have d3 := blk_cell hb6 3 (v := .int .i64 1) rfl
  have d4 := blk_cell hb6 4 (v := .int .i64 16) rfl
  clear hb6 hb4 g5 G4 HB4 CP
  go_wp2_with fail
  go_ret
  exact ⟨rfl, G6.out⟩
end Go.Proofs.YthcfobefpknjeaaDoor.P
