/- Stage 2: InstWords. No condition. -/
import Derived.Test.YthcfobefpknjeaaDoorMI
import Derived.Test.YthcfobefpknjeaaDoorL1
set_option linter.unusedVariables false
set_option linter.unusedSimpArgs false
set_option maxRecDepth 100000
namespace Go.Proofs.YthcfobefpknjeaaDoor.P
open Go.RowKit
set_option maxHeartbeats 1600000 in
theorem l_words (w : World) (hF : FT w) (hM : ML w) (op rd a b i : Int) (hi : i64 i) : Calls Tryd.prog 3 #[iv op rd a b i] w fun e w' => e = .returned (.bool true) ∧ Gr w w' := by
  have CS := Lib.hid (fun w1 (g : Gr w w1) => c_shown2 w1 (hF.gr g) (hM.gr g))
  have C1 := Lib.hid (fun w1 (g : Gr w w1) => c_may op rd a b i hi w1 (hF.gr g))
  have C2 := Lib.hid (fun w1 => r_may op rd a b i hi w1)
  have C3 := Lib.hid (fun w1 (g : Gr w w1) => c_encode op rd a b i hi w1 (hF.gr g))
  have C4 := Lib.hid (fun w1 => r_encode op rd a b i hi w1)
  generalize mayF op rd a b i = mb at *
  generalize encV op rd a b i = ev at *
  generalize encE op rd a b i = ee at *
  clear hF hM
  have gb : Gr w (w.alloc (.cells #[.int .i64 op, .int .i64 rd, .int .i64 a, .int .i64 b, .int .i64 i] 23)) := (Gr.refl w).alloc (Nat.le_refl _) _
  have hb := blk_new w (.cells #[.int .i64 op, .int .i64 rd, .int .i64 a, .int .i64 b, .int .i64 i] 23)
  go_enter Tryd.func3, Tryd.ntmps3
  go_upto_region 1 with fail
  generalize w.alloc (.cells #[.int .i64 op, .int .i64 rd, .int .i64 a, .int .i64 b, .int .i64 i] 23) = wA at *
  generalize w.heap.size = B at *
  have HB := Lib.hid hb
  have GB := Lib.hid gb
  clear hb gb
  go_upto_region 2 with (go_at_call 10; refine (CS.out _ GB.out).mono ?_; rintro e w1 ⟨rfl, g1⟩)
  have H1 := Lib.hid (blk_gr g1 HB.out)
  have G1 := Lib.hid (gtrans GB.out g1)
  have c0 := blk_cell H1.out 0 (v := .int .i64 op) rfl
  have c1 := blk_cell H1.out 1 (v := .int .i64 rd) rfl
  have c2 := blk_cell H1.out 2 (v := .int .i64 a) rfl
  have c3 := blk_cell H1.out 3 (v := .int .i64 b) rfl
  have c4 := blk_cell H1.out 4 (v := .int .i64 i) rfl
  clear HB GB g1 CS
  go_upto_region 3 with (go_at_call 11; refine (C1.out _ G1.out).mono ?_; rintro e w2 ⟨rfl, g2⟩)
  have H2 := Lib.hid (blk_gr g2 H1.out)
  have G2 := Lib.hid (gtrans G1.out g2)
  clear c0 c1 c2 c3 c4
  have c0 := blk_cell H2.out 0 (v := .int .i64 op) rfl
  have c1 := blk_cell H2.out 1 (v := .int .i64 rd) rfl
  have c2 := blk_cell H2.out 2 (v := .int .i64 a) rfl
  have c3 := blk_cell H2.out 3 (v := .int .i64 b) rfl
  have c4 := blk_cell H2.out 4 (v := .int .i64 i) rfl
  clear H1 G1 g2 C1
  go_upto_region 4 with (go_at_call 12; refine (C2.out _).mono ?_; rintro e w3 ⟨rfl, g3⟩)
  have H3 := Lib.hid (blk_gr g3 H2.out)
  have G3 := Lib.hid (gtrans G2.out g3)
  clear c0 c1 c2 c3 c4
  have c0 := blk_cell H3.out 0 (v := .int .i64 op) rfl
  have c1 := blk_cell H3.out 1 (v := .int .i64 rd) rfl
  have c2 := blk_cell H3.out 2 (v := .int .i64 a) rfl
  have c3 := blk_cell H3.out 3 (v := .int .i64 b) rfl
  have c4 := blk_cell H3.out 4 (v := .int .i64 i) rfl
  clear H2 G2 g3 C2
  go_upto_region 5 with (go_at_call 13; refine (C3.out _ G3.out).mono ?_; rintro e w4 ⟨rfl, g4⟩)
  have H4 := Lib.hid (blk_gr g4 H3.out)
  have G4 := Lib.hid (gtrans G3.out g4)
  clear c0 c1 c2 c3 c4
  have c0 := blk_cell H4.out 0 (v := .int .i64 op) rfl
  have c1 := blk_cell H4.out 1 (v := .int .i64 rd) rfl
  have c2 := blk_cell H4.out 2 (v := .int .i64 a) rfl
  have c3 := blk_cell H4.out 3 (v := .int .i64 b) rfl
  have c4 := blk_cell H4.out 4 (v := .int .i64 i) rfl
  clear H3 G3 g4 C3
  go_wp2_with (go_at_call 14; refine (C4.out _).mono ?_; rintro e w5 ⟨rfl, g5⟩)
  all_goals
    go_ret
    exact ⟨ret_b (by simp [*]), gtrans G4.out g5⟩
end Go.Proofs.YthcfobefpknjeaaDoor.P
