/- Stage 2: a text is read. No condition. -/
import Derived.Test.YthcfobefpknjeaaDoorN7
import Derived.Test.YthcfobefpknjeaaDoorN3
set_option linter.unusedVariables false
set_option linter.unusedSimpArgs false
set_option maxRecDepth 100000
namespace Go.Proofs.YthcfobefpknjeaaDoor.P
open Go.RowKit
set_option maxHeartbeats 1600000 in
theorem c_parse_yes (s : ByteArray) (hl : s.size ≤ 64) (op rd a b i : Int) (w : World)
    (CG : ∀ w1, Gr w w1 → Calls Tryd.prog 41 #[.string s] w1 fun e w' => e = .returned (iv op rd a b i) ∧ Gr w1 w')
    (CT : ∀ w1, Gr w w1 → Calls Tryd.prog 17 #[iv op rd a b i] w1 fun e w' => e = .returned (.tuple #[.string s, .int .i64 0]) ∧ Gr w1 w') :
    Calls Tryd.prog 19 #[.string s] w fun e w' => e = .returned (.tuple #[iv op rd a b i, .int .i64 0]) ∧ Gr w w' := by
  have HG := Lib.hid CG
  have HT := Lib.hid CT
  have hb := blk_new w (.cells #[.int .i64 0, .int .i64 0, .int .i64 0, .int .i64 0, .int .i64 0] 23)
  have gb : Gr w (w.alloc (.cells #[.int .i64 0, .int .i64 0, .int .i64 0, .int .i64 0, .int .i64 0] 23)) := (Gr.refl w).alloc (Nat.le_refl _) _
  clear CG CT
  have es := tl_eq (x := s) (s := s) rfl
  go_enter Tryd.func19, Tryd.ntmps19
  go_upto_region 3 with fail
  generalize w.alloc (.cells #[.int .i64 0, .int .i64 0, .int .i64 0, .int .i64 0, .int .i64 0] 23) = wA at *
  obtain ⟨B, hB⟩ : ∃ B, B = w.heap.size := ⟨_, rfl⟩
  rw [← hB] at hb ⊢
  have HB := Lib.hid hb
  have GB := Lib.hid gb
  have EB := Lib.hid hB
  clear hb gb hB
  go_upto_region 4 with (go_at_call 41; refine (HG.out _ GB.out).mono ?_; rintro e w2 ⟨rfl, g2⟩)
  have HB3 := Lib.hid (blk_alloc (.cells #[.int .i64 op, .int .i64 rd, .int .i64 a, .int .i64 b, .int .i64 i] 23) (blk_gr g2 HB.out))
  have GB3 := Lib.hid (gr_al (gtrans GB.out g2) (.cells #[.int .i64 op, .int .i64 rd, .int .i64 a, .int .i64 b, .int .i64 i] 23))
  have hc3 := blk_new w2 (.cells #[.int .i64 op, .int .i64 rd, .int .i64 a, .int .i64 b, .int .i64 i] 23)
  clear g2
  generalize w2.alloc (.cells #[.int .i64 op, .int .i64 rd, .int .i64 a, .int .i64 b, .int .i64 i] 23) = w3 at *
  generalize w2.heap.size = C at *
  have HC3 := Lib.hid hc3
  have c0 := blk_cell hc3 0 (v := .int .i64 op) rfl
  have c1 := blk_cell hc3 1 (v := .int .i64 rd) rfl
  have c2 := blk_cell hc3 2 (v := .int .i64 a) rfl
  have c3 := blk_cell hc3 3 (v := .int .i64 b) rfl
  have c4 := blk_cell hc3 4 (v := .int .i64 i) rfl
  clear hc3
  go_upto_region 5 with (go_at_call 17; refine (HT.out _ GB3.out).mono ?_; rintro e w4 ⟨rfl, g4⟩)
  have h1 := blk_gr g4 HC3.out
  have h2 := blk_gr g4 HB3.out
  have HB5 := Lib.hid h2
  have GB5 := Lib.hid (gtrans GB3.out g4)
  clear c0 c1 c2 c3 c4 g4
  have c0 := blk_cell h1 0 (v := .int .i64 op) rfl
  have c1 := blk_cell h1 1 (v := .int .i64 rd) rfl
  have c2 := blk_cell h1 2 (v := .int .i64 a) rfl
  have c3 := blk_cell h1 3 (v := .int .i64 b) rfl
  have c4 := blk_cell h1 4 (v := .int .i64 i) rfl
  have d0 := blk_cell h2 0 (v := .int .i64 0) rfl
  have d1 := blk_cell h2 1 (v := .int .i64 0) rfl
  have d2 := blk_cell h2 2 (v := .int .i64 0) rfl
  have d3 := blk_cell h2 3 (v := .int .i64 0) rfl
  have d4 := blk_cell h2 4 (v := .int .i64 0) rfl
  have z0 := blk_frozen h2 0
  have z1 := blk_frozen h2 1
  have z2 := blk_frozen h2 2
  have z3 := blk_frozen h2 3
  have z4 := blk_frozen h2 4
  clear h1 h2
  go_wp2_with fail
  obtain ⟨hz, gz⟩ := set5 EB.out HB5.out GB5.out (.int .i64 op) (.int .i64 rd) (.int .i64 a) (.int .i64 b) (.int .i64 i)
  generalize ((((w4.setCell ⟨B, 0, none⟩ (.int .i64 op)).setCell ⟨B, 1, none⟩ (.int .i64 rd)).setCell ⟨B, 2, none⟩ (.int .i64 a)).setCell ⟨B, 3, none⟩ (.int .i64 b)).setCell ⟨B, 4, none⟩ (.int .i64 i) = wz at *
  have x0 := blk_cell hz 0 (v := .int .i64 op) rfl
  have x1 := blk_cell hz 1 (v := .int .i64 rd) rfl
  have x2 := blk_cell hz 2 (v := .int .i64 a) rfl
  have x3 := blk_cell hz 3 (v := .int .i64 b) rfl
  have x4 := blk_cell hz 4 (v := .int .i64 i) rfl
  exact bodyPost_ret (v := .tuple #[iv op rd a b i, .int .i64 0]) (by simp [results, Tryd.results19, go_sem, x0, x1, x2, x3, x4]) rfl ⟨rfl, gz⟩
end Go.Proofs.YthcfobefpknjeaaDoor.P
