/- InstTexts: the texts and what they are read as, by both. Strings of at most 1048576 bytes. -/
import Derived.Test.YthcfobefpknjeaaDoorRK
import Derived.Test.YthcfobefpknjeaaDoorTL
import Derived.Deep.QuietTactic
set_option linter.unusedVariables false
set_option linter.unusedSimpArgs false
set_option maxRecDepth 100000
namespace Go.Proofs.YthcfobefpknjeaaDoor.P
open Go.RowKit
set_option maxHeartbeats 3200000 in
theorem l_texts_core (w : World) (op rd a b i ee p0 p1 p2 p3 p4 pe : Int) (tt s : ByteArray)
    (CS0 : ∀ w1, Gr w w1 → Calls Tryd.prog 10 #[] w1 fun e w' => e = .returned (.bool true) ∧ Gr w1 w')
    (C10 : ∀ w1, Gr w w1 → Calls Tryd.prog 17 #[iv op rd a b i] w1 fun e w' => e = .returned (.tuple #[.string tt, .int .i64 ee]) ∧ Gr w1 w')
    (C20 : ∀ w1, Gr w w1 → Calls Tryd.prog 18 #[iv op rd a b i] w1 fun e w' => e = .returned (.tuple #[.string tt, .int .i64 ee]) ∧ Gr w1 w')
    (C30 : ∀ w1, Gr w w1 → Calls Tryd.prog 19 #[.string s] w1 fun e w' => e = .returned (.tuple #[iv p0 p1 p2 p3 p4, .int .i64 pe]) ∧ Gr w1 w')
    (C40 : ∀ w1, Gr w w1 → Calls Tryd.prog 20 #[.string s] w1 fun e w' => e = .returned (.tuple #[iv p0 p1 p2 p3 p4, .int .i64 pe]) ∧ Gr w1 w') :
    Calls Tryd.prog 5 #[iv op rd a b i, .string s] w fun e w' => e = .returned (.bool true) ∧ Gr w w' := by
  have CS := Lib.hid CS0
  have C1 := Lib.hid C10
  have C2 := Lib.hid C20
  have C3 := Lib.hid C30
  have C4 := Lib.hid C40
  clear CS0 C10 C20 C30 C40
  have es := tl_eq (x := tt) (s := tt) rfl
  have h1 := blk_new w (.cells #[.int .i64 op, .int .i64 rd, .int .i64 a, .int .i64 b, .int .i64 i] 23)
  have gb := gr_al (Gr.refl w) (.cells #[.int .i64 op, .int .i64 rd, .int .i64 a, .int .i64 b, .int .i64 i] 23)
  go_enter Tryd.func5, Tryd.ntmps5
  go_upto_region 1 with fail
  generalize w.alloc (.cells #[.int .i64 op, .int .i64 rd, .int .i64 a, .int .i64 b, .int .i64 i] 23) = wA at *
  generalize w.heap.size = B at *
  have H := Lib.hid h1
  have G := Lib.hid gb
  clear h1 gb
  go_upto_region 2 with (go_at_call 10; refine (CS.out _ G.out).mono ?_; rintro e w1 ⟨rfl, g⟩)
  have hk := blk_gr g H.out
  have gg := gtrans G.out g
  clear H G g
  have H := Lib.hid hk
  have G := Lib.hid gg
  clear hk gg
  have c0 := blk_cell H.out 0 (v := .int .i64 op) rfl
  have c1 := blk_cell H.out 1 (v := .int .i64 rd) rfl
  have c2 := blk_cell H.out 2 (v := .int .i64 a) rfl
  have c3 := blk_cell H.out 3 (v := .int .i64 b) rfl
  have c4 := blk_cell H.out 4 (v := .int .i64 i) rfl
  go_upto_region 3 with (go_at_call 17; refine (C1.out _ G.out).mono ?_; rintro e w2 ⟨rfl, g⟩)
  have hk := blk_gr g H.out
  have gg := gtrans G.out g
  clear H G g
  have H := Lib.hid hk
  have G := Lib.hid gg
  clear hk gg
  clear c0 c1 c2 c3 c4
  have c0 := blk_cell H.out 0 (v := .int .i64 op) rfl
  have c1 := blk_cell H.out 1 (v := .int .i64 rd) rfl
  have c2 := blk_cell H.out 2 (v := .int .i64 a) rfl
  have c3 := blk_cell H.out 3 (v := .int .i64 b) rfl
  have c4 := blk_cell H.out 4 (v := .int .i64 i) rfl
  go_upto_region 4 with (go_at_call 18; refine (C2.out _ G.out).mono ?_; rintro e w3 ⟨rfl, g⟩)
  have gg := gtrans G.out g
  clear H G g c0 c1 c2 c3 c4 CS C1 C2
  have G := Lib.hid gg
  clear gg
  go_upto_region 5 with (go_at_call 19; refine (C3.out _ G.out).mono ?_; rintro e w4 ⟨rfl, g⟩)
  have hb := blk_new w4 (.cells #[.int .i64 p0, .int .i64 p1, .int .i64 p2, .int .i64 p3, .int .i64 p4] 23)
  have gg := gr_al (gtrans G.out g) (.cells #[.int .i64 p0, .int .i64 p1, .int .i64 p2, .int .i64 p3, .int .i64 p4] 23)
  clear G g
  generalize w4.alloc (.cells #[.int .i64 p0, .int .i64 p1, .int .i64 p2, .int .i64 p3, .int .i64 p4] 23) = wB at *
  generalize w4.heap.size = B1 at *
  have H := Lib.hid hb
  have G := Lib.hid gg
  clear hb gg
  go_upto_region 6 with (go_at_call 20; refine (C4.out _ G.out).mono ?_; rintro e w5 ⟨rfl, g⟩)
  have hk := blk_alloc (.cells #[.int .i64 p0, .int .i64 p1, .int .i64 p2, .int .i64 p3, .int .i64 p4] 23) (blk_gr g H.out)
  have hb := blk_new w5 (.cells #[.int .i64 p0, .int .i64 p1, .int .i64 p2, .int .i64 p3, .int .i64 p4] 23)
  have gg := gr_al (gtrans G.out g) (.cells #[.int .i64 p0, .int .i64 p1, .int .i64 p2, .int .i64 p3, .int .i64 p4] 23)
  clear H G g C3 C4
  generalize w5.alloc (.cells #[.int .i64 p0, .int .i64 p1, .int .i64 p2, .int .i64 p3, .int .i64 p4] 23) = wC at *
  generalize w5.heap.size = B2 at *
  have G := Lib.hid gg
  have q0 := blk_cell hk 0 (v := .int .i64 p0) rfl
  have q1 := blk_cell hk 1 (v := .int .i64 p1) rfl
  have q2 := blk_cell hk 2 (v := .int .i64 p2) rfl
  have q3 := blk_cell hk 3 (v := .int .i64 p3) rfl
  have q4 := blk_cell hk 4 (v := .int .i64 p4) rfl
  have r0 := blk_cell hb 0 (v := .int .i64 p0) rfl
  have r1 := blk_cell hb 1 (v := .int .i64 p1) rfl
  have r2 := blk_cell hb 2 (v := .int .i64 p2) rfl
  have r3 := blk_cell hb 3 (v := .int .i64 p3) rfl
  have r4 := blk_cell hb 4 (v := .int .i64 p4) rfl
  clear hk hb gg
  go_wp2_with fail
  all_goals
    go_ret
    exact ⟨rfl, G.out⟩
theorem l_texts (w : World) (hF : FT w) (hM : ML w) (hE : EV w) (hT : TBw w) (op rd a b i : Int) (hi : i64 i) (s : ByteArray) (hs : s.size ≤ 1048576) : Calls Tryd.prog 5 #[iv op rd a b i, .string s] w fun e w' => e = .returned (.bool true) ∧ Gr w w' := by
  have e : s = bL s.data.toList := by cases s; rfl
  have hl : s.data.toList.length ≤ 1048576 := by simpa using hs
  exact l_texts_core w op rd a b i _ _ _ _ _ _ _ _ s (fun w1 g => c_shown2 w1 (hF.gr g) (hM.gr g)) (fun w1 g => c_text op rd a b i hi w1 (hF.gr g) (hT.gr g)) (fun w1 g => r_text op rd a b i hi w1) (fun w1 g => c_parse s w1 (hF.gr g) (hM.gr g) (hE.gr g) (hT.gr g)) (fun w1 g => by
    have := r_parse s.data.toList hl w1
    rw [← e] at this
    exact this)
end Go.Proofs.YthcfobefpknjeaaDoor.P
