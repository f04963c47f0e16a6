/- Stage 2: InstApart. No condition. -/
import Derived.Test.YthcfobefpknjeaaDoorTD
import Derived.Test.YthcfobefpknjeaaDoorL1
set_option linter.unusedVariables false
set_option linter.unusedSimpArgs false
set_option maxRecDepth 100000
namespace Go.Proofs.YthcfobefpknjeaaDoor.P
open Go.RowKit
def sameB (op rd a b i op' rd' a' b' i' : Int) : Bool := op == op' && rd == rd' && a == a' && b == b' && i == i'
set_option maxHeartbeats 6400000 in
theorem l_apart_e (w : World) (op rd a b i op' rd' a' b' i' va ea vb eb : Int) (ta tb : ByteArray)
    (CS0 : ∀ w1, Gr w w1 → Calls Tryd.prog 10 #[] w1 fun e w' => e = .returned (.bool true) ∧ Gr w1 w')
    (C10 : ∀ w1, Gr w w1 → Calls Tryd.prog 13 #[iv op rd a b i] w1 fun e w' => e = .returned (.tuple #[.int .u32 va, .int .i64 ea]) ∧ Gr w1 w')
    (C20 : ∀ w1, Gr w w1 → Calls Tryd.prog 13 #[iv op' rd' a' b' i'] w1 fun e w' => e = .returned (.tuple #[.int .u32 vb, .int .i64 eb]) ∧ Gr w1 w')
    (C30 : ∀ w1, Gr w w1 → Calls Tryd.prog 17 #[iv op rd a b i] w1 fun e w' => e = .returned (.tuple #[.string ta, .int .i64 ea]) ∧ Gr w1 w')
    (C40 : ∀ w1, Gr w w1 → Calls Tryd.prog 17 #[iv op' rd' a' b' i'] w1 fun e w' => e = .returned (.tuple #[.string tb, .int .i64 eb]) ∧ Gr w1 w')
    (he : ea = 2) (hf : eb = 0 ∨ eb = 2) :
    Calls Tryd.prog 8 #[iv op rd a b i, iv op' rd' a' b' i'] w fun e w' => e = .returned (.bool true) ∧ Gr w w' := by
  have CS := Lib.hid CS0
  have C1 := Lib.hid C10
  have C2 := Lib.hid C20
  have C3 := Lib.hid C30
  have C4 := Lib.hid C40
  clear CS0 C10 C20 C30 C40
  have gb := gr_al (gr_al (Gr.refl w) (.cells #[.int .i64 op, .int .i64 rd, .int .i64 a, .int .i64 b, .int .i64 i] 23)) (.cells #[.int .i64 op', .int .i64 rd', .int .i64 a', .int .i64 b', .int .i64 i'] 23)
  have h1 := blk_alloc (.cells #[.int .i64 op', .int .i64 rd', .int .i64 a', .int .i64 b', .int .i64 i'] 23) (blk_new w (.cells #[.int .i64 op, .int .i64 rd, .int .i64 a, .int .i64 b, .int .i64 i] 23))
  have h2 := blk_new1 w (.cells #[.int .i64 op, .int .i64 rd, .int .i64 a, .int .i64 b, .int .i64 i] 23) (.cells #[.int .i64 op', .int .i64 rd', .int .i64 a', .int .i64 b', .int .i64 i'] 23)
  go_enter Tryd.func8, Tryd.ntmps8
  go_upto_region 1 with fail
  generalize ((w.alloc (.cells #[.int .i64 op, .int .i64 rd, .int .i64 a, .int .i64 b, .int .i64 i] 23)).alloc (.cells #[.int .i64 op', .int .i64 rd', .int .i64 a', .int .i64 b', .int .i64 i'] 23)) = wA at *
  obtain ⟨B, hB⟩ : ∃ B, B = w.heap.size := ⟨_, rfl⟩
  rw [← hB] at h1 h2 ⊢
  have H1 := Lib.hid h1
  have H2 := Lib.hid h2
  have GB := Lib.hid gb
  clear h1 h2 gb hB
  go_upto_region 2 with (go_at_call 10; refine (CS.out _ GB.out).mono ?_; rintro e w1 ⟨rfl, g1⟩)
  have k1 := blk_gr g1 H1.out
  have k2 := blk_gr g1 H2.out
  have gg := gtrans GB.out g1
  clear H1 H2 GB g1 CS
  have H1 := Lib.hid k1
  have H2 := Lib.hid k2
  have GB := Lib.hid gg
  clear k1 k2 gg
  have c0 := blk_cell H1.out 0 (v := .int .i64 op) rfl
  have c1 := blk_cell H1.out 1 (v := .int .i64 rd) rfl
  have c2 := blk_cell H1.out 2 (v := .int .i64 a) rfl
  have c3 := blk_cell H1.out 3 (v := .int .i64 b) rfl
  have c4 := blk_cell H1.out 4 (v := .int .i64 i) rfl
  have d0 := blk_cell H2.out 0 (v := .int .i64 op') rfl
  have d1 := blk_cell H2.out 1 (v := .int .i64 rd') rfl
  have d2 := blk_cell H2.out 2 (v := .int .i64 a') rfl
  have d3 := blk_cell H2.out 3 (v := .int .i64 b') rfl
  have d4 := blk_cell H2.out 4 (v := .int .i64 i') rfl
  go_upto_region 3 with (go_at_call 13; refine (C1.out _ GB.out).mono ?_; rintro e w2 ⟨rfl, g2⟩)
  have k1 := blk_gr g2 H1.out
  have k2 := blk_gr g2 H2.out
  have gg := gtrans GB.out g2
  clear H1 H2 GB g2 C1 c0 c1 c2 c3 c4 d0 d1 d2 d3 d4
  have H1 := Lib.hid k1
  have H2 := Lib.hid k2
  have GB := Lib.hid gg
  clear k1 k2 gg
  have c0 := blk_cell H1.out 0 (v := .int .i64 op) rfl
  have c1 := blk_cell H1.out 1 (v := .int .i64 rd) rfl
  have c2 := blk_cell H1.out 2 (v := .int .i64 a) rfl
  have c3 := blk_cell H1.out 3 (v := .int .i64 b) rfl
  have c4 := blk_cell H1.out 4 (v := .int .i64 i) rfl
  have d0 := blk_cell H2.out 0 (v := .int .i64 op') rfl
  have d1 := blk_cell H2.out 1 (v := .int .i64 rd') rfl
  have d2 := blk_cell H2.out 2 (v := .int .i64 a') rfl
  have d3 := blk_cell H2.out 3 (v := .int .i64 b') rfl
  have d4 := blk_cell H2.out 4 (v := .int .i64 i') rfl
  go_upto_region 4 with (go_at_call 13; refine (C2.out _ GB.out).mono ?_; rintro e w3 ⟨rfl, g3⟩)
  have k1 := blk_gr g3 H1.out
  have k2 := blk_gr g3 H2.out
  have gg := gtrans GB.out g3
  clear H1 H2 GB g3 C2 c0 c1 c2 c3 c4 d0 d1 d2 d3 d4
  have H1 := Lib.hid k1
  have H2 := Lib.hid k2
  have GB := Lib.hid gg
  clear k1 k2 gg
  have c0 := blk_cell H1.out 0 (v := .int .i64 op) rfl
  have c1 := blk_cell H1.out 1 (v := .int .i64 rd) rfl
  have c2 := blk_cell H1.out 2 (v := .int .i64 a) rfl
  have c3 := blk_cell H1.out 3 (v := .int .i64 b) rfl
  have c4 := blk_cell H1.out 4 (v := .int .i64 i) rfl
  have d0 := blk_cell H2.out 0 (v := .int .i64 op') rfl
  have d1 := blk_cell H2.out 1 (v := .int .i64 rd') rfl
  have d2 := blk_cell H2.out 2 (v := .int .i64 a') rfl
  have d3 := blk_cell H2.out 3 (v := .int .i64 b') rfl
  have d4 := blk_cell H2.out 4 (v := .int .i64 i') rfl
  go_upto_region 5 with (go_at_call 17; refine (C3.out _ GB.out).mono ?_; rintro e w4 ⟨rfl, g4⟩)
  have k1 := blk_gr g4 H1.out
  have k2 := blk_gr g4 H2.out
  have gg := gtrans GB.out g4
  clear H1 H2 GB g4 C3 c0 c1 c2 c3 c4 d0 d1 d2 d3 d4
  have H1 := Lib.hid k1
  have H2 := Lib.hid k2
  have GB := Lib.hid gg
  clear k1 k2 gg
  have c0 := blk_cell H1.out 0 (v := .int .i64 op) rfl
  have c1 := blk_cell H1.out 1 (v := .int .i64 rd) rfl
  have c2 := blk_cell H1.out 2 (v := .int .i64 a) rfl
  have c3 := blk_cell H1.out 3 (v := .int .i64 b) rfl
  have c4 := blk_cell H1.out 4 (v := .int .i64 i) rfl
  have d0 := blk_cell H2.out 0 (v := .int .i64 op') rfl
  have d1 := blk_cell H2.out 1 (v := .int .i64 rd') rfl
  have d2 := blk_cell H2.out 2 (v := .int .i64 a') rfl
  have d3 := blk_cell H2.out 3 (v := .int .i64 b') rfl
  have d4 := blk_cell H2.out 4 (v := .int .i64 i') rfl
  go_upto_region 6 with (go_at_call 17; refine (C4.out _ GB.out).mono ?_; rintro e w5 ⟨rfl, g5⟩)
  have k1 := blk_gr g5 H1.out
  have k2 := blk_gr g5 H2.out
  have gg := gtrans GB.out g5
  clear H1 H2 GB g5 C4 c0 c1 c2 c3 c4 d0 d1 d2 d3 d4
  have H1 := Lib.hid k1
  have H2 := Lib.hid k2
  have GB := Lib.hid gg
  clear k1 k2 gg
  have c0 := blk_cell H1.out 0 (v := .int .i64 op) rfl
  have c1 := blk_cell H1.out 1 (v := .int .i64 rd) rfl
  have c2 := blk_cell H1.out 2 (v := .int .i64 a) rfl
  have c3 := blk_cell H1.out 3 (v := .int .i64 b) rfl
  have c4 := blk_cell H1.out 4 (v := .int .i64 i) rfl
  have d0 := blk_cell H2.out 0 (v := .int .i64 op') rfl
  have d1 := blk_cell H2.out 1 (v := .int .i64 rd') rfl
  have d2 := blk_cell H2.out 2 (v := .int .i64 a') rfl
  have d3 := blk_cell H2.out 3 (v := .int .i64 b') rfl
  have d4 := blk_cell H2.out 4 (v := .int .i64 i') rfl
  subst he
  rcases hf with rfl | rfl
  all_goals go_wp2_with fail
  all_goals
    go_ret
    exact ⟨ret_b (by simp [*]), GB.out⟩
set_option maxHeartbeats 6400000 in
theorem l_apart_f (w : World) (op rd a b i op' rd' a' b' i' va ea vb eb : Int) (ta tb : ByteArray)
    (CS0 : ∀ w1, Gr w w1 → Calls Tryd.prog 10 #[] w1 fun e w' => e = .returned (.bool true) ∧ Gr w1 w')
    (C10 : ∀ w1, Gr w w1 → Calls Tryd.prog 13 #[iv op rd a b i] w1 fun e w' => e = .returned (.tuple #[.int .u32 va, .int .i64 ea]) ∧ Gr w1 w')
    (C20 : ∀ w1, Gr w w1 → Calls Tryd.prog 13 #[iv op' rd' a' b' i'] w1 fun e w' => e = .returned (.tuple #[.int .u32 vb, .int .i64 eb]) ∧ Gr w1 w')
    (C30 : ∀ w1, Gr w w1 → Calls Tryd.prog 17 #[iv op rd a b i] w1 fun e w' => e = .returned (.tuple #[.string ta, .int .i64 ea]) ∧ Gr w1 w')
    (C40 : ∀ w1, Gr w w1 → Calls Tryd.prog 17 #[iv op' rd' a' b' i'] w1 fun e w' => e = .returned (.tuple #[.string tb, .int .i64 eb]) ∧ Gr w1 w')
    (he : ea = 0) (hf : eb = 2) :
    Calls Tryd.prog 8 #[iv op rd a b i, iv op' rd' a' b' i'] w fun e w' => e = .returned (.bool true) ∧ Gr w w' := by
  have CS := Lib.hid CS0
  have C1 := Lib.hid C10
  have C2 := Lib.hid C20
  have C3 := Lib.hid C30
  have C4 := Lib.hid C40
  clear CS0 C10 C20 C30 C40
  have gb := gr_al (gr_al (Gr.refl w) (.cells #[.int .i64 op, .int .i64 rd, .int .i64 a, .int .i64 b, .int .i64 i] 23)) (.cells #[.int .i64 op', .int .i64 rd', .int .i64 a', .int .i64 b', .int .i64 i'] 23)
  have h1 := blk_alloc (.cells #[.int .i64 op', .int .i64 rd', .int .i64 a', .int .i64 b', .int .i64 i'] 23) (blk_new w (.cells #[.int .i64 op, .int .i64 rd, .int .i64 a, .int .i64 b, .int .i64 i] 23))
  have h2 := blk_new1 w (.cells #[.int .i64 op, .int .i64 rd, .int .i64 a, .int .i64 b, .int .i64 i] 23) (.cells #[.int .i64 op', .int .i64 rd', .int .i64 a', .int .i64 b', .int .i64 i'] 23)
  go_enter Tryd.func8, Tryd.ntmps8
  go_upto_region 1 with fail
  generalize ((w.alloc (.cells #[.int .i64 op, .int .i64 rd, .int .i64 a, .int .i64 b, .int .i64 i] 23)).alloc (.cells #[.int .i64 op', .int .i64 rd', .int .i64 a', .int .i64 b', .int .i64 i'] 23)) = wA at *
  obtain ⟨B, hB⟩ : ∃ B, B = w.heap.size := ⟨_, rfl⟩
  rw [← hB] at h1 h2 ⊢
  have H1 := Lib.hid h1
  have H2 := Lib.hid h2
  have GB := Lib.hid gb
  clear h1 h2 gb hB
  go_upto_region 2 with (go_at_call 10; refine (CS.out _ GB.out).mono ?_; rintro e w1 ⟨rfl, g1⟩)
  have k1 := blk_gr g1 H1.out
  have k2 := blk_gr g1 H2.out
  have gg := gtrans GB.out g1
  clear H1 H2 GB g1 CS
  have H1 := Lib.hid k1
  have H2 := Lib.hid k2
  have GB := Lib.hid gg
  clear k1 k2 gg
  have c0 := blk_cell H1.out 0 (v := .int .i64 op) rfl
  have c1 := blk_cell H1.out 1 (v := .int .i64 rd) rfl
  have c2 := blk_cell H1.out 2 (v := .int .i64 a) rfl
  have c3 := blk_cell H1.out 3 (v := .int .i64 b) rfl
  have c4 := blk_cell H1.out 4 (v := .int .i64 i) rfl
  have d0 := blk_cell H2.out 0 (v := .int .i64 op') rfl
  have d1 := blk_cell H2.out 1 (v := .int .i64 rd') rfl
  have d2 := blk_cell H2.out 2 (v := .int .i64 a') rfl
  have d3 := blk_cell H2.out 3 (v := .int .i64 b') rfl
  have d4 := blk_cell H2.out 4 (v := .int .i64 i') rfl
  go_upto_region 3 with (go_at_call 13; refine (C1.out _ GB.out).mono ?_; rintro e w2 ⟨rfl, g2⟩)
  have k1 := blk_gr g2 H1.out
  have k2 := blk_gr g2 H2.out
  have gg := gtrans GB.out g2
  clear H1 H2 GB g2 C1 c0 c1 c2 c3 c4 d0 d1 d2 d3 d4
  have H1 := Lib.hid k1
  have H2 := Lib.hid k2
  have GB := Lib.hid gg
  clear k1 k2 gg
  have c0 := blk_cell H1.out 0 (v := .int .i64 op) rfl
  have c1 := blk_cell H1.out 1 (v := .int .i64 rd) rfl
  have c2 := blk_cell H1.out 2 (v := .int .i64 a) rfl
  have c3 := blk_cell H1.out 3 (v := .int .i64 b) rfl
  have c4 := blk_cell H1.out 4 (v := .int .i64 i) rfl
  have d0 := blk_cell H2.out 0 (v := .int .i64 op') rfl
  have d1 := blk_cell H2.out 1 (v := .int .i64 rd') rfl
  have d2 := blk_cell H2.out 2 (v := .int .i64 a') rfl
  have d3 := blk_cell H2.out 3 (v := .int .i64 b') rfl
  have d4 := blk_cell H2.out 4 (v := .int .i64 i') rfl
  go_upto_region 4 with (go_at_call 13; refine (C2.out _ GB.out).mono ?_; rintro e w3 ⟨rfl, g3⟩)
  have k1 := blk_gr g3 H1.out
  have k2 := blk_gr g3 H2.out
  have gg := gtrans GB.out g3
  clear H1 H2 GB g3 C2 c0 c1 c2 c3 c4 d0 d1 d2 d3 d4
  have H1 := Lib.hid k1
  have H2 := Lib.hid k2
  have GB := Lib.hid gg
  clear k1 k2 gg
  have c0 := blk_cell H1.out 0 (v := .int .i64 op) rfl
  have c1 := blk_cell H1.out 1 (v := .int .i64 rd) rfl
  have c2 := blk_cell H1.out 2 (v := .int .i64 a) rfl
  have c3 := blk_cell H1.out 3 (v := .int .i64 b) rfl
  have c4 := blk_cell H1.out 4 (v := .int .i64 i) rfl
  have d0 := blk_cell H2.out 0 (v := .int .i64 op') rfl
  have d1 := blk_cell H2.out 1 (v := .int .i64 rd') rfl
  have d2 := blk_cell H2.out 2 (v := .int .i64 a') rfl
  have d3 := blk_cell H2.out 3 (v := .int .i64 b') rfl
  have d4 := blk_cell H2.out 4 (v := .int .i64 i') rfl
  go_upto_region 5 with (go_at_call 17; refine (C3.out _ GB.out).mono ?_; rintro e w4 ⟨rfl, g4⟩)
  have k1 := blk_gr g4 H1.out
  have k2 := blk_gr g4 H2.out
  have gg := gtrans GB.out g4
  clear H1 H2 GB g4 C3 c0 c1 c2 c3 c4 d0 d1 d2 d3 d4
  have H1 := Lib.hid k1
  have H2 := Lib.hid k2
  have GB := Lib.hid gg
  clear k1 k2 gg
  have c0 := blk_cell H1.out 0 (v := .int .i64 op) rfl
  have c1 := blk_cell H1.out 1 (v := .int .i64 rd) rfl
  have c2 := blk_cell H1.out 2 (v := .int .i64 a) rfl
  have c3 := blk_cell H1.out 3 (v := .int .i64 b) rfl
  have c4 := blk_cell H1.out 4 (v := .int .i64 i) rfl
  have d0 := blk_cell H2.out 0 (v := .int .i64 op') rfl
  have d1 := blk_cell H2.out 1 (v := .int .i64 rd') rfl
  have d2 := blk_cell H2.out 2 (v := .int .i64 a') rfl
  have d3 := blk_cell H2.out 3 (v := .int .i64 b') rfl
  have d4 := blk_cell H2.out 4 (v := .int .i64 i') rfl
  go_upto_region 6 with (go_at_call 17; refine (C4.out _ GB.out).mono ?_; rintro e w5 ⟨rfl, g5⟩)
  have k1 := blk_gr g5 H1.out
  have k2 := blk_gr g5 H2.out
  have gg := gtrans GB.out g5
  clear H1 H2 GB g5 C4 c0 c1 c2 c3 c4 d0 d1 d2 d3 d4
  have H1 := Lib.hid k1
  have H2 := Lib.hid k2
  have GB := Lib.hid gg
  clear k1 k2 gg
  have c0 := blk_cell H1.out 0 (v := .int .i64 op) rfl
  have c1 := blk_cell H1.out 1 (v := .int .i64 rd) rfl
  have c2 := blk_cell H1.out 2 (v := .int .i64 a) rfl
  have c3 := blk_cell H1.out 3 (v := .int .i64 b) rfl
  have c4 := blk_cell H1.out 4 (v := .int .i64 i) rfl
  have d0 := blk_cell H2.out 0 (v := .int .i64 op') rfl
  have d1 := blk_cell H2.out 1 (v := .int .i64 rd') rfl
  have d2 := blk_cell H2.out 2 (v := .int .i64 a') rfl
  have d3 := blk_cell H2.out 3 (v := .int .i64 b') rfl
  have d4 := blk_cell H2.out 4 (v := .int .i64 i') rfl
  subst he hf
  go_wp2_with fail
  all_goals
    go_ret
    exact ⟨ret_b (by simp [*]), GB.out⟩
set_option maxHeartbeats 6400000 in
theorem l_apart_s (w : World) (op rd a b i va ea vb eb : Int) (ta tb : ByteArray)
    (CS0 : ∀ w1, Gr w w1 → Calls Tryd.prog 10 #[] w1 fun e w' => e = .returned (.bool true) ∧ Gr w1 w')
    (C10 : ∀ w1, Gr w w1 → Calls Tryd.prog 13 #[iv op rd a b i] w1 fun e w' => e = .returned (.tuple #[.int .u32 va, .int .i64 ea]) ∧ Gr w1 w')
    (C20 : ∀ w1, Gr w w1 → Calls Tryd.prog 13 #[iv op rd a b i] w1 fun e w' => e = .returned (.tuple #[.int .u32 vb, .int .i64 eb]) ∧ Gr w1 w')
    (C30 : ∀ w1, Gr w w1 → Calls Tryd.prog 17 #[iv op rd a b i] w1 fun e w' => e = .returned (.tuple #[.string ta, .int .i64 ea]) ∧ Gr w1 w')
    (C40 : ∀ w1, Gr w w1 → Calls Tryd.prog 17 #[iv op rd a b i] w1 fun e w' => e = .returned (.tuple #[.string tb, .int .i64 eb]) ∧ Gr w1 w')
    (he : ea = 0) (hf : eb = 0) :
    Calls Tryd.prog 8 #[iv op rd a b i, iv op rd a b i] w fun e w' => e = .returned (.bool true) ∧ Gr w w' := by
  have CS := Lib.hid CS0
  have C1 := Lib.hid C10
  have C2 := Lib.hid C20
  have C3 := Lib.hid C30
  have C4 := Lib.hid C40
  clear CS0 C10 C20 C30 C40
  have gb := gr_al (gr_al (Gr.refl w) (.cells #[.int .i64 op, .int .i64 rd, .int .i64 a, .int .i64 b, .int .i64 i] 23)) (.cells #[.int .i64 op, .int .i64 rd, .int .i64 a, .int .i64 b, .int .i64 i] 23)
  have h1 := blk_alloc (.cells #[.int .i64 op, .int .i64 rd, .int .i64 a, .int .i64 b, .int .i64 i] 23) (blk_new w (.cells #[.int .i64 op, .int .i64 rd, .int .i64 a, .int .i64 b, .int .i64 i] 23))
  have h2 := blk_new1 w (.cells #[.int .i64 op, .int .i64 rd, .int .i64 a, .int .i64 b, .int .i64 i] 23) (.cells #[.int .i64 op, .int .i64 rd, .int .i64 a, .int .i64 b, .int .i64 i] 23)
  go_enter Tryd.func8, Tryd.ntmps8
  go_upto_region 1 with fail
  generalize ((w.alloc (.cells #[.int .i64 op, .int .i64 rd, .int .i64 a, .int .i64 b, .int .i64 i] 23)).alloc (.cells #[.int .i64 op, .int .i64 rd, .int .i64 a, .int .i64 b, .int .i64 i] 23)) = wA at *
  obtain ⟨B, hB⟩ : ∃ B, B = w.heap.size := ⟨_, rfl⟩
  rw [← hB] at h1 h2 ⊢
  have H1 := Lib.hid h1
  have H2 := Lib.hid h2
  have GB := Lib.hid gb
  clear h1 h2 gb hB
  go_upto_region 2 with (go_at_call 10; refine (CS.out _ GB.out).mono ?_; rintro e w1 ⟨rfl, g1⟩)
  have k1 := blk_gr g1 H1.out
  have k2 := blk_gr g1 H2.out
  have gg := gtrans GB.out g1
  clear H1 H2 GB g1 CS
  have H1 := Lib.hid k1
  have H2 := Lib.hid k2
  have GB := Lib.hid gg
  clear k1 k2 gg
  have c0 := blk_cell H1.out 0 (v := .int .i64 op) rfl
  have c1 := blk_cell H1.out 1 (v := .int .i64 rd) rfl
  have c2 := blk_cell H1.out 2 (v := .int .i64 a) rfl
  have c3 := blk_cell H1.out 3 (v := .int .i64 b) rfl
  have c4 := blk_cell H1.out 4 (v := .int .i64 i) rfl
  have d0 := blk_cell H2.out 0 (v := .int .i64 op) rfl
  have d1 := blk_cell H2.out 1 (v := .int .i64 rd) rfl
  have d2 := blk_cell H2.out 2 (v := .int .i64 a) rfl
  have d3 := blk_cell H2.out 3 (v := .int .i64 b) rfl
  have d4 := blk_cell H2.out 4 (v := .int .i64 i) rfl
  go_upto_region 3 with (go_at_call 13; refine (C1.out _ GB.out).mono ?_; rintro e w2 ⟨rfl, g2⟩)
  have k1 := blk_gr g2 H1.out
  have k2 := blk_gr g2 H2.out
  have gg := gtrans GB.out g2
  clear H1 H2 GB g2 C1 c0 c1 c2 c3 c4 d0 d1 d2 d3 d4
  have H1 := Lib.hid k1
  have H2 := Lib.hid k2
  have GB := Lib.hid gg
  clear k1 k2 gg
  have c0 := blk_cell H1.out 0 (v := .int .i64 op) rfl
  have c1 := blk_cell H1.out 1 (v := .int .i64 rd) rfl
  have c2 := blk_cell H1.out 2 (v := .int .i64 a) rfl
  have c3 := blk_cell H1.out 3 (v := .int .i64 b) rfl
  have c4 := blk_cell H1.out 4 (v := .int .i64 i) rfl
  have d0 := blk_cell H2.out 0 (v := .int .i64 op) rfl
  have d1 := blk_cell H2.out 1 (v := .int .i64 rd) rfl
  have d2 := blk_cell H2.out 2 (v := .int .i64 a) rfl
  have d3 := blk_cell H2.out 3 (v := .int .i64 b) rfl
  have d4 := blk_cell H2.out 4 (v := .int .i64 i) rfl
  go_upto_region 4 with (go_at_call 13; refine (C2.out _ GB.out).mono ?_; rintro e w3 ⟨rfl, g3⟩)
  have k1 := blk_gr g3 H1.out
  have k2 := blk_gr g3 H2.out
  have gg := gtrans GB.out g3
  clear H1 H2 GB g3 C2 c0 c1 c2 c3 c4 d0 d1 d2 d3 d4
  have H1 := Lib.hid k1
  have H2 := Lib.hid k2
  have GB := Lib.hid gg
  clear k1 k2 gg
  have c0 := blk_cell H1.out 0 (v := .int .i64 op) rfl
  have c1 := blk_cell H1.out 1 (v := .int .i64 rd) rfl
  have c2 := blk_cell H1.out 2 (v := .int .i64 a) rfl
  have c3 := blk_cell H1.out 3 (v := .int .i64 b) rfl
  have c4 := blk_cell H1.out 4 (v := .int .i64 i) rfl
  have d0 := blk_cell H2.out 0 (v := .int .i64 op) rfl
  have d1 := blk_cell H2.out 1 (v := .int .i64 rd) rfl
  have d2 := blk_cell H2.out 2 (v := .int .i64 a) rfl
  have d3 := blk_cell H2.out 3 (v := .int .i64 b) rfl
  have d4 := blk_cell H2.out 4 (v := .int .i64 i) rfl
  go_upto_region 5 with (go_at_call 17; refine (C3.out _ GB.out).mono ?_; rintro e w4 ⟨rfl, g4⟩)
  have k1 := blk_gr g4 H1.out
  have k2 := blk_gr g4 H2.out
  have gg := gtrans GB.out g4
  clear H1 H2 GB g4 C3 c0 c1 c2 c3 c4 d0 d1 d2 d3 d4
  have H1 := Lib.hid k1
  have H2 := Lib.hid k2
  have GB := Lib.hid gg
  clear k1 k2 gg
  have c0 := blk_cell H1.out 0 (v := .int .i64 op) rfl
  have c1 := blk_cell H1.out 1 (v := .int .i64 rd) rfl
  have c2 := blk_cell H1.out 2 (v := .int .i64 a) rfl
  have c3 := blk_cell H1.out 3 (v := .int .i64 b) rfl
  have c4 := blk_cell H1.out 4 (v := .int .i64 i) rfl
  have d0 := blk_cell H2.out 0 (v := .int .i64 op) rfl
  have d1 := blk_cell H2.out 1 (v := .int .i64 rd) rfl
  have d2 := blk_cell H2.out 2 (v := .int .i64 a) rfl
  have d3 := blk_cell H2.out 3 (v := .int .i64 b) rfl
  have d4 := blk_cell H2.out 4 (v := .int .i64 i) rfl
  go_upto_region 6 with (go_at_call 17; refine (C4.out _ GB.out).mono ?_; rintro e w5 ⟨rfl, g5⟩)
  have k1 := blk_gr g5 H1.out
  have k2 := blk_gr g5 H2.out
  have gg := gtrans GB.out g5
  clear H1 H2 GB g5 C4 c0 c1 c2 c3 c4 d0 d1 d2 d3 d4
  have H1 := Lib.hid k1
  have H2 := Lib.hid k2
  have GB := Lib.hid gg
  clear k1 k2 gg
  have c0 := blk_cell H1.out 0 (v := .int .i64 op) rfl
  have c1 := blk_cell H1.out 1 (v := .int .i64 rd) rfl
  have c2 := blk_cell H1.out 2 (v := .int .i64 a) rfl
  have c3 := blk_cell H1.out 3 (v := .int .i64 b) rfl
  have c4 := blk_cell H1.out 4 (v := .int .i64 i) rfl
  have d0 := blk_cell H2.out 0 (v := .int .i64 op) rfl
  have d1 := blk_cell H2.out 1 (v := .int .i64 rd) rfl
  have d2 := blk_cell H2.out 2 (v := .int .i64 a) rfl
  have d3 := blk_cell H2.out 3 (v := .int .i64 b) rfl
  have d4 := blk_cell H2.out 4 (v := .int .i64 i) rfl
  subst he hf
  go_wp2_with fail
  all_goals
    go_ret
    exact ⟨ret_b (by simp [*]), GB.out⟩
set_option maxHeartbeats 6400000 in
theorem l_apart_n (w : World) (op rd a b i op' rd' a' b' i' va ea vb eb : Int) (ta tb : ByteArray)
    (CS0 : ∀ w1, Gr w w1 → Calls Tryd.prog 10 #[] w1 fun e w' => e = .returned (.bool true) ∧ Gr w1 w')
    (C10 : ∀ w1, Gr w w1 → Calls Tryd.prog 13 #[iv op rd a b i] w1 fun e w' => e = .returned (.tuple #[.int .u32 va, .int .i64 ea]) ∧ Gr w1 w')
    (C20 : ∀ w1, Gr w w1 → Calls Tryd.prog 13 #[iv op' rd' a' b' i'] w1 fun e w' => e = .returned (.tuple #[.int .u32 vb, .int .i64 eb]) ∧ Gr w1 w')
    (C30 : ∀ w1, Gr w w1 → Calls Tryd.prog 17 #[iv op rd a b i] w1 fun e w' => e = .returned (.tuple #[.string ta, .int .i64 ea]) ∧ Gr w1 w')
    (C40 : ∀ w1, Gr w w1 → Calls Tryd.prog 17 #[iv op' rd' a' b' i'] w1 fun e w' => e = .returned (.tuple #[.string tb, .int .i64 eb]) ∧ Gr w1 w')
    (he : ea = 0) (hf : eb = 0) (hv : (va != vb) = true) (ht : ¬ ta.toList = tb.toList) :
    Calls Tryd.prog 8 #[iv op rd a b i, iv op' rd' a' b' i'] w fun e w' => e = .returned (.bool true) ∧ Gr w w' := by
  have CS := Lib.hid CS0
  have C1 := Lib.hid C10
  have C2 := Lib.hid C20
  have C3 := Lib.hid C30
  have C4 := Lib.hid C40
  clear CS0 C10 C20 C30 C40
  have gb := gr_al (gr_al (Gr.refl w) (.cells #[.int .i64 op, .int .i64 rd, .int .i64 a, .int .i64 b, .int .i64 i] 23)) (.cells #[.int .i64 op', .int .i64 rd', .int .i64 a', .int .i64 b', .int .i64 i'] 23)
  have h1 := blk_alloc (.cells #[.int .i64 op', .int .i64 rd', .int .i64 a', .int .i64 b', .int .i64 i'] 23) (blk_new w (.cells #[.int .i64 op, .int .i64 rd, .int .i64 a, .int .i64 b, .int .i64 i] 23))
  have h2 := blk_new1 w (.cells #[.int .i64 op, .int .i64 rd, .int .i64 a, .int .i64 b, .int .i64 i] 23) (.cells #[.int .i64 op', .int .i64 rd', .int .i64 a', .int .i64 b', .int .i64 i'] 23)
  go_enter Tryd.func8, Tryd.ntmps8
  go_upto_region 1 with fail
  generalize ((w.alloc (.cells #[.int .i64 op, .int .i64 rd, .int .i64 a, .int .i64 b, .int .i64 i] 23)).alloc (.cells #[.int .i64 op', .int .i64 rd', .int .i64 a', .int .i64 b', .int .i64 i'] 23)) = wA at *
  obtain ⟨B, hB⟩ : ∃ B, B = w.heap.size := ⟨_, rfl⟩
  rw [← hB] at h1 h2 ⊢
  have H1 := Lib.hid h1
  have H2 := Lib.hid h2
  have GB := Lib.hid gb
  clear h1 h2 gb hB
  go_upto_region 2 with (go_at_call 10; refine (CS.out _ GB.out).mono ?_; rintro e w1 ⟨rfl, g1⟩)
  have k1 := blk_gr g1 H1.out
  have k2 := blk_gr g1 H2.out
  have gg := gtrans GB.out g1
  clear H1 H2 GB g1 CS
  have H1 := Lib.hid k1
  have H2 := Lib.hid k2
  have GB := Lib.hid gg
  clear k1 k2 gg
  have c0 := blk_cell H1.out 0 (v := .int .i64 op) rfl
  have c1 := blk_cell H1.out 1 (v := .int .i64 rd) rfl
  have c2 := blk_cell H1.out 2 (v := .int .i64 a) rfl
  have c3 := blk_cell H1.out 3 (v := .int .i64 b) rfl
  have c4 := blk_cell H1.out 4 (v := .int .i64 i) rfl
  have d0 := blk_cell H2.out 0 (v := .int .i64 op') rfl
  have d1 := blk_cell H2.out 1 (v := .int .i64 rd') rfl
  have d2 := blk_cell H2.out 2 (v := .int .i64 a') rfl
  have d3 := blk_cell H2.out 3 (v := .int .i64 b') rfl
  have d4 := blk_cell H2.out 4 (v := .int .i64 i') rfl
  go_upto_region 3 with (go_at_call 13; refine (C1.out _ GB.out).mono ?_; rintro e w2 ⟨rfl, g2⟩)
  have k1 := blk_gr g2 H1.out
  have k2 := blk_gr g2 H2.out
  have gg := gtrans GB.out g2
  clear H1 H2 GB g2 C1 c0 c1 c2 c3 c4 d0 d1 d2 d3 d4
  have H1 := Lib.hid k1
  have H2 := Lib.hid k2
  have GB := Lib.hid gg
  clear k1 k2 gg
  have c0 := blk_cell H1.out 0 (v := .int .i64 op) rfl
  have c1 := blk_cell H1.out 1 (v := .int .i64 rd) rfl
  have c2 := blk_cell H1.out 2 (v := .int .i64 a) rfl
  have c3 := blk_cell H1.out 3 (v := .int .i64 b) rfl
  have c4 := blk_cell H1.out 4 (v := .int .i64 i) rfl
  have d0 := blk_cell H2.out 0 (v := .int .i64 op') rfl
  have d1 := blk_cell H2.out 1 (v := .int .i64 rd') rfl
  have d2 := blk_cell H2.out 2 (v := .int .i64 a') rfl
  have d3 := blk_cell H2.out 3 (v := .int .i64 b') rfl
  have d4 := blk_cell H2.out 4 (v := .int .i64 i') rfl
  go_upto_region 4 with (go_at_call 13; refine (C2.out _ GB.out).mono ?_; rintro e w3 ⟨rfl, g3⟩)
  have k1 := blk_gr g3 H1.out
  have k2 := blk_gr g3 H2.out
  have gg := gtrans GB.out g3
  clear H1 H2 GB g3 C2 c0 c1 c2 c3 c4 d0 d1 d2 d3 d4
  have H1 := Lib.hid k1
  have H2 := Lib.hid k2
  have GB := Lib.hid gg
  clear k1 k2 gg
  have c0 := blk_cell H1.out 0 (v := .int .i64 op) rfl
  have c1 := blk_cell H1.out 1 (v := .int .i64 rd) rfl
  have c2 := blk_cell H1.out 2 (v := .int .i64 a) rfl
  have c3 := blk_cell H1.out 3 (v := .int .i64 b) rfl
  have c4 := blk_cell H1.out 4 (v := .int .i64 i) rfl
  have d0 := blk_cell H2.out 0 (v := .int .i64 op') rfl
  have d1 := blk_cell H2.out 1 (v := .int .i64 rd') rfl
  have d2 := blk_cell H2.out 2 (v := .int .i64 a') rfl
  have d3 := blk_cell H2.out 3 (v := .int .i64 b') rfl
  have d4 := blk_cell H2.out 4 (v := .int .i64 i') rfl
  go_upto_region 5 with (go_at_call 17; refine (C3.out _ GB.out).mono ?_; rintro e w4 ⟨rfl, g4⟩)
  have k1 := blk_gr g4 H1.out
  have k2 := blk_gr g4 H2.out
  have gg := gtrans GB.out g4
  clear H1 H2 GB g4 C3 c0 c1 c2 c3 c4 d0 d1 d2 d3 d4
  have H1 := Lib.hid k1
  have H2 := Lib.hid k2
  have GB := Lib.hid gg
  clear k1 k2 gg
  have c0 := blk_cell H1.out 0 (v := .int .i64 op) rfl
  have c1 := blk_cell H1.out 1 (v := .int .i64 rd) rfl
  have c2 := blk_cell H1.out 2 (v := .int .i64 a) rfl
  have c3 := blk_cell H1.out 3 (v := .int .i64 b) rfl
  have c4 := blk_cell H1.out 4 (v := .int .i64 i) rfl
  have d0 := blk_cell H2.out 0 (v := .int .i64 op') rfl
  have d1 := blk_cell H2.out 1 (v := .int .i64 rd') rfl
  have d2 := blk_cell H2.out 2 (v := .int .i64 a') rfl
  have d3 := blk_cell H2.out 3 (v := .int .i64 b') rfl
  have d4 := blk_cell H2.out 4 (v := .int .i64 i') rfl
  go_upto_region 6 with (go_at_call 17; refine (C4.out _ GB.out).mono ?_; rintro e w5 ⟨rfl, g5⟩)
  have k1 := blk_gr g5 H1.out
  have k2 := blk_gr g5 H2.out
  have gg := gtrans GB.out g5
  clear H1 H2 GB g5 C4 c0 c1 c2 c3 c4 d0 d1 d2 d3 d4
  have H1 := Lib.hid k1
  have H2 := Lib.hid k2
  have GB := Lib.hid gg
  clear k1 k2 gg
  have c0 := blk_cell H1.out 0 (v := .int .i64 op) rfl
  have c1 := blk_cell H1.out 1 (v := .int .i64 rd) rfl
  have c2 := blk_cell H1.out 2 (v := .int .i64 a) rfl
  have c3 := blk_cell H1.out 3 (v := .int .i64 b) rfl
  have c4 := blk_cell H1.out 4 (v := .int .i64 i) rfl
  have d0 := blk_cell H2.out 0 (v := .int .i64 op') rfl
  have d1 := blk_cell H2.out 1 (v := .int .i64 rd') rfl
  have d2 := blk_cell H2.out 2 (v := .int .i64 a') rfl
  have d3 := blk_cell H2.out 3 (v := .int .i64 b') rfl
  have d4 := blk_cell H2.out 4 (v := .int .i64 i') rfl
  subst he hf
  go_wp2_with fail
  all_goals
    go_ret
    exact ⟨ret_b (by simp [*]), GB.out⟩
end Go.Proofs.YthcfobefpknjeaaDoor.P
