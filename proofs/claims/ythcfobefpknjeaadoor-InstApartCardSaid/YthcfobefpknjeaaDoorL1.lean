/- Stage 2: InstRegisters. No condition. -/
import Derived.Test.YthcfobefpknjeaaDoorO1
set_option linter.unusedVariables false
set_option linter.unusedSimpArgs false
set_option maxRecDepth 100000
namespace Go.Proofs.YthcfobefpknjeaaDoor.P
open Go.RowKit
set_option maxHeartbeats 6400000 in
theorem l_regs (w : World) (hF : FT w) (hM : ML w) (op rd a b i p q s : Int) (hi : i64 i) (hp : i64 p) (hq : i64 q) (hs : i64 s) (hrd : i64 rd) (ha : i64 a) (hb : i64 b) (e1 e2 v1 v2 : Int)
    (CE1 : ∀ w1, Gr w w1 → Calls Tryd.prog 13 #[iv op rd a b i] w1 fun e w' => e = .returned (.tuple #[.int .u32 v1, .int .i64 e1]) ∧ Gr w1 w')
    (CE2 : ∀ w1, Gr w w1 → Calls Tryd.prog 13 #[iv op p q s i] w1 fun e w' => e = .returned (.tuple #[.int .u32 v2, .int .i64 e2]) ∧ Gr w1 w')
    (he : ¬ e1 = 0 ∨ (e1 = 0 ∧ ¬ e2 = 0)) :
    Calls Tryd.prog 9 #[.agg #[.int .i64 op, .int .i64 rd, .int .i64 a, .int .i64 b, .int .i64 i, .int .i64 p, .int .i64 q, .int .i64 s]] w fun e w' => e = .returned (.bool true) ∧ Gr w w' := by
  have CS := Lib.hid (fun w1 (g : Gr w w1) => c_shown2 w1 (hF.gr g) (hM.gr g))
  have C1 := Lib.hid CE1
  have C2 := Lib.hid CE2
  have gb := gr_al (gr_al (Gr.refl w) (.cells #[.int .i64 op, .int .i64 rd, .int .i64 a, .int .i64 b, .int .i64 i, .int .i64 p, .int .i64 q, .int .i64 s] 53)) (.cells #[.int .i64 op, .int .i64 rd, .int .i64 a, .int .i64 b, .int .i64 i] 23)
  have k3 := blk_new1 w (.cells #[.int .i64 op, .int .i64 rd, .int .i64 a, .int .i64 b, .int .i64 i, .int .i64 p, .int .i64 q, .int .i64 s] 53) (.cells #[.int .i64 op, .int .i64 rd, .int .i64 a, .int .i64 b, .int .i64 i] 23)
  have HE := Lib.hid he
  clear hF hM CE1 CE2 he
  go_enter Tryd.func9, Tryd.ntmps9
  go_upto_region 5 with fail
  generalize ((w.alloc (.cells #[.int .i64 op, .int .i64 rd, .int .i64 a, .int .i64 b, .int .i64 i, .int .i64 p, .int .i64 q, .int .i64 s] 53)).alloc (.cells #[.int .i64 op, .int .i64 rd, .int .i64 a, .int .i64 b, .int .i64 i] 23)) = wA at *
  generalize w.heap.size + 1 = B at *
  have K3 := Lib.hid k3
  have GB := Lib.hid gb
  clear k3 gb
  go_upto_region 6 with (go_at_call 10; refine (CS.out _ GB.out).mono ?_; rintro e w1 ⟨rfl, g1⟩)
  have hb1 := blk_gr g1 K3.out
  have G1 := Lib.hid (gtrans GB.out g1)
  have H1 := Lib.hid hb1
  have c0 := blk_cell hb1 0 (v := .int .i64 op) rfl
  have c1 := blk_cell hb1 1 (v := .int .i64 rd) rfl
  have c2 := blk_cell hb1 2 (v := .int .i64 a) rfl
  have c3 := blk_cell hb1 3 (v := .int .i64 b) rfl
  have c4 := blk_cell hb1 4 (v := .int .i64 i) rfl
  clear hb1 g1 GB K3 CS
  go_upto_region 7 with (go_at_call 13; refine (C1.out _ G1.out).mono ?_; rintro e w2 ⟨rfl, g2⟩)
  have hb2 := blk_gr g2 H1.out
  have G2 := Lib.hid (gtrans G1.out g2)
  have H2 := Lib.hid hb2
  clear c0 c1 c2 c3 c4
  have c0 := blk_cell hb2 0 (v := .int .i64 op) rfl
  have c1 := blk_cell hb2 1 (v := .int .i64 rd) rfl
  have c2 := blk_cell hb2 2 (v := .int .i64 a) rfl
  have c3 := blk_cell hb2 3 (v := .int .i64 b) rfl
  have c4 := blk_cell hb2 4 (v := .int .i64 i) rfl
  clear hb2 g2 H1 G1 C1
  go_upto_region 11 with fail
  have G3 := Lib.hid (gr_al G2.out (.cells #[.int .i64 op, .int .i64 p, .int .i64 q, .int .i64 s, .int .i64 i] 23))
  go_upto_region 12 with (go_at_call 13; refine (C2.out _ G3.out).mono ?_; rintro e w4 ⟨rfl, g4⟩)
  have G4 := Lib.hid (gtrans G3.out g4)
  clear g4
  have he := HE.out
  rcases he with h | ⟨h, h2⟩
  · have eb : (e1 == 0) = false := beq_eq_false_iff_ne.2 h
    have en : (e1 != 0) = true := by rw [bne, eb]; rfl
    clear h
    go_wp2_with fail
    go_ret
    exact ⟨rfl, G4.out⟩
  · subst h
    have eb : (e2 == 0) = false := beq_eq_false_iff_ne.2 h2
    have en : (e2 != 0) = true := by rw [bne, eb]; rfl
    clear h2
    go_wp2_with fail
    go_ret
    exact ⟨rfl, G4.out⟩
end Go.Proofs.YthcfobefpknjeaaDoor.P
