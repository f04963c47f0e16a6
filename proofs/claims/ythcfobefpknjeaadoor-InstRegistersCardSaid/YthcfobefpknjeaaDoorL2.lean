/- Stage 2: InstRegisters. No condition. -/
import Derived.Test.YthcfobefpknjeaaDoorL1
import Derived.Test.YthcfobefpknjeaaDoorG2
set_option linter.unusedVariables false
set_option linter.unusedSimpArgs false
set_option maxRecDepth 100000
namespace Go.Proofs.YthcfobefpknjeaaDoor.P
open Go.RowKit
set_option maxHeartbeats 6400000 in
theorem l_regs_ok (w : World) (hF : FT w) (hM : ML w) (op rd a b i p q s : Int) (hi : i64 i) (hp : i64 p) (hq : i64 q) (hs : i64 s) (hrd : i64 rd) (ha : i64 a) (hb : i64 b) (v1 v2 : Int)
    (CE1 : ∀ w1, Gr w w1 → Calls Tryd.prog 13 #[iv op rd a b i] w1 fun e w' => e = .returned (.tuple #[.int .u32 v1, .int .i64 0]) ∧ Gr w1 w')
    (CE2 : ∀ w1, Gr w w1 → Calls Tryd.prog 13 #[iv op p q s i] w1 fun e w' => e = .returned (.tuple #[.int .u32 v2, .int .i64 0]) ∧ Gr w1 w')
    (hrd5 : 0 ≤ rd ∧ rd < 32) (ha5 : 0 ≤ a ∧ a < 32) (hb5 : 0 ≤ b ∧ b < 32) (hp5 : 0 ≤ p ∧ p < 32) (hq5 : 0 ≤ q ∧ q < 32) (hs5 : 0 ≤ s ∧ s < 32)
    (hu : bits .xor .u32 v1 v2 = bits .or .u32 (bits .or .u32 (bits .or .u32 0 (xI rd p 128)) (xI a q 32768)) (xI b s 1048576)) :
    Calls Tryd.prog 9 #[.agg #[.int .i64 op, .int .i64 rd, .int .i64 a, .int .i64 b, .int .i64 i, .int .i64 p, .int .i64 q, .int .i64 s]] w fun e w' => e = .returned (.bool true) ∧ Gr w w' := by
  have HU := Lib.hid hu
  clear hu
  have CS := Lib.hid (fun w1 (g : Gr w w1) => c_shown2 w1 (hF.gr g) (hM.gr g))
  have C1 := Lib.hid CE1
  have C2 := Lib.hid CE2
  have gb := gr_al (gr_al (Gr.refl w) (.cells #[.int .i64 op, .int .i64 rd, .int .i64 a, .int .i64 b, .int .i64 i, .int .i64 p, .int .i64 q, .int .i64 s] 53)) (.cells #[.int .i64 op, .int .i64 rd, .int .i64 a, .int .i64 b, .int .i64 i] 23)
  have k3 := blk_new1 w (.cells #[.int .i64 op, .int .i64 rd, .int .i64 a, .int .i64 b, .int .i64 i, .int .i64 p, .int .i64 q, .int .i64 s] 53) (.cells #[.int .i64 op, .int .i64 rd, .int .i64 a, .int .i64 b, .int .i64 i] 23)
  clear hF hM CE1 CE2
  go_enter Tryd.func9, Tryd.ntmps9
  go_upto_region 5 with fail
  generalize ((w.alloc (.cells #[.int .i64 op, .int .i64 rd, .int .i64 a, .int .i64 b, .int .i64 i, .int .i64 p, .int .i64 q, .int .i64 s] 53)).alloc (.cells #[.int .i64 op, .int .i64 rd, .int .i64 a, .int .i64 b, .int .i64 i] 23)) = wA at *
  generalize w.heap.size + 1 = B at *
  have K3 := Lib.hid k3
  have GB := Lib.hid gb
  clear k3 gb
  go_upto_region 6 with (go_at_call 10; refine (CS.out _ GB.out).mono ?_; rintro e w1 ⟨rfl, g1⟩)
  have hb1 := blk_gr g1 K3.out
  have G1 := Lib.hid (gtrans GB.out g1)
  have H1 := Lib.hid hb1
  have c0 := blk_cell hb1 0 (v := .int .i64 op) rfl
  have c1 := blk_cell hb1 1 (v := .int .i64 rd) rfl
  have c2 := blk_cell hb1 2 (v := .int .i64 a) rfl
  have c3 := blk_cell hb1 3 (v := .int .i64 b) rfl
  have c4 := blk_cell hb1 4 (v := .int .i64 i) rfl
  clear hb1 g1 GB K3 CS
  go_upto_region 7 with (go_at_call 13; refine (C1.out _ G1.out).mono ?_; rintro e w2 ⟨rfl, g2⟩)
  have hb2 := blk_gr g2 H1.out
  have G2 := Lib.hid (gtrans G1.out g2)
  have H2 := Lib.hid hb2
  clear c0 c1 c2 c3 c4
  have c0 := blk_cell hb2 0 (v := .int .i64 op) rfl
  have c1 := blk_cell hb2 1 (v := .int .i64 rd) rfl
  have c2 := blk_cell hb2 2 (v := .int .i64 a) rfl
  have c3 := blk_cell hb2 3 (v := .int .i64 b) rfl
  have c4 := blk_cell hb2 4 (v := .int .i64 i) rfl
  clear hb2 g2 H1 G1 C1
  go_upto_region 11 with fail
  have G3 := Lib.hid (gr_al G2.out (.cells #[.int .i64 op, .int .i64 p, .int .i64 q, .int .i64 s, .int .i64 i] 23))
  have H3 := Lib.hid (blk_alloc (.cells #[.int .i64 op, .int .i64 p, .int .i64 q, .int .i64 s, .int .i64 i] 23) H2.out)
  go_upto_region 12 with (go_at_call 13; refine (C2.out _ G3.out).mono ?_; rintro e w4 ⟨rfl, g4⟩)
  have hb4 := blk_gr g4 H3.out
  have G4 := Lib.hid (gtrans G3.out g4)
  clear c0 c1 c2 c3 c4
  have c1 := blk_cell hb4 1 (v := .int .i64 rd) rfl
  have c2 := blk_cell hb4 2 (v := .int .i64 a) rfl
  have c3 := blk_cell hb4 3 (v := .int .i64 b) rfl
  clear hb4 g4 C2 H2 H3 G2 G3
  obtain ⟨rd0, rd1⟩ := hrd5
  obtain ⟨a0, a1⟩ := ha5
  obtain ⟨b0, b1⟩ := hb5
  obtain ⟨p0, p1⟩ := hp5
  obtain ⟨q0, q1⟩ := hq5
  obtain ⟨s0, s1⟩ := hs5
  by_cases hne : rd = p
  · subst hne
    have HU2 : Hid (bits .xor .u32 v1 v2 = bits .or .u32 (bits .or .u32 0 (xI a q 32768)) (xI b s 1048576)) := Lib.hid (by rw [HU.out, xI_self rd ⟨rd0, rd1⟩ 128 (by omega) (by omega), or0 (x := 0) (by omega) (by omega)])
    go_wp2_with fail
    go_ret
    exact ⟨ret_b (beq_iff_eq.2 HU2.out), G4.out⟩
  · have eb : (rd == p) = false := beq_eq_false_iff_ne.2 hne
    have en : (rd != p) = true := by rw [bne, eb]; rfl
    clear hne
    go_wp2_with fail
    go_ret
    exact ⟨ret_b (beq_iff_eq.2 HU.out), G4.out⟩
theorem l_regs_all (w : World) (hF : FT w) (hM : ML w) (op rd a b i p q s : Int) (hi : i64 i) (hp : i64 p) (hq : i64 q) (hs : i64 s) (hrd : i64 rd) (ha : i64 a) (hb : i64 b) :
    Calls Tryd.prog 9 #[.agg #[.int .i64 op, .int .i64 rd, .int .i64 a, .int .i64 b, .int .i64 i, .int .i64 p, .int .i64 q, .int .i64 s]] w fun e w' => e = .returned (.bool true) ∧ Gr w w' := by
  have c1 := fun w1 (g : Gr w w1) => c_encode op rd a b i hi w1 (hF.gr g)
  have c2 := fun w1 (g : Gr w w1) => c_encode op p q s i hi w1 (hF.gr g)
  cases m1 : mayF op rd a b i with
  | false => exact l_regs w hF hM op rd a b i p q s hi hp hq hs hrd ha hb _ _ _ _ c1 c2 (.inl (by unfold encE; rw [m1]; decide))
  | true =>
    cases m2 : mayF op p q s i with
    | false => exact l_regs w hF hM op rd a b i p q s hi hp hq hs hrd ha hb _ _ _ _ c1 c2 (.inr ⟨by unfold encE; rw [m1]; rfl, by unfold encE; rw [m2]; decide⟩)
    | true =>
      have e1 : encE op rd a b i = 0 := by unfold encE; rw [m1]; rfl
      have e2 : encE op p q s i = 0 := by unfold encE; rw [m2]; rfl
      have v1 : encV op rd a b i = encF op.toNat rd a b i := by unfold encV; rw [m1]; rfl
      have v2 : encV op p q s i = encF op.toNat p q s i := by unfold encV; rw [m2]; rfl
      rw [e1, v1] at c1
      rw [e2, v2] at c2
      obtain ⟨k, rfl, hk, h1, hr, hj⟩ := may_op m1
      have n1 := m1
      have n2 := m2
      rw [may_in hk h1, Bool.and_eq_true] at n1 n2
      obtain ⟨r1, r2, r3, _⟩ := may_regs (fm_cases k hk h1) n1.1
      obtain ⟨t1, t2, t3, _⟩ := may_regs (fm_cases k hk h1) n2.1
      rw [Int.toNat_natCast] at c1 c2
      exact l_regs_ok w hF hM (k : Int) rd a b i p q s hi hp hq hs hrd ha hb _ _ c1 c2 r1 r2 r3 t1 t2 t3 (regs_val k hk h1 rd a b i p q s m1 m2)
end Go.Proofs.YthcfobefpknjeaaDoor.P
