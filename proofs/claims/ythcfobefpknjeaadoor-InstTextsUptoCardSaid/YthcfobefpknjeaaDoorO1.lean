/- Stage 2: what the laws are asked of, opened; what the listed variables give. No condition. -/
import Derived.Test.YthcfobefpknjeaaDoorS2
import Derived.Test.YthcfobefpknjeaaDoorRows
import Derived.Lib.LaidTab
import Derived.MakeChecks
import Derived.Stop.LaidErr
import Derived.OpenShut
import Derived.ProofKit
set_option linter.unusedVariables false
set_option maxRecDepth 100000
namespace Go.Proofs.YthcfobefpknjeaaDoor.P
open Go.RowKit
section
open Go.ChangeShapes Go.WideShapes Go.Deep
variable {H : Type} {enc : TypeId × Value → H} {w : World} {base : Nat} {spare : Nat → Bool} {held : Bool}
theorem int_of {n : Nat} {t : TypeId} {x : Value} {y : DataW H × List MemPlace} (ht : Tryd.prog.underlying t = some (.int .i64)) (h : DataW.trod enc Tryd.prog w base spare held n t [x] = some y) : ∃ p : Int, x = .int .i64 p ∧ i64 p := by
  obtain ⟨p, e2, _, k2⟩ := DataW.trod_int ht h
  rw [List.singleton_inj] at e2
  exact ⟨p, e2, wf_i64 k2⟩
theorem open_inst_c {n0 : Nat} {x0 x1 x2 x3 x4 : Value} {y : DataW H × List MemPlace} (hf : DataW.trod enc Tryd.prog w base spare held n0 23 [x0, x1, x2, x3, x4] = some y) :
    ∃ op rd a b i : Int, x0 = .int .i64 op ∧ x1 = .int .i64 rd ∧ x2 = .int .i64 a ∧ x3 = .int .i64 b ∧ x4 = .int .i64 i ∧ i64 op ∧ i64 rd ∧ i64 a ∧ i64 b ∧ i64 i := by
  obtain ⟨ys, n, _, hx, hl, hy, hg⟩ := DataW.trod_struct Tryd.underlying23 hf
  match ys, hy with
  | [y0, y1, y2, y3, y4], _ =>
    have h0 : DataW.trod enc Tryd.prog w base spare held n 3 (([x0, x1, x2, x3, x4].drop 0).take (Tryd.prog.cellsOf 3)) = some y0 := hg 0 _ rfl
    have h1 : DataW.trod enc Tryd.prog w base spare held n 3 (([x0, x1, x2, x3, x4].drop 1).take (Tryd.prog.cellsOf 3)) = some y1 := hg 1 _ rfl
    have h2 : DataW.trod enc Tryd.prog w base spare held n 3 (([x0, x1, x2, x3, x4].drop 2).take (Tryd.prog.cellsOf 3)) = some y2 := hg 2 _ rfl
    have h3 : DataW.trod enc Tryd.prog w base spare held n 3 (([x0, x1, x2, x3, x4].drop 3).take (Tryd.prog.cellsOf 3)) = some y3 := hg 3 _ rfl
    have h4 : DataW.trod enc Tryd.prog w base spare held n 2 (([x0, x1, x2, x3, x4].drop 4).take (Tryd.prog.cellsOf 2)) = some y4 := hg 4 _ rfl
    have e3 : Tryd.prog.cellsOf 3 = 1 := by kernel_rfl
    have e2 : Tryd.prog.cellsOf 2 = 1 := by kernel_rfl
    rw [e3] at h0 h1 h2 h3
    rw [e2] at h4
    obtain ⟨p0, a0, b0⟩ := int_of Tryd.underlying3 h0
    obtain ⟨p1, a1, b1⟩ := int_of Tryd.underlying3 h1
    obtain ⟨p2, a2, b2⟩ := int_of Tryd.underlying3 h2
    obtain ⟨p3, a3, b3⟩ := int_of Tryd.underlying3 h3
    obtain ⟨p4, a4, b4⟩ := int_of Tryd.underlying2 h4
    exact ⟨p0, p1, p2, p3, p4, a0, a1, a2, a3, a4, b0, b1, b2, b3, b4⟩
theorem open_inst {v : Value} {d : DataW H} {ps : List MemPlace} {r : Reach} {b0 : Nat} (hv : Value.okWide Tryd.prog w r b0 23 v) (h : DataW.Trod enc Tryd.prog w base spare held 23 v d ps) :
    ∃ op rd a b i : Int, v = iv op rd a b i ∧ i64 op ∧ i64 rd ∧ i64 a ∧ i64 b ∧ i64 i := by
  obtain ⟨c, rfl, hsz⟩ := okWide_struct Tryd.underlying23 hv
  obtain ⟨fuel, hf⟩ := h
  have e0 : Tryd.prog.cellsOf 23 = 5 := by kernel_rfl
  obtain ⟨ys, n, _, hx, hl, hy, hg⟩ := DataW.trod_struct Tryd.underlying23 hf
  rw [e0] at hl
  obtain ⟨l⟩ := c
  match l, hl with
  | [x0, x1, x2, x3, x4], _ =>
    obtain ⟨op, rd, a, b, i, rfl, rfl, rfl, rfl, rfl, k⟩ := open_inst_c hf
    exact ⟨op, rd, a, b, i, rfl, k⟩
theorem open_regs {v : Value} {d : DataW H} {ps : List MemPlace} {r : Reach} {b0 : Nat} (hv : Value.okWide Tryd.prog w r b0 53 v) (h : DataW.Trod enc Tryd.prog w base spare held 53 v d ps) :
    ∃ op rd a b i p q s : Int, v = .agg #[.int .i64 op, .int .i64 rd, .int .i64 a, .int .i64 b, .int .i64 i, .int .i64 p, .int .i64 q, .int .i64 s] ∧ i64 i ∧ i64 p ∧ i64 q ∧ i64 s ∧ i64 rd ∧ i64 a ∧ i64 b := by
  obtain ⟨c, rfl, hsz⟩ := okWide_struct Tryd.underlying53 hv
  obtain ⟨fuel, hf⟩ := h
  obtain ⟨ys, n, _, hx, hl, hy, hg⟩ := DataW.trod_struct Tryd.underlying53 hf
  have e0 : Tryd.prog.cellsOf 53 = 8 := by kernel_rfl
  rw [e0] at hl
  obtain ⟨l⟩ := c
  match l, hl, ys, hy with
  | [x0, x1, x2, x3, x4, x5, x6, x7], _, [y0, y1, y2, y3], _ =>
    have h0 : DataW.trod enc Tryd.prog w base spare held n 23 (([x0, x1, x2, x3, x4, x5, x6, x7].drop 0).take (Tryd.prog.cellsOf 23)) = some y0 := hg 0 _ rfl
    rw [show Tryd.prog.cellsOf 23 = 5 by kernel_rfl] at h0
    have h1 : DataW.trod enc Tryd.prog w base spare held n 3 (([x0, x1, x2, x3, x4, x5, x6, x7].drop 5).take (Tryd.prog.cellsOf 3)) = some y1 := hg 1 _ rfl
    have h2 : DataW.trod enc Tryd.prog w base spare held n 3 (([x0, x1, x2, x3, x4, x5, x6, x7].drop 6).take (Tryd.prog.cellsOf 3)) = some y2 := hg 2 _ rfl
    have h3 : DataW.trod enc Tryd.prog w base spare held n 3 (([x0, x1, x2, x3, x4, x5, x6, x7].drop 7).take (Tryd.prog.cellsOf 3)) = some y3 := hg 3 _ rfl
    have e3 : Tryd.prog.cellsOf 3 = 1 := by kernel_rfl
    rw [e3] at h1 h2 h3
    obtain ⟨op, rd, a, b, i, rfl, rfl, rfl, rfl, rfl, k⟩ := open_inst_c (x0 := x0) (x1 := x1) (x2 := x2) (x3 := x3) (x4 := x4) h0
    obtain ⟨p1, rfl, b1⟩ := int_of Tryd.underlying3 h1
    obtain ⟨p2, rfl, b2⟩ := int_of Tryd.underlying3 h2
    obtain ⟨p3, rfl, b3⟩ := int_of Tryd.underlying3 h3
    exact ⟨op, rd, a, b, i, p1, p2, p3, rfl, k.2.2.2.2, b1, b2, b3, k.2.1, k.2.2.1, k.2.2.2.1⟩
end
abbrev laidL : List (String × DataW Unit) := Rows.instNamesRow.laid
theorem gForms : Tryd.prog.globalNamed "binnacle/inst.forms" = some 0 := by kernel_rfl
theorem tForms : (Tryd.prog.globals[0]?).map (·.type) = some 56 := by kernel_rfl
theorem ft_of_laid {W : World} (h : laidMetH Tryd.prog laidL W) : FT W := by
  rw [MakeChecks.laidMetH_plain _ _ _ (by kernel_rfl)] at h
  have h6 := h.tail.tail.tail.tail.tail
  have ht : Lib.TabIs Tryd.prog W "binnacle/inst.forms" .u8 fmL := Lib.tabIs_of_head (rest := []) gForms tForms Tryd.underlying56 Tryd.underlying5 (by kernel_rfl) (by kernel_rfl) h6
  intro k hk
  have := ht.cell gForms k hk
  rw [this]
  unfold fmT
  rw [List.getD_eq_getElem?_getD, List.getElem?_eq_getElem hk]
theorem ml_of_shaped {W : World} (h : W.ShapedOpen Tryd.prog) : ML W := Go.Proofs.cell_of_shapedOpen_int (zero := #[.int .i64 0]) (t := 3) h (of_decide_eq_true (by kernel_rfl)) (by kernel_rfl) rfl (by kernel_rfl) (by kernel_rfl) Tryd.underlying3
end Go.Proofs.YthcfobefpknjeaaDoor.P
