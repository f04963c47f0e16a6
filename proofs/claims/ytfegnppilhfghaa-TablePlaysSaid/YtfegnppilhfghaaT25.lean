/- Stage 14: what TablePlays is asked of; two tables side by side in memory. No condition. -/
import Derived.Test.YtfegnppilhfghaaT23
import Derived.Test.YtfegnppilhfghaaT20
import Derived.Test.YtfegnppilhfghaaT21
set_option linter.unusedVariables false
namespace Go.Proofs.Ytfegnppilhfghaa.P
open Go.RowKit
/-- The cells of what TablePlays is asked of. -/
def pc (T : Nat → RowV) (h : Bool) (B : Nat → Bool) (v : Value) : Array Value := tc T ++ (#[.bool h] ++ (bc B ++ #[v]))
theorem pc_size (T : Nat → RowV) (h : Bool) (B : Nat → Bool) (v : Value) : (pc T h B v).size = 42 := by
  unfold pc; rw [Array.size_append, Array.size_append, Array.size_append, tc_size, bc_size]; rfl
theorem pc_tab (T : Nat → RowV) (h : Bool) (B : Nat → Bool) (u : Value) (j : Nat) (v : Value) (hv : (tc T).toList[j]? = some v) : (pc T h B u)[j]? = some v := by
  have hj : j < 32 := by
    have := (List.getElem?_eq_some_iff.1 hv).1
    rwa [Array.length_toList, tc_size] at this
  unfold pc
  rw [Array.getElem?_append_left (by rw [tc_size]; exact hj)]
  rw [Array.getElem?_toList] at hv; exact hv
theorem pc_first (T : Nat → RowV) (h : Bool) (B : Nat → Bool) (u : Value) : (pc T h B u)[32]? = some (.bool h) := by
  unfold pc
  rw [Array.getElem?_append_right (by rw [tc_size]; omega), tc_size]; rfl
theorem pc_busy (T : Nat → RowV) (h : Bool) (B : Nat → Bool) (u : Value) (j : Nat) (v : Value) (hv : (bc B).toList[j]? = some v) : (pc T h B u)[33 + j]? = some v := by
  have hj : j < 8 := by
    have := (List.getElem?_eq_some_iff.1 hv).1
    rwa [Array.length_toList, bc_size] at this
  unfold pc
  rw [Array.getElem?_append_right (by rw [tc_size]; omega), tc_size, Array.getElem?_append_right (by simp; omega), Array.getElem?_append_left (by rw [bc_size]; simp; omega)]
  have : 33 + j - 32 - (#[Value.bool h] : Array Value).size = j := by simp; omega
  rw [this]; rw [Array.getElem?_toList] at hv; exact hv
theorem pc_last (T : Nat → RowV) (h : Bool) (B : Nat → Bool) (u : Value) : (pc T h B u)[41]? = some u := by
  unfold pc
  rw [Array.getElem?_append_right (by rw [tc_size]; omega), tc_size, Array.getElem?_append_right (by simp), Array.getElem?_append_right (by rw [bc_size]; simp)]
  rfl
section
open Go.Joins Go.ChangeShapes Go.WideShapes Go.Deep
variable {H : Type} {enc : TypeId × Value → H} {w : World} {base : Nat} {spare : Nat → Bool} {held : Bool}
theorem open_plays {v : Value} {d : DataW H} {ps : List MemPlace} {r : Reach} {b0 : Nat} (hv : Value.okWide Try.prog w r b0 30 v) (h : DataW.Trod enc Try.prog w base spare held 30 v d ps) :
    ∃ (T : Nat → RowV) (fst : Bool) (B : Nat → Bool) (o : Option Addr) (len cap bl off : Nat) (f : Nat → AActV), v = .agg (pc T fst B (.slice o len cap)) ∧ len ≤ maxLen ∧ (0 < len → o = some ⟨bl, off, none⟩ ∧ bl < w.heap.size) ∧ AActs w bl off len f := by
  obtain ⟨c, rfl, hsz⟩ := okWide_struct Try.underlying30 hv
  obtain ⟨fuel, hf⟩ := h
  obtain ⟨ys, n, _, _, hl, hy, hg⟩ := DataW.trod_struct Try.underlying30 hf
  have e0 : Try.prog.cellsOf 30 = 42 := by kernel_rfl
  have e1 : Try.prog.cellsOf 25 = 32 := by kernel_rfl
  have e2 : Try.prog.cellsOf 4 = 1 := by kernel_rfl
  have e3 : Try.prog.cellsOf 27 = 8 := by kernel_rfl
  have e4 : Try.prog.cellsOf 28 = 1 := by kernel_rfl
  rw [e0] at hl
  match ys, hy with
  | [y0, y1, y2, y3], _ =>
    have h0 : DataW.trod enc Try.prog w base spare held n 25 (((Value.agg c).cells.toList.drop 0).take (Try.prog.cellsOf 25)) = some y0 := hg 0 _ rfl
    have h1 : DataW.trod enc Try.prog w base spare held n 4 (((Value.agg c).cells.toList.drop 32).take (Try.prog.cellsOf 4)) = some y1 := hg 1 _ rfl
    have h2 : DataW.trod enc Try.prog w base spare held n 27 (((Value.agg c).cells.toList.drop 33).take (Try.prog.cellsOf 27)) = some y2 := hg 2 _ rfl
    have h3 : DataW.trod enc Try.prog w base spare held n 28 (((Value.agg c).cells.toList.drop 41).take (Try.prog.cellsOf 28)) = some y3 := hg 3 _ rfl
    rw [e1] at h0
    rw [e2] at h1
    rw [e3] at h2
    rw [e4] at h3
    obtain ⟨T, hT⟩ := open_tab h0
    obtain ⟨fst, hF, _⟩ := DataW.trod_bool Try.underlying4 h1
    obtain ⟨B, hB⟩ := open_busy h2
    have hcs : (Value.agg c).cells.toList = c.toList := rfl
    rw [hcs] at hT hF hB hl h3
    rw [List.drop_zero] at hT
    obtain ⟨u, hu⟩ : ∃ u, (c.toList.drop 41).take 1 = [u] := by
      have h41 : 41 < c.toList.length := by omega
      exact ⟨c.toList[41], by rw [List.drop_eq_getElem_cons h41, List.take_succ_cons, List.take_zero]⟩
    rw [hu] at h3
    obtain ⟨o, len, cap, bl, off, f, rfl, q1, q2, q3⟩ := Aopen_acts_c h3
    refine ⟨T, fst, B, o, len, cap, bl, off, f, ?_, q1, q2, q3⟩
    have e : c = pc T fst B (.slice o len cap) := by
      apply Array.toList_inj.1
      unfold pc
      rw [Array.toList_append, Array.toList_append, Array.toList_append, ← hT, ← hB]
      have s1 := (List.take_append_drop 32 c.toList).symm
      have s2 := (List.take_append_drop 1 (c.toList.drop 32)).symm
      have s3 := (List.take_append_drop 8 (c.toList.drop 33)).symm
      have s4 := (List.take_append_drop 1 (c.toList.drop 41)).symm
      rw [List.drop_drop] at s2 s3 s4
      have z : c.toList.drop 42 = [] := List.drop_eq_nil_of_le (by omega)
      rw [hF] at s2
      rw [hu] at s4
      have z2 : c.toList.drop (41 + 1) = [] := z
      rw [z2] at s4
      have f3 : c.toList.drop 33 = (c.toList.drop 33).take 8 ++ [.slice o len cap] := by
        have : c.toList.drop (33 + 8) = [.slice o len cap] := s4
        rw [this] at s3; exact s3
      have f2 : c.toList.drop 32 = [.bool fst] ++ c.toList.drop 33 := s2
      have f1 : c.toList = c.toList.take 32 ++ ([.bool fst] ++ ((c.toList.drop 33).take 8 ++ [.slice o len cap])) := by
        rw [f2] at s1
        rw [← f3]; exact s1
      exact f1
    rw [e]
end
/-- Two tables, who is busy and an act, each in a block of its own. -/
def S6 (w0 w : World) (tb ub bb ab : Nat) (T U : Nat → RowV) (B : Nat → Bool) (A : Array Value) : Prop :=
  Gr w0 w ∧ w.heap[tb]? = some (.cells (tc T) 25) ∧ w.heap[ub]? = some (.cells (tc U) 25) ∧ w.heap[bb]? = some (.cells (bc B) 27) ∧ w.heap[ab]? = some (.cells A 34) ∧ (w0.heap.size ≤ tb ∧ w0.heap.size ≤ ub) ∧ (tb ≠ ub ∧ tb ≠ bb ∧ ub ≠ bb ∧ tb ≠ ab ∧ ub ≠ ab)
theorem S6.gr {w0 w w' : World} {tb ub bb ab : Nat} {T U : Nat → RowV} {B : Nat → Bool} {A : Array Value} (h : S6 w0 w tb ub bb ab T U B A) (g : Gr w w') : S6 w0 w' tb ub bb ab T U B A := by
  obtain ⟨a1, a2, a3, a4, a5, a6, a7⟩ := h
  exact ⟨gtrans a1 g, blk_gr g a2, blk_gr g a3, blk_gr g a4, blk_gr g a5, a6, a7⟩
theorem gr_new (w : World) (X : Nat → RowV) : Gr w ((w.alloc (.cells (tc Z0) 25)).setRow w.heap.size (tc X)) := below_setRow (Below.alloc (Below.refl _ _) (Nat.le_refl _) _) (Nat.le_refl _) _
theorem heap_new (w : World) (X : Nat → RowV) : ((w.alloc (.cells (tc Z0) 25)).setRow w.heap.size (tc X)).heap[w.heap.size]? = some (.cells (tc X) 25) := setRow_heap _ _ _ _ _ _ (blk_new w _)
theorem S6.setT {w0 w : World} {tb ub bb ab : Nat} {T U : Nat → RowV} {B : Nat → Bool} {A : Array Value} (h : S6 w0 w tb ub bb ab T U B A) (X : Nat → RowV) : S6 w0 (w.setRow tb (tc X)) tb ub bb ab X U B A := by
  obtain ⟨a1, a2, a3, a4, a5, a6, n1, n2, n3, n4, n5⟩ := h
  exact ⟨below_setRow a1 a6.1 _, setRow_heap _ _ _ _ _ _ a2, by rw [setRow_other _ _ _ _ (Ne.symm n1)]; exact a3, by rw [setRow_other _ _ _ _ (Ne.symm n2)]; exact a4, by rw [setRow_other _ _ _ _ (Ne.symm n4)]; exact a5, a6, n1, n2, n3, n4, n5⟩
theorem S6.setU {w0 w : World} {tb ub bb ab : Nat} {T U : Nat → RowV} {B : Nat → Bool} {A : Array Value} (h : S6 w0 w tb ub bb ab T U B A) (X : Nat → RowV) : S6 w0 (w.setRow ub (tc X)) tb ub bb ab T X B A := by
  obtain ⟨a1, a2, a3, a4, a5, a6, n1, n2, n3, n4, n5⟩ := h
  exact ⟨below_setRow a1 a6.2 _, by rw [setRow_other _ _ _ _ n1]; exact a2, setRow_heap _ _ _ _ _ _ a3, by rw [setRow_other _ _ _ _ (Ne.symm n3)]; exact a4, by rw [setRow_other _ _ _ _ (Ne.symm n5)]; exact a5, a6, n1, n2, n3, n4, n5⟩
end Go.Proofs.Ytfegnppilhfghaa.P
