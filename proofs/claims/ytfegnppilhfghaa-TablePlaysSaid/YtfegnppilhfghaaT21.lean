/- Stage 14: what TableFair is asked of, opened. No condition. -/
import Derived.Test.YtfegnppilhfghaaT20
import Derived.Test.YtfegnppilhfghaaT15
set_option linter.unusedVariables false
namespace Go.Proofs.Ytfegnppilhfghaa.P
open Go.RowKit Go.Joins Go.ChangeShapes Go.WideShapes Go.Deep
section
variable {H : Type} {enc : TypeId × Value → H} {w : World} {base : Nat} {spare : Nat → Bool} {held : Bool}
theorem open_fair {v : Value} {d : DataW H} {ps : List MemPlace} {r : Reach} {b0 : Nat} (hv : Value.okWide Try.prog w r b0 54 v) (h : DataW.Trod enc Try.prog w base spare held 54 v d ps) :
    ∃ (T : Nat → RowV) (B : Nat → Bool) (a p : Int), v = .agg (fc T B a p) := by
  obtain ⟨c, rfl, hsz⟩ := okWide_struct Try.underlying54 hv
  obtain ⟨fuel, hf⟩ := h
  obtain ⟨ys, n, _, _, hl, hy, hg⟩ := DataW.trod_struct Try.underlying54 hf
  have e0 : Try.prog.cellsOf 54 = 42 := by kernel_rfl
  have e1 : Try.prog.cellsOf 25 = 32 := by kernel_rfl
  have e2 : Try.prog.cellsOf 27 = 8 := by kernel_rfl
  have e3 : Try.prog.cellsOf 3 = 1 := by kernel_rfl
  rw [e0] at hl
  match ys, hy with
  | [y0, y1, y2, y3], _ =>
    have h0 : DataW.trod enc Try.prog w base spare held n 25 (((Value.agg c).cells.toList.drop 0).take (Try.prog.cellsOf 25)) = some y0 := hg 0 _ rfl
    have h1 : DataW.trod enc Try.prog w base spare held n 27 (((Value.agg c).cells.toList.drop 32).take (Try.prog.cellsOf 27)) = some y1 := hg 1 _ rfl
    have h2 : DataW.trod enc Try.prog w base spare held n 3 (((Value.agg c).cells.toList.drop 40).take (Try.prog.cellsOf 3)) = some y2 := hg 2 _ rfl
    have h3 : DataW.trod enc Try.prog w base spare held n 3 (((Value.agg c).cells.toList.drop 41).take (Try.prog.cellsOf 3)) = some y3 := hg 3 _ rfl
    rw [e1] at h0
    rw [e2] at h1
    rw [e3] at h2 h3
    obtain ⟨T, hT⟩ := open_tab h0
    obtain ⟨B, hB⟩ := open_busy h1
    obtain ⟨a, ha, _⟩ := DataW.trod_int Try.underlying3 h2
    obtain ⟨p, hp, _⟩ := DataW.trod_int Try.underlying3 h3
    refine ⟨T, B, a, p, ?_⟩
    have hcs : (Value.agg c).cells.toList = c.toList := rfl
    rw [hcs] at hT hB ha hp hl
    rw [List.drop_zero] at hT
    have e : c = fc T B a p := by
      apply Array.toList_inj.1
      unfold fc
      rw [Array.toList_append, Array.toList_append, ← hT, ← hB]
      have s1 := (List.take_append_drop 32 c.toList).symm
      have s2 := (List.take_append_drop 8 (c.toList.drop 32)).symm
      have s3 := (List.take_append_drop 1 (c.toList.drop 40)).symm
      have s4 := (List.take_append_drop 1 (c.toList.drop 41)).symm
      rw [List.drop_drop] at s2 s3 s4
      have z : c.toList.drop 42 = [] := List.drop_eq_nil_of_le (by omega)
      rw [s1, List.append_assoc]
      rw [List.take_left' (by rw [List.length_take]; omega)]
      congr 1
      rw [List.drop_left' (by rw [List.length_take]; omega)]
      rw [s2]
      rw [List.take_left' (by rw [List.length_take, List.length_drop]; omega)]
      congr 1
      show c.toList.drop 40 = _
      rw [s3, ha]
      show _ = [_] ++ [_]
      congr 1
      show c.toList.drop 41 = _
      rw [s4, hp]
      show _ ++ c.toList.drop 42 = _
      rw [z]; rfl
    rw [e]
end
end Go.Proofs.Ytfegnppilhfghaa.P
