/- Stage 12: a program that came in. No condition. -/
import Derived.Test.YtdlglnoffpnonaaGreatPA
import Derived.Lib.LaidTab
import Derived.MakeChecks
import Derived.Stop.LaidErr
import Derived.OpenShut
import Derived.ProofKit
set_option linter.unusedVariables false
set_option linter.unusedSimpArgs false
namespace Go.Proofs.YtdlglnoffpnonaaGreat.P
open Go.RowKit
section
open Go.ChangeShapes Go.WideShapes Go.Deep
variable {H : Type} {enc : TypeId × Value → H} {w : World} {base : Nat} {spare : Nat → Bool} {held : Bool}
set_option maxRecDepth 100000 in
theorem open_prog {v : Value} {d : DataW H} {ps : List MemPlace} {r : Reach} {b0 : Nat} (hv : Value.okWide Tryz.prog w r b0 23 v) (h : DataW.Trod enc Tryz.prog w base spare held 23 v d ps) :
    ∃ (en : Int) (tx : ByteArray) (da : ByteArray) (bs : Int), v = .agg #[.int .i64 en, .string tx, .string da, .int .i64 bs] ∧ i64 en ∧ tx.size ≤ maxLen ∧ da.size ≤ maxLen ∧ i64 bs := by
  obtain ⟨c, rfl, hsz⟩ := okWide_struct Tryz.underlying23 hv
  obtain ⟨fuel, hf⟩ := h
  obtain ⟨ys, n, _, _, hl, hy, hg⟩ := DataW.trod_struct Tryz.underlying23 hf
  have e0 : Tryz.prog.cellsOf 23 = 4 := by kernel_rfl
  rw [e0] at hl
  obtain ⟨l⟩ := c
  match l, hl, ys, hy with
  | [x0, x1, x2, x3], _, [y0, y1, y2, y3], _ =>
    have h0 : DataW.trod enc Tryz.prog w base spare held n 3 (([x0, x1, x2, x3].drop 0).take (Tryz.prog.cellsOf 3)) = some y0 := hg 0 _ rfl
    rw [show Tryz.prog.cellsOf 3 = 1 by kernel_rfl] at h0
    change DataW.trod enc Tryz.prog w base spare held n 3 [x0] = some y0 at h0
    have h1 : DataW.trod enc Tryz.prog w base spare held n 9 (([x0, x1, x2, x3].drop 1).take (Tryz.prog.cellsOf 9)) = some y1 := hg 1 _ rfl
    rw [show Tryz.prog.cellsOf 9 = 1 by kernel_rfl] at h1
    change DataW.trod enc Tryz.prog w base spare held n 9 [x1] = some y1 at h1
    have h2 : DataW.trod enc Tryz.prog w base spare held n 9 (([x0, x1, x2, x3].drop 2).take (Tryz.prog.cellsOf 9)) = some y2 := hg 2 _ rfl
    rw [show Tryz.prog.cellsOf 9 = 1 by kernel_rfl] at h2
    change DataW.trod enc Tryz.prog w base spare held n 9 [x2] = some y2 at h2
    have h3 : DataW.trod enc Tryz.prog w base spare held n 3 (([x0, x1, x2, x3].drop 3).take (Tryz.prog.cellsOf 3)) = some y3 := hg 3 _ rfl
    rw [show Tryz.prog.cellsOf 3 = 1 by kernel_rfl] at h3
    change DataW.trod enc Tryz.prog w base spare held n 3 [x3] = some y3 at h3
    obtain ⟨z0, e0, _, k0⟩ := DataW.trod_int Tryz.underlying3 h0
    rw [List.singleton_inj] at e0
    subst e0
    obtain ⟨z1, e1, _, k1⟩ := DataW.trod_string Tryz.underlying9 h1
    rw [List.singleton_inj] at e1
    subst e1
    obtain ⟨z2, e2, _, k2⟩ := DataW.trod_string Tryz.underlying9 h2
    rw [List.singleton_inj] at e2
    subst e2
    obtain ⟨z3, e3, _, k3⟩ := DataW.trod_int Tryz.underlying3 h3
    rw [List.singleton_inj] at e3
    subst e3
    exact ⟨z0, z1, z2, z3, rfl, wf_i64 k0, k1, k2, wf_i64 k3⟩
end
end Go.Proofs.YtdlglnoffpnonaaGreat.P
