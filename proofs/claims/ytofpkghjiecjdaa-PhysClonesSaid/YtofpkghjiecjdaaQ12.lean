/- Stage 3: an act given by itself, opened. No condition. -/
import Derived.Test.YtofpkghjiecjdaaQ9
set_option linter.unusedVariables false
namespace Go.Proofs.Ytofpkghjiecjdaa.P
open Go.RowKit
section
open Go.ChangeShapes Go.WideShapes Go.Deep
variable {H : Type} {enc : TypeId × Value → H} {w : World} {base : Nat} {spare : Nat → Bool} {held : Bool}
set_option maxRecDepth 100000 in
theorem open_act {v : Value} {d : DataW H} {ps : List MemPlace} {r : Reach} {b0 : Nat} (hv : Value.okWide Try.prog w r b0 34 v) (h : DataW.Trod enc Try.prog w base spare held 34 v d ps) :
    ∃ (kd n nn A x : Int) (s : ByteArray), v = .agg #[.int .i64 kd, .int .i64 n, .int .i64 nn, .int .u64 A, .int .u64 x, .string s] ∧ i64 kd ∧ i64 n ∧ i64 nn ∧ u64 A ∧ u64 x ∧ s.size ≤ maxLen := by
  obtain ⟨c, rfl, hc, hf⟩ := open_agg_c Try.underlying34 (by kernel_rfl) (by kernel_rfl) hv h
  obtain ⟨u0, y0, n0, e0, t0⟩ := hf 0 _ rfl
  obtain ⟨u1, y1, n1, e1, t1⟩ := hf 1 _ rfl
  obtain ⟨u2, y2, n2, e2, t2⟩ := hf 2 _ rfl
  obtain ⟨u3, y3, n3, e3, t3⟩ := hf 3 _ rfl
  obtain ⟨u4, y4, n4, e4, t4⟩ := hf 4 _ rfl
  obtain ⟨u5, y5, n5, e5, t5⟩ := hf 5 _ rfl
  obtain ⟨x0, z0, _, k0⟩ := DataW.trod_int Try.underlying3 t0
  obtain ⟨x1, z1, _, k1⟩ := DataW.trod_int Try.underlying3 t1
  obtain ⟨x2, z2, _, k2⟩ := DataW.trod_int Try.underlying3 t2
  obtain ⟨x3, z3, _, k3⟩ := DataW.trod_int Try.underlying32 t3
  obtain ⟨x4, z4, _, k4⟩ := DataW.trod_int Try.underlying32 t4
  obtain ⟨x5, z5, _, k5⟩ := DataW.trod_string Try.underlying9 t5
  rw [List.singleton_inj] at z0 z1 z2 z3 z4 z5
  subst z0; subst z1; subst z2; subst z3; subst z4; subst z5
  refine ⟨x0, x1, x2, x3, x4, x5, ?_, wf_i64 k0, wf_i64 k1, wf_i64 k2, wf_u64 k3, wf_u64 k4, k5⟩
  congr 1
  apply Array.ext'
  apply List.ext_getElem?
  intro i
  simp only [Array.getElem?_toList]
  match i with
  | 0 => exact e0
  | 1 => exact e1
  | 2 => exact e2
  | 3 => exact e3
  | 4 => exact e4
  | 5 => exact e5
  | i + 6 =>
    have h4 : c.size = 6 := hc
    rw [Array.getElem?_eq_none (by omega)]; rfl
end
end Go.Proofs.Ytofpkghjiecjdaa.P
