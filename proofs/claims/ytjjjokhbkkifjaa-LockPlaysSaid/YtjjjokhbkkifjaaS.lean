/- A slice's length as its datum has it. No condition. -/
import Derived.Test.YtjjjokhbkkifjaaG
set_option linter.unusedVariables false
namespace Go.Proofs.Ytjjjokhbkkifjaa.P
open Go.RowKit Go.ChangeShapes Go.WideShapes Go.Deep
section
variable {H : Type} {enc : TypeId × Value → H} {P : Program} {w : World} {base : Nat} {spare : Nat → Bool} {held : Bool}
theorem slice_len {t e : TypeId} {a : Addr} {len cap : Nat} {d : DataW H} {ps : List MemPlace} (ht : P.underlying t = some (.slice e)) (h : DataW.Trod enc P w base spare held t (.slice (some a) len cap) d ps) :
    ∃ es sp, d = .slice es sp ∧ es.length = len := by
  obtain ⟨fuel, hf⟩ := h
  rcases open_slice ht hf with ⟨hcs, _⟩ | ⟨a', len', cap', m, n, D, Pl, hcs, hb, hl, hm, hmm, hx, hi⟩
  · simp [Value.cells] at hcs
  · have e1 : len = len' := by simp [Value.cells] at hcs; exact hcs.2.1
    have e2 := congrArg Prod.fst hx
    exact ⟨_, _, e2, by simp [e1]⟩
end
end Go.Proofs.Ytjjjokhbkkifjaa.P
