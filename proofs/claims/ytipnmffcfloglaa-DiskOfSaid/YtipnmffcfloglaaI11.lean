/- Stage 6: a row of texts that came in, opened. No condition. -/
import Derived.Test.YtipnmffcfloglaaI10
import Derived.Test.YtipnmffcfloglaaZ
import Derived.SliceStrings
set_option linter.unusedVariables false
namespace Go.Proofs.Ytipnmffcfloglaa.P
open Go.RowKit
section
open Go.ChangeShapes Go.WideShapes Go.Deep
variable {H : Type} {enc : TypeId × Value → H} {w : World} {base : Nat} {spare : Nat → Bool} {held : Bool}
theorem open_rowS {v : Value} {d : DataW H} {ps : List MemPlace} (hv : ∃ (o : Option Addr) (l c : Nat), v = .slice o l c) (h : DataW.Trod enc Try.prog w base spare held 37 v d ps) (HD : ∀ n ∈ d.weights Try.prog 37, n ≤ 140737488351232) :
    ∃ (o : Option Addr) (c : Nat) (A : List ByteArray), v = .slice o A.length c ∧ A.length * 16 ≤ 140737488351232 ∧ RowS w o A := by
  obtain ⟨a0, l0, c0, rfl⟩ := hv
  obtain ⟨fuel, hf⟩ := h
  rcases open_strings Try.underlying37 Try.underlying9 (by kernel_rfl) hf with ⟨hcs, _⟩ | ⟨a, len, cap, ss, hcs, hb, hl, hm, hss, hx, hcell, hsz⟩
  · have e0 : Value.slice a0 l0 c0 = .slice none 0 0 := by simpa [Value.cells] using hcs
    rw [e0]
    exact ⟨none, 0, [], rfl, by decide, fun j s hj => by simp at hj⟩
  · have e0 : Value.slice a0 l0 c0 = .slice (some a) len cap := by simpa [Value.cells] using hcs
    have ed : d = .slice _ _ := congrArg Prod.fst hx
    rw [e0]
    have hle : len ≤ ss.length := by rw [hss]; split <;> omega
    refine ⟨some a, cap, ss.take len, by rw [List.length_take, Nat.min_eq_left hle], ?_, fun j s hj => ?_⟩
    · have hby : Try.prog.bytesOf 9 = 16 := by kernel_rfl
      have := HD ((List.length (Go.ChangeShapes.strs (ss.take len) : List (DataW H)) + List.length (Go.ChangeShapes.strs (ss.drop len) : List (DataW H))) * Try.prog.bytesOf 9) (by
        rw [ed]
        simp only [DataW.weights, Try.underlying37, List.mem_cons]
        exact .inl trivial)
      rw [hby] at this
      have h2 : (Go.ChangeShapes.strs (ss.take len) : List (DataW H)).length = (ss.take len).length := by simp [Go.ChangeShapes.strs]
      rw [h2] at this
      omega
    · have hjl : j < (ss.take len).length := (List.getElem?_eq_some_iff.1 hj).1
      rw [List.length_take, Nat.min_eq_left hle] at hjl
      have h1 := hcell j (by omega)
      have h2 : ss.getD j ByteArray.empty = s := by
        rw [List.getElem?_take_of_lt hjl] at hj
        rw [List.getD_eq_getElem?_getD, hj]; rfl
      rw [h2] at h1
      have hsp : a.spot = none := by simpa [Addr.add] using World.cell?_spot (hcell 0 (by omega))
      obtain ⟨bl, off, sp⟩ := a
      dsimp only at hsp
      subst hsp
      refine ⟨bl, off, rfl, ?_⟩
      have e2 : (Addr.add ⟨bl, off, none⟩ j) = ⟨bl, off + j, none⟩ := by
        unfold Addr.add; split
        · rename_i hz; rw [hz]; rfl
        · rfl
      rw [← e2]; exact h1
end
end Go.Proofs.Ytipnmffcfloglaa.P
