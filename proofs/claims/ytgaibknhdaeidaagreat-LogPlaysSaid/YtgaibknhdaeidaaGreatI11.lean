/- Stage 6: DiskKeeps. No condition. -/
import Derived.Test.YtgaibknhdaeidaaGreatA0
import Derived.Test.YtgaibknhdaeidaaGreatI8
import Derived.Test.YtgaibknhdaeidaaGreatI2
import Derived.Test.YtgaibknhdaeidaaGreatI9
import Derived.Test.YtgaibknhdaeidaaGreatZ
import Derived.SliceStrings
set_option linter.unusedVariables false
set_option maxRecDepth 50000
namespace Go.Proofs.YtgaibknhdaeidaaGreat.P
open Go.RowKit
theorem stable_star_r {A B : Asn} (h : Stable A ∧ Stable B) : Stable B := h.2
def two (a b : Nat) (za zb : DState) : Asn := Star (dsk a za) (Star (dsk b zb) emp)
theorem stable_two (a b : Nat) (za zb : DState) : Stable (two a b za zb) := stable_star (stable_dsk _ _) (stable_star (stable_dsk _ _) stable_emp)
end Go.Proofs.YtgaibknhdaeidaaGreat.P
namespace Go.Proofs.YtgaibknhdaeidaaGreat.P
open Go.RowKit
theorem Own.stored {w0 w : World} {e : TypeId} {size g n cap : Nat} {xs : List Value} {R : Asn} (h : Own w0 w (Star (rowA e size (.slice (some ⟨g, 0, none⟩) n cap) n xs) R)) (hs : Stable R) (j : Nat) (u : Value) :
    Own w0 (w.setCell ⟨g, j, none⟩ u) (Star (rowA e size (.slice (some ⟨g, 0, none⟩) n cap) n (xs.set j u)) R) := by
  refine h.step hs (fun F hF => ⟨fun x => x = g, ⟨(World.ownsRow.stored hF.1 j u).1, fun b hb => by injection hb with hb; exact hb.symm⟩, fun x hx => ?_, Ch.setCell (Ch.refl _ w) (p := ⟨g, j, none⟩) (.inl (hF.2 g rfl)) u⟩)
  have := ownsRow_lt hF.1
  exact ⟨.inl (by rw [hx]; exact hF.2 g rfl), by rw [hx, size_setCell]; exact this⟩
theorem row_cells {w : World} {o : Option Addr} {A : List ByteArray} (hA : RowS w o A) {sb off : Nat} (ho : o = some ⟨sb, off, none⟩) : ∀ j u, (strs A)[j]? = some u → w.cell? ⟨sb, off + j, none⟩ = some u := fun j u hu => by
  unfold strs at hu
  rw [List.getElem?_map] at hu
  cases hs : A[j]? with
  | none => rw [hs] at hu; cases hu
  | some s =>
    rw [hs] at hu
    injection hu with hu
    obtain ⟨b2, o2, e2, h2⟩ := hA j s hs
    rw [ho] at e2
    injection e2 with e2
    injection e2 with e2 e3
    subst e2; subst e3; rw [h2, ← hu]
theorem gr_grown {w w' : World} (h : w.grownBy w' none) : Gr w w' := ⟨h.os, h.tape, h.output, h.size, fun k hk => h.block k hk (fun e => by cases e)⟩
end Go.Proofs.YtgaibknhdaeidaaGreat.P
namespace Go.Proofs.YtgaibknhdaeidaaGreat.P
open Go.RowKit
section
open Go.ChangeShapes Go.WideShapes Go.Deep
variable {H : Type} {enc : TypeId × Value → H} {w : World} {base : Nat} {spare : Nat → Bool} {held : Bool}
theorem open_rowS {v : Value} {d : DataW H} {ps : List MemPlace} (hv : ∃ (o : Option Addr) (l c : Nat), v = .slice o l c) (h : DataW.Trod enc Tryz.prog w base spare held 22 v d ps) (HD : ∀ n ∈ d.weights Tryz.prog 22, n ≤ 140737488351232) :
    ∃ (o : Option Addr) (c : Nat) (A : List ByteArray), v = .slice o A.length c ∧ A.length * 16 ≤ 140737488351232 ∧ RowS w o A := by
  obtain ⟨a0, l0, c0, rfl⟩ := hv
  obtain ⟨fuel, hf⟩ := h
  rcases open_strings Tryz.underlying22 Tryz.underlying9 (by kernel_rfl) hf with ⟨hcs, _⟩ | ⟨a, len, cap, ss, hcs, hb, hl, hm, hss, hx, hcell, hsz⟩
  · have e0 : Value.slice a0 l0 c0 = .slice none 0 0 := by simpa [Value.cells] using hcs
    rw [e0]
    exact ⟨none, 0, [], rfl, by decide, fun j s hj => by simp at hj⟩
  · have e0 : Value.slice a0 l0 c0 = .slice (some a) len cap := by simpa [Value.cells] using hcs
    have ed : d = .slice _ _ := congrArg Prod.fst hx
    rw [e0]
    have hle : len ≤ ss.length := by rw [hss]; split <;> omega
    refine ⟨some a, cap, ss.take len, by rw [List.length_take, Nat.min_eq_left hle], ?_, fun j s hj => ?_⟩
    · have hby : Tryz.prog.bytesOf 9 = 16 := by kernel_rfl
      have := HD ((List.length (Go.ChangeShapes.strs (ss.take len) : List (DataW H)) + List.length (Go.ChangeShapes.strs (ss.drop len) : List (DataW H))) * Tryz.prog.bytesOf 9) (by
        rw [ed]
        simp only [DataW.weights, Tryz.underlying22, List.mem_cons]
        exact .inl trivial)
      rw [hby] at this
      have h2 : (Go.ChangeShapes.strs (ss.take len) : List (DataW H)).length = (ss.take len).length := by simp [Go.ChangeShapes.strs]
      rw [h2] at this
      omega
    · have hjl : j < (ss.take len).length := (List.getElem?_eq_some_iff.1 hj).1
      rw [List.length_take, Nat.min_eq_left hle] at hjl
      have h1 := hcell j (by omega)
      have h2 : ss.getD j ByteArray.empty = s := by
        rw [List.getElem?_take_of_lt hjl] at hj
        rw [List.getD_eq_getElem?_getD, hj]; rfl
      rw [h2] at h1
      have hsp : a.spot = none := by simpa [Addr.add] using World.cell?_spot (hcell 0 (by omega))
      obtain ⟨bl, off, sp⟩ := a
      dsimp only at hsp
      subst hsp
      refine ⟨bl, off, rfl, ?_⟩
      have e2 : (Addr.add ⟨bl, off, none⟩ j) = ⟨bl, off + j, none⟩ := by
        unfold Addr.add; split
        · rename_i hz; rw [hz]; rfl
        · rfl
      rw [← e2]; exact h1
end
end Go.Proofs.YtgaibknhdaeidaaGreat.P
