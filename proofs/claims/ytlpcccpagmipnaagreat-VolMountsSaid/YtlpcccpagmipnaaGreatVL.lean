/- Stage 8: the rows that are what is there are struck. No condition. -/
import Derived.Test.YtlpcccpagmipnaaGreatVK
import Derived.Lib.SlMapFilter
set_option linter.unusedVariables false
set_option linter.unusedSimpArgs false
set_option maxRecDepth 100000
namespace Go.Proofs.YtlpcccpagmipnaaGreat.P
open Go.RowKit Go.ChangeMaps Go.MapKept Go.Maps
/-- A range over a draft's rows, under way. -/
def rgA (mb it n : Nat) (Dd : DataW Nat) (left : Lit → Bool) (cnt : Nat) : Asn := fun w F => F mb ∧ F it ∧ w.ranges Tryz.prog 3 blkElem mb it n Dd left cnt
theorem stable_rg (mb it n : Nat) (Dd : DataW Nat) (left : Lit → Bool) (cnt : Nat) : Stable (rgA mb it n Dd left cnt) := by
  rintro w w' F G ⟨h1, h2, es, clock, since, seen, c0, hb, F1, hs, hD, hr, rest⟩ hc hd
  exact ⟨h1, h2, es, clock, since, seen, c0, hc.blk hb (hd mb h1), F1, hs, hD, hc.blk hr (hd it h2), rest⟩
theorem own_range {w0 w w' : World} {mb n cnt : Nat} {rows : List (Int × ByteArray)} {Dd : DataW Nat} {left : Lit → Bool} {X : Asn} (h : Own w0 w (Star (bmA mb rows) X)) (hs : Stable X) (hr : w'.ranges Tryz.prog 3 blkElem mb w.heap.size n Dd left cnt) (hg : w.grownBy w' none) (hz : w'.heap.size = w.heap.size + 1) : Own w0 w' (Star (rgA mb w.heap.size n Dd left cnt) X) := by
  refine h.step hs (fun F hF => ⟨fun x => x = mb ∨ x = w.heap.size, ⟨.inl rfl, .inr rfl, hr⟩, fun x hx => ?_, (Ch.of_grown hg).mono fun x hx => by cases hx⟩)
  rcases hx with e | e
  · rw [e]; exact ⟨.inl hF.1, hr.owns.lt⟩
  · rw [e]; exact ⟨.inr (Nat.le_refl _), by omega⟩
theorem own_rg {w0 w w' : World} {mb it n cnt cnt' j : Nat} {Dd Dd' : DataW Nat} {left left' : Lit → Bool} {X : Asn} (h : Own w0 w (Star (rgA mb it n Dd left cnt) X)) (hs : Stable X) (hr : w'.ranges Tryz.prog 3 blkElem mb it n Dd' left' cnt') (hg : w.grownBy w' (some j)) (hj : j = mb ∨ j = it) : Own w0 w' (Star (rgA mb it n Dd' left' cnt') X) := by
  refine h.step hs (fun F hF => ⟨fun x => x = mb ∨ x = it, ⟨.inl rfl, .inr rfl, hr⟩, fun x hx => ?_, (Ch.of_grown hg).mono fun x hx => ?_⟩)
  · rcases hx with e | e
    · rw [e]; exact ⟨.inl hF.1, hr.owns.lt⟩
    · rw [e]; exact ⟨.inl hF.2.1, hr.lt⟩
  · injection hx with hx
    rcases hj with e | e
    · rw [← hx, e]; exact hF.1
    · rw [← hx, e]; exact hF.2.1
theorem rg_is {w0 w : World} {mb it n cnt : Nat} {Dd : DataW Nat} {left : Lit → Bool} {X : Asn} (h : Own w0 w (Star (rgA mb it n Dd left cnt) X)) : w.ranges Tryz.prog 3 blkElem mb it n Dd left cnt := h.left.get.choose_spec.2.2
theorem own_end {w0 w : World} {mb it n cnt : Nat} {rows : List (Int × ByteArray)} {left : Lit → Bool} {X : Asn} (h : Own w0 w (Star (rgA mb it n (mapD rows) left cnt) X)) (hr : Rising rows) (h64 : ∀ x ∈ rows, x.2.size = 64) : Own w0 w (Star (bmA mb rows) X) :=
  h.conv fun F hF => ⟨hF.1, hr, h64, map_reset8 hF.2.2.owns⟩
/-- Is the row at a key what is there? -/
def pdS (z : DState) (st : List (Int × ByteArray)) (kl : Lit) (d : DataW Nat) : Bool := match kl, d with
  | .int _ i, .agg [.lit (.string l)] => decide ((getB false z st i).data.toList = l)
  | _, _ => false
def strikeS (z : DState) (st rows : List (Int × ByteArray)) : List (Int × ByteArray) := rows.filter fun x => !eqRow (getB false z st x.1) x.2
theorem strike_map (z : DState) (st rows : List (Int × ByteArray)) : Lib.deleteFuncD (pdS z st) (mapD rows) = mapD (strikeS z st rows) := by
  unfold mapD strikeS
  show DataW.map ((rows.map mEnt).filter _) = _
  rw [List.filter_map]
  rfl
theorem rising_filter (p : Int × ByteArray → Bool) : ∀ rows : List (Int × ByteArray), Rising rows → Rising (rows.filter p)
  | [], _ => trivial
  | x :: l, h => by
    by_cases hp : p x = true
    · rw [List.filter_cons_of_pos hp]
      exact ⟨fun y hy => h.1 y (List.mem_filter.1 hy).1, rising_filter p l h.2⟩
    · rw [List.filter_cons_of_neg hp]
      exact rising_filter p l h.2
end Go.Proofs.YtlpcccpagmipnaaGreat.P
