/- Stage 6: acts opened; DiskNil. No condition. -/
import Derived.Test.YtgaibknhdaeidaaGreatH3
import Derived.Test.YtgaibknhdaeidaaGreatZ
import Derived.Test.YtgaibknhdaeidaaGreatA0
import Derived.Test.YtgaibknhdaeidaaGreatI1
import Derived.Deep.RegionHeld3
import Derived.Deep.DeepCutAuto
set_option linter.unusedVariables false
namespace Go.Proofs.YtgaibknhdaeidaaGreat.P
open Go.RowKit
structure KActV where
  kind : Int
  i : Int
  s : ByteArray
  keep : Int
def KActV.ok (x : KActV) : Prop := i64 x.kind ∧ i64 x.i ∧ x.s.size ≤ 140737488351232 ∧ u64 x.keep
/-- The acts lie there. -/
def KActs (w : World) (bl off len : Nat) (f : Nat → KActV) : Prop :=
  ∀ i, i < len → (f i).ok ∧ w.cell? ⟨bl, off + i * 4, none⟩ = some (.int .i64 (f i).kind) ∧ w.cell? ⟨bl, off + i * 4 + 1, none⟩ = some (.int .i64 (f i).i) ∧ w.cell? ⟨bl, off + i * 4 + 2, none⟩ = some (.string (f i).s) ∧ w.cell? ⟨bl, off + i * 4 + 3, none⟩ = some (.int .u64 (f i).keep)
section
open Go.ChangeShapes Go.WideShapes Go.Deep
variable {H : Type} {enc : TypeId × Value → H} {w : World} {base : Nat} {spare : Nat → Bool} {held : Bool}
end

end Go.Proofs.YtgaibknhdaeidaaGreat.P
namespace Go.Proofs.YtgaibknhdaeidaaGreat.P
open Go.RowKit
theorem SS.cell {w0 w : World} {d : Nat} {z : DState} (h : SS w0 w d z) {p : Addr} {v : Value} (hc : w0.cell? p = some v) : w.cell? p = some v := kcell h.2 hc
theorem SS.drew {w0 w : World} {d : Nat} {z : DState} (h : SS w0 w d z) : SS w0 w.drew d z := h.gr (Gr.drewN (Gr.refl _) 1)
theorem new_read (q : Nat) (hq : q < 48) : readS (newZ (List.replicate 48 z64)) q = secF ⟨#[]⟩ := by
  rw [secF_nil]
  show getS (List.replicate 48 z64) q = z64
  unfold getS; rw [List.getElem?_replicate, if_pos hq]; rfl
end Go.Proofs.YtgaibknhdaeidaaGreat.P
