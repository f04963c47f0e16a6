/- Stage 3: PhysCopies. No condition. -/
import Derived.Test.YtbcnibnkojnpiaaGreatQ8
import Derived.Test.YtbcnibnkojnpiaaGreatS
import Derived.Deep.DeepCutAuto
import Derived.StillTailTactics
set_option linter.unusedVariables false
namespace Go.Proofs.YtbcnibnkojnpiaaGreat.P
open Go.RowKit Go.MuLone Go.Proofs.YtbcnibnkojnpiaaGreat.W
structure ActV where
  kind : Int
  size : Int
  n : Int
  at_ : Int
  v : Int
  s : ByteArray
def ActV.ok (x : ActV) : Prop := i64 x.kind ∧ i64 x.size ∧ i64 x.n ∧ u64 x.at_ ∧ u64 x.v ∧ x.s.size ≤ maxLen
/-- The acts lie there. -/
def Acts (w : World) (bl off len : Nat) (f : Nat → ActV) : Prop :=
  ∀ i, i < len → (f i).ok ∧ w.cell? ⟨bl, off + i * 6, none⟩ = some (.int .i64 (f i).kind) ∧ w.cell? ⟨bl, off + i * 6 + 1, none⟩ = some (.int .i64 (f i).size) ∧ w.cell? ⟨bl, off + i * 6 + 2, none⟩ = some (.int .i64 (f i).n) ∧ w.cell? ⟨bl, off + i * 6 + 3, none⟩ = some (.int .u64 (f i).at_) ∧ w.cell? ⟨bl, off + i * 6 + 4, none⟩ = some (.int .u64 (f i).v) ∧ w.cell? ⟨bl, off + i * 6 + 5, none⟩ = some (.string (f i).s)
section
open Go.ChangeShapes Go.WideShapes Go.Deep
variable {H : Type} {enc : TypeId × Value → H} {w : World} {base : Nat} {spare : Nat → Bool} {held : Bool}
end
theorem sub_all (s : List UInt8) (k : Nat) : subB s k 256 = ⟨((s.drop k).take 256).toArray⟩ := rfl
theorem sub_put_same (s : List UInt8) (a : Nat) (x : List UInt8) (h : a + x.length ≤ s.length) : ((putL s a x).drop a).take x.length = x := by
  unfold putL
  have e : (s.take a).length = a := by simp; omega
  rw [List.drop_append, List.drop_eq_nil_of_le (by omega), List.nil_append, e, Nat.sub_self, List.drop_zero, List.take_left']
  rfl
theorem sub_put_other (s : List UInt8) (a : Nat) (x : List UInt8) (h : a + x.length ≤ s.length) (p n : Nat) (hp : p + n ≤ a ∨ a + x.length ≤ p) : ((putL s a x).drop p).take n = (s.drop p).take n := by
  apply List.ext_getElem?
  intro i
  by_cases hi : i < n
  · rw [List.getElem?_take_of_lt hi, List.getElem?_take_of_lt hi, List.getElem?_drop, List.getElem?_drop]
    unfold putL
    have e : (s.take a).length = a := by simp; omega
    rcases hp with hp | hp
    · rw [List.getElem?_append_left (by omega), List.getElem?_take_of_lt (by omega)]
    · rw [List.getElem?_append_right (by omega), List.getElem?_append_right (by omega), e, List.getElem?_drop]
      congr 1; omega
  · rw [List.getElem?_eq_none (by simp; omega), List.getElem?_eq_none (by simp; omega)]
end Go.Proofs.YtbcnibnkojnpiaaGreat.P
