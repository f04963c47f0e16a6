/- Stage 10: acts. No condition. -/
import Derived.Test.YtklkgjaljfkjbaaF6
import Derived.Test.YtklkgjaljfkjbaaS
import Derived.Deep.DeepCutAuto
import Derived.Deep.LoopGhost
set_option linter.unusedVariables false
namespace Go.Proofs.Ytklkgjaljfkjbaa.P
open Go.RowKit Go.MuLone Go.Maps
structure FActV where
  kind : Int
  n : Int
  at_ : Int
def FActV.ok (x : FActV) : Prop := i64 x.kind ∧ i64 x.n ∧ u64 x.at_
/-- The acts lie there. -/
def FActs (w : World) (bl off len : Nat) (f : Nat → FActV) : Prop :=
  ∀ i, i < len → (f i).ok ∧ w.cell? ⟨bl, off + i * 3, none⟩ = some (.int .i64 (f i).kind) ∧ w.cell? ⟨bl, off + i * 3 + 1, none⟩ = some (.int .i64 (f i).n) ∧ w.cell? ⟨bl, off + i * 3 + 2, none⟩ = some (.int .u64 (f i).at_)
section
open Go.ChangeShapes Go.WideShapes Go.Deep
variable {H : Type} {enc : TypeId × Value → H} {w : World} {base : Nat} {spare : Nat → Bool} {held : Bool}
set_option maxRecDepth 100000 in
theorem Fopen_acts {v : Value} {d : DataW H} {ps : List MemPlace} (hv : ∃ (o : Option Addr) (l c : Nat), v = .slice o l c) (h : DataW.Trod enc Try.prog w base spare held 22 v d ps) :
    ∃ (o : Option Addr) (len cap bl off : Nat) (f : Nat → FActV), v = .slice o len cap ∧ len ≤ maxLen ∧ (0 < len → o = some ⟨bl, off, none⟩ ∧ bl < w.heap.size) ∧ FActs w bl off len f := by
  rcases open_structs_s Try.underlying22 Try.underlying38 (by kernel_rfl) (by kernel_rfl) (by decide) hv h with ⟨o, cap, rfl⟩ | ⟨bl, off, len, cap, rfl, hl0, hlc, hcap, hbl, hf⟩
  · exact ⟨o, 0, cap, 0, 0, fun _ => ⟨0, 0, 0⟩, rfl, by unfold maxLen; omega, fun h => absurd h (by omega), fun i hi => absurd hi (by omega)⟩
  · have hx : ∀ i, ∃ a : FActV, i < len → a.ok ∧ w.cell? ⟨bl, off + i * 3, none⟩ = some (.int .i64 a.kind) ∧ w.cell? ⟨bl, off + i * 3 + 1, none⟩ = some (.int .i64 a.n) ∧ w.cell? ⟨bl, off + i * 3 + 2, none⟩ = some (.int .u64 a.at_) := by
      intro i
      by_cases hi : i < len
      · obtain ⟨u0, y0, n0, c0, t0⟩ := hf i hi 0 _ rfl
        obtain ⟨u1, y1, n1, c1, t1⟩ := hf i hi 1 _ rfl
        obtain ⟨u2, y2, n2, c2, t2⟩ := hf i hi 2 _ rfl
        obtain ⟨x0, e0, _, k0⟩ := DataW.trod_int Try.underlying3 t0
        obtain ⟨x1, e1, _, k1⟩ := DataW.trod_int Try.underlying3 t1
        obtain ⟨x2, e2, _, k2⟩ := DataW.trod_int Try.underlying36 t2
        rw [List.singleton_inj] at e0 e1 e2
        subst e0; subst e1; subst e2
        exact ⟨⟨x0, x1, x2⟩, fun _ => ⟨⟨wf_i64 k0, wf_i64 k1, wf_u64 k2⟩, c0, c1, c2⟩⟩
      · exact ⟨⟨0, 0, 0⟩, fun h => absurd h hi⟩
    obtain ⟨f, hf'⟩ := Classical.axiomOfChoice hx
    exact ⟨some ⟨bl, off, none⟩, len, cap, bl, off, f, rfl, by omega, fun _ => ⟨rfl, hbl⟩, fun i hi => hf' i hi⟩
theorem Fopen_acts_c {u : Value} {y : DataW H × List MemPlace} {n : Nat} (h : DataW.trod enc Try.prog w base spare held n 22 [u] = some y) :
    ∃ (o : Option Addr) (len cap bl off : Nat) (f : Nat → FActV), u = .slice o len cap ∧ len ≤ maxLen ∧ (0 < len → o = some ⟨bl, off, none⟩ ∧ bl < w.heap.size) ∧ FActs w bl off len f := by
  obtain ⟨o, len, cap, rfl, ht⟩ := open_slice_c Try.underlying22 h
  exact Fopen_acts ⟨o, len, cap, rfl⟩ ht
end
end Go.Proofs.Ytklkgjaljfkjbaa.P
