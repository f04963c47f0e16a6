/- Stage 3: two objects side by side; Clone. No condition. -/
import Derived.Test.YtbcnibnkojnpiaaGreatQ7
set_option linter.unusedVariables false
namespace Go.Proofs.YtbcnibnkojnpiaaGreat.P
open Go.RowKit Go.MuLone
/-- Two objects have no block in common. -/
def Sep (b : Nat) (y : Option Nat) (c : Nat) (z : Option Nat) : Prop := b ≠ c ∧ y ≠ some c ∧ z ≠ some b ∧ ∀ x, y = some x → z ≠ some x
theorem Sep.symm {b c : Nat} {y z : Option Nat} (h : Sep b y c z) : Sep c z b y := ⟨fun e => h.1 e.symm, h.2.2.1, h.2.1, fun x hx hy => h.2.2.2 x hy hx⟩
theorem Sep.out {b c : Nat} {y z : Option Nat} (h : Sep b y c z) : ¬ (c = b ∨ y = some c) ∧ (∀ x, z = some x → ¬ (x = b ∨ y = some x)) := by
  refine ⟨fun e => ?_, fun x hx e => ?_⟩
  · rcases e with e | e
    · exact h.1 e.symm
    · exact h.2.1 e
  · rcases e with e | e
    · exact h.2.2.1 (by rw [hx, e])
    · exact h.2.2.2 x e hx
theorem Sep.step {b c : Nat} {y y' z : Option Nat} {w w' : World} (h : Sep b y c z) (hk : KeptM b y w w' y') (hc : c < w.heap.size) (hz : ∀ x, z = some x → x < w.heap.size) : Sep b y' c z := by
  rcases hk.2 with e | ⟨e, g, e2, e3⟩
  · rw [e]; exact h
  · refine ⟨h.1, ?_, h.2.2.1, ?_⟩
    · rw [e2]; intro f; injection f with f; omega
    · intro x hx hzx
      rw [e2] at hx; injection hx with hx
      have := hz x hzx; omega
theorem MemO.lt {w : World} {b : Nat} {y : Option Nat} {fr : Nat} {s : List UInt8} {t : Int} (h : MemO w b y fr s t) : b < w.heap.size ∧ ∀ x, y = some x → x < w.heap.size := by
  refine ⟨blk_lt h.blk, ?_⟩
  rintro x rfl; exact blk_lt h.2.2.2.2.2
theorem MemO.apart {w w' : World} {b c : Nat} {y y' z : Option Nat} {fr : Nat} {s : List UInt8} {t : Int} (h : MemO w c z fr s t) (hs : Sep b y c z) (hk : KeptM b y w w' y') : MemO w' c z fr s t :=
  h.keep hk.1 hs.out.1 hs.out.2
theorem partV_all (g N : Nat) : partV g N 0 N = .slice (some ⟨g, 0, none⟩) N N := by unfold partV; simp
theorem putL_all (s z : List UInt8) (h : s.length = z.length) : putL s 0 ((z.drop 0).take z.length) = z := by
  unfold putL
  rw [List.drop_zero, List.take_of_length_le (Nat.le_refl _), List.take_zero, List.drop_eq_nil_of_le (by omega)]
  simp
def CloneP (b : Nat) (y : Option Nat) (fr : Nat) (s : List UInt8) (t : Int) (w : World) (e : Ending) (w' : World) : Prop :=
  ∃ c g y', e = .returned (.pointer (some ⟨c, 0, none⟩)) ∧ MemO w' b y' fr s t ∧ MemO w' c (some g) fr s 0 ∧ KeptM b y w w' y' ∧ w.heap.size ≤ c ∧ w.heap.size ≤ g ∧ Sep b y' c (some g)
end Go.Proofs.YtbcnibnkojnpiaaGreat.P
