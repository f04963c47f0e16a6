/- Stage 3: Load, Store, Clone; all calls of a memory that is nil. No condition. -/
import Derived.Test.YtklkgjaljfkjbaaQ5
import Derived.Test.YtklkgjaljfkjbaaBB
set_option linter.unusedVariables false
namespace Go.Proofs.Ytklkgjaljfkjbaa.P
open Go.RowKit Go.MuLone Go.Proofs.Ytklkgjaljfkjbaa.W
theorem n_get (w : World) (a : Int) (n : Int) : Calls Try.prog 23 #[.pointer none, .int .u64 a, .int .i64 n] w fun e w' => e = .returned (.tuple #[.string ⟨#[]⟩, .int .i64 1]) ∧ w' = w := by
  go_enter Try.func23, Try.ntmps23
  go_wp2
  go_ret2
  exact ⟨rfl, rfl⟩
theorem n_put (w : World) (a : Int) (x : ByteArray) : Calls Try.prog 17 #[.pointer none, .int .u64 a, .string x] w fun e w' => e = .returned (.int .i64 1) ∧ w' = w := by
  go_enter Try.func17, Try.ntmps17
  go_wp2
  go_ret
  exact ⟨rfl, rfl⟩
theorem n_clear (w : World) (n : Int) : Calls Try.prog 26 #[.pointer none, .int .i64 n] w fun e w' => e = .returned (.int .i64 1) ∧ w' = w := by
  go_enter Try.func26, Try.ntmps26
  go_wp2
  go_ret
  exact ⟨rfl, rfl⟩
theorem n_frames (w : World) : Calls Try.prog 25 #[.pointer none] w fun e w' => e = .returned (.int .i64 0) ∧ w' = w := by
  go_enter Try.func25, Try.ntmps25
  go_wp2
  go_ret
  exact ⟨rfl, rfl⟩
def sizedB (n : Int) : Bool := n == 1 || n == 2 || n == 4 || n == 8
theorem sized_nat {n : Int} (h : sizedB n = true) : n = 1 ∨ n = 2 ∨ n = 4 ∨ n = 8 := by
  unfold sizedB at h; simp at h; omega
theorem sized_t {n : Int} (h : n = 1 ∨ n = 2 ∨ n = 4 ∨ n = 8) : sizedB n = true := by
  unfold sizedB; rcases h with rfl | rfl | rfl | rfl <;> rfl
theorem sized_no {n : Int} (h : sizedB n = false) : (n == 1) = false ∧ (n == 2) = false ∧ (n == 4) = false ∧ (n == 8) = false := by
  unfold sizedB at h; simp at h; simp; omega
theorem mm_t (fr d t x : Int) (v : Value) : (mm fr d v t).setIfInBounds 5 (.int .u64 x) = mm fr d v x := rfl
def tick (t : Int) : Int := IntKind.u64.wrap (t + 1)
def LoadP (b : Nat) (y : Option Nat) (fr : Nat) (s : List UInt8) (t : Int) (v r : Int) (w : World) (e : Ending) (w' : World) : Prop :=
  e = .returned (.tuple #[.int .u64 v, .int .i64 r]) ∧ ∃ y', MemO w' b y' fr s t ∧ KeptM b y w w' y'
theorem sub_size (s : List UInt8) (a n : Nat) (h : a + n ≤ s.length) : (subB s a n).size = n := by
  simp [subB, ByteArray.size]; omega
theorem MemO.ticked {w : World} {b : Nat} {y : Option Nat} {fr : Nat} {s : List UInt8} {t : Int} (h : MemO w b y fr s t) : MemO (w.setCell ⟨b, 5, none⟩ (.int .u64 (tick t))) b y fr s (tick t) :=
  h.touch (Ch.setCell (S := (· = b)) (Ch.refl _ w) (p := ⟨b, 5, none⟩) (.inl rfl) _) (by rw [blk_set h.blk 5 _, mm_t])
theorem KeptM.ticked {w w' : World} {b : Nat} {y y' : Option Nat} (h : KeptM b y w w' y') (v : Value) : KeptM b y w (w'.setCell ⟨b, 5, none⟩ v) y' :=
  h.then (Ch.setCell (S := fun x => x = b ∨ y' = some x) (Ch.refl _ w') (p := ⟨b, 5, none⟩) (.inl (.inl rfl)) _)
theorem clamp_sized {n : Nat} (h : sizedB n = true) : clampN n = n := by
  have := sized_nat h; unfold clampN; omega
end Go.Proofs.Ytklkgjaljfkjbaa.P
