/- Stage 3: frame, Put, Clear, Copy. No condition. -/
import Derived.Test.YtkooinjaafeomaaQ4
set_option linter.unusedVariables false
namespace Go.Proofs.Ytkooinjaafeomaa.P
open Go.RowKit Go.MuLone
/-- Behind a store into the bytes of a memory. -/
theorem MemO.stored {w w' : World} {b g : Nat} {fr : Nat} {s s' : List UInt8} {t : Int} (h : MemO w b (some g) fr s t) (hc : Ch (· = g) w w') (hs : s'.length = s.length) (hg : w'.heap[g]? = some (.cells (bys s') 5)) : MemO w' b (some g) fr s' t := by
  obtain ⟨a1, a2, a3, a4, a5, a6⟩ := h
  exact ⟨by rw [hs, a1], a2, a3, by rw [hs]; exact hc.blk a4 (fun e => a5 e.symm), a5, hg⟩
def PutP (b : Nat) (y : Option Nat) (fr : Nat) (s : List UInt8) (t : Int) (r : Int) (w : World) (e : Ending) (w' : World) : Prop :=
  e = .returned (.int .i64 r) ∧ ∃ y', MemO w' b y' fr s t ∧ KeptM b y w w' y'
end Go.Proofs.Ytkooinjaafeomaa.P
