/- Stage 7: the example's facts. No condition. -/
import Derived.Test.YtgaibknhdaeidaaA21
set_option linter.unusedVariables false
set_option maxRecDepth 50000
namespace Go.Proofs.Ytgaibknhdaeidaa.P
open Go.RowKit
def sA : ByteArray := secF ⟨#[97]⟩
def sB : ByteArray := secF ⟨#[98]⟩
def z0E : DState := newZ (List.replicate 48 z64)
def stE : List (Int × ByteArray) := [(0, sA), (5, sB)]
def q1E : Int × DState := exec (commitOps stE) (powZ z0E 4)
def z3E : DState := crashZ q1E.2 1
def q4E : Int × DState := openQ z3E
theorem ex_new (n : Nat) (h : 48 ≤ n) : openQ (newZ (List.replicate n z64)) = (0, newZ (List.replicate n z64)) := by
  have hl : (newZ (List.replicate n z64)).safe.length = n := List.length_replicate
  have hr : readR (newZ (List.replicate n z64)) 1 = 0 := by
    unfold readR hasB
    rw [hl, decide_eq_true (by omega : (0 : Int) ≤ 1), decide_eq_true (by omega : (1 : Int) < n)]; rfl
  have hb : readB (newZ (List.replicate n z64)) 1 = z64 := by
    unfold readB hasB
    rw [hl, decide_eq_true (by omega : (0 : Int) ≤ 1), decide_eq_true (by omega : (1 : Int) < n)]
    show ((List.replicate n z64)[1]?).getD ⟨#[]⟩ = z64
    rw [List.getElem?_replicate, if_pos (by omega)]; rfl
  unfold openQ
  rw [hr, hb, parse_nil]; rfl
theorem ex_sets : setSt (setR false 48 [] 0 sA) [] 0 sA = [(0, sA)] ∧ setSt (setR false 48 [(0, sA)] 5 sB) [(0, sA)] 5 sB = stE := by
  have h1 : sA.size = 64 := secF_size _
  have h2 : sB.size = 64 := secF_size _
  constructor
  · have : setR false 48 [] 0 sA = 0 := by unfold setR; rw [decide_eq_true h1]; rfl
    rw [this]; rfl
  · have : setR false 48 [(0, sA)] 5 sB = 0 := by unfold setR; rw [decide_eq_true h2]; rfl
    rw [this]; rfl
theorem ex_commit : q1E.1 = 7 := by decide +kernel
theorem ex_open : q4E.1 = 0 := by decide +kernel
theorem ex_get : getB false q4E.2 [] 0 = sA ∧ getB false q4E.2 [] 5 = sB := by decide +kernel
theorem ex_size : (∀ s ∈ z3E.safe, s.size = 64) ∧ z3E.wait = [] := by
  refine ⟨by decide +kernel, rfl⟩
theorem ex_wait : q1E.2.wait.length ≤ 100 ∧ q4E.2.wait.length ≤ 100 := by decide +kernel
end Go.Proofs.Ytgaibknhdaeidaa.P
