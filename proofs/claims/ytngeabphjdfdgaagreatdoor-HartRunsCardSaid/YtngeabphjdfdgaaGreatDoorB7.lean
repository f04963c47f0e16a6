/- Stage 2: an instruction's word. No condition. -/
import Derived.Test.YtngeabphjdfdgaaGreatDoorN6
import Derived.Test.YtngeabphjdfdgaaGreatDoorMB
import Derived.Deep.CutBlock
import Derived.Deep.DeepCutAuto
set_option linter.unusedVariables false
set_option linter.unusedSimpArgs false
set_option maxRecDepth 100000
namespace Go.Proofs.YtngeabphjdfdgaaGreatDoor.P
open Go.RowKit
theorem gr_alloc {a b : World} (h : Gr a b) (o : Obj) : Gr a (b.alloc o) := h.alloc h.size o
theorem gr_set0 {a b : World} (h : Gr a b) (v : Value) : Gr a (b.setCell ⟨a.heap.size, 0, none⟩ v) := Below.setCell h (Nat.le_refl _) v
theorem ret_ue {a b c d : Int} (h : a = b) (h2 : c = d) : Ending.returned (.tuple #[.int .u32 a, .int .i64 c]) = .returned (.tuple #[.int .u32 b, .int .i64 d]) := by rw [h, h2]
end Go.Proofs.YtngeabphjdfdgaaGreatDoor.P
namespace Go.Proofs.YtngeabphjdfdgaaGreatDoor.P
open Go.RowKit
end Go.Proofs.YtngeabphjdfdgaaGreatDoor.P
namespace Go.Proofs.YtngeabphjdfdgaaGreatDoor.P
open Go.RowKit
theorem one_yes {n : Int} {b : Bool} (h : oneB n b = true) : 0 ≤ n ∧ n < 32 := by
  unfold oneB at h
  rw [Bool.or_eq_true, Bool.and_eq_true, Bool.and_eq_true, decide_eq_true_eq, decide_eq_true_eq, decide_eq_true_eq] at h
  omega
theorem one_no {n : Int} (h : oneB n false = true) : n = 0 := by
  unfold oneB at h
  rw [Bool.or_eq_true, decide_eq_true_eq] at h
  rcases h with h | h
  · exact h
  · cases h
theorem fits_yes {rd a b : Int} {p q r : Bool} (h : fitsB rd a b p q r = true) : oneB rd p = true ∧ oneB a q = true ∧ oneB b r = true := by
  unfold fitsB at h
  rw [Bool.and_eq_true, Bool.and_eq_true] at h
  exact ⟨h.1.1, h.1.2, h.2⟩
def encV (op rd a b i : Int) : Int := bif mayF op rd a b i then encF op.toNat rd a b i else 0
def encE (op rd a b i : Int) : Int := bif mayF op rd a b i then 0 else 2
theorem may_op {op rd a b i : Int} (h : mayF op rd a b i = true) : ∃ k : Nat, op = (k : Int) ∧ k < 88 ∧ 1 ≤ k ∧ mayR (fmT k) (resB k) rd a b = true ∧ mayI (fmT k) i = true := by
  by_cases ho : op < 1 ∨ 87 < op
  · exfalso
    unfold mayF at h
    rw [Bool.and_eq_true, Bool.and_eq_true, Bool.and_eq_true, decide_eq_true_eq, decide_eq_true_eq] at h
    omega
  · obtain ⟨k, rfl⟩ : ∃ k : Nat, op = (k : Int) := ⟨op.toNat, by omega⟩
    rw [may_in (by omega) (by omega), Bool.and_eq_true] at h
    exact ⟨k, rfl, by omega, by omega, h.1, h.2⟩
end Go.Proofs.YtngeabphjdfdgaaGreatDoor.P
