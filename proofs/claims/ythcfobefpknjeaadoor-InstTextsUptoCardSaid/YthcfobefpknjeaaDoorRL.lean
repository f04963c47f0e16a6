/- Stage 2: the instructions that are tried, as a row in memory: plain facts. No condition. -/
import Derived.Test.YthcfobefpknjeaaDoorRJ
import Derived.Test.YthcfobefpknjeaaDoorRF
import Derived.Laws.AppendOwn
import Derived.Laws.OwnMore
set_option linter.unusedVariables false
set_option linter.unusedSimpArgs false
set_option maxRecDepth 100000
namespace Go.Proofs.YthcfobefpknjeaaDoor.P
open Go.RowKit
def insC (x : Ins) : List Value := [.int .i64 x.op, .int .i64 x.rd, .int .i64 x.a, .int .i64 x.b, .int .i64 x.i]
def flatI (L : List Ins) : List Value := L.flatMap insC
theorem flatI_cons (y : Ins) (L : List Ins) : flatI (y :: L) = insC y ++ flatI L := rfl
theorem flatI_app (L M : List Ins) : flatI (L ++ M) = flatI L ++ flatI M := List.flatMap_append
theorem flatI_len : ∀ L : List Ins, (flatI L).length = L.length * 5
  | [] => rfl
  | y :: L => by rw [flatI_cons, List.length_append, flatI_len L, List.length_cons]; show 5 + _ = _; omega
theorem flatI_at : ∀ (L : List Ins) (i j : Nat) (x : Ins), L[i]? = some x → j < 5 → (flatI L)[i * 5 + j]? = (insC x)[j]?
  | [], i, j, x, h, _ => by simp at h
  | y :: L, 0, j, x, h, hj => by
    simp at h
    subst h
    rw [flatI_cons, List.getElem?_append_left (by show 0 * 5 + j < 5; omega), Nat.zero_mul, Nat.zero_add]
  | y :: L, i + 1, j, x, h, hj => by
    have h' : L[i]? = some x := by simpa using h
    rw [flatI_cons, List.getElem?_append_right (by show 5 ≤ _; omega), show (i + 1) * 5 + j - (insC y).length = i * 5 + j by show (i + 1) * 5 + j - 5 = _; omega]
    exact flatI_at L i j x h' hj
/-- The first 7 + 2 m of those that are tried. -/
def candM (op p q r : Int) : Nat → List Ins
  | 0 => cand7 op p q r
  | m + 1 => candM op p q r m ++ cand2 op p q r (m : Int)
theorem candM_4 (op p q r : Int) : candM op p q r 4 = candL op p q r := by
  simp only [candM, candL, List.append_assoc]
  rfl
theorem candM_len (op p q r : Int) : ∀ m, (candM op p q r m).length = 7 + 2 * m
  | 0 => rfl
  | m + 1 => by rw [candM, List.length_append, candM_len op p q r m]; show 7 + 2 * m + 2 = _; omega
theorem candL_len (op p q r : Int) : (candL op p q r).length = 15 := rfl
theorem candL_op {op p q r : Int} {x : Ins} (h : x ∈ candL op p q r) : x.op = op := by
  simp only [candL, cand7, cand2, List.mem_append, List.mem_cons, List.not_mem_nil, or_false] at h
  rcases h with (h | h | h | h | h | h | h) | (h | h) | (h | h) | (h | h) | (h | h) <;> rw [h]
theorem i64_0 : i64 0 := ⟨by decide, by decide⟩
theorem i64_1 : i64 1 := ⟨by decide, by decide⟩
theorem i64_2 : i64 2 := ⟨by decide, by decide⟩
theorem i64_3 : i64 3 := ⟨by decide, by decide⟩
theorem candL_i {op p q r : Int} {x : Ins} (h : x ∈ candL op p q r) (hq : i64 q) (hr : i64 r) : i64 x.i := by
  simp only [candL, cand7, cand2, List.mem_append, List.mem_cons, List.not_mem_nil, or_false] at h
  rcases h with (h | h | h | h | h | h | h) | (h | h) | (h | h) | (h | h) | (h | h) <;> rw [h] <;> first | exact hq | exact hr | exact i64_0 | exact i64_1 | exact i64_2 | exact i64_3
theorem has_yes2 {s : ByteArray} {x : Ins} (h : hasT s x = true) : encE x.op x.rd x.a x.b x.i = 0 ∧ textV x.op x.rd x.a x.b x.i = s := by
  unfold hasT at h
  rw [Bool.and_eq_true, decide_eq_true_eq] at h
  exact ⟨by unfold encE; rw [h.1]; rfl, h.2⟩
theorem instInfo5 : (Tryd.prog.info? 23).map (fun i => (i.zero, i.size, i.bytes)) = some (some (.agg #[.int .i64 0, .int .i64 0, .int .i64 0, .int .i64 0, .int .i64 0]), 5, 40) := by kernel_rfl
end Go.Proofs.YthcfobefpknjeaaDoor.P
