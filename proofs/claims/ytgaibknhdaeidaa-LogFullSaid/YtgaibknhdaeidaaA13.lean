/- Stage 7: a head read: facts; rows of numbers. No condition. -/
import Derived.Test.YtgaibknhdaeidaaA12
import Derived.Laws.AppendOwn
import Derived.Lib.SmallJoins
set_option linter.unusedVariables false
set_option maxRecDepth 50000
namespace Go.Proofs.Ytgaibknhdaeidaa.P
open Go.RowKit
def encs (A : List Int) : List Value := A.map (Value.int .i64)
theorem encs_length (A : List Int) : (encs A).length = A.length := by unfold encs; rw [List.length_map]
theorem encs_append (A B : List Int) : encs (A ++ B) = encs A ++ encs B := by unfold encs; exact List.map_append
theorem row_form {w : World} {base n : Nat} {v : Value} {xs : List Value} (h : w.ownsRow base 3 1 v n xs) : ∃ o c, v = .slice o n c := by
  rcases Joins.ownsRow_forms h with ⟨rfl, rfl⟩ | ⟨g, cap, rfl⟩
  · exact ⟨none, 0, rfl⟩
  · exact ⟨_, cap, rfl⟩
theorem rowI_own {w : World} {base c : Nat} {o : Option Addr} {A : List Int} (h : w.ownsRow base 3 1 (.slice o A.length c) A.length (encs A)) : RowI w o A := fun j i hj => by
  have hl : j < A.length := (List.getElem?_eq_some_iff.1 hj).1
  rcases Joins.ownsRow_forms h with ⟨e, hz⟩ | ⟨g, cap, e⟩
  · omega
  · injection e with e1 e2 e3
    subst e1
    refine ⟨g, 0, rfl, ?_⟩
    rw [Nat.zero_add, World.ownsRow.cellAt h j (by omega)]
    unfold encs; rw [List.getElem?_map, hj]; rfl
theorem row_from {w : World} {base n c : Nat} {o : Option Addr} {xs : List Value} (h : w.ownsRow base 3 1 (.slice o n c) n xs) : ∀ b off, o = some ⟨b, off, none⟩ → base ≤ b ∧ b < w.heap.size := fun b off e => by
  have e2 := Joins.ownsRow_forms h
  rcases e2 with ⟨e3, _⟩ | ⟨g, cap, e3⟩
  · injection e3 with e3; rw [e] at e3; cases e3
  · injection e3 with e3
    rw [e] at e3; injection e3 with e3; injection e3 with e3 e4
    subst e3; subst e4
    exact h.lt b (by rw [e]; rfl)
theorem byteN_get (s : ByteArray) (k : Nat) (h : k < s.size) : ((s[k]'h).toNat : Int) = (byteN s k : Int) := by
  have e : s[k]'h = s.data.toList.getD k 0 := by
    rw [List.getD_eq_getElem?_getD, List.getElem?_eq_getElem (by rw [Array.length_toList]; exact h)]
    exact (Array.getElem_toList (i := k) (xs := s.data) (by exact h)).symm
  unfold byteN; rw [e]
theorem byteN_at (s : ByteArray) (k : Nat) : W.byteAt s k = (byteN s k : Int) := by
  unfold W.byteAt byteN
  rw [Array.getD_eq_getD_getElem?, List.getD_eq_getElem?_getD, Array.getElem?_toList]
theorem extract_at (s : ByteArray) (a b k : Nat) (hb : b ≤ s.size) (hk : a + k < b) : W.byteAt (s.extract a b) k = W.byteAt s (a + k) := by
  unfold W.byteAt
  rw [Array.getD_eq_getD_getElem?, Array.getD_eq_getD_getElem?, ByteArray.data_extract, Array.getElem?_extract, if_pos (by show k < min b s.data.size - a; have : s.data.size = s.size := rfl; omega)]
theorem of_num (s : ByteArray) (k : Nat) (hs : s.size = 64) (hk : k < 30) : W.ofF (s.extract (1 + 2 * k) (3 + 2 * k)) = rdNum s k := by
  have hsz : (s.extract (1 + 2 * k) (3 + 2 * k)).size = 2 := by rw [ByteArray.size_extract]; omega
  unfold W.ofF
  rw [hsz]
  show W.ofN _ 2 = _
  unfold W.ofN W.ofN W.ofN
  rw [extract_at s _ _ _ (by omega) (by omega), extract_at s _ _ _ (by omega) (by omega), byteN_at, byteN_at]
  unfold rdNum
  rw [show 1 + 2 * k + 0 = 1 + 2 * k by omega, show 1 + 2 * k + 1 = 2 + 2 * k by omega]
  show 0 + (byteN s (1 + 2 * k) : Int) * 2 ^ (8 * 0) + (byteN s (2 + 2 * k) : Int) * 2 ^ (8 * 1) = _
  omega
theorem good_mem {most : Int} : ∀ {l : List Int} {last : Int}, goodH most last l = true → ∀ x ∈ l, last < x ∧ x < most
  | [], _, _, x, hx => by cases hx
  | y :: l, last, h, x, hx => by
    have h2 : (decide (last < y) && decide (y < most) && goodH most y l) = true := h
    rw [Bool.and_eq_true, Bool.and_eq_true, decide_eq_true_eq, decide_eq_true_eq] at h2
    rcases List.mem_cons.1 hx with e | e
    · rw [e]; exact h2.1
    · have := good_mem h2.2 x e; omega
end Go.Proofs.Ytgaibknhdaeidaa.P
