/- Stage 3: the document's memory: its calls. No condition. -/
import Derived.Test.YtdlglnoffpnonaaQ13
set_option linter.unusedVariables false
namespace Go.Proofs.Ytdlglnoffpnonaa.P
open Go.RowKit Go.MuLone Go.Proofs.Ytdlglnoffpnonaa.W
theorem putL_get (s : List UInt8) (a : Nat) (x : List UInt8) (h : a + x.length ≤ s.length) (j : Nat) : (putL s a x)[j]? = if j < a then s[j]? else if j < a + x.length then x[j - a]? else s[j]? := by
  unfold putL
  have e : (s.take a).length = a := by simp; omega
  by_cases h1 : j < a
  · rw [if_pos h1, List.getElem?_append_left (by omega), List.getElem?_take_of_lt h1]
  · rw [if_neg h1, List.getElem?_append_right (by omega), e]
    by_cases h2 : j < a + x.length
    · rw [if_pos h2, List.getElem?_append_left (by omega)]
    · rw [if_neg h2, List.getElem?_append_right (by omega), List.getElem?_drop]
      congr 1; omega
theorem putL_step (s : List UInt8) (a : Nat) (x : List UInt8) (h : a + x.length ≤ s.length) (i : Nat) (hi : i < x.length) : (putL s a (x.take i)).set (a + i) x[i] = putL s a (x.take (i + 1)) := by
  apply List.ext_getElem?
  intro j
  have l1 : (x.take i).length = i := by simp; omega
  have l2 : (x.take (i + 1)).length = i + 1 := by simp; omega
  have hl : (putL s a (x.take i)).length = s.length := putL_len _ _ _ (by omega)
  rw [List.getElem?_set, putL_get _ _ _ (by omega), putL_get _ _ _ (by omega), l1, l2, hl]
  by_cases hj : a + i = j
  · subst hj
    rw [if_pos rfl, if_pos (by omega), if_neg (by omega), if_pos (by omega), show a + i - a = i by omega, List.getElem?_take_of_lt (by omega), List.getElem?_eq_getElem hi]
  · rw [if_neg hj]
    by_cases h1 : j < a
    · rw [if_pos h1, if_pos h1]
    · rw [if_neg h1, if_neg h1]
      by_cases h2 : j < a + i
      · rw [if_pos h2, if_pos (by omega), List.getElem?_take_of_lt (by omega), List.getElem?_take_of_lt (by omega)]
      · rw [if_neg h2, if_neg (by omega)]
theorem bys_set (s : List UInt8) (i : Nat) (x : UInt8) : (bys s).setIfInBounds i (bv x) = bys (s.set i x) := by
  unfold bys
  apply Array.toList_inj.1
  simp [List.map_set]
end Go.Proofs.Ytdlglnoffpnonaa.P
