/- Stage 3: the document's memory: Copy. No condition. -/
import Derived.Test.YtdlglnoffpnonaaR2
set_option linter.unusedVariables false
namespace Go.Proofs.Ytdlglnoffpnonaa.P
open Go.RowKit Go.MuLone Go.Proofs.Ytdlglnoffpnonaa.W
theorem putL_at (s : List UInt8) (a : Nat) (x : List UInt8) (h : a + x.length ≤ s.length) (j : Nat) (hj : j < a ∨ a + x.length ≤ j) : (putL s a x)[j]? = s[j]? := by
  rw [putL_get s a x h j]
  rcases hj with hj | hj
  · rw [if_pos hj]
  · rw [if_neg (by omega), if_neg (by omega)]

set_option maxRecDepth 100000 in
theorem copy_at (s : List UInt8) (p q i : Nat) (hp : p * 256 + 256 ≤ s.length) (hq : q * 256 + 256 ≤ s.length) (hi : i < 256) : (putL s (p * 256) (((s.drop (q * 256)).take 256).take i))[q * 256 + i]? = s[q * 256 + i]? := by
  generalize hX : (s.drop (q * 256)).take 256 = X
  have hXl : X.length = 256 := by rw [← hX, List.length_take, List.length_drop]; omega
  have hl : (X.take i).length = i := by rw [List.length_take]; omega
  clear hX hXl
  have hb : p * 256 + (X.take i).length ≤ s.length := by rw [hl]; omega
  generalize X.take i = Y at *
  by_cases hpq : p = q
  · subst hpq
    exact putL_at s (p * 256) Y hb (p * 256 + i) (.inr (by omega))
  · exact putL_at s (p * 256) Y hb (q * 256 + i) (by omega)
theorem ret_int {a b : Int} (h : a = b) : Ending.returned (.int .i64 a) = .returned (.int .i64 b) := by rw [h]
def rcopyR (fr : Nat) (n k : Int) : Int := if frB fr n = true then (if k < (fr : Int) then 0 else 3) else 3
def rcopyS (fr : Nat) (s : List UInt8) (n k : Int) : List UInt8 := if k < 0 then clearS fr s n else copyS fr s n k
end Go.Proofs.Ytdlglnoffpnonaa.P
