/- Stage 11: the example reckoned. No condition. -/
import Derived.Test.YtbcnibnkojnpiaaEM
set_option linter.unusedVariables false
set_option maxRecDepth 1000000
namespace Go.Proofs.Ytbcnibnkojnpiaa.P
open Go.RowKit Go.MuLone Go.Maps
def layB : Nat → List (Nat × List UInt8) → List UInt8
  | k, [] => List.replicate (4096 - k) 0
  | k, (p, x) :: r => List.replicate (p - k) 0 ++ (x ++ layB (p + x.length) r)
def exFree (n : Nat) : List Bool := List.replicate n false ++ List.replicate (16 - n) true
def exZ (n : Nat) (l : List (Nat × List UInt8)) : Sp := ⟨exFree n, layB 0 l⟩
def exAbc : List UInt8 := [97, 98, 99, 100, 101, 102, 103, 104, 105, 106, 107, 108]
def exS : ByteArray := ⟨exAbc.toArray⟩
def exL2 : List (Nat × List UInt8) := [(0, [1, 4]), (256, [1, 8]), (520, [23, 12])]
def exL3 : List (Nat × List UInt8) := [(0, [1, 4]), (256, [1, 8]), (520, [23, 12]), (528, [23, 16])]
def exL4 : List (Nat × List UInt8) := [(0, [1, 4]), (256, [1, 8]), (520, [23, 12]), (528, [23, 16]), (1012, exAbc)]
def exL5 : List (Nat × List UInt8) := [(0, [1, 4]), (256, [1, 8]), (520, [23, 12]), (528, [23, 16]), (1012, exAbc), (1280, [1, 24]), (1536, [1, 28]), (1800, [23, 32]), (1808, [23, 36]), (2292, exAbc)]
def exL6 : List (Nat × List UInt8) := [(1280, [1, 24]), (1536, [1, 28]), (1800, [23, 32]), (1808, [23, 36]), (2292, exAbc)]
def ex0 : Sp := exZ 0 []
def ex1 : Sp := exZ 1 []
def ex2 : Sp := exZ 4 exL2
def ex3 : Sp := exZ 5 exL3
def ex4 : Sp := exZ 5 exL4
def ex5 : Sp := exZ 10 exL5
def ex6 : Sp := ⟨List.replicate 5 true ++ (List.replicate 5 false ++ List.replicate 6 true), layB 0 exL6⟩
theorem e01 : takeN ex0.L 0 = 0 ∧ takeE ex0.L 0 = 0 ∧ (takeX 0 ex0).L = ex1.L ∧ (takeX 0 ex0).s = ex1.s := by decide +kernel
theorem e12 : mapE 0 ex1 0 1 23 = 0 ∧ (mapX 0 ex1 0 1 23).L = ex2.L ∧ (mapX 0 ex1 0 1 23).s = ex2.s := by decide +kernel
theorem e23 : mapE 0 ex2 0 2 23 = 0 ∧ (mapX 0 ex2 0 2 23).L = ex3.L ∧ (mapX 0 ex2 0 2 23).s = ex3.s := by decide +kernel
theorem e34 : outErr 0 ex3 0 500 exS = 0 ∧ (outSt 0 ex3 0 500 exS).L = ex4.L ∧ (outSt 0 ex3 0 500 exS).s = ex4.s := by decide +kernel
theorem e44 : outErr 0 ex4 0 760 exS = 3 ∧ (outSt 0 ex4 0 760 exS).L = ex4.L ∧ (outSt 0 ex4 0 760 exS).s = ex4.s := by decide +kernel
theorem e45 : copyN 0 ex4 0 = 5 ∧ copyE 0 ex4 0 = 0 ∧ (copyW 0 ex4 0).L = ex5.L ∧ (copyW 0 ex4 0).s = ex5.s := by decide +kernel
theorem e55 : (inV 0 ex5 5 510 3).data = #[107, 108, 0] ∧ inE 0 ex5 5 510 3 = 0 := by decide +kernel
theorem e56 : tknB ex5.L 0 0 = true ∧ (freeX 0 ex5 0).L = ex6.L ∧ (freeX 0 ex5 0).s = ex6.s ∧ leftX 0 ex6 = 11 := by decide +kernel
end Go.Proofs.Ytbcnibnkojnpiaa.P
