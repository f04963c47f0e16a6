/- Stage 5: the document's example, reckoned. No condition. -/
import Derived.Test.YtngeabphjdfdgaaDoorIB
set_option linter.unusedVariables false
set_option maxRecDepth 100000
namespace Go.Proofs.YtngeabphjdfdgaaDoor.P
open Go.RowKit Go.MuLone Go.Proofs.YtngeabphjdfdgaaDoor.W
def exC (k : Nat) : Int := [5243027, 41219, 115].getD k 0
def exS : List UInt8 := codS exC 3
def exR1 : RS := stepF 8 exS 0 HZ
def exR2 : RS := stepF 8 exS 0 exR1.H
def exR3 : RS := stepF 8 exS 0 { exR1.H with pc := 8 }
theorem ex_1 : exR1.e.k = 0 ∧ exR1.e.ad = 0 ∧ exR1.e.wr = false ∧ exR1.H.X 1 = 5 ∧ exR1.s = exS := by decide +kernel
theorem ex_2 : exR2.e.k = 5 ∧ exR2.e.ad = 5 ∧ exR2.e.wr = false ∧ exR2.H.pc = 4 ∧ exR2.s = exS := by decide +kernel
theorem ex_3 : exR3.e.k = 1 ∧ exR3.e.ad = 0 ∧ exR3.e.wr = false ∧ exR3.H.pc = 8 ∧ exR3.s = exS := by decide +kernel
theorem ex_ok : (∀ i, i < 32 → 0 ≤ exR1.H.X i ∧ exR1.H.X i ≤ 18446744073709551615) ∧ (0 ≤ exR1.H.pc ∧ exR1.H.pc ≤ 18446744073709551615) ∧ (0 ≤ exR1.H.at_ ∧ exR1.H.at_ ≤ 18446744073709551615) := by decide +kernel
end Go.Proofs.YtngeabphjdfdgaaDoor.P
