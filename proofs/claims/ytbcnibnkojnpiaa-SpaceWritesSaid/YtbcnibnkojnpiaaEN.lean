/- Stage 11: In, Out, Text, whatever comes. No condition. -/
import Derived.Test.YtbcnibnkojnpiaaEL
set_option linter.unusedVariables false
set_option maxRecDepth 1000000
namespace Go.Proofs.Ytbcnibnkojnpiaa.P
open Go.RowKit Go.MuLone Go.Maps
variable {w0 w : World} {pb b first : Nat} {z : Sp} {R : Asn}
def outErr (fi : Nat) (z : Sp) (r a : Int) (s : ByteArray) : Int := bif movedBad fi z r s.size then 1 else bif decide (outC z r a s.size = 0) then (outW z r a s).2 else outC z r a s.size
def outSt (fi : Nat) (z : Sp) (r a : Int) (s : ByteArray) : Sp := bif movedBad fi z r s.size then z else bif decide (outC z r a s.size = 0) then (outW z r a s).1 else z
theorem o_out (h : Own w0 w (Star (plA pb b first z.L z.s) R)) (hR : Stable R) (r a : Int) (s : ByteArray) (hr : i64 r) (ha : u64 a) (hs : s.size ≤ 9223372036854775807) (e : Int) (z' : Sp) (he : outErr first z r a s = e) (hz : outSt first z r a s = z') :
    Calls Try.prog 15 #[.pointer (some ⟨pb, 0, none⟩), .int .i64 r, .int .u64 a, .string s] w fun x w' => x = .returned (.int .i64 e) ∧ Own w0 w' (Star (plA pb b first z'.L z'.s) R) := by
  subst he; subst hz
  unfold outErr outSt
  cases hb : movedBad first z r s.size with
  | true => exact o_out_bad h hR r a s hr hs hb
  | false => exact o_out_go h hR r a s hr ha hb _ _ _ rfl (fun _ => rfl)
theorem o_in (h : Own w0 w (Star (plA pb b first z.L z.s) R)) (hR : Stable R) (r a n : Int) (hr : i64 r) (ha : u64 a) (v : ByteArray) (e : Int) (hv : inV first z r a n = v) (he : inE first z r a n = e) :
    Calls Try.prog 14 #[.pointer (some ⟨pb, 0, none⟩), .int .i64 r, .int .u64 a, .int .i64 n] w fun x w' => x = .returned (.tuple #[.string v, .int .i64 e]) ∧ Own w0 w' (Star (plA pb b first z.L z.s) R) := by
  subst hv; subst he
  unfold inV inE
  cases hb : movedBad first z r n with
  | true => exact o_in_bad h hR r a n hr hb
  | false => exact o_in_go h hR r a n hr ha hb _ _ rfl
def textE (fi : Nat) (z : Sp) (r a n : Int) : Int := bif movedBad fi z r n then 1 else (textX z r a (n.toNat + 1) 0 []).2
def textV (fi : Nat) (z : Sp) (r a n : Int) : ByteArray := bif movedBad fi z r n then ⟨#[]⟩ else (textX z r a (n.toNat + 1) 0 []).1
theorem o_text (h : Own w0 w (Star (plA pb b first z.L z.s) R)) (hR : Stable R) (r a n : Int) (hr : i64 r) (ha : u64 a) (v : ByteArray) (e : Int) (hv : textV first z r a n = v) (he : textE first z r a n = e) :
    Calls Try.prog 16 #[.pointer (some ⟨pb, 0, none⟩), .int .i64 r, .int .u64 a, .int .i64 n] w fun x w' => x = .returned (.tuple #[.string v, .int .i64 e]) ∧ Own w0 w' (Star (plA pb b first z.L z.s) R) := by
  subst hv; subst he
  unfold textV textE
  cases hb : movedBad first z r n with
  | true => exact o_text_bad h hR r a n hr hb
  | false =>
    obtain ⟨m, rfl⟩ : ∃ m : Nat, n = (m : Int) := by
      refine ⟨n.toNat, ?_⟩
      unfold movedBad at hb
      simp only [Bool.or_eq_false_iff, decide_eq_false_iff_not] at hb
      omega
    rw [Int.toNat_natCast]
    exact o_text_go h hR r a m hr ha hb _ _ rfl
end Go.Proofs.Ytbcnibnkojnpiaa.P
namespace Go.Proofs.Ytbcnibnkojnpiaa.P
open Go.RowKit Go.MuLone Go.Maps
def layB : Nat → List (Nat × List UInt8) → List UInt8
  | k, [] => List.replicate (4096 - k) 0
  | k, (p, x) :: r => List.replicate (p - k) 0 ++ (x ++ layB (p + x.length) r)
def exFree (n : Nat) : List Bool := List.replicate n false ++ List.replicate (16 - n) true
def exZ (n : Nat) (l : List (Nat × List UInt8)) : Sp := ⟨exFree n, layB 0 l⟩
def exAbc : List UInt8 := [97, 98, 99, 100, 101, 102, 103, 104, 105, 106, 107, 108]
def exS : ByteArray := ⟨exAbc.toArray⟩
def exL2 : List (Nat × List UInt8) := [(0, [1, 4]), (256, [1, 8]), (520, [23, 12])]
def exL3 : List (Nat × List UInt8) := [(0, [1, 4]), (256, [1, 8]), (520, [23, 12]), (528, [23, 16])]
def exL4 : List (Nat × List UInt8) := [(0, [1, 4]), (256, [1, 8]), (520, [23, 12]), (528, [23, 16]), (1012, exAbc)]
def exL5 : List (Nat × List UInt8) := [(0, [1, 4]), (256, [1, 8]), (520, [23, 12]), (528, [23, 16]), (1012, exAbc), (1280, [1, 24]), (1536, [1, 28]), (1800, [23, 32]), (1808, [23, 36]), (2292, exAbc)]
def exL6 : List (Nat × List UInt8) := [(1280, [1, 24]), (1536, [1, 28]), (1800, [23, 32]), (1808, [23, 36]), (2292, exAbc)]
def ex0 : Sp := exZ 0 []
def ex1 : Sp := exZ 1 []
def ex2 : Sp := exZ 4 exL2
def ex3 : Sp := exZ 5 exL3
def ex4 : Sp := exZ 5 exL4
def ex5 : Sp := exZ 10 exL5
def ex6 : Sp := ⟨List.replicate 5 true ++ (List.replicate 5 false ++ List.replicate 6 true), layB 0 exL6⟩
theorem e01 : takeN ex0.L 0 = 0 ∧ takeE ex0.L 0 = 0 ∧ (takeX 0 ex0).L = ex1.L ∧ (takeX 0 ex0).s = ex1.s := by decide +kernel
theorem e12 : mapE 0 ex1 0 1 23 = 0 ∧ (mapX 0 ex1 0 1 23).L = ex2.L ∧ (mapX 0 ex1 0 1 23).s = ex2.s := by decide +kernel
theorem e23 : mapE 0 ex2 0 2 23 = 0 ∧ (mapX 0 ex2 0 2 23).L = ex3.L ∧ (mapX 0 ex2 0 2 23).s = ex3.s := by decide +kernel
theorem e34 : outErr 0 ex3 0 500 exS = 0 ∧ (outSt 0 ex3 0 500 exS).L = ex4.L ∧ (outSt 0 ex3 0 500 exS).s = ex4.s := by decide +kernel
theorem e44 : outErr 0 ex4 0 760 exS = 3 ∧ (outSt 0 ex4 0 760 exS).L = ex4.L ∧ (outSt 0 ex4 0 760 exS).s = ex4.s := by decide +kernel
theorem e45 : copyN 0 ex4 0 = 5 ∧ copyE 0 ex4 0 = 0 ∧ (copyW 0 ex4 0).L = ex5.L ∧ (copyW 0 ex4 0).s = ex5.s := by decide +kernel
theorem e55 : (inV 0 ex5 5 510 3).data = #[107, 108, 0] ∧ inE 0 ex5 5 510 3 = 0 := by decide +kernel
theorem e56 : tknB ex5.L 0 0 = true ∧ (freeX 0 ex5 0).L = ex6.L ∧ (freeX 0 ex5 0).s = ex6.s ∧ leftX 0 ex6 = 11 := by decide +kernel
end Go.Proofs.Ytbcnibnkojnpiaa.P
