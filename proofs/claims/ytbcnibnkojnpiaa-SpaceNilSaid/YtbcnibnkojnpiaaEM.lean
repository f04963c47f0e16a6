/- Stage 11: In, Out, Text, whatever comes. No condition. -/
import Derived.Test.YtbcnibnkojnpiaaEL
set_option linter.unusedVariables false
namespace Go.Proofs.Ytbcnibnkojnpiaa.P
open Go.RowKit Go.MuLone Go.Maps
variable {w0 w : World} {pb b first : Nat} {z : Sp} {R : Asn}
def outErr (fi : Nat) (z : Sp) (r a : Int) (s : ByteArray) : Int := bif movedBad fi z r s.size then 1 else bif decide (outC z r a s.size = 0) then (outW z r a s).2 else outC z r a s.size
def outSt (fi : Nat) (z : Sp) (r a : Int) (s : ByteArray) : Sp := bif movedBad fi z r s.size then z else bif decide (outC z r a s.size = 0) then (outW z r a s).1 else z
theorem o_out (h : Own w0 w (Star (plA pb b first z.L z.s) R)) (hR : Stable R) (r a : Int) (s : ByteArray) (hr : i64 r) (ha : u64 a) (hs : s.size ≤ 9223372036854775807) (e : Int) (z' : Sp) (he : outErr first z r a s = e) (hz : outSt first z r a s = z') :
    Calls Try.prog 15 #[.pointer (some ⟨pb, 0, none⟩), .int .i64 r, .int .u64 a, .string s] w fun x w' => x = .returned (.int .i64 e) ∧ Own w0 w' (Star (plA pb b first z'.L z'.s) R) := by
  subst he; subst hz
  unfold outErr outSt
  cases hb : movedBad first z r s.size with
  | true => exact o_out_bad h hR r a s hr hs hb
  | false => exact o_out_go h hR r a s hr ha hb _ _ _ rfl (fun _ => rfl)
theorem o_in (h : Own w0 w (Star (plA pb b first z.L z.s) R)) (hR : Stable R) (r a n : Int) (hr : i64 r) (ha : u64 a) (v : ByteArray) (e : Int) (hv : inV first z r a n = v) (he : inE first z r a n = e) :
    Calls Try.prog 14 #[.pointer (some ⟨pb, 0, none⟩), .int .i64 r, .int .u64 a, .int .i64 n] w fun x w' => x = .returned (.tuple #[.string v, .int .i64 e]) ∧ Own w0 w' (Star (plA pb b first z.L z.s) R) := by
  subst hv; subst he
  unfold inV inE
  cases hb : movedBad first z r n with
  | true => exact o_in_bad h hR r a n hr hb
  | false => exact o_in_go h hR r a n hr ha hb _ _ rfl
def textE (fi : Nat) (z : Sp) (r a n : Int) : Int := bif movedBad fi z r n then 1 else (textX z r a (n.toNat + 1) 0 []).2
def textV (fi : Nat) (z : Sp) (r a n : Int) : ByteArray := bif movedBad fi z r n then ⟨#[]⟩ else (textX z r a (n.toNat + 1) 0 []).1
theorem o_text (h : Own w0 w (Star (plA pb b first z.L z.s) R)) (hR : Stable R) (r a n : Int) (hr : i64 r) (ha : u64 a) (v : ByteArray) (e : Int) (hv : textV first z r a n = v) (he : textE first z r a n = e) :
    Calls Try.prog 16 #[.pointer (some ⟨pb, 0, none⟩), .int .i64 r, .int .u64 a, .int .i64 n] w fun x w' => x = .returned (.tuple #[.string v, .int .i64 e]) ∧ Own w0 w' (Star (plA pb b first z.L z.s) R) := by
  subst hv; subst he
  unfold textV textE
  cases hb : movedBad first z r n with
  | true => exact o_text_bad h hR r a n hr hb
  | false =>
    obtain ⟨m, rfl⟩ : ∃ m : Nat, n = (m : Int) := by
      refine ⟨n.toNat, ?_⟩
      unfold movedBad at hb
      simp only [Bool.or_eq_false_iff, decide_eq_false_iff_not] at hb
      omega
    rw [Int.toNat_natCast]
    exact o_text_go h hR r a m hr ha hb _ _ rfl
end Go.Proofs.Ytbcnibnkojnpiaa.P
