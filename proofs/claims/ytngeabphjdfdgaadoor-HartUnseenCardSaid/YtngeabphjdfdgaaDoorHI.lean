/- Stage 5: whether a branch is taken. No condition. -/
import Derived.Test.YtngeabphjdfdgaaDoorHD
import Derived.Laws.BitsLemmas
set_option linter.unusedVariables false
set_option linter.unusedSimpArgs false
set_option maxRecDepth 100000
namespace Go.Proofs.YtngeabphjdfdgaaDoor.P
open Go.RowKit Go.MuLone Go.Proofs.YtngeabphjdfdgaaDoor.W
theorem ge_not (x y : Int) : decide (y ≤ x) = !decide (x < y) := by
  by_cases h : x < y
  · rw [decide_eq_true h, decide_eq_false (by omega)]; rfl
  · rw [decide_eq_false h, decide_eq_true (by omega)]; rfl
set_option maxHeartbeats 1600000 in
theorem o_holds {w0 w : World} {sb : Nat} {I : InS} {a b m : Int} {A : HS} {e : EvS} {ld st : Value} {R : Asn} (h : Own w0 w (Star (stA sb I a b m A e ld st) R)) (hR : Stable R) (ha : word a) (hb : word b) (hop : 5 ≤ I.op ∧ I.op ≤ 10) :
    Calls Tryd.prog 42 #[.pointer (some ⟨sb, 0, none⟩)] w fun e' w' => e' = .returned (.bool (holdF I.op a b)) ∧ Own w0 w' (Star (stA sb I a b m A e ld st) R) := by
  have c0 := blk_cell h.blk 0 (v := .int .i64 I.op) rfl
  have c5 := blk_cell h.blk 5 (v := .int .u64 a) rfl
  have c6 := blk_cell h.blk 6 (v := .int .u64 b) rfl
  have HD := Lib.hid (h.gr (stable_star (stable_blk _ _) hR) (gr_dN2 w 1))
  have HS := Lib.hid h
  have wa : IntKind.i64.wrap a = s64 a := by rw [IntKind.wrap_i64]; unfold s64; obtain ⟨u0, u1⟩ := ha; split <;> omega
  have wb : IntKind.i64.wrap b = s64 b := by rw [IntKind.wrap_i64]; unfold s64; obtain ⟨u0, u1⟩ := hb; split <;> omega
  clear h
  generalize I.op = op at *
  have hx : op = 5 ∨ op = 6 ∨ op = 7 ∨ op = 8 ∨ op = 9 ∨ op = 10 := by omega
  clear hop
  rcases hx with rfl | rfl | rfl | rfl | rfl | rfl
  all_goals
    go_enter Tryd.func42, Tryd.ntmps42
    go_wp2_with fail
    first | (go_region_with fail) | fail
    all_goals go_wp2_with fail
    all_goals go_ret
    all_goals exact ⟨ret_b (by first | rfl | exact ge_not _ _), HD.out⟩
end Go.Proofs.YtngeabphjdfdgaaDoor.P
