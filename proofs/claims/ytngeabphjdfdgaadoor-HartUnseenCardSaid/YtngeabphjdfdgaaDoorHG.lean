/- Stage 5: loads of a step into a register. No condition. -/
import Derived.Test.YtngeabphjdfdgaaDoorHF
import Derived.Test.YtngeabphjdfdgaaDoorW4
set_option linter.unusedVariables false
set_option linter.unusedSimpArgs false
set_option maxRecDepth 100000
namespace Go.Proofs.YtngeabphjdfdgaaDoor.P
open Go.RowKit Go.MuLone Go.Proofs.YtngeabphjdfdgaaDoor.W
theorem loadV_word (s : List UInt8) (p n : Int) : W.word (loadV s p n) := by
  unfold loadV
  split
  · split
    · exact W.ofF_word _
    · exact ⟨by decide, by decide⟩
  · exact ⟨by decide, by decide⟩
set_option maxHeartbeats 3200000 in
theorem o_move_ld {w0 w : World} {sb mb rb b fr : Nat} {r : Int} {s : List UInt8} {op : Int} {rd i1 i2 : Nat} {im : Int} {x y m : Int} {A : HS} {R : Asn} (h : Own w0 w (cxA sb mb rb b fr r s ⟨op, rd, i1, i2, im⟩ x y m A e0 R)) (hR : Stable R) (hrd : rd < 32) (n p v q : Int) (e1 : EvS) (hp : w64 (x + m) = p) (hv : word v)
    (hC : ∀ w1, Own w0 w1 (cxA sb mb rb b fr r s ⟨op, rd, i1, i2, im⟩ x y m A e0 R) → Calls Tryd.prog 22 #[.int .u64 p, .int .i64 n, .pointer (some ⟨mb, 0, none⟩), .pointer (some ⟨rb, 0, none⟩), .pointer (some ⟨sb, 0, none⟩)] w1 fun e' w' => e' = .returned (.tuple #[.int .u64 v, .int .u64 q]) ∧ Own w0 w' (cxA sb mb rb b fr r s ⟨op, rd, i1, i2, im⟩ x y m A e1 R))
    (hop : (op = 11 ∧ n = 1) ∨ (op = 12 ∧ n = 2) ∨ (op = 13 ∧ n = 4) ∨ (op = 14 ∧ n = 8) ∨ (op = 15 ∧ n = 1) ∨ (op = 16 ∧ n = 2) ∨ (op = 17 ∧ n = 4)) :
    Calls Tryd.prog 43 #[.pointer (some ⟨sb, 0, none⟩)] w fun e' w' => e' = .returned (.tuple #[]) ∧ Own w0 w' (cxA sb mb rb b fr r s ⟨op, rd, i1, i2, im⟩ x y m (A.set rd (if op ≤ 14 then sgnF v (8 * n) else v)) e1 R) := by
  have hS := stable_star (stable_blk sb (.cells (sC ⟨op, rd, i1, i2, im⟩ x y m A e0 (ldV mb rb sb) (stV mb rb sb)) 69)) (stable_star (stable_mem b fr s) (stable_box mb rb b r hR))
  have c0 := blk_cell h.blk 0 (v := .int .i64 op) rfl
  have c5 := blk_cell h.blk 5 (v := .int .u64 x) rfl
  have c7 := blk_cell h.blk 7 (v := .int .u64 m) rfl
  have c46 := blk_cell h.blk 46 (v := ldV mb rb sb) rfl
  have HN := Lib.hid (fun n => h.gr hS (gr_dN2 w n))
  have HS := Lib.hid (stable_star (stable_mem b fr s) (stable_box mb rb b r hR))
  have HC := Lib.hid hC
  have hw : IntKind.u64.wrap (x + m) = p := by rw [w64_wrap, hp]
  clear h hp hS hC
  have k0 : IntKind.i64.wrap 0 = 0 := by decide
  have k1 : IntKind.i64.wrap 1 = 1 := by decide
  have k2 : IntKind.i64.wrap 2 = 2 := by decide
  have k3 : IntKind.i64.wrap 3 = 3 := by decide
  have k4 : IntKind.i64.wrap 4 = 4 := by decide
  have k5 : IntKind.i64.wrap 5 = 5 := by decide
  have k6 : IntKind.i64.wrap 6 = 6 := by decide
  have k8 : IntKind.i64.wrap 8 = 8 := by decide
  have CS := Lib.hid (fun n w1 => c_sign v n hv w1)
  rcases hop with ⟨rfl, rfl⟩ | ⟨rfl, rfl⟩ | ⟨rfl, rfl⟩ | ⟨rfl, rfl⟩ | ⟨rfl, rfl⟩ | ⟨rfl, rfl⟩ | ⟨rfl, rfl⟩
  all_goals
    go_enter Tryd.func43, Tryd.ntmps43
    go_wp2_with fail
    go_quiet (fail)
    go_wp2_with fail
    have H2 := Lib.hid (HN.out nq)
    have c46 : (w.drewN nq).cell? ⟨sb, 46, none⟩ = _ := c46
    clear HN
    generalize w.drewN nq = w2 at *
    go_wp2_with (first
      | (go_at_call 22; refine (HC.out _ H2.out).mono ?_; rintro e' w3 ⟨rfl, h3⟩; have H3 := Lib.hid h3; clear h3)
      | (go_at_call 55; refine (CS.out _ _).mono ?_; rintro e' w4 ⟨rfl, rfl⟩)
      | (go_at_call 40; refine (o_set H3.out HS.out hrd _).mono ?_; rintro e' w5 ⟨rfl, h5⟩; have H5 := Lib.hid h5; clear h5))
    go_end0
    exact ⟨rfl, H5.out⟩
end Go.Proofs.YtngeabphjdfdgaaDoor.P
