/- Stage 5: lr of a step. No condition. -/
import Derived.Test.YtngeabphjdfdgaaDoorHG
import Derived.Test.YtngeabphjdfdgaaDoorW10
set_option linter.unusedVariables false
set_option linter.unusedSimpArgs false
set_option maxRecDepth 100000
namespace Go.Proofs.YtngeabphjdfdgaaDoor.P
open Go.RowKit Go.MuLone Go.Proofs.YtngeabphjdfdgaaDoor.W
set_option maxHeartbeats 3200000 in
theorem o_lr {w0 w : World} {sb mb rb b fr : Nat} {r : Int} {s : List UInt8} {op : Int} {rd i1 i2 : Nat} {im : Int} {x y m : Int} {A : HS} {R : Asn} (h : Own w0 w (cxA sb mb rb b fr r s ⟨op, rd, i1, i2, im⟩ x y m A e0 R)) (hR : Stable R) (hrd : rd < 32) (n v q : Int) (e1 : EvS) (hv : word v) (hC : ∀ w1, Own w0 w1 (cxA sb mb rb b fr r s ⟨op, rd, i1, i2, im⟩ x y m A e0 R) → Calls Tryd.prog 22 #[.int .u64 x, .int .i64 n, .pointer (some ⟨mb, 0, none⟩), .pointer (some ⟨rb, 0, none⟩), .pointer (some ⟨sb, 0, none⟩)] w1 fun e' w' => e' = .returned (.tuple #[.int .u64 v, .int .u64 q]) ∧ Own w0 w' (cxA sb mb rb b fr r s ⟨op, rd, i1, i2, im⟩ x y m A e1 R)) (hop : (op = 66 ∧ n = 4) ∨ (op = 77 ∧ n = 8)) :
    Calls Tryd.prog 45 #[.pointer (some ⟨sb, 0, none⟩), .pointer (some ⟨b, 0, none⟩), .int .i64 r] w fun e' w' => e' = .returned (.tuple #[]) ∧ Own w0 w' (cxA sb mb rb b fr r s ⟨op, rd, i1, i2, im⟩ x y m { A.set rd (sgnF v (8 * n)) with hd := true, at_ := q } e1 R) := by
  have c0 := blk_cell h.blk 0 (v := .int .i64 op) rfl
  have c5 := blk_cell h.blk 5 (v := .int .u64 x) rfl
  have c46 := blk_cell h.blk 46 (v := ldV mb rb sb) rfl
  have HSS := Lib.hid (stable_star (stable_blk sb (.cells (sC ⟨op, rd, i1, i2, im⟩ x y m A e0 (ldV mb rb sb) (stV mb rb sb)) 69)) (stable_star (stable_mem b fr s) (stable_box mb rb b r hR)))
  have HS := Lib.hid (stable_star (stable_mem b fr s) (stable_box mb rb b r hR))
  have HC := Lib.hid hC
  have H0 := Lib.hid h
  clear h hC
  have k0 : IntKind.i64.wrap 0 = 0 := by decide
  have k4 : IntKind.i64.wrap 4 = 4 := by decide
  have k8 : IntKind.i64.wrap 8 = 8 := by decide
  have k32 : IntKind.i64.wrap 32 = 32 := by decide
  have k64 : IntKind.i64.wrap 64 = 64 := by decide
  have CS := Lib.hid (fun n w1 => c_sign v n hv w1)
  rcases hop with ⟨rfl, rfl⟩ | ⟨rfl, rfl⟩
  all_goals
    go_enter Tryd.func45, Tryd.ntmps45
    go_wp2_with fail
    first | (go_region_with (go_at_call 22; refine (HC.out _ (by first | exact H0.out.drew HSS.out | exact (H0.out.drew HSS.out).drew HSS.out | exact H0.out)).mono ?_; rintro e' w3 ⟨rfl, h3⟩; have H3 := Lib.hid h3; skip; clear h3)) | fail
    all_goals
      go_wp2_with (first
        | (go_at_call 55; refine (CS.out _ _).mono ?_; rintro e' w4 ⟨rfl, rfl⟩)
        | (go_at_call 40; refine (o_set H3.out HS.out hrd _).mono ?_; rintro e' w5 ⟨rfl, h5⟩; have H5 := Lib.hid h5; have c41 := blk_cell h5.blk 41 (v := .bool A.hd) rfl; have c42 := blk_cell h5.blk 42 (v := .int .u64 A.at_) rfl; have f41 := blk_frozen h5.blk 41; have f42 := blk_frozen h5.blk 42; clear h5))
      go_end0
      exact ⟨rfl, (H5.out.set HS.out 41 (.bool true)).set HS.out 42 (.int .u64 q)⟩
end Go.Proofs.YtngeabphjdfdgaaDoor.P
