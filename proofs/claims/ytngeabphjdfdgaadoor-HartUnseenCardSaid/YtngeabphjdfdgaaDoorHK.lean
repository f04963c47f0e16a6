/- Stage 5: the other instructions of form A of a step. No condition. -/
import Derived.Test.YtngeabphjdfdgaaDoorHG
import Derived.Test.YtngeabphjdfdgaaDoorW10
set_option linter.unusedVariables false
set_option linter.unusedSimpArgs false
set_option maxRecDepth 100000
namespace Go.Proofs.YtngeabphjdfdgaaDoor.P
open Go.RowKit Go.MuLone Go.Proofs.YtngeabphjdfdgaaDoor.W
set_option maxHeartbeats 3200000 in
theorem o_am_ok {w0 w : World} {sb mb rb b fr : Nat} {r : Int} {s : List UInt8} {op : Int} {rd i1 i2 : Nat} {im : Int} {x y m : Int} {A : HS} {R : Asn} (h : Own w0 w (cxA sb mb rb b fr r s ⟨op, rd, i1, i2, im⟩ x y m A e0 R)) (hR : Stable R) (hrd : rd < 32) (n v q : Int) (e2 : EvS) (s2 : List UInt8) (hv : word v) (hy : word y) (hC : ∀ w1, Own w0 w1 (cxA sb mb rb b fr r s ⟨op, rd, i1, i2, im⟩ x y m A e0 R) → Calls Tryd.prog 22 #[.int .u64 x, .int .i64 n, .pointer (some ⟨mb, 0, none⟩), .pointer (some ⟨rb, 0, none⟩), .pointer (some ⟨sb, 0, none⟩)] w1 fun e' w' => e' = .returned (.tuple #[.int .u64 v, .int .u64 q]) ∧ Own w0 w' (cxA sb mb rb b fr r s ⟨op, rd, i1, i2, im⟩ x y m A e0 R)) (hD : ∀ w1, Own w0 w1 (cxA sb mb rb b fr r s ⟨op, rd, i1, i2, im⟩ x y m A e0 R) → Calls Tryd.prog 23 #[.int .u64 x, .int .i64 n, .int .u64 (amoV op v y), .pointer (some ⟨mb, 0, none⟩), .pointer (some ⟨rb, 0, none⟩), .pointer (some ⟨sb, 0, none⟩)] w1 fun e' w' => e' = .returned (.tuple #[]) ∧ Own w0 w' (cxA sb mb rb b fr r s2 ⟨op, rd, i1, i2, im⟩ x y m A e2 R)) (hop : (68 ≤ op ∧ op ≤ 76 ∧ n = 4) ∨ (79 ≤ op ∧ op ≤ 87 ∧ n = 8)) :
    Calls Tryd.prog 45 #[.pointer (some ⟨sb, 0, none⟩), .pointer (some ⟨b, 0, none⟩), .int .i64 r] w fun e' w' => e' = .returned (.tuple #[]) ∧ Own w0 w' (cxA sb mb rb b fr r s2 ⟨op, rd, i1, i2, im⟩ x y m (A.set rd (sgnF v (8 * n))) e2 R) := by
  have c0 := blk_cell h.blk 0 (v := .int .i64 op) rfl
  have c5 := blk_cell h.blk 5 (v := .int .u64 x) rfl
  have c46 := blk_cell h.blk 46 (v := ldV mb rb sb) rfl
  have HSS := Lib.hid (stable_star (stable_blk sb (.cells (sC ⟨op, rd, i1, i2, im⟩ x y m A e0 (ldV mb rb sb) (stV mb rb sb)) 69)) (stable_star (stable_mem b fr s) (stable_box mb rb b r hR)))
  have HS := Lib.hid (stable_star (stable_mem b fr s2) (stable_box mb rb b r hR))
  have HC := Lib.hid hC
  have HDD := Lib.hid hD
  have H0 := Lib.hid h
  have CA := Lib.hid (fun w1 => c_amo op v y hv hy w1)
  generalize amoV op v y = u at *
  generalize amoB op = ub at *
  clear h hC hD
  have k0 : IntKind.i64.wrap 0 = 0 := by decide
  have k4 : IntKind.i64.wrap 4 = 4 := by decide
  have k8 : IntKind.i64.wrap 8 = 8 := by decide
  have k32 : IntKind.i64.wrap 32 = 32 := by decide
  have k64 : IntKind.i64.wrap 64 = 64 := by decide
  have CS := Lib.hid (fun n w1 => c_sign v n hv w1)
  have f1 : (op == 66) = false := by simp; omega
  have f2 : (op == 77) = false := by simp; omega
  have f3 : (op == 67) = false := by simp; omega
  have f4 : (op == 78) = false := by simp; omega
  have hop2 : (¬ 77 ≤ op ∧ n = 4) ∨ (77 ≤ op ∧ n = 8) := by omega
  clear hop
  rcases hop2 with ⟨hq, rfl⟩ | ⟨hq, rfl⟩
  all_goals
    go_enter Tryd.func45, Tryd.ntmps45
    go_wp2_with fail
    first | (go_region_with (go_at_call 22; refine (HC.out _ (by first | exact H0.out.drew HSS.out | exact (H0.out.drew HSS.out).drew HSS.out | exact H0.out)).mono ?_; rintro e' w3 ⟨rfl, h3⟩; have H3 := Lib.hid h3; have c43 := blk_cell h3.blk 43 (v := .int .i64 0) rfl; have c6 := blk_cell h3.blk 6 (v := .int .u64 y) rfl; have c5 := blk_cell h3.blk 5 (v := .int .u64 x) rfl; have c47 := blk_cell h3.blk 47 (v := stV mb rb sb) rfl; clear h3)) | fail
    all_goals
      go_wp2_with (go_at_call 61; refine (CA.out _).mono ?_; rintro e' w4 ⟨rfl, rfl⟩)
      go_still_tail 10, (by kernel_rfl)
      go_wp2_with (first
        | (go_at_call 23; refine (HDD.out _ (H3.out.drew HSS.out)).mono ?_; rintro e' w6 ⟨rfl, h6⟩; have H6 := Lib.hid h6; clear h6)
        | (go_at_call 55; refine (CS.out _ _).mono ?_; rintro e' w4 ⟨rfl, rfl⟩)
        | (go_at_call 40; refine (o_set H6.out HS.out hrd _).mono ?_; rintro e' w5 ⟨rfl, h5⟩; have H5 := Lib.hid h5; skip; clear h5))
      go_end0
      exact ⟨rfl, H5.out⟩
set_option maxHeartbeats 3200000 in
theorem o_am_no {w0 w : World} {sb mb rb b fr : Nat} {r : Int} {s : List UInt8} {op : Int} {rd i1 i2 : Nat} {im : Int} {x y m : Int} {A : HS} {R : Asn} (h : Own w0 w (cxA sb mb rb b fr r s ⟨op, rd, i1, i2, im⟩ x y m A e0 R)) (hR : Stable R) (hrd : rd < 32) (n v q : Int) (e1 : EvS) (he1 : e1.k ≠ 0) (hC : ∀ w1, Own w0 w1 (cxA sb mb rb b fr r s ⟨op, rd, i1, i2, im⟩ x y m A e0 R) → Calls Tryd.prog 22 #[.int .u64 x, .int .i64 n, .pointer (some ⟨mb, 0, none⟩), .pointer (some ⟨rb, 0, none⟩), .pointer (some ⟨sb, 0, none⟩)] w1 fun e' w' => e' = .returned (.tuple #[.int .u64 v, .int .u64 q]) ∧ Own w0 w' (cxA sb mb rb b fr r s ⟨op, rd, i1, i2, im⟩ x y m A e1 R)) (hop : (68 ≤ op ∧ op ≤ 76 ∧ n = 4) ∨ (79 ≤ op ∧ op ≤ 87 ∧ n = 8)) :
    Calls Tryd.prog 45 #[.pointer (some ⟨sb, 0, none⟩), .pointer (some ⟨b, 0, none⟩), .int .i64 r] w fun e' w' => e' = .returned (.tuple #[]) ∧ Own w0 w' (cxA sb mb rb b fr r s ⟨op, rd, i1, i2, im⟩ x y m A { e1 with k := 6 } R) := by
  have c0 := blk_cell h.blk 0 (v := .int .i64 op) rfl
  have c5 := blk_cell h.blk 5 (v := .int .u64 x) rfl
  have c46 := blk_cell h.blk 46 (v := ldV mb rb sb) rfl
  have HSS := Lib.hid (stable_star (stable_blk sb (.cells (sC ⟨op, rd, i1, i2, im⟩ x y m A e0 (ldV mb rb sb) (stV mb rb sb)) 69)) (stable_star (stable_mem b fr s) (stable_box mb rb b r hR)))
  have HS := Lib.hid (stable_star (stable_mem b fr s) (stable_box mb rb b r hR))
  have HC := Lib.hid hC
  have H0 := Lib.hid h
  have hk : (e1.k != 0) = true := by simpa using he1
  clear h hC he1
  have k0 : IntKind.i64.wrap 0 = 0 := by decide
  have k4 : IntKind.i64.wrap 4 = 4 := by decide
  have k8 : IntKind.i64.wrap 8 = 8 := by decide
  have k32 : IntKind.i64.wrap 32 = 32 := by decide
  have k64 : IntKind.i64.wrap 64 = 64 := by decide
  have f1 : (op == 66) = false := by simp; omega
  have f2 : (op == 77) = false := by simp; omega
  have f3 : (op == 67) = false := by simp; omega
  have f4 : (op == 78) = false := by simp; omega
  have hop2 : (¬ 77 ≤ op ∧ n = 4) ∨ (77 ≤ op ∧ n = 8) := by omega
  clear hop
  rcases hop2 with ⟨hq, rfl⟩ | ⟨hq, rfl⟩
  all_goals
    go_enter Tryd.func45, Tryd.ntmps45
    go_wp2_with fail
    first | (go_region_with (go_at_call 22; refine (HC.out _ (by first | exact H0.out.drew HSS.out | exact (H0.out.drew HSS.out).drew HSS.out | exact H0.out)).mono ?_; rintro e' w3 ⟨rfl, h3⟩; have H3 := Lib.hid h3; have c43 := blk_cell h3.blk 43 (v := .int .i64 e1.k) rfl; have f43 := blk_frozen h3.blk 43; clear h3)) | fail
    all_goals
      go_wp2_with fail
      refine bodyPost_ret (results_none rfl _ _ _) rfl ?_
      exact ⟨rfl, H3.out.set HS.out 43 (.int .i64 6)⟩
end Go.Proofs.YtngeabphjdfdgaaDoor.P
