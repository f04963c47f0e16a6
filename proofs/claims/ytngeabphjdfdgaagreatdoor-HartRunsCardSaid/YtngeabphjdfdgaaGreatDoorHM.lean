/- Stage 5: lr of a step. No condition. -/
import Derived.Test.YtngeabphjdfdgaaGreatDoorHG
import Derived.Test.YtngeabphjdfdgaaGreatDoorW11
set_option linter.unusedVariables false
set_option linter.unusedSimpArgs false
set_option maxRecDepth 100000
namespace Go.Proofs.YtngeabphjdfdgaaGreatDoor.P
open Go.RowKit Go.MuLone Go.Proofs.YtngeabphjdfdgaaGreatDoor.W
set_option maxHeartbeats 3200000 in
theorem o_lr {w0 w : World} {sb mb rb b fr : Nat} {r : Int} {s : List UInt8} {op : Int} {rd i1 i2 : Nat} {im : Int} {x y m : Int} {A : HS} {R : Asn} (h : Own w0 w (cxA sb mb rb b fr r s ⟨op, rd, i1, i2, im⟩ x y m A e0 R)) (hR : Stable R) (hrd : rd < 32) (n v q : Int) (e1 : EvS) (hv : word v) (hC : ∀ w1, Own w0 w1 (cxA sb mb rb b fr r s ⟨op, rd, i1, i2, im⟩ x y m A e0 R) → Calls Tryz.prog 19 #[.int .u64 x, .int .i64 n, .pointer (some ⟨mb, 0, none⟩), .pointer (some ⟨rb, 0, none⟩), .pointer (some ⟨sb, 0, none⟩)] w1 fun e' w' => e' = .returned (.tuple #[.int .u64 v, .int .u64 q]) ∧ Own w0 w' (cxA sb mb rb b fr r s ⟨op, rd, i1, i2, im⟩ x y m A e1 R)) (hop : (op = 66 ∧ n = 4) ∨ (op = 77 ∧ n = 8)) :
    Calls Tryz.prog 46 #[.pointer (some ⟨sb, 0, none⟩), .pointer (some ⟨b, 0, none⟩), .int .i64 r] w fun e' w' => e' = .returned (.tuple #[]) ∧ Own w0 w' (cxA sb mb rb b fr r s ⟨op, rd, i1, i2, im⟩ x y m { A.set rd (sgnF v (8 * n)) with hd := true, at_ := q } e1 R) := by
  have c0 := blk_cell h.blk 0 (v := .int .i64 op) rfl
  have c5 := blk_cell h.blk 5 (v := .int .u64 x) rfl
  have c46 := blk_cell h.blk 46 (v := ldV mb rb sb) rfl
  have HSS := Lib.hid (stable_star (stable_blk sb (.cells (sC ⟨op, rd, i1, i2, im⟩ x y m A e0 (ldV mb rb sb) (stV mb rb sb)) 67)) (stable_star (stable_mem b fr s) (stable_box mb rb b r hR)))
  have HS := Lib.hid (stable_star (stable_mem b fr s) (stable_box mb rb b r hR))
  have HC := Lib.hid hC
  have H0 := Lib.hid h
  clear h hC
  have k0 : IntKind.i64.wrap 0 = 0 := by decide
  have k4 : IntKind.i64.wrap 4 = 4 := by decide
  have k8 : IntKind.i64.wrap 8 = 8 := by decide
  have k32 : IntKind.i64.wrap 32 = 32 := by decide
  have k64 : IntKind.i64.wrap 64 = 64 := by decide
  have CS := Lib.hid (fun n w1 => c_sign v n hv w1)
  rcases hop with ⟨rfl, rfl⟩ | ⟨rfl, rfl⟩
  all_goals
    go_enter Tryz.func46, Tryz.ntmps46
    go_wp2_with fail
    first | (go_region_with (go_at_call 19; refine (HC.out _ (by first | exact H0.out.drew HSS.out | exact (H0.out.drew HSS.out).drew HSS.out | exact H0.out)).mono ?_; rintro e' w3 ⟨rfl, h3⟩; have H3 := Lib.hid h3; skip; clear h3)) | fail
    all_goals
      go_wp2_with (first
        | (go_at_call 63; refine (CS.out _ _).mono ?_; rintro e' w4 ⟨rfl, rfl⟩)
        | (go_at_call 41; refine (o_set H3.out HS.out hrd _).mono ?_; rintro e' w5 ⟨rfl, h5⟩; have H5 := Lib.hid h5; have c41 := blk_cell h5.blk 41 (v := .bool A.hd) rfl; have c42 := blk_cell h5.blk 42 (v := .int .u64 A.at_) rfl; have f41 := blk_frozen h5.blk 41; have f42 := blk_frozen h5.blk 42; clear h5))
      go_end0
      exact ⟨rfl, (H5.out.set HS.out 41 (.bool true)).set HS.out 42 (.int .u64 q)⟩
end Go.Proofs.YtngeabphjdfdgaaGreatDoor.P
namespace Go.Proofs.YtngeabphjdfdgaaGreatDoor.P
open Go.RowKit Go.MuLone Go.Proofs.YtngeabphjdfdgaaGreatDoor.W
set_option maxHeartbeats 3200000 in
theorem o_am_ok {w0 w : World} {sb mb rb b fr : Nat} {r : Int} {s : List UInt8} {op : Int} {rd i1 i2 : Nat} {im : Int} {x y m : Int} {A : HS} {R : Asn} (h : Own w0 w (cxA sb mb rb b fr r s ⟨op, rd, i1, i2, im⟩ x y m A e0 R)) (hR : Stable R) (hrd : rd < 32) (n v q : Int) (e2 : EvS) (s2 : List UInt8) (hv : word v) (hy : word y) (hC : ∀ w1, Own w0 w1 (cxA sb mb rb b fr r s ⟨op, rd, i1, i2, im⟩ x y m A e0 R) → Calls Tryz.prog 19 #[.int .u64 x, .int .i64 n, .pointer (some ⟨mb, 0, none⟩), .pointer (some ⟨rb, 0, none⟩), .pointer (some ⟨sb, 0, none⟩)] w1 fun e' w' => e' = .returned (.tuple #[.int .u64 v, .int .u64 q]) ∧ Own w0 w' (cxA sb mb rb b fr r s ⟨op, rd, i1, i2, im⟩ x y m A e0 R)) (hD : ∀ w1, Own w0 w1 (cxA sb mb rb b fr r s ⟨op, rd, i1, i2, im⟩ x y m A e0 R) → Calls Tryz.prog 20 #[.int .u64 x, .int .i64 n, .int .u64 (amoV op v y), .pointer (some ⟨mb, 0, none⟩), .pointer (some ⟨rb, 0, none⟩), .pointer (some ⟨sb, 0, none⟩)] w1 fun e' w' => e' = .returned (.tuple #[]) ∧ Own w0 w' (cxA sb mb rb b fr r s2 ⟨op, rd, i1, i2, im⟩ x y m A e2 R)) (hop : (68 ≤ op ∧ op ≤ 76 ∧ n = 4) ∨ (79 ≤ op ∧ op ≤ 87 ∧ n = 8)) :
    Calls Tryz.prog 46 #[.pointer (some ⟨sb, 0, none⟩), .pointer (some ⟨b, 0, none⟩), .int .i64 r] w fun e' w' => e' = .returned (.tuple #[]) ∧ Own w0 w' (cxA sb mb rb b fr r s2 ⟨op, rd, i1, i2, im⟩ x y m (A.set rd (sgnF v (8 * n))) e2 R) := by
  have c0 := blk_cell h.blk 0 (v := .int .i64 op) rfl
  have c5 := blk_cell h.blk 5 (v := .int .u64 x) rfl
  have c46 := blk_cell h.blk 46 (v := ldV mb rb sb) rfl
  have HSS := Lib.hid (stable_star (stable_blk sb (.cells (sC ⟨op, rd, i1, i2, im⟩ x y m A e0 (ldV mb rb sb) (stV mb rb sb)) 67)) (stable_star (stable_mem b fr s) (stable_box mb rb b r hR)))
  have HS := Lib.hid (stable_star (stable_mem b fr s2) (stable_box mb rb b r hR))
  have HC := Lib.hid hC
  have HDD := Lib.hid hD
  have H0 := Lib.hid h
  have CA := Lib.hid (fun w1 => c_amo op v y hv hy w1)
  generalize amoV op v y = u at *
  generalize amoB op = ub at *
  clear h hC hD
  have k0 : IntKind.i64.wrap 0 = 0 := by decide
  have k4 : IntKind.i64.wrap 4 = 4 := by decide
  have k8 : IntKind.i64.wrap 8 = 8 := by decide
  have k32 : IntKind.i64.wrap 32 = 32 := by decide
  have k64 : IntKind.i64.wrap 64 = 64 := by decide
  have CS := Lib.hid (fun n w1 => c_sign v n hv w1)
  have f1 : (op == 66) = false := by simp; omega
  have f2 : (op == 77) = false := by simp; omega
  have f3 : (op == 67) = false := by simp; omega
  have f4 : (op == 78) = false := by simp; omega
  have hop2 : (¬ 77 ≤ op ∧ n = 4) ∨ (77 ≤ op ∧ n = 8) := by omega
  clear hop
  rcases hop2 with ⟨hq, rfl⟩ | ⟨hq, rfl⟩
  all_goals
    go_enter Tryz.func46, Tryz.ntmps46
    go_wp2_with fail
    first | (go_region_with (go_at_call 19; refine (HC.out _ (by first | exact H0.out.drew HSS.out | exact (H0.out.drew HSS.out).drew HSS.out | exact H0.out)).mono ?_; rintro e' w3 ⟨rfl, h3⟩; have H3 := Lib.hid h3; have c43 := blk_cell h3.blk 43 (v := .int .i64 0) rfl; have c6 := blk_cell h3.blk 6 (v := .int .u64 y) rfl; have c5 := blk_cell h3.blk 5 (v := .int .u64 x) rfl; have c47 := blk_cell h3.blk 47 (v := stV mb rb sb) rfl; clear h3)) | fail
    all_goals
      go_wp2_with (go_at_call 69; refine (CA.out _).mono ?_; rintro e' w4 ⟨rfl, rfl⟩)
      go_still_tail 10, (by kernel_rfl)
      go_wp2_with (first
        | (go_at_call 20; refine (HDD.out _ (H3.out.drew HSS.out)).mono ?_; rintro e' w6 ⟨rfl, h6⟩; have H6 := Lib.hid h6; clear h6)
        | (go_at_call 63; refine (CS.out _ _).mono ?_; rintro e' w4 ⟨rfl, rfl⟩)
        | (go_at_call 41; refine (o_set H6.out HS.out hrd _).mono ?_; rintro e' w5 ⟨rfl, h5⟩; have H5 := Lib.hid h5; skip; clear h5))
      go_end0
      exact ⟨rfl, H5.out⟩
set_option maxHeartbeats 3200000 in
theorem o_am_no {w0 w : World} {sb mb rb b fr : Nat} {r : Int} {s : List UInt8} {op : Int} {rd i1 i2 : Nat} {im : Int} {x y m : Int} {A : HS} {R : Asn} (h : Own w0 w (cxA sb mb rb b fr r s ⟨op, rd, i1, i2, im⟩ x y m A e0 R)) (hR : Stable R) (hrd : rd < 32) (n v q : Int) (e1 : EvS) (he1 : e1.k ≠ 0) (hC : ∀ w1, Own w0 w1 (cxA sb mb rb b fr r s ⟨op, rd, i1, i2, im⟩ x y m A e0 R) → Calls Tryz.prog 19 #[.int .u64 x, .int .i64 n, .pointer (some ⟨mb, 0, none⟩), .pointer (some ⟨rb, 0, none⟩), .pointer (some ⟨sb, 0, none⟩)] w1 fun e' w' => e' = .returned (.tuple #[.int .u64 v, .int .u64 q]) ∧ Own w0 w' (cxA sb mb rb b fr r s ⟨op, rd, i1, i2, im⟩ x y m A e1 R)) (hop : (68 ≤ op ∧ op ≤ 76 ∧ n = 4) ∨ (79 ≤ op ∧ op ≤ 87 ∧ n = 8)) :
    Calls Tryz.prog 46 #[.pointer (some ⟨sb, 0, none⟩), .pointer (some ⟨b, 0, none⟩), .int .i64 r] w fun e' w' => e' = .returned (.tuple #[]) ∧ Own w0 w' (cxA sb mb rb b fr r s ⟨op, rd, i1, i2, im⟩ x y m A { e1 with k := 6 } R) := by
  have c0 := blk_cell h.blk 0 (v := .int .i64 op) rfl
  have c5 := blk_cell h.blk 5 (v := .int .u64 x) rfl
  have c46 := blk_cell h.blk 46 (v := ldV mb rb sb) rfl
  have HSS := Lib.hid (stable_star (stable_blk sb (.cells (sC ⟨op, rd, i1, i2, im⟩ x y m A e0 (ldV mb rb sb) (stV mb rb sb)) 67)) (stable_star (stable_mem b fr s) (stable_box mb rb b r hR)))
  have HS := Lib.hid (stable_star (stable_mem b fr s) (stable_box mb rb b r hR))
  have HC := Lib.hid hC
  have H0 := Lib.hid h
  have hk : (e1.k != 0) = true := by simpa using he1
  clear h hC he1
  have k0 : IntKind.i64.wrap 0 = 0 := by decide
  have k4 : IntKind.i64.wrap 4 = 4 := by decide
  have k8 : IntKind.i64.wrap 8 = 8 := by decide
  have k32 : IntKind.i64.wrap 32 = 32 := by decide
  have k64 : IntKind.i64.wrap 64 = 64 := by decide
  have f1 : (op == 66) = false := by simp; omega
  have f2 : (op == 77) = false := by simp; omega
  have f3 : (op == 67) = false := by simp; omega
  have f4 : (op == 78) = false := by simp; omega
  have hop2 : (¬ 77 ≤ op ∧ n = 4) ∨ (77 ≤ op ∧ n = 8) := by omega
  clear hop
  rcases hop2 with ⟨hq, rfl⟩ | ⟨hq, rfl⟩
  all_goals
    go_enter Tryz.func46, Tryz.ntmps46
    go_wp2_with fail
    first | (go_region_with (go_at_call 19; refine (HC.out _ (by first | exact H0.out.drew HSS.out | exact (H0.out.drew HSS.out).drew HSS.out | exact H0.out)).mono ?_; rintro e' w3 ⟨rfl, h3⟩; have H3 := Lib.hid h3; have c43 := blk_cell h3.blk 43 (v := .int .i64 e1.k) rfl; have f43 := blk_frozen h3.blk 43; clear h3)) | fail
    all_goals
      go_wp2_with fail
      refine bodyPost_ret (results_none rfl _ _ _) rfl ?_
      exact ⟨rfl, H3.out.set HS.out 43 (.int .i64 6)⟩
end Go.Proofs.YtngeabphjdfdgaaGreatDoor.P
namespace Go.Proofs.YtngeabphjdfdgaaGreatDoor.P
open Go.RowKit Go.MuLone Go.Proofs.YtngeabphjdfdgaaGreatDoor.W
set_option maxHeartbeats 3200000 in
theorem o_sc_no {w0 w : World} {sb mb rb b fr : Nat} {r : Int} {s : List UInt8} {op : Int} {rd i1 i2 : Nat} {im : Int} {x y m : Int} {A : HS} {R : Asn} (h : Own w0 w (cxA sb mb rb b fr r s ⟨op, rd, i1, i2, im⟩ x y m A e0 R)) (hR : Stable R) (hrd : rd < 32) (hr : i64 r) (n : Int) (hx : u64 x) (hn : n = 1 ∨ n = 2 ∨ n = 4 ∨ n = 8) (hc : rchB fr s r x n 2 = false) :
    Calls Tryz.prog 68 #[.pointer (some ⟨sb, 0, none⟩), .pointer (some ⟨b, 0, none⟩), .int .i64 r, .int .i64 n] w fun e' w' => e' = .returned (.tuple #[]) ∧ Own w0 w' (cxA sb mb rb b fr r s ⟨op, rd, i1, i2, im⟩ x y m A ⟨6, x, false⟩ R) := by
  have c5 := blk_cell h.blk 5 (v := .int .u64 x) rfl
  have hS := stable_star (stable_blk sb (.cells (sC ⟨op, rd, i1, i2, im⟩ x y m A e0 (ldV mb rb sb) (stV mb rb sb)) 67)) (stable_box mb rb b r hR)
  have HS := Lib.hid (stable_star (stable_mem b fr s) (stable_box mb rb b r hR))
  have C := Lib.hid (o_reach h.swap2 hS r x n 2 hx hr hn _ false rfl hc)
  generalize rchV fr s r x n 2 = V at *
  clear h hS hc
  go_enter Tryz.func68, Tryz.ntmps68
  go_wp2_with (go_at_call 16; refine C.out.mono ?_; rintro e' w1 ⟨rfl, h1⟩; have h2 := h1.swap2; have c5 := blk_cell h2.blk 5 (v := .int .u64 x) rfl; have c43 := blk_cell h2.blk 43 (v := .int .i64 0) rfl; have c44 := blk_cell h2.blk 44 (v := .int .u64 0) rfl; have c45 := blk_cell h2.blk 45 (v := .bool false) rfl; have f43 := blk_frozen h2.blk 43; have f44 := blk_frozen h2.blk 44; have f45 := blk_frozen h2.blk 45; have H2 := Lib.hid (((h2.set HS.out 43 (.int .i64 6)).set HS.out 44 (.int .u64 x)).set HS.out 45 (.bool false)); clear h1 h2)
  refine bodyPost_ret (results_none rfl _ _ _) rfl ?_
  exact ⟨rfl, H2.out⟩
set_option maxHeartbeats 3200000 in
theorem o_sc_miss {w0 w : World} {sb mb rb b fr : Nat} {r : Int} {s : List UInt8} {op : Int} {rd i1 i2 : Nat} {im : Int} {x y m : Int} {A : HS} {R : Asn} (h : Own w0 w (cxA sb mb rb b fr r s ⟨op, rd, i1, i2, im⟩ x y m A e0 R)) (hR : Stable R) (hrd : rd < 32) (hr : i64 r) (n : Int) (hx : u64 x) (hn : n = 1 ∨ n = 2 ∨ n = 4 ∨ n = 8) (hc : rchB fr s r x n 2 = true) (V : Int) (hV : rchV fr s r x n 2 = V) (hh : A.hd = false ∨ (A.hd = true ∧ (A.at_ == V) = false)) :
    Calls Tryz.prog 68 #[.pointer (some ⟨sb, 0, none⟩), .pointer (some ⟨b, 0, none⟩), .int .i64 r, .int .i64 n] w fun e' w' => e' = .returned (.tuple #[]) ∧ Own w0 w' (cxA sb mb rb b fr r s ⟨op, rd, i1, i2, im⟩ x y m { A.set rd 1 with hd := false, at_ := 0 } e0 R) := by
  have c5 := blk_cell h.blk 5 (v := .int .u64 x) rfl
  have hS := stable_star (stable_blk sb (.cells (sC ⟨op, rd, i1, i2, im⟩ x y m A e0 (ldV mb rb sb) (stV mb rb sb)) 67)) (stable_box mb rb b r hR)
  have HS := Lib.hid (stable_star (stable_mem b fr s) (stable_box mb rb b r hR))
  have C := Lib.hid (o_reach h.swap2 hS r x n 2 hx hr hn V true hV hc)
  clear h hS hc hV
  rcases hh with hh | ⟨hh, hat⟩
  all_goals
    go_enter Tryz.func68, Tryz.ntmps68
    go_wp2_with (first
      | (go_at_call 16; refine C.out.mono ?_; rintro e' w1 ⟨rfl, h1⟩; have h2 := h1.swap2; have H2 := Lib.hid h2; clear h1 h2)
      | (go_at_call 41; refine (o_set H2.out HS.out hrd _).mono ?_; rintro e' w5 ⟨rfl, h5⟩; have H5 := Lib.hid h5; have c41 := blk_cell h5.blk 41 (v := .bool A.hd) rfl; have c42 := blk_cell h5.blk 42 (v := .int .u64 A.at_) rfl; have f41 := blk_frozen h5.blk 41; have f42 := blk_frozen h5.blk 42; rw [hh] at c41; clear h5))
    go_end0
    exact ⟨rfl, (H5.out.set HS.out 41 (.bool false)).set HS.out 42 (.int .u64 0)⟩
set_option maxHeartbeats 3200000 in
theorem o_sc_hit {w0 w : World} {sb mb rb b fr : Nat} {r : Int} {s : List UInt8} {op : Int} {rd i1 i2 : Nat} {im : Int} {x y m : Int} {A : HS} {R : Asn} (h : Own w0 w (cxA sb mb rb b fr r s ⟨op, rd, i1, i2, im⟩ x y m A e0 R)) (hR : Stable R) (hrd : rd < 32) (hr : i64 r) (n : Int) (hx : u64 x) (hn : n = 1 ∨ n = 2 ∨ n = 4 ∨ n = 8) (hc : rchB fr s r x n 2 = true) (V : Int) (hV : rchV fr s r x n 2 = V) (hh : A.hd = true ∧ (A.at_ == V) = true) (s2 : List UInt8) (e2 : EvS) (hD : ∀ w1, Own w0 w1 (cxA sb mb rb b fr r s ⟨op, rd, i1, i2, im⟩ x y m (A.set rd 1) e0 R) → Calls Tryz.prog 20 #[.int .u64 x, .int .i64 n, .int .u64 y, .pointer (some ⟨mb, 0, none⟩), .pointer (some ⟨rb, 0, none⟩), .pointer (some ⟨sb, 0, none⟩)] w1 fun e' w' => e' = .returned (.tuple #[]) ∧ Own w0 w' (cxA sb mb rb b fr r s2 ⟨op, rd, i1, i2, im⟩ x y m (A.set rd 1) e2 R)) :
    Calls Tryz.prog 68 #[.pointer (some ⟨sb, 0, none⟩), .pointer (some ⟨b, 0, none⟩), .int .i64 r, .int .i64 n] w fun e' w' => e' = .returned (.tuple #[]) ∧ Own w0 w' (cxA sb mb rb b fr r s2 ⟨op, rd, i1, i2, im⟩ x y m { (A.set rd 1).set rd 0 with hd := false, at_ := 0 } e2 R) := by
  have c5 := blk_cell h.blk 5 (v := .int .u64 x) rfl
  have hS := stable_star (stable_blk sb (.cells (sC ⟨op, rd, i1, i2, im⟩ x y m A e0 (ldV mb rb sb) (stV mb rb sb)) 67)) (stable_box mb rb b r hR)
  have HS := Lib.hid (stable_star (stable_mem b fr s) (stable_box mb rb b r hR))
  have HS2 := Lib.hid (stable_star (stable_mem b fr s2) (stable_box mb rb b r hR))
  have HSS := Lib.hid (stable_star (stable_blk sb (.cells (sC ⟨op, rd, i1, i2, im⟩ x y m (A.set rd 1) e0 (ldV mb rb sb) (stV mb rb sb)) 67)) (stable_star (stable_mem b fr s) (stable_box mb rb b r hR)))
  have C := Lib.hid (o_reach h.swap2 hS r x n 2 hx hr hn V true hV hc)
  have HDD := Lib.hid hD
  obtain ⟨hh, hat⟩ := hh
  clear h hS hc hV hD
  go_enter Tryz.func68, Tryz.ntmps68
  go_wp2_with (first
    | (go_at_call 16; refine C.out.mono ?_; rintro e' w1 ⟨rfl, h1⟩; have h2 := h1.swap2; have H2 := Lib.hid h2; clear h1 h2)
    | (go_at_call 41; refine (o_set H2.out HS.out hrd _).mono ?_; rintro e' w5 ⟨rfl, h5⟩; have H5 := Lib.hid h5; have c41 := blk_cell h5.blk 41 (v := .bool A.hd) rfl; have c42 := blk_cell h5.blk 42 (v := .int .u64 A.at_) rfl; have c47 := blk_cell h5.blk 47 (v := stV mb rb sb) rfl; have c5 := blk_cell h5.blk 5 (v := .int .u64 x) rfl; have c6 := blk_cell h5.blk 6 (v := .int .u64 y) rfl; rw [hh] at c41; clear h5))
  go_still_tail 13, (by kernel_rfl)
  go_wp2_with (first
    | (go_at_call 20; refine (HDD.out _ (H5.out.drew HSS.out)).mono ?_; rintro e' w6 ⟨rfl, h6⟩; have H6 := Lib.hid h6; clear h6)
    | (go_at_call 41; refine (o_set H6.out HS2.out hrd _).mono ?_; rintro e' w5 ⟨rfl, h5⟩; have H7 := Lib.hid h5; have d41 := blk_cell h5.blk 41 (v := .bool A.hd) rfl; have d42 := blk_cell h5.blk 42 (v := .int .u64 A.at_) rfl; have f41 := blk_frozen h5.blk 41; have f42 := blk_frozen h5.blk 42; clear h5))
  go_end0
  exact ⟨rfl, (H7.out.set HS2.out 41 (.bool false)).set HS2.out 42 (.int .u64 0)⟩
theorem o_sc_at {w0 w : World} {sb mb rb b fr : Nat} {r : Int} {s : List UInt8} {op : Int} {rd i1 i2 : Nat} {im : Int} {x y m : Int} {A : HS} {R : Asn} (h : Own w0 w (cxA sb mb rb b fr r s ⟨op, rd, i1, i2, im⟩ x y m A e0 R)) (hR : Stable R) (hrd : rd < 32) (n : Int) (Q : World → Prop) (hC : Calls Tryz.prog 68 #[.pointer (some ⟨sb, 0, none⟩), .pointer (some ⟨b, 0, none⟩), .int .i64 r, .int .i64 n] w fun e' w' => e' = .returned (.tuple #[]) ∧ Q w') (hop : (op = 67 ∧ n = 4) ∨ (op = 78 ∧ n = 8)) :
    Calls Tryz.prog 46 #[.pointer (some ⟨sb, 0, none⟩), .pointer (some ⟨b, 0, none⟩), .int .i64 r] w fun e' w' => e' = .returned (.tuple #[]) ∧ Q w' := by
  have c0 := blk_cell h.blk 0 (v := .int .i64 op) rfl
  have HC := Lib.hid hC
  clear h hC
  rcases hop with ⟨rfl, rfl⟩ | ⟨rfl, rfl⟩
  all_goals
    go_enter Tryz.func46, Tryz.ntmps46
    go_wp2_with (go_at_call 68; refine HC.out.mono ?_; rintro e' w1 ⟨rfl, h1⟩)
    go_end0
    exact ⟨rfl, h1⟩
end Go.Proofs.YtngeabphjdfdgaaGreatDoor.P
namespace Go.Proofs.YtngeabphjdfdgaaGreatDoor.P
open Go.RowKit Go.MuLone Go.Proofs.YtngeabphjdfdgaaGreatDoor.W
theorem word0 : word 0 := ⟨by decide, by decide⟩
theorem amo_word (op a b : Int) (ha : word a) (hb : word b) : word (amoV op a b) := by
  unfold amoV
  split
  · generalize amoW (op - 68) (amoT op a) (amoT op b) = z
    have e : lowF z 32 = z % 4294967296 := by unfold lowF; rw [if_neg (by decide), if_neg (by decide)]; rfl
    rw [e]
    exact ⟨by omega, by omega⟩
  · split
    · exact amoW_word _ _ _ ha hb
    · exact word0
theorem ne5 : ¬ (5 : Int) = 0 := by decide
theorem ne6 : ¬ (6 : Int) = 0 := by decide
theorem o_move {w0 w : World} {sb mb rb b fr : Nat} {r : Int} {s : List UInt8} {op : Int} {rd i1 i2 : Nat} {im : Int} {x y m : Int} {A : HS} {R : Asn} (h : Own w0 w (cxA sb mb rb b fr r s ⟨op, rd, i1, i2, im⟩ x y m A e0 R)) (hR : Stable R) (hr : i64 r) (hrd : rd < 32) (hy : word y) (hop : 11 ≤ op ∧ op ≤ 21) :
    Calls Tryz.prog 44 #[.pointer (some ⟨sb, 0, none⟩)] w fun e' w' => e' = .returned (.tuple #[]) ∧ DoneP w0 sb mb rb b fr r ⟨op, rd, i1, i2, im⟩ x y m R (moveF fr s r op rd (w64 (x + m)) y A) w' := by
  have hp : u64 (w64 (x + m)) := u_of_w (w64_word _)
  by_cases h18 : 18 ≤ op
  · unfold moveF
    rw [if_pos h18]
    refine o_move_st h hR hr hy _ _ rfl ?_
    have hx : op = 18 ∨ op = 19 ∨ op = 20 ∨ op = 21 := by omega
    rcases hx with rfl | rfl | rfl | rfl <;> decide
  · unfold moveF loadF
    rw [if_neg h18]
    have hx : op = 11 ∨ op = 12 ∨ op = 13 ∨ op = 14 ∨ op = 15 ∨ op = 16 ∨ op = 17 := by omega
    have hN : (op = 11 ∧ (2 : Int) ^ ((op - 11) % 4).toNat = 1) ∨ (op = 12 ∧ (2 : Int) ^ ((op - 11) % 4).toNat = 2) ∨ (op = 13 ∧ (2 : Int) ^ ((op - 11) % 4).toNat = 4) ∨ (op = 14 ∧ (2 : Int) ^ ((op - 11) % 4).toNat = 8) ∨ (op = 15 ∧ (2 : Int) ^ ((op - 11) % 4).toNat = 1) ∨ (op = 16 ∧ (2 : Int) ^ ((op - 11) % 4).toNat = 2) ∨ (op = 17 ∧ (2 : Int) ^ ((op - 11) % 4).toNat = 4) := by
      rcases hx with rfl | rfl | rfl | rfl | rfl | rfl | rfl <;> decide
    generalize (2 : Int) ^ ((op - 11) % 4).toNat = n at *
    have hn : n = 1 ∨ n = 2 ∨ n = 4 ∨ n = 8 := by omega
    cases hc : rchB fr s r (w64 (x + m)) n 1 with
    | true =>
      rw [if_pos rfl]
      refine (o_move_ld h hR hrd n _ _ _ e0 rfl (loadV_word s _ n) (fun w1 h1 => o_loadc_yes h1 hR hr _ n hp hn hc) hN).mono ?_
      rintro e w1 ⟨rfl, h1⟩
      exact ⟨rfl, _, h1, fun _ => rfl⟩
    | false =>
      rw [if_neg (by decide)]
      refine (o_move_ld h hR hrd n _ _ _ _ rfl word0 (fun w1 h1 => o_loadc_no h1 hR hr _ n hp hn hc) hN).mono ?_
      rintro e w1 ⟨rfl, h1⟩
      exact ⟨rfl, _, h1, fun h => absurd h ne5⟩
theorem o_lr2 {w0 w : World} {sb mb rb b fr : Nat} {r : Int} {s : List UInt8} {op : Int} {rd i1 i2 : Nat} {im : Int} {x y m : Int} {A : HS} {R : Asn} (h : Own w0 w (cxA sb mb rb b fr r s ⟨op, rd, i1, i2, im⟩ x y m A e0 R)) (hR : Stable R) (hr : i64 r) (hrd : rd < 32) (hx : u64 x) (n : Int) (hop : (op = 66 ∧ n = 4) ∨ (op = 77 ∧ n = 8)) :
    Calls Tryz.prog 46 #[.pointer (some ⟨sb, 0, none⟩), .pointer (some ⟨b, 0, none⟩), .int .i64 r] w fun e' w' => e' = .returned (.tuple #[]) ∧ DoneP w0 sb mb rb b fr r ⟨op, rd, i1, i2, im⟩ x y m R (lrF fr s r rd x n A) w' := by
  have hn : n = 1 ∨ n = 2 ∨ n = 4 ∨ n = 8 := by omega
  unfold lrF
  cases hc : rchB fr s r x n 1 with
  | true =>
    rw [if_pos rfl]
    refine (o_lr h hR hrd n _ _ e0 (loadV_word s _ n) (fun w1 h1 => o_loadc_yes h1 hR hr _ n hx hn hc) hop).mono ?_
    rintro e w1 ⟨rfl, h1⟩
    exact ⟨rfl, _, h1, fun _ => rfl⟩
  | false =>
    rw [if_neg (by decide)]
    refine (o_lr h hR hrd n _ _ _ word0 (fun w1 h1 => o_loadc_no h1 hR hr _ n hx hn hc) hop).mono ?_
    rintro e w1 ⟨rfl, h1⟩
    exact ⟨rfl, _, h1, fun h => absurd h ne5⟩
theorem o_am2 {w0 w : World} {sb mb rb b fr : Nat} {r : Int} {s : List UInt8} {op : Int} {rd i1 i2 : Nat} {im : Int} {x y m : Int} {A : HS} {R : Asn} (h : Own w0 w (cxA sb mb rb b fr r s ⟨op, rd, i1, i2, im⟩ x y m A e0 R)) (hR : Stable R) (hr : i64 r) (hrd : rd < 32) (hx : u64 x) (hy : word y) (n : Int) (hop : (68 ≤ op ∧ op ≤ 76 ∧ n = 4) ∨ (79 ≤ op ∧ op ≤ 87 ∧ n = 8)) :
    Calls Tryz.prog 46 #[.pointer (some ⟨sb, 0, none⟩), .pointer (some ⟨b, 0, none⟩), .int .i64 r] w fun e' w' => e' = .returned (.tuple #[]) ∧ DoneP w0 sb mb rb b fr r ⟨op, rd, i1, i2, im⟩ x y m R (amF fr s r op rd x n y A) w' := by
  have hn : n = 1 ∨ n = 2 ∨ n = 4 ∨ n = 8 := by omega
  unfold amF
  cases hc : rchB fr s r x n 1 with
  | true =>
    rw [if_pos rfl]
    cases hd : rchB fr s r x n 2 with
    | true =>
      rw [if_pos rfl]
      refine (o_am_ok h hR hrd n _ _ _ _ (loadV_word s _ n) hy (fun w1 h1 => o_loadc_yes h1 hR hr _ n hx hn hc) (fun w1 h1 => o_storec_yes h1 hR hr x n _ hx (amo_word _ _ _ (loadV_word s _ n) hy) hn hd) hop).mono ?_
      rintro e w1 ⟨rfl, h1⟩
      exact ⟨rfl, _, h1, fun _ => rfl⟩
    | false =>
      rw [if_neg (by decide)]
      refine (o_am_ok h hR hrd n _ _ _ _ (loadV_word s _ n) hy (fun w1 h1 => o_loadc_yes h1 hR hr _ n hx hn hc) (fun w1 h1 => o_storec_no h1 hR hr x n _ hx hn hd) hop).mono ?_
      rintro e w1 ⟨rfl, h1⟩
      exact ⟨rfl, _, h1, fun h => absurd h ne6⟩
  | false =>
    rw [if_neg (by decide)]
    refine (o_am_no h hR hrd n _ _ _ (show ¬ (5 : Int) = 0 from ne5) (fun w1 h1 => o_loadc_no h1 hR hr _ n hx hn hc) hop).mono ?_
    rintro e w1 ⟨rfl, h1⟩
    exact ⟨rfl, _, h1, fun h => absurd h ne6⟩
theorem upX_set (X : Nat → Int) (k : Nat) (u v : Int) : upX (upX X k u) k v = upX X k v := by
  funext j; unfold upX; split <;> rfl
theorem o_sc2 {w0 w : World} {sb mb rb b fr : Nat} {r : Int} {s : List UInt8} {op : Int} {rd i1 i2 : Nat} {im : Int} {x y m : Int} {A : HS} {R : Asn} (h : Own w0 w (cxA sb mb rb b fr r s ⟨op, rd, i1, i2, im⟩ x y m A e0 R)) (hR : Stable R) (hr : i64 r) (hrd : rd < 32) (hx : u64 x) (hy : word y) (n : Int) (hop : (op = 67 ∧ n = 4) ∨ (op = 78 ∧ n = 8)) :
    Calls Tryz.prog 46 #[.pointer (some ⟨sb, 0, none⟩), .pointer (some ⟨b, 0, none⟩), .int .i64 r] w fun e' w' => e' = .returned (.tuple #[]) ∧ DoneP w0 sb mb rb b fr r ⟨op, rd, i1, i2, im⟩ x y m R (scF fr s r rd x n y A) w' := by
  have hn : n = 1 ∨ n = 2 ∨ n = 4 ∨ n = 8 := by omega
  refine o_sc_at h hR hrd n _ ?_ hop
  unfold scF
  cases hc : rchB fr s r x n 2 with
  | true =>
    rw [if_pos rfl]
    cases hb : (A.hd && decide (A.at_ = rchV fr s r x n 2)) with
    | true =>
      rw [if_pos rfl]
      rw [Bool.and_eq_true] at hb
      refine (o_sc_hit h hR hrd hr n hx hn hc _ rfl hb _ _ (fun w1 h1 => o_storec_yes h1 hR hr x n _ hx hy hn hc)).mono ?_
      rintro e w1 ⟨rfl, h1⟩
      refine ⟨rfl, _, h1, fun _ => ?_⟩
      unfold HS.set
      rw [upX_set]
    | false =>
      rw [if_neg (by decide)]
      refine (o_sc_miss h hR hrd hr n hx hn hc _ rfl ?_).mono ?_
      · cases hh : A.hd with
        | false => exact .inl rfl
        | true => rw [hh, Bool.true_and] at hb; exact .inr ⟨rfl, hb⟩
      · rintro e w1 ⟨rfl, h1⟩
        exact ⟨rfl, _, h1, fun _ => rfl⟩
  | false =>
    rw [if_neg (by decide)]
    refine (o_sc_no h hR hrd hr n hx hn hc).mono ?_
    rintro e w1 ⟨rfl, h1⟩
    exact ⟨rfl, _, h1, fun h => absurd h ne6⟩
theorem o_atomic {w0 w : World} {sb mb rb b fr : Nat} {r : Int} {s : List UInt8} {op : Int} {rd i1 i2 : Nat} {im : Int} {x y m : Int} {A : HS} {R : Asn} (h : Own w0 w (cxA sb mb rb b fr r s ⟨op, rd, i1, i2, im⟩ x y m A e0 R)) (hR : Stable R) (hr : i64 r) (hrd : rd < 32) (hx : u64 x) (hy : word y) (hop : 66 ≤ op ∧ op ≤ 87) :
    Calls Tryz.prog 46 #[.pointer (some ⟨sb, 0, none⟩), .pointer (some ⟨b, 0, none⟩), .int .i64 r] w fun e' w' => e' = .returned (.tuple #[]) ∧ DoneP w0 sb mb rb b fr r ⟨op, rd, i1, i2, im⟩ x y m R (atomF fr s r op rd x y A) w' := by
  unfold atomF
  by_cases h1 : op = 66
  · rw [if_pos h1]; exact o_lr2 h hR hr hrd hx 4 (.inl ⟨h1, rfl⟩)
  by_cases h2 : op = 77
  · rw [if_neg h1, if_pos h2]; exact o_lr2 h hR hr hrd hx 8 (.inr ⟨h2, rfl⟩)
  by_cases h3 : op = 67
  · rw [if_neg h1, if_neg h2, if_pos h3]; exact o_sc2 h hR hr hrd hx hy 4 (.inl ⟨h3, rfl⟩)
  by_cases h4 : op = 78
  · rw [if_neg h1, if_neg h2, if_neg h3, if_pos h4]; exact o_sc2 h hR hr hrd hx hy 8 (.inr ⟨h4, rfl⟩)
  by_cases h5 : op ≤ 76
  · rw [if_neg h1, if_neg h2, if_neg h3, if_neg h4, if_pos h5]; exact o_am2 h hR hr hrd hx hy 4 (.inl ⟨by omega, h5, rfl⟩)
  · rw [if_neg h1, if_neg h2, if_neg h3, if_neg h4, if_neg h5]; exact o_am2 h hR hr hrd hx hy 8 (.inr ⟨by omega, by omega, rfl⟩)
end Go.Proofs.YtngeabphjdfdgaaGreatDoor.P
