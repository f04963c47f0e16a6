/- Stage 5: sc of a step. No condition. -/
import Derived.Test.YtngeabphjdfdgaaDoorHG
import Derived.Test.YtngeabphjdfdgaaDoorW10
set_option linter.unusedVariables false
set_option linter.unusedSimpArgs false
set_option maxRecDepth 100000
namespace Go.Proofs.YtngeabphjdfdgaaDoor.P
open Go.RowKit Go.MuLone Go.Proofs.YtngeabphjdfdgaaDoor.W
set_option maxHeartbeats 3200000 in
theorem o_sc_no {w0 w : World} {sb mb rb b fr : Nat} {r : Int} {s : List UInt8} {op : Int} {rd i1 i2 : Nat} {im : Int} {x y m : Int} {A : HS} {R : Asn} (h : Own w0 w (cxA sb mb rb b fr r s ⟨op, rd, i1, i2, im⟩ x y m A e0 R)) (hR : Stable R) (hrd : rd < 32) (hr : i64 r) (n : Int) (hx : u64 x) (hn : n = 1 ∨ n = 2 ∨ n = 4 ∨ n = 8) (hc : rchB fr s r x n 2 = false) :
    Calls Tryd.prog 60 #[.pointer (some ⟨sb, 0, none⟩), .pointer (some ⟨b, 0, none⟩), .int .i64 r, .int .i64 n] w fun e' w' => e' = .returned (.tuple #[]) ∧ Own w0 w' (cxA sb mb rb b fr r s ⟨op, rd, i1, i2, im⟩ x y m A ⟨6, x, false⟩ R) := by
  have c5 := blk_cell h.blk 5 (v := .int .u64 x) rfl
  have hS := stable_star (stable_blk sb (.cells (sC ⟨op, rd, i1, i2, im⟩ x y m A e0 (ldV mb rb sb) (stV mb rb sb)) 69)) (stable_box mb rb b r hR)
  have HS := Lib.hid (stable_star (stable_mem b fr s) (stable_box mb rb b r hR))
  have C := Lib.hid (o_reach h.swap2 hS r x n 2 hx hr hn _ false rfl hc)
  generalize rchV fr s r x n 2 = V at *
  clear h hS hc
  go_enter Tryd.func60, Tryd.ntmps60
  go_wp2_with (go_at_call 20; refine C.out.mono ?_; rintro e' w1 ⟨rfl, h1⟩; have h2 := h1.swap2; have c5 := blk_cell h2.blk 5 (v := .int .u64 x) rfl; have c43 := blk_cell h2.blk 43 (v := .int .i64 0) rfl; have c44 := blk_cell h2.blk 44 (v := .int .u64 0) rfl; have c45 := blk_cell h2.blk 45 (v := .bool false) rfl; have f43 := blk_frozen h2.blk 43; have f44 := blk_frozen h2.blk 44; have f45 := blk_frozen h2.blk 45; have H2 := Lib.hid (((h2.set HS.out 43 (.int .i64 6)).set HS.out 44 (.int .u64 x)).set HS.out 45 (.bool false)); clear h1 h2)
  refine bodyPost_ret (results_none rfl _ _ _) rfl ?_
  exact ⟨rfl, H2.out⟩
set_option maxHeartbeats 3200000 in
theorem o_sc_miss {w0 w : World} {sb mb rb b fr : Nat} {r : Int} {s : List UInt8} {op : Int} {rd i1 i2 : Nat} {im : Int} {x y m : Int} {A : HS} {R : Asn} (h : Own w0 w (cxA sb mb rb b fr r s ⟨op, rd, i1, i2, im⟩ x y m A e0 R)) (hR : Stable R) (hrd : rd < 32) (hr : i64 r) (n : Int) (hx : u64 x) (hn : n = 1 ∨ n = 2 ∨ n = 4 ∨ n = 8) (hc : rchB fr s r x n 2 = true) (V : Int) (hV : rchV fr s r x n 2 = V) (hh : A.hd = false ∨ (A.hd = true ∧ (A.at_ == V) = false)) :
    Calls Tryd.prog 60 #[.pointer (some ⟨sb, 0, none⟩), .pointer (some ⟨b, 0, none⟩), .int .i64 r, .int .i64 n] w fun e' w' => e' = .returned (.tuple #[]) ∧ Own w0 w' (cxA sb mb rb b fr r s ⟨op, rd, i1, i2, im⟩ x y m { A.set rd 1 with hd := false, at_ := 0 } e0 R) := by
  have c5 := blk_cell h.blk 5 (v := .int .u64 x) rfl
  have hS := stable_star (stable_blk sb (.cells (sC ⟨op, rd, i1, i2, im⟩ x y m A e0 (ldV mb rb sb) (stV mb rb sb)) 69)) (stable_box mb rb b r hR)
  have HS := Lib.hid (stable_star (stable_mem b fr s) (stable_box mb rb b r hR))
  have C := Lib.hid (o_reach h.swap2 hS r x n 2 hx hr hn V true hV hc)
  clear h hS hc hV
  rcases hh with hh | ⟨hh, hat⟩
  all_goals
    go_enter Tryd.func60, Tryd.ntmps60
    go_wp2_with (first
      | (go_at_call 20; refine C.out.mono ?_; rintro e' w1 ⟨rfl, h1⟩; have h2 := h1.swap2; have H2 := Lib.hid h2; clear h1 h2)
      | (go_at_call 40; refine (o_set H2.out HS.out hrd _).mono ?_; rintro e' w5 ⟨rfl, h5⟩; have H5 := Lib.hid h5; have c41 := blk_cell h5.blk 41 (v := .bool A.hd) rfl; have c42 := blk_cell h5.blk 42 (v := .int .u64 A.at_) rfl; have f41 := blk_frozen h5.blk 41; have f42 := blk_frozen h5.blk 42; rw [hh] at c41; clear h5))
    go_end0
    exact ⟨rfl, (H5.out.set HS.out 41 (.bool false)).set HS.out 42 (.int .u64 0)⟩
set_option maxHeartbeats 3200000 in
theorem o_sc_hit {w0 w : World} {sb mb rb b fr : Nat} {r : Int} {s : List UInt8} {op : Int} {rd i1 i2 : Nat} {im : Int} {x y m : Int} {A : HS} {R : Asn} (h : Own w0 w (cxA sb mb rb b fr r s ⟨op, rd, i1, i2, im⟩ x y m A e0 R)) (hR : Stable R) (hrd : rd < 32) (hr : i64 r) (n : Int) (hx : u64 x) (hn : n = 1 ∨ n = 2 ∨ n = 4 ∨ n = 8) (hc : rchB fr s r x n 2 = true) (V : Int) (hV : rchV fr s r x n 2 = V) (hh : A.hd = true ∧ (A.at_ == V) = true) (s2 : List UInt8) (e2 : EvS) (hD : ∀ w1, Own w0 w1 (cxA sb mb rb b fr r s ⟨op, rd, i1, i2, im⟩ x y m (A.set rd 1) e0 R) → Calls Tryd.prog 23 #[.int .u64 x, .int .i64 n, .int .u64 y, .pointer (some ⟨mb, 0, none⟩), .pointer (some ⟨rb, 0, none⟩), .pointer (some ⟨sb, 0, none⟩)] w1 fun e' w' => e' = .returned (.tuple #[]) ∧ Own w0 w' (cxA sb mb rb b fr r s2 ⟨op, rd, i1, i2, im⟩ x y m (A.set rd 1) e2 R)) :
    Calls Tryd.prog 60 #[.pointer (some ⟨sb, 0, none⟩), .pointer (some ⟨b, 0, none⟩), .int .i64 r, .int .i64 n] w fun e' w' => e' = .returned (.tuple #[]) ∧ Own w0 w' (cxA sb mb rb b fr r s2 ⟨op, rd, i1, i2, im⟩ x y m { (A.set rd 1).set rd 0 with hd := false, at_ := 0 } e2 R) := by
  have c5 := blk_cell h.blk 5 (v := .int .u64 x) rfl
  have hS := stable_star (stable_blk sb (.cells (sC ⟨op, rd, i1, i2, im⟩ x y m A e0 (ldV mb rb sb) (stV mb rb sb)) 69)) (stable_box mb rb b r hR)
  have HS := Lib.hid (stable_star (stable_mem b fr s) (stable_box mb rb b r hR))
  have HS2 := Lib.hid (stable_star (stable_mem b fr s2) (stable_box mb rb b r hR))
  have HSS := Lib.hid (stable_star (stable_blk sb (.cells (sC ⟨op, rd, i1, i2, im⟩ x y m (A.set rd 1) e0 (ldV mb rb sb) (stV mb rb sb)) 69)) (stable_star (stable_mem b fr s) (stable_box mb rb b r hR)))
  have C := Lib.hid (o_reach h.swap2 hS r x n 2 hx hr hn V true hV hc)
  have HDD := Lib.hid hD
  obtain ⟨hh, hat⟩ := hh
  clear h hS hc hV hD
  go_enter Tryd.func60, Tryd.ntmps60
  go_wp2_with (first
    | (go_at_call 20; refine C.out.mono ?_; rintro e' w1 ⟨rfl, h1⟩; have h2 := h1.swap2; have H2 := Lib.hid h2; clear h1 h2)
    | (go_at_call 40; refine (o_set H2.out HS.out hrd _).mono ?_; rintro e' w5 ⟨rfl, h5⟩; have H5 := Lib.hid h5; have c41 := blk_cell h5.blk 41 (v := .bool A.hd) rfl; have c42 := blk_cell h5.blk 42 (v := .int .u64 A.at_) rfl; have c47 := blk_cell h5.blk 47 (v := stV mb rb sb) rfl; have c5 := blk_cell h5.blk 5 (v := .int .u64 x) rfl; have c6 := blk_cell h5.blk 6 (v := .int .u64 y) rfl; rw [hh] at c41; clear h5))
  go_still_tail 13, (by kernel_rfl)
  go_wp2_with (first
    | (go_at_call 23; refine (HDD.out _ (H5.out.drew HSS.out)).mono ?_; rintro e' w6 ⟨rfl, h6⟩; have H6 := Lib.hid h6; clear h6)
    | (go_at_call 40; refine (o_set H6.out HS2.out hrd _).mono ?_; rintro e' w5 ⟨rfl, h5⟩; have H7 := Lib.hid h5; have d41 := blk_cell h5.blk 41 (v := .bool A.hd) rfl; have d42 := blk_cell h5.blk 42 (v := .int .u64 A.at_) rfl; have f41 := blk_frozen h5.blk 41; have f42 := blk_frozen h5.blk 42; clear h5))
  go_end0
  exact ⟨rfl, (H7.out.set HS2.out 41 (.bool false)).set HS2.out 42 (.int .u64 0)⟩
theorem o_sc_at {w0 w : World} {sb mb rb b fr : Nat} {r : Int} {s : List UInt8} {op : Int} {rd i1 i2 : Nat} {im : Int} {x y m : Int} {A : HS} {R : Asn} (h : Own w0 w (cxA sb mb rb b fr r s ⟨op, rd, i1, i2, im⟩ x y m A e0 R)) (hR : Stable R) (hrd : rd < 32) (n : Int) (Q : World → Prop) (hC : Calls Tryd.prog 60 #[.pointer (some ⟨sb, 0, none⟩), .pointer (some ⟨b, 0, none⟩), .int .i64 r, .int .i64 n] w fun e' w' => e' = .returned (.tuple #[]) ∧ Q w') (hop : (op = 67 ∧ n = 4) ∨ (op = 78 ∧ n = 8)) :
    Calls Tryd.prog 45 #[.pointer (some ⟨sb, 0, none⟩), .pointer (some ⟨b, 0, none⟩), .int .i64 r] w fun e' w' => e' = .returned (.tuple #[]) ∧ Q w' := by
  have c0 := blk_cell h.blk 0 (v := .int .i64 op) rfl
  have HC := Lib.hid hC
  clear h hC
  rcases hop with ⟨rfl, rfl⟩ | ⟨rfl, rfl⟩
  all_goals
    go_enter Tryd.func45, Tryd.ntmps45
    go_wp2_with (go_at_call 60; refine HC.out.mono ?_; rintro e' w1 ⟨rfl, h1⟩)
    go_end0
    exact ⟨rfl, h1⟩
end Go.Proofs.YtngeabphjdfdgaaDoor.P
