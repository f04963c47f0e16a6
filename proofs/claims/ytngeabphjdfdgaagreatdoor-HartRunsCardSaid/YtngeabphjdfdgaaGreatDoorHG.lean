/- Stage 5: a step's closures: a load and a store by an address. No condition. -/
import Derived.Test.YtngeabphjdfdgaaGreatDoorHD
import Derived.Test.YtngeabphjdfdgaaGreatDoorW4
set_option linter.unusedVariables false
set_option linter.unusedSimpArgs false
set_option maxRecDepth 100000
namespace Go.Proofs.YtngeabphjdfdgaaGreatDoor.P
open Go.RowKit Go.MuLone Go.Proofs.YtngeabphjdfdgaaGreatDoor.W
abbrev boxA (mb rb b : Nat) (r : Int) (R : Asn) : Asn := Star (blkA mb (.cells #[.pointer (some ⟨b, 0, none⟩)] 31)) (Star (blkA rb (.cells #[.int .i64 r] 3)) R)
theorem stable_box (mb rb b : Nat) (r : Int) {R : Asn} (hR : Stable R) : Stable (boxA mb rb b r R) := stable_star (stable_blk _ _) (stable_star (stable_blk _ _) hR)
abbrev ldV (mb rb sb : Nat) : Value := .func (.func 19) #[] #[.pointer (some ⟨mb, 0, none⟩), .pointer (some ⟨rb, 0, none⟩), .pointer (some ⟨sb, 0, none⟩)]
abbrev stV (mb rb sb : Nat) : Value := .func (.func 20) #[] #[.pointer (some ⟨mb, 0, none⟩), .pointer (some ⟨rb, 0, none⟩), .pointer (some ⟨sb, 0, none⟩)]
/-- A step, its memory, what its closures have captured. -/
abbrev cxA (sb mb rb b fr : Nat) (r : Int) (s : List UInt8) (I : InS) (x y m : Int) (A : HS) (e : EvS) (R : Asn) : Asn := Star (stA sb I x y m A e (ldV mb rb sb) (stV mb rb sb)) (Star (memA b fr s) (boxA mb rb b r R))
theorem o_loadc_yes {w0 w : World} {sb mb rb b fr : Nat} {r : Int} {s : List UInt8} {I : InS} {x y m : Int} {A : HS} {e : EvS} {R : Asn} (h : Own w0 w (cxA sb mb rb b fr r s I x y m A e R)) (hR : Stable R) (hr : i64 r) (p n : Int) (hp : u64 p) (hn : n = 1 ∨ n = 2 ∨ n = 4 ∨ n = 8) (hc : rchB fr s r p n 1 = true) :
    Calls Tryz.prog 19 #[.int .u64 p, .int .i64 n, .pointer (some ⟨mb, 0, none⟩), .pointer (some ⟨rb, 0, none⟩), .pointer (some ⟨sb, 0, none⟩)] w fun e' w' => e' = .returned (.tuple #[.int .u64 (loadV s (rchV fr s r p n 1) n), .int .u64 (rchV fr s r p n 1)]) ∧ Own w0 w' (cxA sb mb rb b fr r s I x y m A e R) := by
  have hS := stable_star (stable_blk sb (.cells (sC I x y m A e (ldV mb rb sb) (stV mb rb sb)) 67)) (stable_box mb rb b r hR)
  have c0 := blk_cell h.right.right.blk 0 (v := .pointer (some ⟨b, 0, none⟩)) rfl
  have c1 := blk_cell h.right.right.right.blk 0 (v := .int .i64 r) rfl
  have hv := rch_u64 (s := s) (r := r) (n := n) (acc := 1) (o_mlen h.right).2.2 hp
  have H := Lib.hid h.swap2
  have HC := Lib.hid hc
  have HV := Lib.hid hv.1
  clear h hv hc
  generalize hV : rchV fr s r p n 1 = V at *
  have EV := Lib.hid hV
  clear hV
  go_enter Tryz.func19, Tryz.ntmps19
  go_wp2_with (first
    | (go_at_call 16; refine (o_reach H.out hS r p n 1 hp hr hn V true EV.out HC.out).mono ?_; rintro e' w1 ⟨rfl, h1⟩; have H1 := Lib.hid h1; have d0 := blk_cell h1.swap2.right.right.blk 0 (v := .pointer (some ⟨b, 0, none⟩)) rfl; clear h1)
    | (go_at_call 17; refine (o_mload H1.out hS V n _ _ HV.out rfl rfl).mono ?_; rintro e' w2 ⟨rfl, h2⟩))
  go_ret2
  exact ⟨rfl, h2.swap2⟩
theorem o_loadc_no {w0 w : World} {sb mb rb b fr : Nat} {r : Int} {s : List UInt8} {I : InS} {x y m : Int} {A : HS} {e : EvS} {R : Asn} (h : Own w0 w (cxA sb mb rb b fr r s I x y m A e R)) (hR : Stable R) (hr : i64 r) (p n : Int) (hp : u64 p) (hn : n = 1 ∨ n = 2 ∨ n = 4 ∨ n = 8) (hc : rchB fr s r p n 1 = false) :
    Calls Tryz.prog 19 #[.int .u64 p, .int .i64 n, .pointer (some ⟨mb, 0, none⟩), .pointer (some ⟨rb, 0, none⟩), .pointer (some ⟨sb, 0, none⟩)] w fun e' w' => e' = .returned (.tuple #[.int .u64 0, .int .u64 0]) ∧ Own w0 w' (cxA sb mb rb b fr r s I x y m A ⟨5, p, false⟩ R) := by
  have hS := stable_star (stable_blk sb (.cells (sC I x y m A e (ldV mb rb sb) (stV mb rb sb)) 67)) (stable_box mb rb b r hR)
  have hS2 := stable_star (stable_mem b fr s) (stable_box mb rb b r hR)
  have c0 := blk_cell h.right.right.blk 0 (v := .pointer (some ⟨b, 0, none⟩)) rfl
  have c1 := blk_cell h.right.right.right.blk 0 (v := .int .i64 r) rfl
  have H := Lib.hid h.swap2
  have HC := Lib.hid hc
  clear h hc
  generalize hV : rchV fr s r p n 1 = V at *
  have EV := Lib.hid hV
  clear hV
  go_enter Tryz.func19, Tryz.ntmps19
  go_wp2_with (go_at_call 16; refine (o_reach H.out hS r p n 1 hp hr hn V false EV.out HC.out).mono ?_; rintro e' w1 ⟨rfl, h1⟩; have h2 := h1.swap2; have c43 := blk_cell h2.blk 43 (v := .int .i64 e.k) rfl; have c44 := blk_cell h2.blk 44 (v := .int .u64 e.ad) rfl; have c45 := blk_cell h2.blk 45 (v := .bool e.wr) rfl; have f43 := blk_frozen h2.blk 43; have f44 := blk_frozen h2.blk 44; have f45 := blk_frozen h2.blk 45; have H2 := Lib.hid (((h2.set hS2 43 (.int .i64 5)).set hS2 44 (.int .u64 p)).set hS2 45 (.bool false)); clear h1 h2)
  go_ret2
  exact ⟨rfl, H2.out⟩
theorem o_storec_yes {w0 w : World} {sb mb rb b fr : Nat} {r : Int} {s : List UInt8} {I : InS} {x y m : Int} {A : HS} {e : EvS} {R : Asn} (h : Own w0 w (cxA sb mb rb b fr r s I x y m A e R)) (hR : Stable R) (hr : i64 r) (p n v : Int) (hp : u64 p) (hv : word v) (hn : n = 1 ∨ n = 2 ∨ n = 4 ∨ n = 8) (hc : rchB fr s r p n 2 = true) :
    Calls Tryz.prog 20 #[.int .u64 p, .int .i64 n, .int .u64 v, .pointer (some ⟨mb, 0, none⟩), .pointer (some ⟨rb, 0, none⟩), .pointer (some ⟨sb, 0, none⟩)] w fun e' w' => e' = .returned (.tuple #[]) ∧ Own w0 w' (cxA sb mb rb b fr r (storeS s (rchV fr s r p n 2) n v) I x y m A ⟨0, rchV fr s r p n 2, true⟩ R) := by
  have hS := stable_star (stable_blk sb (.cells (sC I x y m A e (ldV mb rb sb) (stV mb rb sb)) 67)) (stable_box mb rb b r hR)
  have hS2 := stable_star (stable_mem b fr (storeS s (rchV fr s r p n 2) n v)) (stable_box mb rb b r hR)
  have c0 := blk_cell h.right.right.blk 0 (v := .pointer (some ⟨b, 0, none⟩)) rfl
  have c1 := blk_cell h.right.right.right.blk 0 (v := .int .i64 r) rfl
  have hu := rch_u64 (s := s) (r := r) (n := n) (acc := 2) (o_mlen h.right).2.2 hp
  have H := Lib.hid h.swap2
  have HC := Lib.hid hc
  have HV := Lib.hid hu.1
  clear h hu hc
  generalize hV : rchV fr s r p n 2 = V at *
  have EV := Lib.hid hV
  clear hV
  go_enter Tryz.func20, Tryz.ntmps20
  go_wp2_with (first
    | (go_at_call 16; refine (o_reach H.out hS r p n 2 hp hr hn V true EV.out HC.out).mono ?_; rintro e' w1 ⟨rfl, h1⟩; have H1 := Lib.hid h1; have d0 := blk_cell h1.swap2.right.right.blk 0 (v := .pointer (some ⟨b, 0, none⟩)) rfl; clear h1)
    | (go_at_call 13; refine (o_mstore H1.out hS V n v _ HV.out hv _ rfl rfl).mono ?_; rintro e' w2 ⟨rfl, h1⟩; have h2 := h1.swap2; have c43 := blk_cell h2.blk 43 (v := .int .i64 e.k) rfl; have c44 := blk_cell h2.blk 44 (v := .int .u64 e.ad) rfl; have c45 := blk_cell h2.blk 45 (v := .bool e.wr) rfl; have f43 := blk_frozen h2.blk 43; have f44 := blk_frozen h2.blk 44; have f45 := blk_frozen h2.blk 45; have H2 := Lib.hid (((h2.set hS2 43 (.int .i64 0)).set hS2 44 (.int .u64 V)).set hS2 45 (.bool true)); clear h1 h2))
  go_end0
  exact ⟨rfl, H2.out⟩
theorem o_storec_no {w0 w : World} {sb mb rb b fr : Nat} {r : Int} {s : List UInt8} {I : InS} {x y m : Int} {A : HS} {e : EvS} {R : Asn} (h : Own w0 w (cxA sb mb rb b fr r s I x y m A e R)) (hR : Stable R) (hr : i64 r) (p n v : Int) (hp : u64 p) (hn : n = 1 ∨ n = 2 ∨ n = 4 ∨ n = 8) (hc : rchB fr s r p n 2 = false) :
    Calls Tryz.prog 20 #[.int .u64 p, .int .i64 n, .int .u64 v, .pointer (some ⟨mb, 0, none⟩), .pointer (some ⟨rb, 0, none⟩), .pointer (some ⟨sb, 0, none⟩)] w fun e' w' => e' = .returned (.tuple #[]) ∧ Own w0 w' (cxA sb mb rb b fr r s I x y m A ⟨6, p, false⟩ R) := by
  have hS := stable_star (stable_blk sb (.cells (sC I x y m A e (ldV mb rb sb) (stV mb rb sb)) 67)) (stable_box mb rb b r hR)
  have hS2 := stable_star (stable_mem b fr s) (stable_box mb rb b r hR)
  have c0 := blk_cell h.right.right.blk 0 (v := .pointer (some ⟨b, 0, none⟩)) rfl
  have c1 := blk_cell h.right.right.right.blk 0 (v := .int .i64 r) rfl
  have H := Lib.hid h.swap2
  have HC := Lib.hid hc
  clear h hc
  generalize hV : rchV fr s r p n 2 = V at *
  have EV := Lib.hid hV
  clear hV
  go_enter Tryz.func20, Tryz.ntmps20
  go_wp2_with (go_at_call 16; refine (o_reach H.out hS r p n 2 hp hr hn V false EV.out HC.out).mono ?_; rintro e' w1 ⟨rfl, h1⟩; have h2 := h1.swap2; have c43 := blk_cell h2.blk 43 (v := .int .i64 e.k) rfl; have c44 := blk_cell h2.blk 44 (v := .int .u64 e.ad) rfl; have c45 := blk_cell h2.blk 45 (v := .bool e.wr) rfl; have f43 := blk_frozen h2.blk 43; have f44 := blk_frozen h2.blk 44; have f45 := blk_frozen h2.blk 45; have H2 := Lib.hid (((h2.set hS2 43 (.int .i64 6)).set hS2 44 (.int .u64 p)).set hS2 45 (.bool false)); clear h1 h2)
  refine bodyPost_ret (results_none rfl _ _ _) rfl ?_
  exact ⟨rfl, H2.out⟩
end Go.Proofs.YtngeabphjdfdgaaGreatDoor.P
namespace Go.Proofs.YtngeabphjdfdgaaGreatDoor.P
open Go.RowKit Go.MuLone Go.Proofs.YtngeabphjdfdgaaGreatDoor.W
theorem u_of_w {a : Int} (h : word a) : u64 a := ⟨h.1, by have := h.2; omega⟩
theorem w64_word (a : Int) : word (w64 a) := ⟨by unfold w64; omega, by unfold w64; omega⟩
theorem w64_wrap (a : Int) : IntKind.u64.wrap a = w64 a := IntKind.wrap_u64 a
/-- What is left of a step on its way. -/
def DoneP (w0 : World) (sb mb rb b fr : Nat) (r : Int) (I : InS) (x y m : Int) (R : Asn) (D : DS) (w' : World) : Prop :=
  ∃ A', Own w0 w' (cxA sb mb rb b fr r D.s I x y m A' D.e R) ∧ (D.e.k = 0 → A' = D.A)
theorem stor_yes {fr : Nat} {s : List UInt8} {r p n b : Int} {A : HS} (h : rchB fr s r p n 2 = true) : storF fr s r p n b A = ⟨A, ⟨0, rchV fr s r p n 2, true⟩, storeS s (rchV fr s r p n 2) n b⟩ := by unfold storF; rw [if_pos h]
theorem stor_no {fr : Nat} {s : List UInt8} {r p n b : Int} {A : HS} (h : rchB fr s r p n 2 = false) : storF fr s r p n b A = ⟨A, ⟨6, p, false⟩, s⟩ := by unfold storF; rw [if_neg (by rw [h]; decide)]
set_option maxHeartbeats 3200000 in
theorem o_move_st {w0 w : World} {sb mb rb b fr : Nat} {r : Int} {s : List UInt8} {op : Int} {rd i1 i2 : Nat} {im : Int} {x y m : Int} {A : HS} {R : Asn} (h : Own w0 w (cxA sb mb rb b fr r s ⟨op, rd, i1, i2, im⟩ x y m A e0 R)) (hR : Stable R) (hr : i64 r) (hy : word y) (n p : Int) (hp : w64 (x + m) = p) (hop : (op = 18 ∧ n = 1) ∨ (op = 19 ∧ n = 2) ∨ (op = 20 ∧ n = 4) ∨ (op = 21 ∧ n = 8)) :
    Calls Tryz.prog 44 #[.pointer (some ⟨sb, 0, none⟩)] w fun e' w' => e' = .returned (.tuple #[]) ∧ DoneP w0 sb mb rb b fr r ⟨op, rd, i1, i2, im⟩ x y m R (storF fr s r p n y A) w' := by
  have hS := stable_star (stable_blk sb (.cells (sC ⟨op, rd, i1, i2, im⟩ x y m A e0 (ldV mb rb sb) (stV mb rb sb)) 67)) (stable_star (stable_mem b fr s) (stable_box mb rb b r hR))
  have c0 := blk_cell h.blk 0 (v := .int .i64 op) rfl
  have c5 := blk_cell h.blk 5 (v := .int .u64 x) rfl
  have c6 := blk_cell h.blk 6 (v := .int .u64 y) rfl
  have c7 := blk_cell h.blk 7 (v := .int .u64 m) rfl
  have c47 := blk_cell h.blk 47 (v := stV mb rb sb) rfl
  have HN := Lib.hid (fun n => h.gr hS (gr_dN2 w n))
  have HS := Lib.hid hS
  have hpu : u64 p := by rw [← hp]; exact u_of_w (w64_word _)
  have hw : IntKind.u64.wrap (x + m) = p := by rw [w64_wrap, hp]
  clear h hp
  have hn : n = 1 ∨ n = 2 ∨ n = 4 ∨ n = 8 := by omega
  have k0 : IntKind.i64.wrap 0 = 0 := by decide
  have k1 : IntKind.i64.wrap 1 = 1 := by decide
  have k2 : IntKind.i64.wrap 2 = 2 := by decide
  have k3 : IntKind.i64.wrap 3 = 3 := by decide
  have k4 : IntKind.i64.wrap 4 = 4 := by decide
  have k8 : IntKind.i64.wrap 8 = 8 := by decide
  cases hc : rchB fr s r p n 2 with
  | true =>
    rw [stor_yes hc]
    have C : Hid (∀ w1, Own w0 w1 (cxA sb mb rb b fr r s ⟨op, rd, i1, i2, im⟩ x y m A e0 R) → _) := Lib.hid (fun w1 h1 => o_storec_yes h1 hR hr p n y hpu hy hn hc)
    generalize rchV fr s r p n 2 = V at *
    generalize storeS s V n y = s2 at *
    clear hc hS
    rcases hop with ⟨rfl, rfl⟩ | ⟨rfl, rfl⟩ | ⟨rfl, rfl⟩ | ⟨rfl, rfl⟩
    all_goals
      go_enter Tryz.func44, Tryz.ntmps44
      go_wp2_with fail
      go_quiet (fail)
      go_wp2_with fail
      have H2 := Lib.hid (HN.out nq)
      have c6 : (w.drewN nq).cell? ⟨sb, 6, none⟩ = _ := c6
      have c47 : (w.drewN nq).cell? ⟨sb, 47, none⟩ = _ := c47
      clear HN
      generalize w.drewN nq = w2 at *
      go_still_tail 12, (by kernel_rfl)
      go_wp2_with (go_at_call 20; refine (C.out _ (H2.out.drew HS.out)).mono ?_; rintro e' w1 ⟨rfl, h1⟩)
      refine bodyPost_ret (results_none rfl _ _ _) rfl ?_
      exact ⟨rfl, A, h1, fun _ => rfl⟩
  | false =>
    rw [stor_no hc]
    have C : Hid (∀ w1, Own w0 w1 (cxA sb mb rb b fr r s ⟨op, rd, i1, i2, im⟩ x y m A e0 R) → _) := Lib.hid (fun w1 h1 => o_storec_no h1 hR hr p n y hpu hn hc)
    clear hc hS
    rcases hop with ⟨rfl, rfl⟩ | ⟨rfl, rfl⟩ | ⟨rfl, rfl⟩ | ⟨rfl, rfl⟩
    all_goals
      go_enter Tryz.func44, Tryz.ntmps44
      go_wp2_with fail
      go_quiet (fail)
      go_wp2_with fail
      have H2 := Lib.hid (HN.out nq)
      have c6 : (w.drewN nq).cell? ⟨sb, 6, none⟩ = _ := c6
      have c47 : (w.drewN nq).cell? ⟨sb, 47, none⟩ = _ := c47
      clear HN
      generalize w.drewN nq = w2 at *
      go_still_tail 12, (by kernel_rfl)
      go_wp2_with (go_at_call 20; refine (C.out _ (H2.out.drew HS.out)).mono ?_; rintro e' w1 ⟨rfl, h1⟩)
      refine bodyPost_ret (results_none rfl _ _ _) rfl ?_
      exact ⟨rfl, A, h1, fun h => absurd h (show ¬ (6 : Int) = 0 by decide)⟩
end Go.Proofs.YtngeabphjdfdgaaGreatDoor.P
namespace Go.Proofs.YtngeabphjdfdgaaGreatDoor.P
open Go.RowKit Go.MuLone Go.Proofs.YtngeabphjdfdgaaGreatDoor.W
theorem loadV_word (s : List UInt8) (p n : Int) : W.word (loadV s p n) := by
  unfold loadV
  split
  · split
    · exact W.ofF_word _
    · exact ⟨by decide, by decide⟩
  · exact ⟨by decide, by decide⟩
set_option maxHeartbeats 3200000 in
theorem o_move_ld {w0 w : World} {sb mb rb b fr : Nat} {r : Int} {s : List UInt8} {op : Int} {rd i1 i2 : Nat} {im : Int} {x y m : Int} {A : HS} {R : Asn} (h : Own w0 w (cxA sb mb rb b fr r s ⟨op, rd, i1, i2, im⟩ x y m A e0 R)) (hR : Stable R) (hrd : rd < 32) (n p v q : Int) (e1 : EvS) (hp : w64 (x + m) = p) (hv : word v)
    (hC : ∀ w1, Own w0 w1 (cxA sb mb rb b fr r s ⟨op, rd, i1, i2, im⟩ x y m A e0 R) → Calls Tryz.prog 19 #[.int .u64 p, .int .i64 n, .pointer (some ⟨mb, 0, none⟩), .pointer (some ⟨rb, 0, none⟩), .pointer (some ⟨sb, 0, none⟩)] w1 fun e' w' => e' = .returned (.tuple #[.int .u64 v, .int .u64 q]) ∧ Own w0 w' (cxA sb mb rb b fr r s ⟨op, rd, i1, i2, im⟩ x y m A e1 R))
    (hop : (op = 11 ∧ n = 1) ∨ (op = 12 ∧ n = 2) ∨ (op = 13 ∧ n = 4) ∨ (op = 14 ∧ n = 8) ∨ (op = 15 ∧ n = 1) ∨ (op = 16 ∧ n = 2) ∨ (op = 17 ∧ n = 4)) :
    Calls Tryz.prog 44 #[.pointer (some ⟨sb, 0, none⟩)] w fun e' w' => e' = .returned (.tuple #[]) ∧ Own w0 w' (cxA sb mb rb b fr r s ⟨op, rd, i1, i2, im⟩ x y m (A.set rd (if op ≤ 14 then sgnF v (8 * n) else v)) e1 R) := by
  have hS := stable_star (stable_blk sb (.cells (sC ⟨op, rd, i1, i2, im⟩ x y m A e0 (ldV mb rb sb) (stV mb rb sb)) 67)) (stable_star (stable_mem b fr s) (stable_box mb rb b r hR))
  have c0 := blk_cell h.blk 0 (v := .int .i64 op) rfl
  have c5 := blk_cell h.blk 5 (v := .int .u64 x) rfl
  have c7 := blk_cell h.blk 7 (v := .int .u64 m) rfl
  have c46 := blk_cell h.blk 46 (v := ldV mb rb sb) rfl
  have HN := Lib.hid (fun n => h.gr hS (gr_dN2 w n))
  have HS := Lib.hid (stable_star (stable_mem b fr s) (stable_box mb rb b r hR))
  have HC := Lib.hid hC
  have hw : IntKind.u64.wrap (x + m) = p := by rw [w64_wrap, hp]
  clear h hp hS hC
  have k0 : IntKind.i64.wrap 0 = 0 := by decide
  have k1 : IntKind.i64.wrap 1 = 1 := by decide
  have k2 : IntKind.i64.wrap 2 = 2 := by decide
  have k3 : IntKind.i64.wrap 3 = 3 := by decide
  have k4 : IntKind.i64.wrap 4 = 4 := by decide
  have k5 : IntKind.i64.wrap 5 = 5 := by decide
  have k6 : IntKind.i64.wrap 6 = 6 := by decide
  have k8 : IntKind.i64.wrap 8 = 8 := by decide
  have CS := Lib.hid (fun n w1 => c_sign v n hv w1)
  rcases hop with ⟨rfl, rfl⟩ | ⟨rfl, rfl⟩ | ⟨rfl, rfl⟩ | ⟨rfl, rfl⟩ | ⟨rfl, rfl⟩ | ⟨rfl, rfl⟩ | ⟨rfl, rfl⟩
  all_goals
    go_enter Tryz.func44, Tryz.ntmps44
    go_wp2_with fail
    go_quiet (fail)
    go_wp2_with fail
    have H2 := Lib.hid (HN.out nq)
    have c46 : (w.drewN nq).cell? ⟨sb, 46, none⟩ = _ := c46
    clear HN
    generalize w.drewN nq = w2 at *
    go_wp2_with (first
      | (go_at_call 19; refine (HC.out _ H2.out).mono ?_; rintro e' w3 ⟨rfl, h3⟩; have H3 := Lib.hid h3; clear h3)
      | (go_at_call 63; refine (CS.out _ _).mono ?_; rintro e' w4 ⟨rfl, rfl⟩)
      | (go_at_call 41; refine (o_set H3.out HS.out hrd _).mono ?_; rintro e' w5 ⟨rfl, h5⟩; have H5 := Lib.hid h5; clear h5))
    go_end0
    exact ⟨rfl, H5.out⟩
end Go.Proofs.YtngeabphjdfdgaaGreatDoor.P
