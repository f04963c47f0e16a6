/- Stage 5: a step's closures: a load and a store by an address. No condition. -/
import Derived.Test.YtngeabphjdfdgaaDoorHD
set_option linter.unusedVariables false
set_option linter.unusedSimpArgs false
set_option maxRecDepth 100000
namespace Go.Proofs.YtngeabphjdfdgaaDoor.P
open Go.RowKit Go.MuLone Go.Proofs.YtngeabphjdfdgaaDoor.W
abbrev boxA (mb rb b : Nat) (r : Int) (R : Asn) : Asn := Star (blkA mb (.cells #[.pointer (some ⟨b, 0, none⟩)] 28)) (Star (blkA rb (.cells #[.int .i64 r] 3)) R)
theorem stable_box (mb rb b : Nat) (r : Int) {R : Asn} (hR : Stable R) : Stable (boxA mb rb b r R) := stable_star (stable_blk _ _) (stable_star (stable_blk _ _) hR)
abbrev ldV (mb rb sb : Nat) : Value := .func (.func 22) #[] #[.pointer (some ⟨mb, 0, none⟩), .pointer (some ⟨rb, 0, none⟩), .pointer (some ⟨sb, 0, none⟩)]
abbrev stV (mb rb sb : Nat) : Value := .func (.func 23) #[] #[.pointer (some ⟨mb, 0, none⟩), .pointer (some ⟨rb, 0, none⟩), .pointer (some ⟨sb, 0, none⟩)]
/-- A step, its memory, what its closures have captured. -/
abbrev cxA (sb mb rb b fr : Nat) (r : Int) (s : List UInt8) (I : InS) (x y m : Int) (A : HS) (e : EvS) (R : Asn) : Asn := Star (stA sb I x y m A e (ldV mb rb sb) (stV mb rb sb)) (Star (memA b fr s) (boxA mb rb b r R))
theorem o_loadc_yes {w0 w : World} {sb mb rb b fr : Nat} {r : Int} {s : List UInt8} {I : InS} {x y m : Int} {A : HS} {e : EvS} {R : Asn} (h : Own w0 w (cxA sb mb rb b fr r s I x y m A e R)) (hR : Stable R) (hr : i64 r) (p n : Int) (hp : u64 p) (hn : n = 1 ∨ n = 2 ∨ n = 4 ∨ n = 8) (hc : rchB fr s r p n 1 = true) :
    Calls Tryd.prog 22 #[.int .u64 p, .int .i64 n, .pointer (some ⟨mb, 0, none⟩), .pointer (some ⟨rb, 0, none⟩), .pointer (some ⟨sb, 0, none⟩)] w fun e' w' => e' = .returned (.tuple #[.int .u64 (loadV s (rchV fr s r p n 1) n), .int .u64 (rchV fr s r p n 1)]) ∧ Own w0 w' (cxA sb mb rb b fr r s I x y m A e R) := by
  have hS := stable_star (stable_blk sb (.cells (sC I x y m A e (ldV mb rb sb) (stV mb rb sb)) 69)) (stable_box mb rb b r hR)
  have c0 := blk_cell h.right.right.blk 0 (v := .pointer (some ⟨b, 0, none⟩)) rfl
  have c1 := blk_cell h.right.right.right.blk 0 (v := .int .i64 r) rfl
  have hv := rch_u64 (s := s) (r := r) (n := n) (acc := 1) (o_mlen h.right).2.2 hp
  have H := Lib.hid h.swap2
  have HC := Lib.hid hc
  have HV := Lib.hid hv.1
  clear h hv hc
  generalize hV : rchV fr s r p n 1 = V at *
  have EV := Lib.hid hV
  clear hV
  go_enter Tryd.func22, Tryd.ntmps22
  go_wp2_with (first
    | (go_at_call 20; refine (o_reach H.out hS r p n 1 hp hr hn V true EV.out HC.out).mono ?_; rintro e' w1 ⟨rfl, h1⟩; have H1 := Lib.hid h1; have d0 := blk_cell h1.swap2.right.right.blk 0 (v := .pointer (some ⟨b, 0, none⟩)) rfl; clear h1)
    | (go_at_call 13; refine (o_mload H1.out hS V n _ _ HV.out rfl rfl).mono ?_; rintro e' w2 ⟨rfl, h2⟩))
  go_ret2
  exact ⟨rfl, h2.swap2⟩
theorem o_loadc_no {w0 w : World} {sb mb rb b fr : Nat} {r : Int} {s : List UInt8} {I : InS} {x y m : Int} {A : HS} {e : EvS} {R : Asn} (h : Own w0 w (cxA sb mb rb b fr r s I x y m A e R)) (hR : Stable R) (hr : i64 r) (p n : Int) (hp : u64 p) (hn : n = 1 ∨ n = 2 ∨ n = 4 ∨ n = 8) (hc : rchB fr s r p n 1 = false) :
    Calls Tryd.prog 22 #[.int .u64 p, .int .i64 n, .pointer (some ⟨mb, 0, none⟩), .pointer (some ⟨rb, 0, none⟩), .pointer (some ⟨sb, 0, none⟩)] w fun e' w' => e' = .returned (.tuple #[.int .u64 0, .int .u64 0]) ∧ Own w0 w' (cxA sb mb rb b fr r s I x y m A ⟨5, p, false⟩ R) := by
  have hS := stable_star (stable_blk sb (.cells (sC I x y m A e (ldV mb rb sb) (stV mb rb sb)) 69)) (stable_box mb rb b r hR)
  have hS2 := stable_star (stable_mem b fr s) (stable_box mb rb b r hR)
  have c0 := blk_cell h.right.right.blk 0 (v := .pointer (some ⟨b, 0, none⟩)) rfl
  have c1 := blk_cell h.right.right.right.blk 0 (v := .int .i64 r) rfl
  have H := Lib.hid h.swap2
  have HC := Lib.hid hc
  clear h hc
  generalize hV : rchV fr s r p n 1 = V at *
  have EV := Lib.hid hV
  clear hV
  go_enter Tryd.func22, Tryd.ntmps22
  go_wp2_with (go_at_call 20; refine (o_reach H.out hS r p n 1 hp hr hn V false EV.out HC.out).mono ?_; rintro e' w1 ⟨rfl, h1⟩; have h2 := h1.swap2; have c43 := blk_cell h2.blk 43 (v := .int .i64 e.k) rfl; have c44 := blk_cell h2.blk 44 (v := .int .u64 e.ad) rfl; have c45 := blk_cell h2.blk 45 (v := .bool e.wr) rfl; have f43 := blk_frozen h2.blk 43; have f44 := blk_frozen h2.blk 44; have f45 := blk_frozen h2.blk 45; have H2 := Lib.hid (((h2.set hS2 43 (.int .i64 5)).set hS2 44 (.int .u64 p)).set hS2 45 (.bool false)); clear h1 h2)
  go_ret2
  exact ⟨rfl, H2.out⟩
theorem o_storec_yes {w0 w : World} {sb mb rb b fr : Nat} {r : Int} {s : List UInt8} {I : InS} {x y m : Int} {A : HS} {e : EvS} {R : Asn} (h : Own w0 w (cxA sb mb rb b fr r s I x y m A e R)) (hR : Stable R) (hr : i64 r) (p n v : Int) (hp : u64 p) (hv : word v) (hn : n = 1 ∨ n = 2 ∨ n = 4 ∨ n = 8) (hc : rchB fr s r p n 2 = true) :
    Calls Tryd.prog 23 #[.int .u64 p, .int .i64 n, .int .u64 v, .pointer (some ⟨mb, 0, none⟩), .pointer (some ⟨rb, 0, none⟩), .pointer (some ⟨sb, 0, none⟩)] w fun e' w' => e' = .returned (.tuple #[]) ∧ Own w0 w' (cxA sb mb rb b fr r (storeS s (rchV fr s r p n 2) n v) I x y m A ⟨0, rchV fr s r p n 2, true⟩ R) := by
  have hS := stable_star (stable_blk sb (.cells (sC I x y m A e (ldV mb rb sb) (stV mb rb sb)) 69)) (stable_box mb rb b r hR)
  have hS2 := stable_star (stable_mem b fr (storeS s (rchV fr s r p n 2) n v)) (stable_box mb rb b r hR)
  have c0 := blk_cell h.right.right.blk 0 (v := .pointer (some ⟨b, 0, none⟩)) rfl
  have c1 := blk_cell h.right.right.right.blk 0 (v := .int .i64 r) rfl
  have hu := rch_u64 (s := s) (r := r) (n := n) (acc := 2) (o_mlen h.right).2.2 hp
  have H := Lib.hid h.swap2
  have HC := Lib.hid hc
  have HV := Lib.hid hu.1
  clear h hu hc
  generalize hV : rchV fr s r p n 2 = V at *
  have EV := Lib.hid hV
  clear hV
  go_enter Tryd.func23, Tryd.ntmps23
  go_wp2_with (first
    | (go_at_call 20; refine (o_reach H.out hS r p n 2 hp hr hn V true EV.out HC.out).mono ?_; rintro e' w1 ⟨rfl, h1⟩; have H1 := Lib.hid h1; have d0 := blk_cell h1.swap2.right.right.blk 0 (v := .pointer (some ⟨b, 0, none⟩)) rfl; clear h1)
    | (go_at_call 16; refine (o_mstore H1.out hS V n v _ HV.out hv _ rfl rfl).mono ?_; rintro e' w2 ⟨rfl, h1⟩; have h2 := h1.swap2; have c43 := blk_cell h2.blk 43 (v := .int .i64 e.k) rfl; have c44 := blk_cell h2.blk 44 (v := .int .u64 e.ad) rfl; have c45 := blk_cell h2.blk 45 (v := .bool e.wr) rfl; have f43 := blk_frozen h2.blk 43; have f44 := blk_frozen h2.blk 44; have f45 := blk_frozen h2.blk 45; have H2 := Lib.hid (((h2.set hS2 43 (.int .i64 0)).set hS2 44 (.int .u64 V)).set hS2 45 (.bool true)); clear h1 h2))
  go_end0
  exact ⟨rfl, H2.out⟩
theorem o_storec_no {w0 w : World} {sb mb rb b fr : Nat} {r : Int} {s : List UInt8} {I : InS} {x y m : Int} {A : HS} {e : EvS} {R : Asn} (h : Own w0 w (cxA sb mb rb b fr r s I x y m A e R)) (hR : Stable R) (hr : i64 r) (p n v : Int) (hp : u64 p) (hn : n = 1 ∨ n = 2 ∨ n = 4 ∨ n = 8) (hc : rchB fr s r p n 2 = false) :
    Calls Tryd.prog 23 #[.int .u64 p, .int .i64 n, .int .u64 v, .pointer (some ⟨mb, 0, none⟩), .pointer (some ⟨rb, 0, none⟩), .pointer (some ⟨sb, 0, none⟩)] w fun e' w' => e' = .returned (.tuple #[]) ∧ Own w0 w' (cxA sb mb rb b fr r s I x y m A ⟨6, p, false⟩ R) := by
  have hS := stable_star (stable_blk sb (.cells (sC I x y m A e (ldV mb rb sb) (stV mb rb sb)) 69)) (stable_box mb rb b r hR)
  have hS2 := stable_star (stable_mem b fr s) (stable_box mb rb b r hR)
  have c0 := blk_cell h.right.right.blk 0 (v := .pointer (some ⟨b, 0, none⟩)) rfl
  have c1 := blk_cell h.right.right.right.blk 0 (v := .int .i64 r) rfl
  have H := Lib.hid h.swap2
  have HC := Lib.hid hc
  clear h hc
  generalize hV : rchV fr s r p n 2 = V at *
  have EV := Lib.hid hV
  clear hV
  go_enter Tryd.func23, Tryd.ntmps23
  go_wp2_with (go_at_call 20; refine (o_reach H.out hS r p n 2 hp hr hn V false EV.out HC.out).mono ?_; rintro e' w1 ⟨rfl, h1⟩; have h2 := h1.swap2; have c43 := blk_cell h2.blk 43 (v := .int .i64 e.k) rfl; have c44 := blk_cell h2.blk 44 (v := .int .u64 e.ad) rfl; have c45 := blk_cell h2.blk 45 (v := .bool e.wr) rfl; have f43 := blk_frozen h2.blk 43; have f44 := blk_frozen h2.blk 44; have f45 := blk_frozen h2.blk 45; have H2 := Lib.hid (((h2.set hS2 43 (.int .i64 6)).set hS2 44 (.int .u64 p)).set hS2 45 (.bool false)); clear h1 h2)
  refine bodyPost_ret (results_none rfl _ _ _) rfl ?_
  exact ⟨rfl, H2.out⟩
end Go.Proofs.YtngeabphjdfdgaaDoor.P
