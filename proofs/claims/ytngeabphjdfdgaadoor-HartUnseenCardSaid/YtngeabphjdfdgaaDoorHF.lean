/- Stage 5: loads and stores of a step. No condition. -/
import Derived.Test.YtngeabphjdfdgaaDoorHE
set_option linter.unusedVariables false
set_option linter.unusedSimpArgs false
set_option maxRecDepth 100000
namespace Go.Proofs.YtngeabphjdfdgaaDoor.P
open Go.RowKit Go.MuLone Go.Proofs.YtngeabphjdfdgaaDoor.W
theorem u_of_w {a : Int} (h : word a) : u64 a := ⟨h.1, by have := h.2; omega⟩
theorem w64_word (a : Int) : word (w64 a) := ⟨by unfold w64; omega, by unfold w64; omega⟩
theorem w64_wrap (a : Int) : IntKind.u64.wrap a = w64 a := IntKind.wrap_u64 a
/-- What is left of a step on its way. -/
def DoneP (w0 : World) (sb mb rb b fr : Nat) (r : Int) (I : InS) (x y m : Int) (R : Asn) (D : DS) (w' : World) : Prop :=
  ∃ A', Own w0 w' (cxA sb mb rb b fr r D.s I x y m A' D.e R) ∧ (D.e.k = 0 → A' = D.A)
theorem stor_yes {fr : Nat} {s : List UInt8} {r p n b : Int} {A : HS} (h : rchB fr s r p n 2 = true) : storF fr s r p n b A = ⟨A, ⟨0, rchV fr s r p n 2, true⟩, storeS s (rchV fr s r p n 2) n b⟩ := by unfold storF; rw [if_pos h]
theorem stor_no {fr : Nat} {s : List UInt8} {r p n b : Int} {A : HS} (h : rchB fr s r p n 2 = false) : storF fr s r p n b A = ⟨A, ⟨6, p, false⟩, s⟩ := by unfold storF; rw [if_neg (by rw [h]; decide)]
set_option maxHeartbeats 3200000 in
theorem o_move_st {w0 w : World} {sb mb rb b fr : Nat} {r : Int} {s : List UInt8} {op : Int} {rd i1 i2 : Nat} {im : Int} {x y m : Int} {A : HS} {R : Asn} (h : Own w0 w (cxA sb mb rb b fr r s ⟨op, rd, i1, i2, im⟩ x y m A e0 R)) (hR : Stable R) (hr : i64 r) (hy : word y) (n p : Int) (hp : w64 (x + m) = p) (hop : (op = 18 ∧ n = 1) ∨ (op = 19 ∧ n = 2) ∨ (op = 20 ∧ n = 4) ∨ (op = 21 ∧ n = 8)) :
    Calls Tryd.prog 43 #[.pointer (some ⟨sb, 0, none⟩)] w fun e' w' => e' = .returned (.tuple #[]) ∧ DoneP w0 sb mb rb b fr r ⟨op, rd, i1, i2, im⟩ x y m R (storF fr s r p n y A) w' := by
  have hS := stable_star (stable_blk sb (.cells (sC ⟨op, rd, i1, i2, im⟩ x y m A e0 (ldV mb rb sb) (stV mb rb sb)) 69)) (stable_star (stable_mem b fr s) (stable_box mb rb b r hR))
  have c0 := blk_cell h.blk 0 (v := .int .i64 op) rfl
  have c5 := blk_cell h.blk 5 (v := .int .u64 x) rfl
  have c6 := blk_cell h.blk 6 (v := .int .u64 y) rfl
  have c7 := blk_cell h.blk 7 (v := .int .u64 m) rfl
  have c47 := blk_cell h.blk 47 (v := stV mb rb sb) rfl
  have HN := Lib.hid (fun n => h.gr hS (gr_dN2 w n))
  have HS := Lib.hid hS
  have hpu : u64 p := by rw [← hp]; exact u_of_w (w64_word _)
  have hw : IntKind.u64.wrap (x + m) = p := by rw [w64_wrap, hp]
  clear h hp
  have hn : n = 1 ∨ n = 2 ∨ n = 4 ∨ n = 8 := by omega
  have k0 : IntKind.i64.wrap 0 = 0 := by decide
  have k1 : IntKind.i64.wrap 1 = 1 := by decide
  have k2 : IntKind.i64.wrap 2 = 2 := by decide
  have k3 : IntKind.i64.wrap 3 = 3 := by decide
  have k4 : IntKind.i64.wrap 4 = 4 := by decide
  have k8 : IntKind.i64.wrap 8 = 8 := by decide
  cases hc : rchB fr s r p n 2 with
  | true =>
    rw [stor_yes hc]
    have C : Hid (∀ w1, Own w0 w1 (cxA sb mb rb b fr r s ⟨op, rd, i1, i2, im⟩ x y m A e0 R) → _) := Lib.hid (fun w1 h1 => o_storec_yes h1 hR hr p n y hpu hy hn hc)
    generalize rchV fr s r p n 2 = V at *
    generalize storeS s V n y = s2 at *
    clear hc hS
    rcases hop with ⟨rfl, rfl⟩ | ⟨rfl, rfl⟩ | ⟨rfl, rfl⟩ | ⟨rfl, rfl⟩
    all_goals
      go_enter Tryd.func43, Tryd.ntmps43
      go_wp2_with fail
      go_quiet (fail)
      go_wp2_with fail
      have H2 := Lib.hid (HN.out nq)
      have c6 : (w.drewN nq).cell? ⟨sb, 6, none⟩ = _ := c6
      have c47 : (w.drewN nq).cell? ⟨sb, 47, none⟩ = _ := c47
      clear HN
      generalize w.drewN nq = w2 at *
      go_still_tail 12, (by kernel_rfl)
      go_wp2_with (go_at_call 23; refine (C.out _ (H2.out.drew HS.out)).mono ?_; rintro e' w1 ⟨rfl, h1⟩)
      refine bodyPost_ret (results_none rfl _ _ _) rfl ?_
      exact ⟨rfl, A, h1, fun _ => rfl⟩
  | false =>
    rw [stor_no hc]
    have C : Hid (∀ w1, Own w0 w1 (cxA sb mb rb b fr r s ⟨op, rd, i1, i2, im⟩ x y m A e0 R) → _) := Lib.hid (fun w1 h1 => o_storec_no h1 hR hr p n y hpu hn hc)
    clear hc hS
    rcases hop with ⟨rfl, rfl⟩ | ⟨rfl, rfl⟩ | ⟨rfl, rfl⟩ | ⟨rfl, rfl⟩
    all_goals
      go_enter Tryd.func43, Tryd.ntmps43
      go_wp2_with fail
      go_quiet (fail)
      go_wp2_with fail
      have H2 := Lib.hid (HN.out nq)
      have c6 : (w.drewN nq).cell? ⟨sb, 6, none⟩ = _ := c6
      have c47 : (w.drewN nq).cell? ⟨sb, 47, none⟩ = _ := c47
      clear HN
      generalize w.drewN nq = w2 at *
      go_still_tail 12, (by kernel_rfl)
      go_wp2_with (go_at_call 23; refine (C.out _ (H2.out.drew HS.out)).mono ?_; rintro e' w1 ⟨rfl, h1⟩)
      refine bodyPost_ret (results_none rfl _ _ _) rfl ?_
      exact ⟨rfl, A, h1, fun h => absurd h (show ¬ (6 : Int) = 0 by decide)⟩
end Go.Proofs.YtngeabphjdfdgaaDoor.P
