/- Stage 5: what a step does with its instruction. No condition. -/
import Derived.Test.YtngeabphjdfdgaaGreatDoorHM
import Derived.Test.YtngeabphjdfdgaaGreatDoorHO
import Derived.Laws.BitsAllLaws
set_option linter.unusedVariables false
set_option linter.unusedSimpArgs false
set_option maxRecDepth 100000
namespace Go.Proofs.YtngeabphjdfdgaaGreatDoor.P
open Go.RowKit Go.MuLone Go.Proofs.YtngeabphjdfdgaaGreatDoor.W
theorem jump_e (A : HS) (s : List UInt8) (tg : Int) : (jumpF A s tg).e = (if tg % 4 = 0 then e0 else ⟨4, tg, false⟩) ∧ (jumpF A s tg).s = s := by
  unfold jumpF; split <;> exact ⟨rfl, rfl⟩
theorem done_jump {w0 w : World} {sb mb rb b fr : Nat} {r : Int} {s : List UInt8} {I : InS} {x y m : Int} {A : HS} {R : Asn} {tg : Int} (h : Own w0 w (Star (stA sb I x y m (jumpF A s tg).A (if tg % 4 = 0 then e0 else ⟨4, tg, false⟩) (ldV mb rb sb) (stV mb rb sb)) (Star (memA b fr s) (boxA mb rb b r R)))) : DoneP w0 sb mb rb b fr r I x y m R (jumpF A s tg) w := by
  refine ⟨(jumpF A s tg).A, ?_, fun _ => rfl⟩
  rw [(jump_e A s tg).1, (jump_e A s tg).2]
  exact h
theorem and_even (a : Nat) (h : a < 18446744073709551616) : a &&& 18446744073709551614 = a / 2 * 2 := by
  apply Nat.eq_of_testBit_eq
  intro i
  cases i with
  | zero => simp [Nat.testBit_zero]
  | succ i =>
    rw [Nat.testBit_and, Nat.testBit_succ, Nat.testBit_succ, Nat.testBit_succ, show 18446744073709551614 / 2 = 2 ^ 63 - 1 from rfl, show a / 2 * 2 / 2 = a / 2 by omega, Nat.testBit_two_pow_sub_one]
    by_cases hi : i < 63
    · rw [decide_eq_true hi, Bool.and_true]
    · rw [decide_eq_false hi, Bool.and_false]
      have h2 := Nat.pow_le_pow_right (by decide : 0 < 2) (Nat.le_of_not_lt hi)
      exact (Nat.testBit_lt_two_pow (by omega)).symm
theorem even_u64 (a : Int) (h : word a) : bits .andNot .u64 a 1 = a / 2 * 2 := by
  obtain ⟨h0, h1⟩ := h
  obtain ⟨n, rfl⟩ : ∃ n : Nat, a = (n : Int) := ⟨a.toNat, by omega⟩
  have := u64_andNot_nat n 1 (by omega) (by decide)
  rw [show (1 : Int) = ((1 : Nat) : Int) from rfl, this, show 18446744073709551615 - 1 = 18446744073709551614 from rfl, and_even n (by omega)]
  omega
set_option maxHeartbeats 3200000 in
theorem do_1 {w0 w : World} {sb mb rb b fr : Nat} {r : Int} {s : List UInt8} {op : Int} {rd i1 i2 : Nat} {im : Int} {x y m : Int} {A : HS} {R : Asn} (h : Own w0 w (cxA sb mb rb b fr r s ⟨op, rd, i1, i2, im⟩ x y m A e0 R)) (hR : Stable R) (hr : i64 r) (hrd : rd < 32) (hx : word x) (hy : word y) (hm : word m) (pc : Int) (hpc : u64 pc) (hop : op = 1 ∨ op = 2) : Calls Tryz.prog 21 #[.pointer (some ⟨sb, 0, none⟩), .pointer (some ⟨b, 0, none⟩), .int .i64 r, .int .u64 pc] w fun e' w' => e' = .returned (.tuple #[]) ∧ DoneP w0 sb mb rb b fr r ⟨op, rd, i1, i2, im⟩ x y m R (doF fr s r op rd x y m pc A) w' := by
  have c0 := blk_cell h.blk 0 (v := .int .i64 op) rfl
  have c5 := blk_cell h.blk 5 (v := .int .u64 x) rfl
  have c6 := blk_cell h.blk 6 (v := .int .u64 y) rfl
  have c7 := blk_cell h.blk 7 (v := .int .u64 m) rfl
  have HS := Lib.hid (stable_star (stable_mem b fr s) (stable_box mb rb b r hR))
  have HSS := Lib.hid (stable_star (stable_blk sb (.cells (sC ⟨op, rd, i1, i2, im⟩ x y m A e0 (ldV mb rb sb) (stV mb rb sb)) 67)) HS.out)
  have H0 := Lib.hid h
  clear h
  have e1 : IntKind.u64.wrap (pc + m) = w64 (pc + m) := w64_wrap _
  rcases hop with rfl | rfl
  · unfold doF
    rw [if_pos rfl]
    go_enter Tryz.func21, Tryz.ntmps21
    go_wp2_with (go_at_call 41; refine (o_set H0.out HS.out hrd _).mono ?_; rintro e' w5 ⟨rfl, h5⟩; have H5 := Lib.hid h5; skip; clear h5)
    go_end0
    exact ⟨rfl, _, H5.out, fun _ => rfl⟩
  · unfold doF
    rw [if_neg (by decide), if_pos rfl]
    go_enter Tryz.func21, Tryz.ntmps21
    go_wp2_with (go_at_call 41; refine (o_set H0.out HS.out hrd _).mono ?_; rintro e' w5 ⟨rfl, h5⟩; have H5 := Lib.hid h5; skip; clear h5)
    go_end0
    exact ⟨rfl, _, H5.out, fun _ => rfl⟩
set_option maxHeartbeats 3200000 in
theorem do_3 {w0 w : World} {sb mb rb b fr : Nat} {r : Int} {s : List UInt8} {op : Int} {rd i1 i2 : Nat} {im : Int} {x y m : Int} {A : HS} {R : Asn} (h : Own w0 w (cxA sb mb rb b fr r s ⟨op, rd, i1, i2, im⟩ x y m A e0 R)) (hR : Stable R) (hr : i64 r) (hrd : rd < 32) (hx : word x) (hy : word y) (hm : word m) (pc : Int) (hpc : u64 pc) (hop : op = 3) : Calls Tryz.prog 21 #[.pointer (some ⟨sb, 0, none⟩), .pointer (some ⟨b, 0, none⟩), .int .i64 r, .int .u64 pc] w fun e' w' => e' = .returned (.tuple #[]) ∧ DoneP w0 sb mb rb b fr r ⟨op, rd, i1, i2, im⟩ x y m R (doF fr s r op rd x y m pc A) w' := by
  have c0 := blk_cell h.blk 0 (v := .int .i64 op) rfl
  have c5 := blk_cell h.blk 5 (v := .int .u64 x) rfl
  have c6 := blk_cell h.blk 6 (v := .int .u64 y) rfl
  have c7 := blk_cell h.blk 7 (v := .int .u64 m) rfl
  have HS := Lib.hid (stable_star (stable_mem b fr s) (stable_box mb rb b r hR))
  have HSS := Lib.hid (stable_star (stable_blk sb (.cells (sC ⟨op, rd, i1, i2, im⟩ x y m A e0 (ldV mb rb sb) (stV mb rb sb)) 67)) HS.out)
  have H0 := Lib.hid h
  clear h
  have e1 : IntKind.u64.wrap (pc + m) = w64 (pc + m) := w64_wrap _
  have e2 : IntKind.u64.wrap (pc + 4) = w64 (pc + 4) := w64_wrap _
  have hu : u64 (w64 (pc + m)) := u_of_w (w64_word _)
  subst hop
  unfold doF
  rw [if_neg (by decide), if_neg (by decide), if_pos rfl]
  go_enter Tryz.func21, Tryz.ntmps21
  go_wp2_with (first | (go_at_call 41; refine (o_set H0.out HS.out hrd _).mono ?_; rintro e' w5 ⟨rfl, h5⟩; have H5 := Lib.hid h5; have d5 := blk_cell h5.blk 5 (v := .int .u64 x) rfl; have d7 := blk_cell h5.blk 7 (v := .int .u64 m) rfl; clear h5) | (go_at_call 42; refine (o_jump H5.out HS.out _ hu s).mono ?_; rintro e' w6 ⟨rfl, h6⟩; have H6 := Lib.hid h6; clear h6))
  go_end0
  exact ⟨rfl, done_jump H6.out⟩
set_option maxHeartbeats 3200000 in
theorem do_4 {w0 w : World} {sb mb rb b fr : Nat} {r : Int} {s : List UInt8} {op : Int} {rd i1 i2 : Nat} {im : Int} {x y m : Int} {A : HS} {R : Asn} (h : Own w0 w (cxA sb mb rb b fr r s ⟨op, rd, i1, i2, im⟩ x y m A e0 R)) (hR : Stable R) (hr : i64 r) (hrd : rd < 32) (hx : word x) (hy : word y) (hm : word m) (pc : Int) (hpc : u64 pc) (hop : op = 4) : Calls Tryz.prog 21 #[.pointer (some ⟨sb, 0, none⟩), .pointer (some ⟨b, 0, none⟩), .int .i64 r, .int .u64 pc] w fun e' w' => e' = .returned (.tuple #[]) ∧ DoneP w0 sb mb rb b fr r ⟨op, rd, i1, i2, im⟩ x y m R (doF fr s r op rd x y m pc A) w' := by
  have c0 := blk_cell h.blk 0 (v := .int .i64 op) rfl
  have c5 := blk_cell h.blk 5 (v := .int .u64 x) rfl
  have c6 := blk_cell h.blk 6 (v := .int .u64 y) rfl
  have c7 := blk_cell h.blk 7 (v := .int .u64 m) rfl
  have HS := Lib.hid (stable_star (stable_mem b fr s) (stable_box mb rb b r hR))
  have HSS := Lib.hid (stable_star (stable_blk sb (.cells (sC ⟨op, rd, i1, i2, im⟩ x y m A e0 (ldV mb rb sb) (stV mb rb sb)) 67)) HS.out)
  have H0 := Lib.hid h
  clear h
  have e1 : IntKind.u64.wrap (x + m) = w64 (x + m) := w64_wrap _
  have e2 : IntKind.u64.wrap (pc + 4) = w64 (pc + 4) := w64_wrap _
  have e3 : bits .andNot .u64 (w64 (x + m)) 1 = w64 (x + m) / 2 * 2 := even_u64 _ (w64_word _)
  have hu : u64 (w64 (x + m) / 2 * 2) := by have := w64_word (x + m); obtain ⟨h1, h2⟩ := this; generalize w64 (x + m) = z at *; exact ⟨by omega, by omega⟩
  subst hop
  unfold doF
  rw [if_neg (by decide), if_neg (by decide), if_neg (by decide), if_pos rfl]
  go_enter Tryz.func21, Tryz.ntmps21
  go_wp2_with (go_at_call 41; refine (o_set H0.out HS.out hrd _).mono ?_; rintro e' w5 ⟨rfl, h5⟩; have H5 := Lib.hid h5; have d5 := blk_cell h5.blk 5 (v := .int .u64 x) rfl; have d7 := blk_cell h5.blk 7 (v := .int .u64 m) rfl; clear h5)
  have HS5 := Lib.hid (stable_star (stable_blk sb (.cells (sC ⟨4, rd, i1, i2, im⟩ x y m (A.set rd (w64 (pc + 4))) e0 (ldV mb rb sb) (stV mb rb sb)) 67)) HS.out)
  go_still_tail 11, (by kernel_rfl)
  go_wp2_with (go_at_call 42; refine (o_jump (H5.out.drew HS5.out) HS.out _ hu s).mono ?_; rintro e' w6 ⟨rfl, h6⟩; have H6 := Lib.hid h6; clear h6)
  go_end0
  exact ⟨rfl, done_jump H6.out⟩
set_option maxHeartbeats 3200000 in
theorem do_5 {w0 w : World} {sb mb rb b fr : Nat} {r : Int} {s : List UInt8} {op : Int} {rd i1 i2 : Nat} {im : Int} {x y m : Int} {A : HS} {R : Asn} (h : Own w0 w (cxA sb mb rb b fr r s ⟨op, rd, i1, i2, im⟩ x y m A e0 R)) (hR : Stable R) (hr : i64 r) (hrd : rd < 32) (hx : word x) (hy : word y) (hm : word m) (pc : Int) (hpc : u64 pc) (hop : 5 ≤ op ∧ op ≤ 10) : Calls Tryz.prog 21 #[.pointer (some ⟨sb, 0, none⟩), .pointer (some ⟨b, 0, none⟩), .int .i64 r, .int .u64 pc] w fun e' w' => e' = .returned (.tuple #[]) ∧ DoneP w0 sb mb rb b fr r ⟨op, rd, i1, i2, im⟩ x y m R (doF fr s r op rd x y m pc A) w' := by
  have c0 := blk_cell h.blk 0 (v := .int .i64 op) rfl
  have c5 := blk_cell h.blk 5 (v := .int .u64 x) rfl
  have c6 := blk_cell h.blk 6 (v := .int .u64 y) rfl
  have c7 := blk_cell h.blk 7 (v := .int .u64 m) rfl
  have HS := Lib.hid (stable_star (stable_mem b fr s) (stable_box mb rb b r hR))
  have HSS := Lib.hid (stable_star (stable_blk sb (.cells (sC ⟨op, rd, i1, i2, im⟩ x y m A e0 (ldV mb rb sb) (stV mb rb sb)) 67)) HS.out)
  have H0 := Lib.hid h
  clear h
  have e1 : IntKind.u64.wrap (pc + m) = w64 (pc + m) := w64_wrap _
  have hu : u64 (w64 (pc + m)) := u_of_w (w64_word _)
  have HO := Lib.hid hop
  have n1 : (op == 1) = false := by simp; omega
  have n2 : (op == 2) = false := by simp; omega
  have n3 : (op == 3) = false := by simp; omega
  have n4 : (op == 4) = false := by simp; omega
  have l10 : op ≤ 10 := hop.2
  unfold doF
  rw [if_neg (by omega), if_neg (by omega), if_neg (by omega), if_neg (by omega), if_pos l10]
  clear hop
  have CH := Lib.hid (o_holds H0.out HS.out hx hy HO.out)
  generalize holdF op x y = tk at *
  cases tk with
  | true =>
    rw [if_pos rfl]
    go_enter Tryz.func21, Tryz.ntmps21
    go_wp2_with (first | (go_at_call 43; refine CH.out.mono ?_; rintro e' w4 ⟨rfl, h5⟩; have H5 := Lib.hid h5; have d5 := blk_cell h5.blk 5 (v := .int .u64 x) rfl; have d7 := blk_cell h5.blk 7 (v := .int .u64 m) rfl; clear h5) | (go_at_call 42; refine (o_jump H5.out HS.out _ hu s).mono ?_; rintro e' w6 ⟨rfl, h6⟩; have H6 := Lib.hid h6; clear h6))
    go_end0
    exact ⟨rfl, done_jump H6.out⟩
  | false =>
    rw [if_neg (by decide)]
    go_enter Tryz.func21, Tryz.ntmps21
    go_wp2_with (first | (go_at_call 43; refine CH.out.mono ?_; rintro e' w4 ⟨rfl, h5⟩; have H5 := Lib.hid h5; clear h5))
    go_end0
    exact ⟨rfl, _, H5.out, fun _ => rfl⟩
set_option maxHeartbeats 3200000 in
theorem do_11 {w0 w : World} {sb mb rb b fr : Nat} {r : Int} {s : List UInt8} {op : Int} {rd i1 i2 : Nat} {im : Int} {x y m : Int} {A : HS} {R : Asn} (h : Own w0 w (cxA sb mb rb b fr r s ⟨op, rd, i1, i2, im⟩ x y m A e0 R)) (hR : Stable R) (hr : i64 r) (hrd : rd < 32) (hx : word x) (hy : word y) (hm : word m) (pc : Int) (hpc : u64 pc) (hop : 11 ≤ op ∧ op ≤ 21) : Calls Tryz.prog 21 #[.pointer (some ⟨sb, 0, none⟩), .pointer (some ⟨b, 0, none⟩), .int .i64 r, .int .u64 pc] w fun e' w' => e' = .returned (.tuple #[]) ∧ DoneP w0 sb mb rb b fr r ⟨op, rd, i1, i2, im⟩ x y m R (doF fr s r op rd x y m pc A) w' := by
  have c0 := blk_cell h.blk 0 (v := .int .i64 op) rfl
  have c5 := blk_cell h.blk 5 (v := .int .u64 x) rfl
  have c6 := blk_cell h.blk 6 (v := .int .u64 y) rfl
  have c7 := blk_cell h.blk 7 (v := .int .u64 m) rfl
  have HS := Lib.hid (stable_star (stable_mem b fr s) (stable_box mb rb b r hR))
  have HSS := Lib.hid (stable_star (stable_blk sb (.cells (sC ⟨op, rd, i1, i2, im⟩ x y m A e0 (ldV mb rb sb) (stV mb rb sb)) 67)) HS.out)
  have H0 := Lib.hid h
  clear h
  have n1 : (op == 1) = false := by simp; omega
  have n2 : (op == 2) = false := by simp; omega
  have n3 : (op == 3) = false := by simp; omega
  have n4 : (op == 4) = false := by simp; omega
  have l10 : ¬ op ≤ 10 := by omega
  have l21 : op ≤ 21 := hop.2
  unfold doF
  rw [if_neg (by omega), if_neg (by omega), if_neg (by omega), if_neg (by omega), if_neg l10, if_pos l21]
  have C := Lib.hid (o_move H0.out hR hr hrd hy hop)
  clear hop
  go_enter Tryz.func21, Tryz.ntmps21
  go_wp2_with (go_at_call 44; refine C.out.mono ?_; rintro e' w4 ⟨rfl, h5⟩)
  go_end0
  exact ⟨rfl, h5⟩
set_option maxHeartbeats 3200000 in
theorem do_66 {w0 w : World} {sb mb rb b fr : Nat} {r : Int} {s : List UInt8} {op : Int} {rd i1 i2 : Nat} {im : Int} {x y m : Int} {A : HS} {R : Asn} (h : Own w0 w (cxA sb mb rb b fr r s ⟨op, rd, i1, i2, im⟩ x y m A e0 R)) (hR : Stable R) (hr : i64 r) (hrd : rd < 32) (hx : word x) (hy : word y) (hm : word m) (pc : Int) (hpc : u64 pc) (hop : 66 ≤ op ∧ op ≤ 87) : Calls Tryz.prog 21 #[.pointer (some ⟨sb, 0, none⟩), .pointer (some ⟨b, 0, none⟩), .int .i64 r, .int .u64 pc] w fun e' w' => e' = .returned (.tuple #[]) ∧ DoneP w0 sb mb rb b fr r ⟨op, rd, i1, i2, im⟩ x y m R (doF fr s r op rd x y m pc A) w' := by
  have c0 := blk_cell h.blk 0 (v := .int .i64 op) rfl
  have c5 := blk_cell h.blk 5 (v := .int .u64 x) rfl
  have c6 := blk_cell h.blk 6 (v := .int .u64 y) rfl
  have c7 := blk_cell h.blk 7 (v := .int .u64 m) rfl
  have HS := Lib.hid (stable_star (stable_mem b fr s) (stable_box mb rb b r hR))
  have HSS := Lib.hid (stable_star (stable_blk sb (.cells (sC ⟨op, rd, i1, i2, im⟩ x y m A e0 (ldV mb rb sb) (stV mb rb sb)) 67)) HS.out)
  have H0 := Lib.hid h
  clear h
  have n1 : (op == 1) = false := by simp; omega
  have n2 : (op == 2) = false := by simp; omega
  have n3 : (op == 3) = false := by simp; omega
  have n4 : (op == 4) = false := by simp; omega
  have n5 : (op == 63) = false := by simp; omega
  have n6 : (op == 64) = false := by simp; omega
  have n7 : (op == 65) = false := by simp; omega
  have l10 : ¬ op ≤ 10 := by omega
  have l21 : ¬ op ≤ 21 := by omega
  have l34 : ¬ op ≤ 34 := by omega
  have l62 : ¬ op ≤ 62 := by omega
  unfold doF
  rw [if_neg (by omega), if_neg (by omega), if_neg (by omega), if_neg (by omega), if_neg l10, if_neg l21, if_neg l34, if_neg l62, if_neg (by omega), if_neg (by omega), if_neg (by omega)]
  have C := Lib.hid (o_atomic H0.out hR hr hrd (u_of_w hx) hy hop)
  clear hop
  go_enter Tryz.func21, Tryz.ntmps21
  go_wp2_with (go_at_call 46; refine C.out.mono ?_; rintro e' w4 ⟨rfl, h5⟩)
  go_end0
  exact ⟨rfl, h5⟩
set_option maxHeartbeats 3200000 in
theorem do_63 {w0 w : World} {sb mb rb b fr : Nat} {r : Int} {s : List UInt8} {op : Int} {rd i1 i2 : Nat} {im : Int} {x y m : Int} {A : HS} {R : Asn} (h : Own w0 w (cxA sb mb rb b fr r s ⟨op, rd, i1, i2, im⟩ x y m A e0 R)) (hR : Stable R) (hr : i64 r) (hrd : rd < 32) (hx : word x) (hy : word y) (hm : word m) (pc : Int) (hpc : u64 pc) (hop : op = 63 ∨ op = 64 ∨ op = 65) : Calls Tryz.prog 21 #[.pointer (some ⟨sb, 0, none⟩), .pointer (some ⟨b, 0, none⟩), .int .i64 r, .int .u64 pc] w fun e' w' => e' = .returned (.tuple #[]) ∧ DoneP w0 sb mb rb b fr r ⟨op, rd, i1, i2, im⟩ x y m R (doF fr s r op rd x y m pc A) w' := by
  have c0 := blk_cell h.blk 0 (v := .int .i64 op) rfl
  have c5 := blk_cell h.blk 5 (v := .int .u64 x) rfl
  have c6 := blk_cell h.blk 6 (v := .int .u64 y) rfl
  have c7 := blk_cell h.blk 7 (v := .int .u64 m) rfl
  have HS := Lib.hid (stable_star (stable_mem b fr s) (stable_box mb rb b r hR))
  have HSS := Lib.hid (stable_star (stable_blk sb (.cells (sC ⟨op, rd, i1, i2, im⟩ x y m A e0 (ldV mb rb sb) (stV mb rb sb)) 67)) HS.out)
  have H0 := Lib.hid h
  clear h
  have c43 := blk_cell H0.out.blk 43 (v := .int .i64 0) rfl
  have f43 := blk_frozen H0.out.blk 43
  rcases hop with rfl | rfl | rfl
  · show Calls _ _ _ _ fun e' w' => _ ∧ DoneP w0 sb mb rb b fr r _ x y m R ⟨A, e0, s⟩ w'
    go_enter Tryz.func21, Tryz.ntmps21
    go_wp2_with fail
    go_end0
    exact ⟨rfl, _, H0.out, fun _ => rfl⟩
  · show Calls _ _ _ _ fun e' w' => _ ∧ DoneP w0 sb mb rb b fr r _ x y m R ⟨A, ⟨1, 0, false⟩, s⟩ w'
    go_enter Tryz.func21, Tryz.ntmps21
    go_wp2_with fail
    go_end0
    exact ⟨rfl, A, H0.out.set HS.out 43 (.int .i64 1), fun h => absurd h (show ¬ (1 : Int) = 0 by decide)⟩
  · show Calls _ _ _ _ fun e' w' => _ ∧ DoneP w0 sb mb rb b fr r _ x y m R ⟨A, ⟨2, 0, false⟩, s⟩ w'
    go_enter Tryz.func21, Tryz.ntmps21
    go_wp2_with fail
    go_end0
    exact ⟨rfl, A, H0.out.set HS.out 43 (.int .i64 2), fun h => absurd h (show ¬ (2 : Int) = 0 by decide)⟩
end Go.Proofs.YtngeabphjdfdgaaGreatDoor.P
