/- Stage 5: whether a branch is taken. No condition. -/
import Derived.Test.YtngeabphjdfdgaaGreatDoorHD
import Derived.Laws.BitsLemmas
import Derived.Test.YtngeabphjdfdgaaGreatDoorHM
import Derived.Test.YtngeabphjdfdgaaGreatDoorW5
set_option linter.unusedVariables false
set_option linter.unusedSimpArgs false
set_option maxRecDepth 100000
namespace Go.Proofs.YtngeabphjdfdgaaGreatDoor.P
open Go.RowKit Go.MuLone Go.Proofs.YtngeabphjdfdgaaGreatDoor.W
theorem ge_not (x y : Int) : decide (y ≤ x) = !decide (x < y) := by
  by_cases h : x < y
  · rw [decide_eq_true h, decide_eq_false (by omega)]; rfl
  · rw [decide_eq_false h, decide_eq_true (by omega)]; rfl
set_option maxHeartbeats 1600000 in
theorem o_holds {w0 w : World} {sb : Nat} {I : InS} {a b m : Int} {A : HS} {e : EvS} {ld st : Value} {R : Asn} (h : Own w0 w (Star (stA sb I a b m A e ld st) R)) (hR : Stable R) (ha : word a) (hb : word b) (hop : 5 ≤ I.op ∧ I.op ≤ 10) :
    Calls Tryz.prog 43 #[.pointer (some ⟨sb, 0, none⟩)] w fun e' w' => e' = .returned (.bool (holdF I.op a b)) ∧ Own w0 w' (Star (stA sb I a b m A e ld st) R) := by
  have c0 := blk_cell h.blk 0 (v := .int .i64 I.op) rfl
  have c5 := blk_cell h.blk 5 (v := .int .u64 a) rfl
  have c6 := blk_cell h.blk 6 (v := .int .u64 b) rfl
  have HD := Lib.hid (h.gr (stable_star (stable_blk _ _) hR) (gr_dN2 w 1))
  have HS := Lib.hid h
  have wa : IntKind.i64.wrap a = s64 a := by rw [IntKind.wrap_i64]; unfold s64; obtain ⟨u0, u1⟩ := ha; split <;> omega
  have wb : IntKind.i64.wrap b = s64 b := by rw [IntKind.wrap_i64]; unfold s64; obtain ⟨u0, u1⟩ := hb; split <;> omega
  clear h
  generalize I.op = op at *
  have hx : op = 5 ∨ op = 6 ∨ op = 7 ∨ op = 8 ∨ op = 9 ∨ op = 10 := by omega
  clear hop
  rcases hx with rfl | rfl | rfl | rfl | rfl | rfl
  all_goals
    go_enter Tryz.func43, Tryz.ntmps43
    go_wp2_with fail
    first | (go_region_with fail) | fail
    all_goals go_wp2_with fail
    all_goals go_ret
    all_goals exact ⟨ret_b (by first | rfl | exact ge_not _ _), HD.out⟩
end Go.Proofs.YtngeabphjdfdgaaGreatDoor.P
namespace Go.Proofs.YtngeabphjdfdgaaGreatDoor.P
open Go.RowKit Go.MuLone Go.Proofs.YtngeabphjdfdgaaGreatDoor.W
/-- The table of the opcodes that do with two registers what others do with a number. -/
def PT (w : World) : Prop := ∀ k : Nat, k < 13 → w.cell? ⟨0, k, none⟩ = some (.int .i64 (aluL.getD k 0))
theorem PT.gr {w w' : World} (h : PT w) (g : Gr w w') : PT w' := fun k hk => kcell g (h k hk)
theorem o_gr {w0 w w' : World} {A : Asn} (h : Own w0 w A) (hs : Stable A) (g : Gr w w') : Own w0 w' A := h.gr hs g
set_option maxHeartbeats 3200000 in
theorem do_35 {w0 w : World} {sb mb rb b fr : Nat} {r : Int} {s : List UInt8} {op : Int} {rd i1 i2 : Nat} {im : Int} {x y m : Int} {A : HS} {R : Asn} (h : Own w0 w (cxA sb mb rb b fr r s ⟨op, rd, i1, i2, im⟩ x y m A e0 R)) (hR : Stable R) (hr : i64 r) (hrd : rd < 32) (hx : word x) (hy : word y) (hm : word m) (pc : Int) (hpc : u64 pc) (hop : 35 ≤ op ∧ op ≤ 62) : Calls Tryz.prog 21 #[.pointer (some ⟨sb, 0, none⟩), .pointer (some ⟨b, 0, none⟩), .int .i64 r, .int .u64 pc] w fun e' w' => e' = .returned (.tuple #[]) ∧ DoneP w0 sb mb rb b fr r ⟨op, rd, i1, i2, im⟩ x y m R (doF fr s r op rd x y m pc A) w' := by
  have c0 := blk_cell h.blk 0 (v := .int .i64 op) rfl
  have c5 := blk_cell h.blk 5 (v := .int .u64 x) rfl
  have c6 := blk_cell h.blk 6 (v := .int .u64 y) rfl
  have c7 := blk_cell h.blk 7 (v := .int .u64 m) rfl
  have HS := Lib.hid (stable_star (stable_mem b fr s) (stable_box mb rb b r hR))
  have HSS := Lib.hid (stable_star (stable_blk sb (.cells (sC ⟨op, rd, i1, i2, im⟩ x y m A e0 (ldV mb rb sb) (stV mb rb sb)) 67)) HS.out)
  have H0 := Lib.hid h
  clear h
  have n1 : (op == 1) = false := by simp; omega
  have n2 : (op == 2) = false := by simp; omega
  have n3 : (op == 3) = false := by simp; omega
  have n4 : (op == 4) = false := by simp; omega
  have l10 : ¬ op ≤ 10 := by omega
  have l21 : ¬ op ≤ 21 := by omega
  have l34 : ¬ op ≤ 34 := by omega
  have l62 : op ≤ 62 := hop.2
  unfold doF
  rw [if_neg (by omega), if_neg (by omega), if_neg (by omega), if_neg (by omega), if_neg l10, if_neg l21, if_neg l34, if_pos l62]
  have C := Lib.hid (fun w1 => c_reckon op x y hx hy w1)
  clear hop
  generalize reckV op x y = u at *
  generalize reckB op = ub at *
  go_enter Tryz.func21, Tryz.ntmps21
  go_wp2_with fail
  first | (go_region_with (go_at_call 45; refine (C.out _).mono ?_; rintro e' w4 ⟨rfl, g4⟩; have H4 := Lib.hid (by first | exact (H0.out.drew HSS.out).gr HSS.out g4 | exact ((H0.out.drew HSS.out).drew HSS.out).gr HSS.out g4 | exact H0.out.gr HSS.out g4 : Own w0 w4 _))) | fail
  all_goals
    go_wp2_with (go_at_call 41; refine (o_set H4.out HS.out hrd _).mono ?_; rintro e' w5 ⟨rfl, h5⟩; have H5 := Lib.hid h5; skip; clear h5)
    go_end0
    exact ⟨rfl, _, H5.out, fun _ => rfl⟩
set_option maxHeartbeats 3200000 in
theorem do_22 {w0 w : World} {sb mb rb b fr : Nat} {r : Int} {s : List UInt8} {op : Int} {rd i1 i2 : Nat} {im : Int} {x y m : Int} {A : HS} {R : Asn} (h : Own w0 w (cxA sb mb rb b fr r s ⟨op, rd, i1, i2, im⟩ x y m A e0 R)) (hR : Stable R) (hr : i64 r) (hrd : rd < 32) (hx : word x) (hy : word y) (hm : word m) (pc : Int) (hpc : u64 pc) (hT : PT w0) (hop : 22 ≤ op ∧ op ≤ 34) : Calls Tryz.prog 21 #[.pointer (some ⟨sb, 0, none⟩), .pointer (some ⟨b, 0, none⟩), .int .i64 r, .int .u64 pc] w fun e' w' => e' = .returned (.tuple #[]) ∧ DoneP w0 sb mb rb b fr r ⟨op, rd, i1, i2, im⟩ x y m R (doF fr s r op rd x y m pc A) w' := by
  have c0 := blk_cell h.blk 0 (v := .int .i64 op) rfl
  have c5 := blk_cell h.blk 5 (v := .int .u64 x) rfl
  have c6 := blk_cell h.blk 6 (v := .int .u64 y) rfl
  have c7 := blk_cell h.blk 7 (v := .int .u64 m) rfl
  have HS := Lib.hid (stable_star (stable_mem b fr s) (stable_box mb rb b r hR))
  have HSS := Lib.hid (stable_star (stable_blk sb (.cells (sC ⟨op, rd, i1, i2, im⟩ x y m A e0 (ldV mb rb sb) (stV mb rb sb)) 67)) HS.out)
  have H0 := Lib.hid h
  clear h
  have n1 : (op == 1) = false := by simp; omega
  have n2 : (op == 2) = false := by simp; omega
  have n3 : (op == 3) = false := by simp; omega
  have n4 : (op == 4) = false := by simp; omega
  have l10 : ¬ op ≤ 10 := by omega
  have l21 : ¬ op ≤ 21 := by omega
  have l34 : op ≤ 34 := hop.2
  unfold doF
  rw [if_neg (by omega), if_neg (by omega), if_neg (by omega), if_neg (by omega), if_neg l10, if_neg l21, if_pos l34]
  obtain ⟨k, hk, hko⟩ : ∃ k : Nat, k < 13 ∧ op = (k : Int) + 22 := ⟨(op - 22).toNat, by omega, by omega⟩
  have ct := (hT.gr H0.out.sub) k hk
  have ek : (op - 22).toNat = k := by omega
  rw [ek]
  have C := Lib.hid (fun w1 => c_reckon (aluL.getD k 0) x m hx hm w1)
  have ek2 : IntKind.i64.wrap (k : Int) = k := by rw [IntKind.wrap_i64]; omega
  have ek3 : (k : Int) < 13 := by omega
  have ek4 : decide (k < 13) = true := decide_eq_true hk
  have eko : op - 22 = (k : Int) := by omega
  clear hop ek hT
  generalize reckV (aluL.getD k 0) x m = u at *
  generalize reckB (aluL.getD k 0) = ub at *
  generalize aluL.getD k 0 = al at *
  clear hko
  go_enter Tryz.func21, Tryz.ntmps21
  go_wp2_with fail
  first | (go_region_with (go_at_call 45; refine (C.out _).mono ?_; rintro e' w4 ⟨rfl, g4⟩; have H4 := Lib.hid ((H0.out.drew HSS.out).gr HSS.out g4))) | fail
  all_goals
    go_wp2_with (go_at_call 41; refine (o_set H4.out HS.out hrd _).mono ?_; rintro e' w5 ⟨rfl, h5⟩; have H5 := Lib.hid h5; skip; clear h5)
    go_end0
    exact ⟨rfl, _, H5.out, fun _ => rfl⟩
end Go.Proofs.YtngeabphjdfdgaaGreatDoor.P
