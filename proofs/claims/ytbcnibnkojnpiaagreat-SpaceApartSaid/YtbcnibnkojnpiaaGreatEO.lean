/- Stage 11: without a pool; the example; SpaceNil. No condition. -/
import Derived.Test.YtbcnibnkojnpiaaGreatEN
set_option linter.unusedVariables false
set_option linter.unusedSimpArgs false
set_option maxRecDepth 100000
namespace Go.Proofs.YtbcnibnkojnpiaaGreat.P
open Go.RowKit Go.MuLone Go.Maps
theorem n_snew (w : World)  : Calls Tryz.prog 20 #[.pointer none] w fun e w' => e = .returned (.tuple #[.int .i64 0, .int .i64 1]) ∧ Gr w w' := by
  go_enter Tryz.func20, Tryz.ntmps20
  go_wp2_with (go_at_call 50; refine (n_take _).mono ?_; rintro e w2 ⟨rfl, rfl⟩)
  go_ret2
  exact ⟨rfl, by go_grown⟩
theorem n_smap (w : World) (r p b : Int) : Calls Tryz.prog 21 #[.pointer none, .int .i64 r, .int .i64 p, .int .u64 b] w fun e w' => e = .returned (.int .i64 1) ∧ Gr w w' := by
  go_enter Tryz.func21, Tryz.ntmps21
  go_wp2_with (go_at_call 32; refine (n_taken _ _).mono ?_; rintro e w2 ⟨rfl, rfl⟩)
  go_ret
  exact ⟨rfl, by go_grown⟩
theorem n_spages (w : World) (r : Int) : Calls Tryz.prog 11 #[.pointer none, .int .i64 r] w fun e w' => e = .returned (.tuple #[.slice none 0 0, .int .i64 1]) ∧ Gr w w' := by
  go_enter Tryz.func11, Tryz.ntmps11
  go_wp2_with (go_at_call 32; refine (n_taken _ _).mono ?_; rintro e w2 ⟨rfl, rfl⟩)
  go_ret2
  exact ⟨rfl, by go_grown⟩
theorem n_sfree (w : World) (r : Int) : Calls Tryz.prog 23 #[.pointer none, .int .i64 r] w fun e w' => e = .returned (.int .i64 1) ∧ Gr w w' := by
  go_enter Tryz.func23, Tryz.ntmps23
  go_wp2_with (go_at_call 32; refine (n_taken _ _).mono ?_; rintro e w2 ⟨rfl, rfl⟩)
  go_ret
  exact ⟨rfl, by go_grown⟩
theorem n_scopy (w : World) (r : Int) : Calls Tryz.prog 22 #[.pointer none, .int .i64 r] w fun e w' => e = .returned (.tuple #[.int .i64 0, .int .i64 1]) ∧ Gr w w' := by
  go_enter Tryz.func22, Tryz.ntmps22
  go_wp2_with (go_at_call 32; refine (n_taken _ _).mono ?_; rintro e w2 ⟨rfl, rfl⟩)
  go_ret2
  exact ⟨rfl, by go_grown⟩
theorem n_sin (w : World) (r a n : Int) : Calls Tryz.prog 17 #[.pointer none, .int .i64 r, .int .u64 a, .int .i64 n] w fun e w' => e = .returned (.tuple #[.string ⟨#[]⟩, .int .i64 1]) ∧ Gr w w' := by
  go_enter Tryz.func17, Tryz.ntmps17
  go_wp2_with (go_at_call 32; refine (n_taken _ _).mono ?_; rintro e w2 ⟨rfl, rfl⟩)
  go_ret2
  exact ⟨rfl, by go_grown⟩
theorem n_sout (w : World) (r a : Int) (s : ByteArray) : Calls Tryz.prog 15 #[.pointer none, .int .i64 r, .int .u64 a, .string s] w fun e w' => e = .returned (.int .i64 1) ∧ Gr w w' := by
  go_enter Tryz.func15, Tryz.ntmps15
  go_wp2_with (go_at_call 32; refine (n_taken _ _).mono ?_; rintro e w2 ⟨rfl, rfl⟩)
  go_ret
  exact ⟨rfl, by go_grown⟩
theorem n_stext (w : World) (r a n : Int) : Calls Tryz.prog 16 #[.pointer none, .int .i64 r, .int .u64 a, .int .i64 n] w fun e w' => e = .returned (.tuple #[.string ⟨#[]⟩, .int .i64 1]) ∧ Gr w w' := by
  go_enter Tryz.func16, Tryz.ntmps16
  go_wp2_with (go_at_call 32; refine (n_taken _ _).mono ?_; rintro e w2 ⟨rfl, rfl⟩)
  go_ret2
  exact ⟨rfl, by go_grown⟩
set_option maxHeartbeats 3200000 in
theorem shown11_g (w : World) (z0 z1 z2 z3 z4 z5 z6 : Sp) (S : ByteArray) (hS : S = ⟨#[97, 98, 99, 100, 101, 102, 103, 104, 105, 106, 107, 108]⟩) (hz0 : z0 = ⟨freshL 16 0, List.replicate (16 * 256) 0⟩)
    (e01 : takeN z0.L 0 = 0 ∧ takeE z0.L 0 = 0 ∧ takeX 0 z0 = z1) (e12 : mapE 0 z1 0 1 23 = 0 ∧ mapX 0 z1 0 1 23 = z2) (e23 : mapE 0 z2 0 2 23 = 0 ∧ mapX 0 z2 0 2 23 = z3)
    (e34 : outErr 0 z3 0 500 S = 0 ∧ outSt 0 z3 0 500 S = z4) (e44 : outErr 0 z4 0 760 S = 3 ∧ outSt 0 z4 0 760 S = z4) (e45 : copyN 0 z4 0 = 5 ∧ copyE 0 z4 0 = 0 ∧ copyW 0 z4 0 = z5)
    (e55 : inV 0 z5 5 510 3 = ⟨#[107, 108, 0]⟩ ∧ inE 0 z5 5 510 3 = 0) (e56 : tknB z5.L 0 0 = true ∧ freeX 0 z5 0 = z6 ∧ leftX 0 z6 = 11) :
    Calls Tryz.prog 6 #[] w fun e w' => e = .returned (.bool true) ∧ Gr w w' := by
  have K0 := Lib.hid (Own.start (Gr.refl w))
  have EM := Lib.hid stable_emp
  have sz : S.size = 12 := by rw [hS]; rfl
  have PL := Lib.hid (fun (b pb : Nat) (z : Sp) => stable_pl pb b 0 z.L z.s)
  have NW : RowKit.Hid (∀ w1 b, Own w w1 (Star (memA b 16 (List.replicate (16 * 256) 0)) emp) → Calls Tryz.prog 19 #[.pointer (some ⟨b, 0, none⟩), .int .i64 0] w1 fun e w' => ∃ pb, e = .returned (.tuple #[.pointer (some ⟨pb, 0, none⟩), .int .i64 0]) ∧ Own w w' (Star (plA pb b 0 z0.L z0.s) emp)) := Lib.hid (fun w1 b h => by rw [hz0]; exact o_pnew h stable_emp (Nat.zero_le _))
  have C1 : RowKit.Hid (∀ w1 b pb, Own w w1 (Star (plA pb b 0 z0.L z0.s) emp) → Calls Tryz.prog 20 #[.pointer (some ⟨pb, 0, none⟩)] w1 fun e w' => e = .returned (.tuple #[.int .i64 0, .int .i64 0]) ∧ Own w w' (Star (plA pb b 0 z1.L z1.s) emp)) := Lib.hid (fun w1 b pb h => by have := o_snew h stable_emp 0 0 e01.1 e01.2.1; rw [e01.2.2] at this; exact this)
  have C2 : RowKit.Hid (∀ w1 b pb, Own w w1 (Star (plA pb b 0 z1.L z1.s) emp) → Calls Tryz.prog 21 #[.pointer (some ⟨pb, 0, none⟩), .int .i64 0, .int .i64 1, .int .u64 23] w1 fun e w' => e = .returned (.int .i64 0) ∧ Own w w' (Star (plA pb b 0 z2.L z2.s) emp)) := Lib.hid (fun w1 b pb h => o_map h stable_emp 0 1 23 ⟨by decide, by decide⟩ ⟨by decide, by decide⟩ ⟨by decide, by decide⟩ 0 z2 e12.1 e12.2)
  have C3 : RowKit.Hid (∀ w1 b pb, Own w w1 (Star (plA pb b 0 z2.L z2.s) emp) → Calls Tryz.prog 21 #[.pointer (some ⟨pb, 0, none⟩), .int .i64 0, .int .i64 2, .int .u64 23] w1 fun e w' => e = .returned (.int .i64 0) ∧ Own w w' (Star (plA pb b 0 z3.L z3.s) emp)) := Lib.hid (fun w1 b pb h => o_map h stable_emp 0 2 23 ⟨by decide, by decide⟩ ⟨by decide, by decide⟩ ⟨by decide, by decide⟩ 0 z3 e23.1 e23.2)
  have C4 : RowKit.Hid (∀ w1 b pb, Own w w1 (Star (plA pb b 0 z3.L z3.s) emp) → Calls Tryz.prog 15 #[.pointer (some ⟨pb, 0, none⟩), .int .i64 0, .int .u64 500, .string S] w1 fun e w' => e = .returned (.int .i64 0) ∧ Own w w' (Star (plA pb b 0 z4.L z4.s) emp)) := Lib.hid (fun w1 b pb h => o_out h stable_emp 0 500 S ⟨by decide, by decide⟩ ⟨by decide, by decide⟩ (by omega) 0 z4 e34.1 e34.2)
  have C5 : RowKit.Hid (∀ w1 b pb, Own w w1 (Star (plA pb b 0 z4.L z4.s) emp) → Calls Tryz.prog 15 #[.pointer (some ⟨pb, 0, none⟩), .int .i64 0, .int .u64 760, .string S] w1 fun e w' => e = .returned (.int .i64 3) ∧ Own w w' (Star (plA pb b 0 z4.L z4.s) emp)) := Lib.hid (fun w1 b pb h => o_out h stable_emp 0 760 S ⟨by decide, by decide⟩ ⟨by decide, by decide⟩ (by omega) 3 z4 e44.1 e44.2)
  have C6 : RowKit.Hid (∀ w1 b pb, Own w w1 (Star (plA pb b 0 z4.L z4.s) emp) → Calls Tryz.prog 22 #[.pointer (some ⟨pb, 0, none⟩), .int .i64 0] w1 fun e w' => e = .returned (.tuple #[.int .i64 5, .int .i64 0]) ∧ Own w w' (Star (plA pb b 0 z5.L z5.s) emp)) := Lib.hid (fun w1 b pb h => by have := o_copyC h stable_emp 0 ⟨by decide, by decide⟩ 5 0 e45.1 e45.2.1; rw [e45.2.2] at this; exact this)
  have C7 : RowKit.Hid (∀ w1 b pb, Own w w1 (Star (plA pb b 0 z5.L z5.s) emp) → Calls Tryz.prog 17 #[.pointer (some ⟨pb, 0, none⟩), .int .i64 5, .int .u64 510, .int .i64 3] w1 fun e w' => e = .returned (.tuple #[.string ⟨#[107, 108, 0]⟩, .int .i64 0]) ∧ Own w w' (Star (plA pb b 0 z5.L z5.s) emp)) := Lib.hid (fun w1 b pb h => o_in h stable_emp 5 510 3 ⟨by decide, by decide⟩ ⟨by decide, by decide⟩ _ 0 e55.1 e55.2)
  have C8 : RowKit.Hid (∀ w1 b pb, Own w w1 (Star (plA pb b 0 z5.L z5.s) emp) → Calls Tryz.prog 23 #[.pointer (some ⟨pb, 0, none⟩), .int .i64 0] w1 fun e w' => e = .returned (.int .i64 0) ∧ Own w w' (Star (plA pb b 0 z6.L z6.s) emp)) := Lib.hid (fun w1 b pb h => by have := o_free h stable_emp 0 ⟨by decide, by decide⟩ e56.1; rw [e56.2.1] at this; exact this)
  have C9 : RowKit.Hid (∀ w1 b pb, Own w w1 (Star (plA pb b 0 z6.L z6.s) emp) → _) := Lib.hid (fun w1 b pb h => o_pleft (w0 := w) (w := w1) (pb := pb) (b := b) h 11 e56.2.2)
  clear e01 e12 e23 e34 e44 e45 e55 e56 sz hz0
  subst hS
  go_enter Tryz.func6, Tryz.ntmps6
  go_upto_region 2 with (go_at_call 18; refine (o_mnew K0.out EM.out 16 (by decide) (by decide)).mono ?_; rintro e w1 ⟨b, rfl, h1⟩; have H1 := Lib.hid h1; clear h1)
  go_upto_region 3 with (go_at_call 19; refine (NW.out _ _ H1.out).mono ?_; rintro e w2 ⟨pb, rfl, h2⟩; have H2 := Lib.hid h2; clear h2)
  go_upto_region 4 with (go_at_call 20; refine (C1.out _ _ _ H2.out).mono ?_; rintro e w3 ⟨rfl, h3⟩; have H3 := Lib.hid h3; clear h3)
  go_upto_region 5 with (go_at_call 21; refine (C2.out _ _ _ H3.out).mono ?_; rintro e w4 ⟨rfl, h4⟩; have H4 := Lib.hid h4; clear h4)
  go_upto_region 6 with (go_at_call 21; refine (C3.out _ _ _ H4.out).mono ?_; rintro e w5 ⟨rfl, h5⟩; have H5 := Lib.hid h5; clear h5)
  go_upto_region 7 with (go_at_call 15; refine (C4.out _ _ _ H5.out).mono ?_; rintro e w6 ⟨rfl, h6⟩; have H6 := Lib.hid h6; clear h6)
  go_upto_region 8 with (go_at_call 15; refine (C5.out _ _ _ H6.out).mono ?_; rintro e w7 ⟨rfl, h7⟩; have H7 := Lib.hid h7; clear h7)
  go_upto_region 9 with (go_at_call 22; refine (C6.out _ _ _ H7.out).mono ?_; rintro e w8 ⟨rfl, h8⟩; have H8 := Lib.hid h8; clear h8)
  go_upto_region 10 with (go_at_call 17; refine (C7.out _ _ _ H8.out).mono ?_; rintro e w9 ⟨rfl, h9⟩; have H9 := Lib.hid h9; clear h9)
  go_upto_region 11 with (go_at_call 23; refine (C8.out _ _ _ H9.out).mono ?_; rintro e w10 ⟨rfl, h10⟩; have H10 := Lib.hid h10; clear h10)
  go_wp2_with (go_at_call 9; refine (C9.out _ _ _ H10.out).mono ?_; rintro e w11 ⟨rfl, rfl⟩)
  go_ret
  exact ⟨rfl, H10.out.sub⟩
theorem sp_eq {a c : Sp} (h1 : a.L = c.L) (h2 : a.s = c.s) : a = c := by cases a; cases c; cases h1; cases h2; rfl
theorem c_shown11 (w : World) : Calls Tryz.prog 6 #[] w fun e w' => e = .returned (.bool true) ∧ Gr w w' :=
  shown11_g w ex0 ex1 ex2 ex3 ex4 ex5 ex6 exS rfl (sp_eq (by decide) rfl) ⟨e01.1, e01.2.1, sp_eq e01.2.2.1 e01.2.2.2⟩ ⟨e12.1, sp_eq e12.2.1 e12.2.2⟩ ⟨e23.1, sp_eq e23.2.1 e23.2.2⟩ ⟨e34.1, sp_eq e34.2.1 e34.2.2⟩ ⟨e44.1, sp_eq e44.2.1 e44.2.2⟩ ⟨e45.1, e45.2.1, sp_eq e45.2.2.1 e45.2.2.2⟩ ⟨ByteArray.ext e55.1, e55.2⟩ ⟨e56.1, sp_eq e56.2.1 e56.2.2.1, e56.2.2.2⟩
end Go.Proofs.YtbcnibnkojnpiaaGreat.P
