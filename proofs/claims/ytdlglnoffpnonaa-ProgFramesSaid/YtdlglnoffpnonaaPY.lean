/- Stage 12: ProgFrames. No condition. -/
import Derived.Test.YtdlglnoffpnonaaPV
import Derived.Test.YtdlglnoffpnonaaPI
set_option linter.unusedVariables false
set_option linter.unusedSimpArgs false
set_option maxRecDepth 100000
namespace Go.Proofs.Ytdlglnoffpnonaa.P
open Go.RowKit Go.MuLone Go.Maps
theorem laid_freed {fi r n0 : Nat} {lf : Int} {pp q : Nat} {z : Sp} (h : Laid fi r lf n0 (fun _ => none) pp q z) : leftX fi (freeX fi z r) = (n0 : Int) - fi := by
  obtain ⟨own, p, j, hw, hr, _, hn⟩ := h.ex
  obtain ⟨own', w', hnone, _, hleft, hlen⟩ := free_wf hw hr
  have hall := left_all w' (fun f => (hnone f).2 (by
    cases ho : own f with
    | none => exact .inl rfl
    | some v => exact .inr (hn f v rfl ho)))
  rw [hlen, h.len] at hall
  exact hall
set_option maxHeartbeats 3200000 in
theorem l_frames12 (x : Pg) (hx1 : x.tx.size ≤ maxLen) (hx2 : x.da.size ≤ maxLen) (w : World) :
    Calls Try.prog 5 #[pgV x] w fun e w' => e = .returned (.bool true) ∧ Gr w w' := by
  have RM := Lib.hid (fun w => r_may12 x hx1 hx2 w)
  have SZ := Lib.hid (fun w => c_size12 x hx1 hx2 w)
  have EM := Lib.hid stable_emp
  have PL := Lib.hid (fun (b pb : Nat) (z : Sp) => stable_pl pb b 0 z.L z.s)
  have NW : RowKit.Hid (∀ w1 b (R : Asn), Stable R → Own w w1 (Star (memA b 64 (List.replicate (64 * 256) 0)) R) → Calls Try.prog 17 #[.pointer (some ⟨b, 0, none⟩), .int .i64 0] w1 fun e w' => ∃ pb, e = .returned (.tuple #[.pointer (some ⟨pb, 0, none⟩), .int .i64 0]) ∧ Own w w' (Star (plA pb b 0 (zNw 64).L (zNw 64).s) R)) := Lib.hid (fun w1 b R hR h => o_pnew h hR (Nat.zero_le _))
  have LB : RowKit.Hid (mayP x = false → ∀ w1 b pb R, Stable R → Own w w1 (Star (plA pb b 0 (zNw 64).L (zNw 64).s) R) → Calls Try.prog 18 #[.pointer (some ⟨pb, 0, none⟩), pgV x] w1 fun e w' => e = .returned (.tuple #[.int .i64 0, .agg (hartC 0 0), .int .u64 0, .int .i64 6]) ∧ Own w w' (Star (plA pb b 0 (zNw 64).L (zNw 64).s) R)) := Lib.hid (fun hm w1 b pb R hR h => o_load_bad h hR x hx1 hx2 hm)
  obtain ⟨m, hm⟩ : ∃ m, mayP x = m := ⟨_, rfl⟩
  cases m with
  | false =>
    rw [hm] at RM LB
    clear hm SZ hx1 hx2
    obtain ⟨en, tx, da, bs⟩ := x
    have LB2 : RowKit.Hid (∀ w1 b pb R, Stable R → Own w w1 (Star (plA pb b 0 (zNw 64).L (zNw 64).s) R) → Calls Try.prog 18 #[.pointer (some ⟨pb, 0, none⟩), .agg #[.int .i64 en, .string tx, .string da, .int .i64 bs]] w1 fun e w' => e = .returned (.tuple #[.int .i64 0, .agg (hartC 0 0), .int .u64 0, .int .i64 6]) ∧ Own w w' (Star (plA pb b 0 (zNw 64).L (zNw 64).s) R)) := Lib.hid (LB.out rfl)
    have RM2 : RowKit.Hid (∀ w, Calls Try.prog 15 #[.agg #[.int .i64 en, .string tx, .string da, .int .i64 bs]] w fun e w' => e = .returned (.bool false) ∧ Gr w w') := Lib.hid RM.out
    clear LB RM
    generalize zNw 64 = z0 at *
    have K0 := Lib.hid ((Own.start (Gr.refl w)).alloc EM.out (.cells #[.int .i64 en, .string tx, .string da, .int .i64 bs] 23))
    have SX := Lib.hid (stable_star (stable_blk w.heap.size (.cells #[.int .i64 en, .string tx, .string da, .int .i64 bs] 23)) EM.out)
    show Calls Try.prog 5 #[.agg #[.int .i64 en, .string tx, .string da, .int .i64 bs]] w _
    go_enter Try.func5, Try.ntmps5
    go_upto_region 1 with fail
    obtain ⟨wa, hwa⟩ : ∃ wa, w.alloc (.cells #[.int .i64 en, .string tx, .string da, .int .i64 bs] 23) = wa := ⟨_, rfl⟩
    rw [hwa] at K0
    rw [hwa]
    clear hwa
    obtain ⟨xb, hxb⟩ : ∃ n, w.heap.size = n := ⟨_, rfl⟩
    rw [hxb] at K0 SX
    rw [hxb]
    clear hxb
    go_upto_region 2 with (go_at_call 7; refine (c_shown12 _).mono ?_; rintro e w1 ⟨rfl, g1⟩; have H1 := Lib.hid (K0.out.gr SX.out g1); clear g1)
    go_upto_region 3 with (go_at_call 16; refine (o_mnew H1.out SX.out 64 (by decide) (by decide)).mono ?_; rintro e w2 ⟨b, rfl, h2⟩; have H2 := Lib.hid h2; clear h2)
    go_upto_region 4 with (go_at_call 17; refine (NW.out _ _ _ SX.out H2.out).mono ?_; rintro e w3 ⟨pb, rfl, h3⟩; have H3 := Lib.hid h3; clear h3)
    have BX := Lib.hid H3.out.swap2.blk
    clear NW K0 H1 H2
    go_upto_region 5 with (first
      | (refine wpList_load_row rfl 23 _ rfl _ rfl 23 _ (0, 0) _ BX.out Try.underlying23 rfl pg_info ?_)
      | (go_at_call 18; refine (LB2.out _ b pb _ SX.out H3.out).mono ?_; rintro e w4 ⟨rfl, h4⟩; have H4 := Lib.hid h4; clear h4)
      | (refine wpList_store_row rfl 47 _ _ rfl _ (hartC 0 0) rfl rfl 47 _ (blk_new _ _) hart_info rfl (hart_all _ _) ?_))
    have H5 := Lib.hid (own_newRow (c := hartZ) (T := 47) H4.out (stable_star (PL.out _ _ _) SX.out) (hartC 0 0)).right
    unfold hartZ at H5
    generalize (World.setRow _ _ _) = w5 at *
    generalize w4.heap.size = hb at *
    have BX := Lib.hid H5.out.swap2.blk
    try simp only [Act.put]
    go_wp2_with (first
      | (refine wpList_load_row rfl 23 _ rfl _ rfl 23 _ (0, 0) _ BX.out Try.underlying23 rfl pg_info ?_)
      | (go_at_call 15; refine (RM2.out _).mono ?_; rintro e w6 ⟨rfl, g6⟩; have G6 := Lib.hid (gtrans H5.out.sub g6); clear g6))
    go_ret
    exact ⟨rfl, G6.out⟩
  | true =>
    rw [hm] at RM
    obtain ⟨_, _, t1, t8, d20⟩ := szb hm
    have hlf := left_new 64 (by decide) (by decide)
    obtain ⟨r, zs, e0, e1, hlt, _, hz0, hz, LA⟩ := load_st (wf_zNw 64 (by decide) (by decide)) hm (by rw [hlf]; omega)
    have hlt2 : r < 64 := hlt
    have LK : RowKit.Hid (∀ w1 b pb R, Stable R → Own w w1 (Star (plA pb b 0 (zNw 64).L (zNw 64).s) R) → Calls Try.prog 18 #[.pointer (some ⟨pb, 0, none⟩), pgV x] w1 fun e w' => e = .returned (.tuple #[.int .i64 (r : Int), .agg (hartC 16384 (256 + x.en)), .int .u64 (256 * (1 + (szT x : Int)) + x.da.size + x.bs), .int .i64 0]) ∧ Own w w' (Star (plA pb b 0 (zs 3).L (zs 3).s) R)) := Lib.hid (fun w1 b pb R hR h => o_load_ok h hR x hx1 hx2 hm 64 hlf (by omega) (r : Int) ⟨by omega, by omega⟩ e0 e1 zs hz0 hz)
    have PG : RowKit.Hid (∀ w1 b pb R, Stable R → Own w w1 (Star (plA pb b 0 (zs 3).L (zs 3).s) R) → Calls Try.prog 19 #[.pointer (some ⟨pb, 0, none⟩), .int .i64 (r : Int)] w1 (PagesP w (plA pb b 0 (zs 3).L (zs 3).s) ((pagesL (szT x + szD x) 8).map fun n => ((n : Nat) : Int)) R)) := Lib.hid (fun w1 b pb R hR h => by
      have := o_pages h hR (r : Int) ⟨by omega, by omega⟩ (laid_tkn LA)
      rw [laid_pages LA (by omega) (Nat.le_refl _)] at this
      exact this)
    have hL := LA.left
    rw [hlf, if_pos (show 1 ≤ szT x + szD x by omega), if_pos (show 1 ≤ 8 by decide)] at hL
    have LF : RowKit.Hid (∀ w1 b pb R, Own w w1 (Star (plA pb b 0 (zs 3).L (zs 3).s) R) → Calls Try.prog 20 #[.pointer (some ⟨pb, 0, none⟩)] w1 fun e w' => e = .returned (.int .i64 (52 - (szT x : Int) - (szD x : Int))) ∧ w' = w1) := Lib.hid (fun w1 b pb R h => o_pleft h _ (by show leftX 0 (zs 3) = _; rw [hL]; omega))
    have FR : RowKit.Hid (∀ w1 b pb R, Stable R → Own w w1 (Star (plA pb b 0 (zs 3).L (zs 3).s) R) → Calls Try.prog 21 #[.pointer (some ⟨pb, 0, none⟩), .int .i64 (r : Int)] w1 fun e w' => e = .returned (.int .i64 0) ∧ Own w w' (Star (plA pb b 0 (freeX 0 (zs 3) r).L (freeX 0 (zs 3) r).s) R)) := Lib.hid (fun w1 b pb R hR h => o_free h hR (r : Int) ⟨by omega, by omega⟩ (laid_tkn LA))
    have hL2 := laid_freed LA
    generalize freeX 0 (zs 3) r = z4 at *
    have LF2 : RowKit.Hid (∀ w1 b pb R, Own w w1 (Star (plA pb b 0 z4.L z4.s) R) → Calls Try.prog 20 #[.pointer (some ⟨pb, 0, none⟩)] w1 fun e w' => e = .returned (.int .i64 64) ∧ w' = w1) := Lib.hid (fun w1 b pb R h => o_pleft h _ hL2)
    obtain ⟨PLs, hPL⟩ : ∃ l, (pagesL (szT x + szD x) 8).map (fun n => ((n : Nat) : Int)) = l := ⟨_, rfl⟩
    have hlen : PLs.length = szT x + szD x + 8 := by rw [← hPL, List.length_map, pagesL_len]
    rw [hPL] at PG
    clear hPL hL hL2 hz hz0 e0 e1 LA hlf hlt LB
    obtain ⟨T, hT⟩ : ∃ T, szT x = T := ⟨_, rfl⟩
    obtain ⟨D, hD⟩ : ∃ D, szD x = D := ⟨_, rfl⟩
    rw [hT] at t1 t8 LK LF SZ hlen
    rw [hD] at d20 LF SZ hlen
    clear hT hD hx1 hx2 hm
    obtain ⟨en, tx, da, bs⟩ := x
    have RM2 : RowKit.Hid (∀ w, Calls Try.prog 15 #[.agg #[.int .i64 en, .string tx, .string da, .int .i64 bs]] w fun e w' => e = .returned (.bool true) ∧ Gr w w') := Lib.hid RM.out
    have SZ2 : RowKit.Hid (∀ w, Calls Try.prog 13 #[.agg #[.int .i64 en, .string tx, .string da, .int .i64 bs]] w fun e w' => e = .returned (.tuple #[.int .i64 (T : Nat), .int .i64 (D : Nat)]) ∧ Gr w w') := Lib.hid SZ.out
    obtain ⟨H0, hH0⟩ : ∃ H, hartC 16384 (256 + en) = H := ⟨_, rfl⟩
    obtain ⟨BK, hBK⟩ : ∃ B, 256 * (1 + (T : Int)) + da.size + bs = B := ⟨_, rfl⟩
    have LK2 : RowKit.Hid (∀ w1 b pb R, Stable R → Own w w1 (Star (plA pb b 0 (zNw 64).L (zNw 64).s) R) → Calls Try.prog 18 #[.pointer (some ⟨pb, 0, none⟩), .agg #[.int .i64 en, .string tx, .string da, .int .i64 bs]] w1 fun e w' => e = .returned (.tuple #[.int .i64 (r : Int), .agg (hartC 16384 (256 + en)), .int .u64 BK, .int .i64 0]) ∧ Own w w' (Star (plA pb b 0 (zs 3).L (zs 3).s) R)) := Lib.hid (by rw [← hBK]; exact LK.out)
    clear RM SZ LK hBK hH0
    generalize zNw 64 = z0 at *
    generalize zs 3 = z3 at *
    have k1 : IntKind.i64.wrap (64 - (52 - (T : Int) - (D : Int))) = 12 + (T : Int) + D := by rw [wrapI _ (by omega) (by omega)]; omega
    have k2 : IntKind.i64.wrap ((T : Int) + D) = (T : Int) + D := wrapI _ (by omega) (by omega)
    have k3 : IntKind.i64.wrap ((T : Int) + D + 8) = (T : Int) + D + 8 := wrapI _ (by omega) (by omega)
    have k4 : (PLs.length : Int) = (T : Int) + D + 8 := by omega
    have k5 : IntKind.i64.wrap ((T : Int) + D + 8 + 4) = 12 + (T : Int) + D := by rw [wrapI _ (by omega) (by omega)]; omega
    have K0 := Lib.hid ((Own.start (Gr.refl w)).alloc EM.out (.cells #[.int .i64 en, .string tx, .string da, .int .i64 bs] 23))
    have SX := Lib.hid (stable_star (stable_blk w.heap.size (.cells #[.int .i64 en, .string tx, .string da, .int .i64 bs] 23)) EM.out)
    show Calls Try.prog 5 #[.agg #[.int .i64 en, .string tx, .string da, .int .i64 bs]] w _
    go_enter Try.func5, Try.ntmps5
    go_upto_region 1 with fail
    obtain ⟨wa, hwa⟩ : ∃ wa, w.alloc (.cells #[.int .i64 en, .string tx, .string da, .int .i64 bs] 23) = wa := ⟨_, rfl⟩
    rw [hwa] at K0
    rw [hwa]
    clear hwa
    obtain ⟨xb, hxb⟩ : ∃ n, w.heap.size = n := ⟨_, rfl⟩
    rw [hxb] at K0 SX
    rw [hxb]
    clear hxb
    go_upto_region 2 with (go_at_call 7; refine (c_shown12 _).mono ?_; rintro e w1 ⟨rfl, g1⟩; have H1 := Lib.hid (K0.out.gr SX.out g1); clear g1)
    go_upto_region 3 with (go_at_call 16; refine (o_mnew H1.out SX.out 64 (by decide) (by decide)).mono ?_; rintro e w2 ⟨b, rfl, h2⟩; have H2 := Lib.hid h2; clear h2)
    go_upto_region 4 with (go_at_call 17; refine (NW.out _ _ _ SX.out H2.out).mono ?_; rintro e w3 ⟨pb, rfl, h3⟩; have H3 := Lib.hid h3; clear h3)
    have BX := Lib.hid H3.out.swap2.blk
    clear NW K0 H1 H2
    go_upto_region 5 with (first
      | (refine wpList_load_row rfl 23 _ rfl _ rfl 23 _ (0, 0) _ BX.out Try.underlying23 rfl pg_info ?_)
      | (go_at_call 18; refine (LK2.out _ b pb _ SX.out H3.out).mono ?_; rintro e w4 ⟨rfl, h4⟩; have H4 := Lib.hid h4; clear h4)
      | (refine wpList_store_row rfl 47 _ _ rfl _ (hartC 16384 (256 + en)) rfl rfl 47 _ (blk_new _ _) hart_info rfl (hart_all _ _) ?_))
    have H5 := Lib.hid (own_newRow (c := hartZ) (T := 47) H4.out (stable_star (PL.out _ _ _) SX.out) (hartC 16384 (256 + en))).right
    unfold hartZ at H5
    generalize (World.setRow _ _ _) = w5 at *
    generalize w4.heap.size = hb at *
    have BX := Lib.hid H5.out.swap2.blk
    try simp only [Act.put]
    clear H4 LK2
    go_upto_region 8 with (first
      | (refine wpList_load_row rfl 23 _ rfl _ rfl 23 _ (0, 0) _ BX.out Try.underlying23 rfl pg_info ?_)
      | (go_at_call 15; refine (RM2.out _).mono ?_; rintro e w6 ⟨rfl, g6⟩; have H6 := Lib.hid (H5.out.gr (stable_star (PL.out _ _ _) SX.out) g6); clear g6))
    have BX := Lib.hid H6.out.swap2.blk
    go_upto_region 9 with (first
      | (refine wpList_load_row rfl 23 _ rfl _ rfl 23 _ (0, 0) _ BX.out Try.underlying23 rfl pg_info ?_)
      | (go_at_call 13; refine (SZ2.out _).mono ?_; rintro e w7 ⟨rfl, g7⟩; have H7 := Lib.hid (H6.out.gr (stable_star (PL.out _ _ _) SX.out) g7).drop2; clear g7))
    go_upto_region 10 with (go_at_call 19; refine (PG.out _ b pb _ EM.out H7.out).mono ?_; rintro e w8 ⟨o8, c8, rfl, h8⟩; have H8 := Lib.hid h8.drop2; clear h8)
    go_upto_region 11 with (go_at_call 20; refine (LF.out _ b pb _ H8.out).mono ?_; rintro e w9 ⟨rfl, rfl⟩)
    go_upto_region 12 with (go_at_call 21; refine (FR.out _ b pb _ EM.out H8.out).mono ?_; rintro e w10 ⟨rfl, h10⟩; have H10 := Lib.hid h10; clear h10)
    go_wp2_with (go_at_call 20; refine (LF2.out _ b pb _ H10.out).mono ?_; rintro e w11 ⟨rfl, rfl⟩)
    go_ret
    exact ⟨by go_num, H10.out.sub⟩
end Go.Proofs.Ytdlglnoffpnonaa.P
