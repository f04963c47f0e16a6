/- Stage 12: ProgLoads. No condition. -/
import Derived.Test.YtdlglnoffpnonaaGreatU8
import Derived.Test.YtdlglnoffpnonaaGreatU9
import Derived.Test.YtdlglnoffpnonaaGreatPV
set_option linter.unusedVariables false
set_option linter.unusedSimpArgs false
set_option maxRecDepth 100000
namespace Go.Proofs.YtdlglnoffpnonaaGreat.P
open Go.RowKit Go.MuLone Go.Maps
theorem whole_get12 (s : List UInt8) (n : Nat) (h : s.length = n * 256) : getV s 0 (256 * (n : Int)) = ⟨s.toArray⟩ ∧ getR s 0 (256 * (n : Int)) = 0 := by
  have h1 : ¬ (256 * (n : Int)) < 0 := by omega
  have h2 : inB s 0 (256 * (n : Int)) = true := inB_t (by omega)
  unfold getV getR
  rw [if_neg h1, if_pos h2, if_neg h1, if_pos h2]
  refine ⟨?_, rfl⟩
  unfold subB
  rw [show (0 : Int).toNat = 0 from rfl, show (256 * (n : Int)).toNat = s.length by omega, List.drop_zero, List.take_length]
theorem take_wf {z : Sp} (h : ∃ own, WF 0 z own) : ∃ own, WF 0 (takeX 0 z) own := by
  obtain ⟨own, hw⟩ := h
  cases q : takeB z.L 0 with
  | true =>
    obtain ⟨n, _, _, _, h2, _⟩ := wf_new hw q
    exact ⟨_, h2⟩
  | false =>
    obtain ⟨_, _, e3, e4⟩ := take_nb q
    have : takeX 0 z = z := by unfold takeX; rw [e3, e4]
    rw [this]; exact ⟨own, hw⟩
theorem st4r {A B C D X : Asn} {w : World} {F : Nat → Prop} (h : Star A (Star B (Star C (Star D X))) w F) : Star D (Star A (Star B (Star C X))) w F :=
  star_swap2 (star_mono_r (fun F h => star_swap2 (star_mono_r (fun F h => star_swap2 h) h)) h)
/-- Both Loads come to the same. -/
theorem both_loads (w0 : World) (pb b rp rb : Nat) (z : Sp) (hw : ∃ own, WF 0 z own) (x : Pg) (hx1 : x.tx.size ≤ maxLen) (hx2 : x.da.size ≤ maxLen) :
    ∃ (z' : Sp) (Rn a v BK E : Int), z'.L.length = z.L.length ∧
      (∀ w1 R, Stable R → Own w0 w1 (Star (plA pb b 0 z.L z.s) R) → Calls Tryz.prog 7 #[.pointer (some ⟨pb, 0, none⟩), pgV x] w1 fun e w' => e = .returned (.tuple #[.int .i64 Rn, .agg (hartC a v), .int .u64 BK, .int .i64 E]) ∧ Own w0 w' (Star (plA pb b 0 z'.L z'.s) R)) ∧
      (∀ w1 R, Stable R → Own w0 w1 (Star (rpA rp rb 0 z.L z.s) R) → Calls Tryz.prog 14 #[.pointer (some ⟨rp, 0, none⟩), pgV x] w1 fun e w' => e = .returned (.tuple #[.int .i64 Rn, .agg (hartC a v), .int .u64 BK, .int .i64 E]) ∧ Own w0 w' (Star (rpA rp rb 0 z'.L z'.s) R)) := by
  cases hm : mayP x with
  | false => exact ⟨z, 0, 0, 0, 0, 6, rfl, fun w1 R hR h => o_load_bad h hR x hx1 hx2 hm, fun w1 R hR h => r_load_bad h hR x hx1 hx2 hm⟩
  | true =>
    by_cases hl : leftX 0 z < (szT x : Int) + (szD x : Int) + 12
    · exact ⟨z, 0, 0, 0, 0, 4, rfl, fun w1 R hR h => o_load_full h hR x hx1 hx2 hm _ rfl hl, fun w1 R hR h => r_load_full h hR x hx1 hx2 hm _ rfl hl⟩
    · obtain ⟨own, hwf⟩ := hw
      obtain ⟨r, zs, e0, e1, hlt, hn, hz0, hz, LA⟩ := load_st hwf hm (by omega)
      obtain ⟨r', e0', _, _, _, L0⟩ := laid_start hwf (by omega)
      have hrr : r' = r := by have e : ((r' : Nat) : Int) = r := e0'.symm.trans e0; omega
      subst hrr
      have hhi := hwf.sz.hi
      rw [hz0] at L0
      exact ⟨zs 3, r', 16384, 256 + x.en, 256 * (1 + (szT x : Int)) + x.da.size + x.bs, 0, LA.len, fun w1 R hR h => o_load_ok h hR x hx1 hx2 hm _ rfl (by show _ ≤ leftX 0 z; omega) (r' : Int) ⟨by omega, by omega⟩ e0 e1 zs hz0 hz, fun w1 R hR h => r_load_ok h hR x hx1 hx2 hm _ rfl (by omega) r' (by omega) e0 zs hz0 hz _ own L0⟩
set_option maxHeartbeats 6400000 in
theorem l_loads12_no (x : Pg) (sz tk : Int) (hs : ¬ (1 ≤ sz ∧ sz ≤ 256)) (w : World) :
    Calls Tryz.prog 3 #[.int .i64 sz, .int .i64 tk, pgV x] w fun e w' => e = .returned (.bool true) ∧ Gr w w' := by
  have EM := Lib.hid stable_emp
  have TS := Lib.hid (fun w => r_takes sz w)
  rw [decide_eq_false hs] at TS
  have NL := Lib.hid (fun w => n_load12 x w)
  clear hs
  obtain ⟨en, tx, da, bs⟩ := x
  have NL2 : RowKit.Hid (∀ w, Calls Tryz.prog 7 #[.pointer none, .agg #[.int .i64 en, .string tx, .string da, .int .i64 bs]] w fun e w' => e = .returned (.tuple #[.int .i64 0, .agg (hartC 0 0), .int .u64 0, .int .i64 1]) ∧ Gr w w') := Lib.hid NL.out
  clear NL
  show Calls Tryz.prog 3 #[.int .i64 sz, .int .i64 tk, .agg #[.int .i64 en, .string tx, .string da, .int .i64 bs]] w _
  have K0 := Lib.hid ((Own.start (Gr.refl w)).alloc EM.out (.cells #[.int .i64 en, .string tx, .string da, .int .i64 bs] 23))
  have SX := Lib.hid (stable_star (stable_blk w.heap.size (.cells #[.int .i64 en, .string tx, .string da, .int .i64 bs] 23)) EM.out)
  go_enter Tryz.func3, Tryz.ntmps3
  go_upto_region 1 with fail
  obtain ⟨wa, hwa⟩ : ∃ wa, w.alloc (.cells #[.int .i64 en, .string tx, .string da, .int .i64 bs] 23) = wa := ⟨_, rfl⟩
  rw [hwa] at K0
  rw [hwa]
  clear hwa
  obtain ⟨xb, hxb⟩ : ∃ n, w.heap.size = n := ⟨_, rfl⟩
  rw [hxb] at K0 SX
  rw [hxb]
  clear hxb
  go_upto_region 2 with (go_at_call 5; refine (c_shown12 _).mono ?_; rintro e w1 ⟨rfl, g1⟩; have H1 := Lib.hid (K0.out.gr SX.out g1); clear g1)
  go_upto_region 3 with (go_at_call 6; refine (TS.out _).mono ?_; rintro e wk ⟨rfl, hwk⟩; rw [hwk]; clear hwk wk)
  clear K0 TS
  have BX := Lib.hid H1.out.blk
  go_wp2_with (first
    | (refine wpList_load_row rfl 23 _ rfl _ rfl 23 _ (0, 0) _ BX.out Tryz.underlying23 rfl pg_info ?_)
    | (go_at_call 7; refine (NL2.out _).mono ?_; rintro e w2 ⟨rfl, g2⟩; have G2 := Lib.hid (gtrans H1.out.sub g2); clear g2)
    | (refine wpList_store_row rfl 29 _ _ rfl _ (hartC 0 0) rfl rfl 29 _ (blk_new _ _) hart_info rfl (hart_all _ _) ?_))
  go_ret
  exact ⟨rfl, below_setRow (G2.out.alloc G2.out.size _) G2.out.size _⟩
set_option maxHeartbeats 12800000 in
theorem l_loads12_yes (x : Pg) (N : Nat) (tk : Int) (htk : i64 tk) (h1 : 1 ≤ N) (h2 : N ≤ 256) (hx1 : x.tx.size ≤ maxLen) (hx2 : x.da.size ≤ maxLen) (w : World) :
    Calls Tryz.prog 3 #[.int .i64 (N : Int), .int .i64 tk, pgV x] w fun e w' => e = .returned (.bool true) ∧ Gr w w' := by
  have EM := Lib.hid stable_emp
  have TS := Lib.hid (fun w => r_takes (N : Int) w)
  rw [decide_eq_true (show 1 ≤ (N : Int) ∧ (N : Int) ≤ 256 by omega)] at TS
  have BL := Lib.hid (fun pb b rp rb z hw => both_loads w pb b rp rb z hw x hx1 hx2)
  have PL := Lib.hid (fun (b pb : Nat) (z : Sp) => stable_pl pb b 0 z.L z.s)
  have RL := Lib.hid (fun (b pb : Nat) (z : Sp) => stable_rp pb b 0 z.L z.s)
  have NW : RowKit.Hid (∀ w1 b (R : Asn), Stable R → Own w w1 (Star (memA b N (List.replicate (N * 256) 0)) R) → Calls Tryz.prog 9 #[.pointer (some ⟨b, 0, none⟩), .int .i64 0] w1 fun e w' => ∃ pb, e = .returned (.tuple #[.pointer (some ⟨pb, 0, none⟩), .int .i64 0]) ∧ Own w w' (Star (plA pb b 0 (zNw N).L (zNw N).s) R)) := Lib.hid (fun w1 b R hR h => o_pnew h hR (Nat.zero_le _))
  have NQ : RowKit.Hid (∀ w1 b (R : Asn), Stable R → Own w w1 (Star (rmA b N (List.replicate (N * 256) 0)) R) → Calls Tryz.prog 10 #[.pointer (some ⟨b, 0, none⟩), .int .i64 0] w1 fun e w' => ∃ rp, e = .returned (.pointer (some ⟨rp, 0, none⟩)) ∧ Own w w' (Star (rpA rp b 0 (zNw N).L (zNw N).s) R)) := Lib.hid (fun w1 b R hR h => o_qnew h hR (Nat.zero_le _) h2)
  have W0 := Lib.hid (show (∃ own, WF 0 (zNw N) own) ∧ (zNw N).L.length = N from ⟨⟨_, wf_zNw N h1 h2⟩, by unfold zNw; exact fresh_len _ _⟩)
  generalize zNw N = z0 at *
  obtain ⟨tk0, tk1⟩ := htk
  clear hx1 hx2
  obtain ⟨en, tx, da, bs⟩ := x
  show Calls Tryz.prog 3 #[.int .i64 (N : Int), .int .i64 tk, .agg #[.int .i64 en, .string tx, .string da, .int .i64 bs]] w _
  have K0 := Lib.hid ((Own.start (Gr.refl w)).alloc EM.out (.cells #[.int .i64 en, .string tx, .string da, .int .i64 bs] 23))
  have SX := Lib.hid (stable_star (stable_blk w.heap.size (.cells #[.int .i64 en, .string tx, .string da, .int .i64 bs] 23)) EM.out)
  go_enter Tryz.func3, Tryz.ntmps3
  go_upto_region 1 with fail
  obtain ⟨wa, hwa⟩ : ∃ wa, w.alloc (.cells #[.int .i64 en, .string tx, .string da, .int .i64 bs] 23) = wa := ⟨_, rfl⟩
  rw [hwa] at K0
  rw [hwa]
  clear hwa
  obtain ⟨xb, hxb⟩ : ∃ n, w.heap.size = n := ⟨_, rfl⟩
  rw [hxb] at K0 SX
  rw [hxb]
  clear hxb
  go_upto_region 2 with (go_at_call 5; refine (c_shown12 _).mono ?_; rintro e w1 ⟨rfl, g1⟩; have H1 := Lib.hid (K0.out.gr SX.out g1); clear g1)
  go_upto_region 3 with (go_at_call 6; refine (TS.out _).mono ?_; rintro e wk ⟨rfl, hwk⟩; rw [hwk]; clear hwk wk)
  clear K0 TS
  go_upto_region 7 with (go_at_call 8; refine (o_mnew H1.out SX.out N h1 h2).mono ?_; rintro e w2 ⟨b, rfl, h2'⟩; have H2 := Lib.hid h2'; clear h2')
  go_upto_region 8 with (go_at_call 9; refine (NW.out _ _ _ SX.out H2.out).mono ?_; rintro e w3 ⟨pb, rfl, h3⟩; have H3 := Lib.hid h3; clear h3)
  have SPX := Lib.hid (fun z => stable_star (PL.out b pb z) SX.out)
  go_upto_region 9 with (first
    | (go_at_call 11; refine (o_rnew H3.out (SPX.out _) N h2).mono ?_; rintro e w4 ⟨rb, rfl, h4⟩; have H4 := Lib.hid h4; clear h4)
    | (go_at_call 10; refine (NQ.out _ _ _ (SPX.out _) H4.out).mono ?_; rintro e w5 ⟨rp, rfl, h5⟩; have H5 := Lib.hid h5; clear h5))
  clear NW NQ H1 H2 H3 H4
  have SRX := Lib.hid (fun z => stable_star (RL.out rb rp z) SX.out)
  go_wp2_with fail
  go_loopg [18] (N + 1) (fun t v18 wr => ∃ (i : Nat) (z : Sp), i ≤ N ∧ t = N + 1 - i ∧ v18 = .int .i64 (i : Int) ∧ (∃ own, WF 0 z own) ∧ z.L.length = N ∧ Own w wr (Star (plA pb b 0 z.L z.s) (Star (rpA rp rb 0 z.L z.s) (Star (blkA xb (.cells #[.int .i64 en, .string tx, .string da, .int .i64 bs] 23)) emp))))
  case atStart => exact ⟨0, z0, Nat.zero_le _, rfl, rfl, W0.out.1, W0.out.2, H5.out.swap2⟩
  case round =>
    clear H5 W0
    obtain ⟨i, z, hi, rfl, rfl, hwz, hlz, ho⟩ := hrel
    have H := Lib.hid ho
    clear ho
    by_cases hc : (i : Int) < tk ∧ (i : Int) < (N : Int)
    · obtain ⟨c1, c2⟩ := hc
      have e5 : IntKind.i64.wrap ((i : Int) + 1) = (i : Int) + 1 := wrapI _ (by omega) (by omega)
      have hiN : i < N := by omega
      have T1 := Lib.hid (o_ptake H.out (SRX.out z) _ _ _ _ rfl rfl rfl rfl)
      have T2 : RowKit.Hid (∀ w1, Own w w1 (Star (rpA rp rb 0 z.L z.s) (Star (plA pb b 0 (takeX 0 z).L (takeX 0 z).s) (Star (blkA xb (.cells #[.int .i64 en, .string tx, .string da, .int .i64 bs] 23)) emp))) → _) := Lib.hid (fun w1 h => o_qtake h (SPX.out (takeX 0 z)) _ _ _ _ rfl rfl rfl rfl)
      have W2 := Lib.hid (take_wf hwz)
      have L2 := Lib.hid (show (takeX 0 z).L.length = N from (by show (takeL z.L 0).length = N; rw [takeL_len]; exact hlz))
      clear hwz hlz
      go_wp2_with (first
        | (go_at_call 12; refine T1.out.mono ?_; rintro e w6 ⟨rfl, h6⟩; have H6 := Lib.hid (Own.swap2 h6); clear h6)
        | (go_at_call 13; refine (T2.out _ H6.out).mono ?_; rintro e w7 ⟨rfl, h7⟩; have H7 := Lib.hid (Own.swap2 h7); clear h7))
      go_roundg (N + 1 - (i + 1))
      case measure => omega
      case rel => exact ⟨i + 1, takeX 0 z, by omega, rfl, by go_num, W2.out, L2.out, H7.out⟩
    · have hc2 : ¬ (i : Int) < tk ∨ ((i : Int) < tk ∧ ¬ (i : Int) < (N : Int)) := by omega
      obtain ⟨z', Rn, a, v, BK, E, hlen, PLD, RLD⟩ := BL.out pb b rp rb z hwz
      have P1 := Lib.hid PLD
      have P2 := Lib.hid RLD
      have hz'N : z'.L.length = N := by rw [hlen]; exact hlz
      have hs' : ∀ w1 (R : Asn), Own w w1 (Star (plA pb b 0 z'.L z'.s) R) → z'.s.length = N * 256 := fun w1 R h => by have := (o_plen h).1; rw [this, hz'N]
      have HS := Lib.hid hs'
      obtain ⟨LFT, hLFT⟩ : ∃ x, leftX 0 z' = x := ⟨_, rfl⟩
      have LP : RowKit.Hid (∀ w1 (R : Asn), Own w w1 (Star (plA pb b 0 z'.L z'.s) R) → Calls Tryz.prog 16 #[.pointer (some ⟨pb, 0, none⟩)] w1 fun e w' => e = .returned (.int .i64 LFT) ∧ w' = w1) := Lib.hid (fun w1 R h => o_pleft h _ hLFT)
      have LR : RowKit.Hid (∀ w1 (R : Asn), Own w w1 (Star (rpA rp rb 0 z'.L z'.s) R) → Calls Tryz.prog 17 #[.pointer (some ⟨rp, 0, none⟩)] w1 fun e w' => e = .returned (.int .i64 LFT) ∧ w' = w1) := Lib.hid (fun w1 R h => o_qleft h _ hLFT)
      have BX := Lib.hid H.out.right.right.blk
      have e8 : IntKind.i64.wrap (256 * (N : Int)) = 256 * (N : Int) := wrapI _ (by omega) (by omega)
      have GT : RowKit.Hid (∀ w1 (R : Asn), Stable R → Own w w1 (Star (plA pb b 0 z'.L z'.s) R) → Calls Tryz.prog 15 #[.pointer (some ⟨b, 0, none⟩), .int .u64 0, .int .i64 (256 * (N : Int))] w1 fun e w' => e = .returned (.tuple #[.string ⟨z'.s.toArray⟩, .int .i64 0]) ∧ Own w w' (Star (plA pb b 0 z'.L z'.s) R)) := Lib.hid (fun w1 R hR h => by
        have hwg := whole_get12 z'.s N (HS.out _ _ h)
        exact o_pget h hR 0 (256 * (N : Int)) 0 ⟨by decide, by decide⟩ (by omega) _ hwg.1 hwg.2)
      clear hlen PLD RLD hs' hLFT hwz hlz BL hz'N
      obtain ⟨SV, hSV⟩ : ∃ s : ByteArray, (⟨z'.s.toArray⟩ : ByteArray) = s := ⟨_, rfl⟩
      rw [hSV] at GT
      have HSV := Lib.hid hSV
      have bS : (SV.toList == SV.toList) = true := beq_self_eq_true _
      clear hSV
      have PH := Lib.hid (P1.out _ _ (SRX.out z) H.out)
      rcases hc2 with d1 | ⟨d1, d2⟩
      all_goals
        clear hc
        go_upto_region 15 with (first
          | (refine wpList_load_row rfl 23 _ rfl _ rfl 23 _ (0, 0) _ BX.out Tryz.underlying23 rfl pg_info ?_)
          | (go_at_call 7; refine PH.out.mono ?_; rintro e w6 ⟨rfl, h6⟩; have H6 := Lib.hid h6; clear h6)
          | (refine wpList_store_row rfl 29 _ _ rfl _ (hartC a v) rfl rfl 29 _ (blk_new _ _) hart_info rfl (hart_all _ _) ?_))
        have H7 := Lib.hid (own_newRow (c := hartZ) (T := 29) H6.out (stable_star (PL.out _ _ _) (SRX.out z)) (hartC a v)).rot3
        unfold hartZ at H7
        generalize (World.setRow _ _ _) = w7 at *
        generalize w6.heap.size = hb1 at *
        try simp only [Act.put]
        clear H6 PH P1
        have SB7 := Lib.hid (stable_star (stable_blk hb1 (.cells (hartC a v) 29)) (stable_star (PL.out b pb z') SX.out))
        have BX := Lib.hid H7.out.right.right.right.blk
        have PH := Lib.hid (P2.out _ _ SB7.out H7.out)
        go_upto_region 16 with (first
          | (refine wpList_load_row rfl 23 _ rfl _ rfl 23 _ (0, 0) _ BX.out Tryz.underlying23 rfl pg_info ?_)
          | (go_at_call 14; refine PH.out.mono ?_; rintro e w8 ⟨rfl, h8⟩; have H8 := Lib.hid h8; clear h8)
          | (refine wpList_store_row rfl 29 _ _ rfl _ (hartC a v) rfl rfl 29 _ (blk_new _ _) hart_info rfl (hart_all _ _) ?_))
        have H9 := Lib.hid ((own_newRow (c := hartZ) (T := 29) H8.out (stable_star (RL.out _ _ _) SB7.out) (hartC a v)).mono (fun F h => st4r h))
        unfold hartZ at H9
        generalize (World.setRow _ _ _) = w9 at *
        generalize w8.heap.size = hb2 at *
        try simp only [Act.put]
        clear H7 H8 PH P2 BX
        have SB9 := Lib.hid (stable_star (stable_blk hb2 (.cells (hartC a v) 29)) (stable_star (RL.out rb rp z') (stable_star (stable_blk hb1 (.cells (hartC a v) 29)) SX.out)))
        have PG := Lib.hid (GT.out _ _ SB9.out H9.out)
        go_upto_region 17 with (go_at_call 15; refine PG.out.mono ?_; rintro e w10 ⟨rfl, h10⟩; have HA := Lib.hid h10; clear h10)
        clear PG H9
        have B2 := Lib.hid HA.out.swap2.blk
        have B1 := Lib.hid HA.out.right.right.right.blk
        have HQ := Lib.hid HA.out.rot3
        have c0 := o_qM HQ.out
        obtain ⟨vb, s0, s1, s2⟩ := o_qpoke HQ.out (stable_star (PL.out b pb z') (stable_star (stable_blk hb2 (.cells (hartC a v) 29)) (stable_star (stable_blk hb1 (.cells (hartC a v) 29)) SX.out)))
        have cv := bytes_back w10 vb z'.s.length z'.s.length z'.s rfl (fun j hj => by
          have e := (s1 j hj).1
          rw [e, List.getD_eq_getElem?_getD, List.getElem?_eq_getElem hj]; rfl)
        rw [HSV.out] at cv
        clear s1 s2
        obtain ⟨nl, hnl⟩ : ∃ n, z'.s.length = n := ⟨_, rfl⟩
        rw [hnl] at s0 cv
        clear hnl
        go_wp2_with (first
          | (refine wpList_load_g5 (by first | rfl | fail) 29 _ rfl hb1 rfl 29 _ (0, 0) _ B1.out Tryz.underlying29 rfl hart_info ?_)
          | (refine wpList_load_g5 (by first | rfl | fail) 29 _ rfl hb2 rfl 29 _ (0, 0) _ B2.out Tryz.underlying29 rfl hart_info ?_)
          | (refine wpList_eql_g (by first | rfl | fail) 29 _ _ _ rfl _ _ rfl rfl true egH5 (eqlHC _ _ _) ?_)
          | (go_at_call 16; refine (LP.out _ _ HA.out).mono ?_; rintro e wk ⟨rfl, hwk⟩; rw [hwk]; clear hwk wk)
          | (go_at_call 17; refine (LR.out _ _ HQ.out).mono ?_; rintro e wk ⟨rfl, hwk⟩; rw [hwk]; clear hwk wk))
        go_ret
        exact ⟨rfl, HA.out.sub⟩
theorem l_loads12 (x : Pg) (sz tk : Int) (htk : i64 tk) (hx1 : x.tx.size ≤ maxLen) (hx2 : x.da.size ≤ maxLen) (w : World) :
    Calls Tryz.prog 3 #[.int .i64 sz, .int .i64 tk, pgV x] w fun e w' => e = .returned (.bool true) ∧ Gr w w' := by
  by_cases h : 1 ≤ sz ∧ sz ≤ 256
  · obtain ⟨N, rfl⟩ : ∃ N : Nat, sz = (N : Int) := ⟨sz.toNat, by omega⟩
    exact l_loads12_yes x N tk htk (by omega) (by omega) hx1 hx2 w
  · exact l_loads12_no x sz tk h w
end Go.Proofs.YtdlglnoffpnonaaGreat.P
