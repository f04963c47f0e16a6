/- Stage 12: ProgBytes. No condition. -/
import Derived.Test.YtdlglnoffpnonaaGreatUI
import Derived.Test.YtdlglnoffpnonaaGreatU8
import Derived.Test.YtdlglnoffpnonaaGreatPV
import Derived.Test.YtdlglnoffpnonaaGreatQA
set_option linter.unusedVariables false
set_option linter.unusedSimpArgs false
set_option maxRecDepth 100000
namespace Go.Proofs.YtdlglnoffpnonaaGreat.P
open Go.RowKit Go.MuLone Go.Maps
theorem pgCells_at : ∀ (l : List Pgr) (k : Nat) (p : Pgr), l[k]? = some p → (pgCells l)[k * 3 + 1]? = some (.int .u64 p.b)
  | [], k, p, h => by cases h
  | a :: l, 0, p, h => by
    obtain rfl : a = p := Option.some.inj h
    rfl
  | a :: l, k + 1, p, h => by
    have := pgCells_at l k p h
    show (_ :: _ :: _ :: pgCells l)[(k + 1) * 3 + 1]? = _
    rw [show (k + 1) * 3 + 1 = k * 3 + 1 + 1 + 1 + 1 by omega, List.getElem?_cons_succ, List.getElem?_cons_succ, List.getElem?_cons_succ]
    exact this
theorem pgN_mul (m : Nat) : m ≤ pgN m * 256 := by unfold pgN; omega
set_option maxHeartbeats 3200000 in
theorem l_bytes12_bad (x : Pg) (hm : mayP x = false) (hx1 : x.tx.size ≤ maxLen) (hx2 : x.da.size ≤ maxLen) (w : World) :
    Calls Tryz.prog 4 #[pgV x] w fun e w' => e = .returned (.bool true) ∧ Gr w w' := by
  have RM := Lib.hid (fun w => r_may12 x hx1 hx2 w)
  have EM := Lib.hid stable_emp
  have PL := Lib.hid (fun (b pb : Nat) (z : Sp) => stable_pl pb b 0 z.L z.s)
  have NW : RowKit.Hid (∀ w1 b (R : Asn), Stable R → Own w w1 (Star (memA b 64 (List.replicate (64 * 256) 0)) R) → Calls Tryz.prog 9 #[.pointer (some ⟨b, 0, none⟩), .int .i64 0] w1 fun e w' => ∃ pb, e = .returned (.tuple #[.pointer (some ⟨pb, 0, none⟩), .int .i64 0]) ∧ Own w w' (Star (plA pb b 0 (zNw 64).L (zNw 64).s) R)) := Lib.hid (fun w1 b R hR h => o_pnew h hR (Nat.zero_le _))
  have hlf := left_new 64 (by decide) (by decide)
  have LF : RowKit.Hid (∀ w1 b pb R, Own w w1 (Star (plA pb b 0 (zNw 64).L (zNw 64).s) R) → Calls Tryz.prog 16 #[.pointer (some ⟨pb, 0, none⟩)] w1 fun e w' => e = .returned (.int .i64 64) ∧ w' = w1) := Lib.hid (fun w1 b pb R h => o_pleft h _ hlf)
  clear hlf
  have LB : RowKit.Hid (∀ w1 b pb R, Stable R → Own w w1 (Star (plA pb b 0 (zNw 64).L (zNw 64).s) R) → Calls Tryz.prog 7 #[.pointer (some ⟨pb, 0, none⟩), pgV x] w1 fun e w' => e = .returned (.tuple #[.int .i64 0, .agg (hartC 0 0), .int .u64 0, .int .i64 6]) ∧ Own w w' (Star (plA pb b 0 (zNw 64).L (zNw 64).s) R)) := Lib.hid (fun w1 b pb R hR h => o_load_bad h hR x hx1 hx2 hm)
  rw [hm] at RM
  clear hm hx1 hx2
  obtain ⟨en, tx, da, bs⟩ := x
  have LB2 : RowKit.Hid (∀ w1 b pb R, Stable R → Own w w1 (Star (plA pb b 0 (zNw 64).L (zNw 64).s) R) → Calls Tryz.prog 7 #[.pointer (some ⟨pb, 0, none⟩), .agg #[.int .i64 en, .string tx, .string da, .int .i64 bs]] w1 fun e w' => e = .returned (.tuple #[.int .i64 0, .agg (hartC 0 0), .int .u64 0, .int .i64 6]) ∧ Own w w' (Star (plA pb b 0 (zNw 64).L (zNw 64).s) R)) := Lib.hid LB.out
  have RM2 : RowKit.Hid (∀ w, Calls Tryz.prog 18 #[.agg #[.int .i64 en, .string tx, .string da, .int .i64 bs]] w fun e w' => e = .returned (.bool false) ∧ Gr w w') := Lib.hid RM.out
  clear LB RM
  generalize zNw 64 = z0 at *
  have K0 := Lib.hid ((Own.start (Gr.refl w)).alloc EM.out (.cells #[.int .i64 en, .string tx, .string da, .int .i64 bs] 23))
  have SX := Lib.hid (stable_star (stable_blk w.heap.size (.cells #[.int .i64 en, .string tx, .string da, .int .i64 bs] 23)) EM.out)
  show Calls Tryz.prog 4 #[.agg #[.int .i64 en, .string tx, .string da, .int .i64 bs]] w _
  go_enter Tryz.func4, Tryz.ntmps4
  go_upto_region 1 with fail
  obtain ⟨wa, hwa⟩ : ∃ wa, w.alloc (.cells #[.int .i64 en, .string tx, .string da, .int .i64 bs] 23) = wa := ⟨_, rfl⟩
  rw [hwa] at K0
  rw [hwa]
  clear hwa
  obtain ⟨xb, hxb⟩ : ∃ n, w.heap.size = n := ⟨_, rfl⟩
  rw [hxb] at K0 SX
  rw [hxb]
  clear hxb
  go_upto_region 2 with (go_at_call 5; refine (c_shown12 _).mono ?_; rintro e w1 ⟨rfl, g1⟩; have H1 := Lib.hid (K0.out.gr SX.out g1); clear g1)
  go_upto_region 3 with (go_at_call 8; refine (o_mnew H1.out SX.out 64 (by decide) (by decide)).mono ?_; rintro e w2 ⟨b, rfl, h2⟩; have H2 := Lib.hid h2; clear h2)
  go_upto_region 4 with (go_at_call 9; refine (NW.out _ _ _ SX.out H2.out).mono ?_; rintro e w3 ⟨pb, rfl, h3⟩; have H3 := Lib.hid h3; clear h3)
  have BX := Lib.hid H3.out.swap2.blk
  clear NW K0 H1 H2
  go_upto_region 5 with (first
    | (refine wpList_load_row rfl 23 _ rfl _ rfl 23 _ (0, 0) _ BX.out Tryz.underlying23 rfl pg_info ?_)
    | (go_at_call 7; refine (LB2.out _ b pb _ SX.out H3.out).mono ?_; rintro e w4 ⟨rfl, h4⟩; have H4 := Lib.hid h4; clear h4)
    | (refine wpList_store_row rfl 29 _ _ rfl _ (hartC 0 0) rfl rfl 29 _ (blk_new _ _) hart_info rfl (hart_all _ _) ?_))
  have H5 := Lib.hid (own_newRow (c := hartZ) (T := 29) H4.out (stable_star (PL.out _ _ _) SX.out) (hartC 0 0)).right
  unfold hartZ at H5
  generalize (World.setRow _ _ _) = w5 at *
  generalize w4.heap.size = hb at *
  have BX := Lib.hid H5.out.swap2.blk
  try simp only [Act.put]
  clear H4 H3 LB2
  go_wp2_with (first
    | (refine wpList_load_row rfl 23 _ rfl _ rfl 23 _ (0, 0) _ BX.out Tryz.underlying23 rfl pg_info ?_)
    | (go_at_call 18; refine (RM2.out _).mono ?_; rintro e w6 ⟨rfl, g6⟩; have H6 := Lib.hid (H5.out.gr (stable_star (PL.out _ _ _) SX.out) g6); clear g6)
    | (go_at_call 16; refine (LF.out _ b pb _ H6.out).mono ?_; rintro e w7 ⟨rfl, rfl⟩))
  go_ret
  exact ⟨rfl, H6.out.sub⟩
end Go.Proofs.YtdlglnoffpnonaaGreat.P
namespace Go.Proofs.YtdlglnoffpnonaaGreat.P
open Go.RowKit Go.MuLone Go.Maps
set_option maxHeartbeats 12800000 in
theorem l_bytes12_ok (x : Pg) (nb : Nat) (hnb : x.bs = (nb : Int)) (hm : mayP x = true) (hx1 : x.tx.size ≤ maxLen) (hx2 : x.da.size ≤ maxLen) (w : World) :
    Calls Tryz.prog 4 #[pgV x] w fun e w' => e = .returned (.bool true) ∧ Gr w w' := by
  have RM := Lib.hid (fun w => r_may12 x hx1 hx2 w)
  rw [hm] at RM
  have EM := Lib.hid stable_emp
  have PL := Lib.hid (fun (b pb : Nat) (z : Sp) => stable_pl pb b 0 z.L z.s)
  have RL := Lib.hid (fun (b pb : Nat) (z : Sp) => stable_rp pb b 0 z.L z.s)
  have NW : RowKit.Hid (∀ w1 b (R : Asn), Stable R → Own w w1 (Star (memA b 64 (List.replicate (64 * 256) 0)) R) → Calls Tryz.prog 9 #[.pointer (some ⟨b, 0, none⟩), .int .i64 0] w1 fun e w' => ∃ pb, e = .returned (.tuple #[.pointer (some ⟨pb, 0, none⟩), .int .i64 0]) ∧ Own w w' (Star (plA pb b 0 (zNw 64).L (zNw 64).s) R)) := Lib.hid (fun w1 b R hR h => o_pnew h hR (Nat.zero_le _))
  have NQ : RowKit.Hid (∀ w1 b (R : Asn), Stable R → Own w w1 (Star (rmA b 64 (List.replicate (64 * 256) 0)) R) → Calls Tryz.prog 10 #[.pointer (some ⟨b, 0, none⟩), .int .i64 0] w1 fun e w' => ∃ rp, e = .returned (.pointer (some ⟨rp, 0, none⟩)) ∧ Own w w' (Star (rpA rp b 0 (zNw 64).L (zNw 64).s) R)) := Lib.hid (fun w1 b R hR h => o_qnew h hR (Nat.zero_le _) (by decide))
  obtain ⟨hsT, hsD, t1, t8, d20⟩ := szb hm
  obtain ⟨m1, m2, m3, m4, m5, m6, m7, m8, m9, m10⟩ := may_iff.1 hm
  have hlf := left_new 64 (by decide) (by decide)
  have hw0 := wf_zNw 64 (by decide) (by decide)
  obtain ⟨r, zs, e0, e1, hlt, _, hz0, hz, LA⟩ := load_st hw0 hm (by rw [hlf]; omega)
  have hlt2 : r < 64 := hlt
  obtain ⟨r', e0', _, _, _, L0⟩ := laid_start hw0 (by rw [hlf]; decide)
  obtain rfl : r' = r := by have e : ((r' : Nat) : Int) = r := e0'.symm.trans e0; omega
  rw [hz0] at L0
  obtain ⟨pgT, pgD, pgS, LZ⟩ := load_pg hm (by rw [hlf]; omega) L0 hz
  have BITS := load_bits hm (by rw [hlf]; omega) L0 hz
  obtain ⟨own2, p2, j2, hw2, hr2, _, _⟩ := LZ.ex
  have ra : i64 (r' : Int) := ⟨by omega, by omega⟩
  obtain ⟨AT, hAT⟩ : ∃ a : Int, 256 * (1 + (szT x : Int)) = a := ⟨_, rfl⟩
  have atb : 0 ≤ AT ∧ AT < 4096 := by omega
  have sT : x.tx.size ≤ szT x * 256 := by rw [hsT]; exact pgN_mul _
  have sD : x.da.size + nb ≤ szD x * 256 := by
    rw [hsD]; have := pgN_mul (x.da.size + x.bs.toNat); omega
  have lT : x.tx.data.toList.length = x.tx.size := Array.length_toList
  have lD : x.da.data.toList.length = x.da.size := Array.length_toList
  obtain ⟨i1, i2⟩ := in_all hw2 hr2 (B := 1) (c := szT x) (by decide) (by decide) (by omega) (fun i hi => pgT i hi) 256 0 x.tx.size rfl (by omega) (by omega)
  obtain ⟨i3, i4⟩ := in_all hw2 hr2 (B := 1 + szT x) (c := szD x) (by decide) (by decide) (by omega) (fun i hi => pgD i hi) AT 0 x.da.size (by omega) (by omega) (by omega)
  obtain ⟨i5, i6⟩ := in_all hw2 hr2 (B := 1 + szT x) (c := szD x) (by decide) (by decide) (by omega) (fun i hi => pgD i hi) (AT + x.da.size) x.da.size nb (by omega) (by omega) (by omega)
  rw [← lT, bsF_all, lT] at i2
  rw [← lD, bsF_all, lD] at i4
  rw [← lD, bsF_past, lD] at i6
  obtain ⟨o1, o2⟩ := out_one hw2 hr2 (P := 1 + 0) (by decide) (by decide) (pgT 0 (by omega)) 256 0 (by decide) rfl ⟨#[120]⟩ rfl
  obtain ⟨o3, _⟩ := out_one hw2 hr2 (P := 56 + 7) (by decide) (by decide) (pgS 7 (by decide)) 16383 255 (by decide) rfl ⟨#[120]⟩ rfl
  replace o2 := o2 (by decide)
  replace o1 : outErr 0 (zs 3) r' 256 ⟨#[120]⟩ = 3 := o1
  replace o3 : outErr 0 (zs 3) r' 16383 ⟨#[120]⟩ = 0 := o3
  have LK0 : RowKit.Hid (∀ w1 b pb R, Stable R → Own w w1 (Star (plA pb b 0 (zNw 64).L (zNw 64).s) R) → Calls Tryz.prog 7 #[.pointer (some ⟨pb, 0, none⟩), pgV x] w1 fun e w' => e = .returned (.tuple #[.int .i64 (r' : Int), .agg (hartC 16384 (256 + x.en)), .int .u64 (256 * (1 + (szT x : Int)) + x.da.size + x.bs), .int .i64 0]) ∧ Own w w' (Star (plA pb b 0 (zs 3).L (zs 3).s) R)) := Lib.hid (fun w1 b pb R hR h => o_load_ok h hR x hx1 hx2 hm 64 hlf (by omega) (r' : Int) ra e0 e1 zs hz0 hz)
  have LR0 : RowKit.Hid (∀ w1 b pb R, Stable R → Own w w1 (Star (rpA pb b 0 (zNw 64).L (zNw 64).s) R) → Calls Tryz.prog 14 #[.pointer (some ⟨pb, 0, none⟩), pgV x] w1 fun e w' => e = .returned (.tuple #[.int .i64 (r' : Int), .agg (hartC 16384 (256 + x.en)), .int .u64 (256 * (1 + (szT x : Int)) + x.da.size + x.bs), .int .i64 0]) ∧ Own w w' (Star (rpA pb b 0 (zs 3).L (zs 3).s) R)) := Lib.hid (fun w1 b pb R hR h => r_load_ok h hR x hx1 hx2 hm _ hlf (by omega) r' (by omega) e0 zs hz0 hz _ _ (by rw [hlf] at L0; exact L0))
  have INA : RowKit.Hid (∀ w1 b pb R, Stable R → Own w w1 (Star (plA pb b 0 (zs 3).L (zs 3).s) R) → Calls Tryz.prog 19 #[.pointer (some ⟨pb, 0, none⟩), .int .i64 (r' : Int), .int .u64 256, .int .i64 (x.tx.size : Int)] w1 fun e w' => e = .returned (.tuple #[.string x.tx, .int .i64 0]) ∧ Own w w' (Star (plA pb b 0 (zs 3).L (zs 3).s) R)) := Lib.hid (fun w1 b pb R hR h => o_in h hR r' 256 x.tx.size ra ⟨by decide, by decide⟩ _ _ i2 i1)
  have INB : RowKit.Hid (∀ w1 b pb R, Stable R → Own w w1 (Star (plA pb b 0 (zs 3).L (zs 3).s) R) → Calls Tryz.prog 19 #[.pointer (some ⟨pb, 0, none⟩), .int .i64 (r' : Int), .int .u64 AT, .int .i64 (x.da.size : Int)] w1 fun e w' => e = .returned (.tuple #[.string x.da, .int .i64 0]) ∧ Own w w' (Star (plA pb b 0 (zs 3).L (zs 3).s) R)) := Lib.hid (fun w1 b pb R hR h => o_in h hR r' AT x.da.size ra ⟨by omega, by omega⟩ _ _ i4 i3)
  have INC : RowKit.Hid (∀ w1 b pb R, Stable R → Own w w1 (Star (plA pb b 0 (zs 3).L (zs 3).s) R) → Calls Tryz.prog 19 #[.pointer (some ⟨pb, 0, none⟩), .int .i64 (r' : Int), .int .u64 (AT + (x.da.size : Int)), .int .i64 (nb : Int)] w1 fun e w' => e = .returned (.tuple #[.string ⟨(List.replicate nb 0).toArray⟩, .int .i64 0]) ∧ Own w w' (Star (plA pb b 0 (zs 3).L (zs 3).s) R)) := Lib.hid (fun w1 b pb R hR h => o_in h hR r' (AT + x.da.size) nb ra ⟨by omega, by omega⟩ _ _ i6 i5)
  have OUA : RowKit.Hid (∀ w1 b pb R, Stable R → Own w w1 (Star (plA pb b 0 (zs 3).L (zs 3).s) R) → Calls Tryz.prog 20 #[.pointer (some ⟨pb, 0, none⟩), .int .i64 (r' : Int), .int .u64 256, .string ⟨#[120]⟩] w1 fun e w' => e = .returned (.int .i64 3) ∧ Own w w' (Star (plA pb b 0 (zs 3).L (zs 3).s) R)) := Lib.hid (fun w1 b pb R hR h => o_out h hR r' 256 ⟨#[120]⟩ ra ⟨by decide, by decide⟩ (by decide) _ _ o1 o2)
  obtain ⟨z4, hz4⟩ : ∃ z, outSt 0 (zs 3) r' 16383 ⟨#[120]⟩ = z := ⟨_, rfl⟩
  have OUB : RowKit.Hid (∀ w1 b pb R, Stable R → Own w w1 (Star (plA pb b 0 (zs 3).L (zs 3).s) R) → Calls Tryz.prog 20 #[.pointer (some ⟨pb, 0, none⟩), .int .i64 (r' : Int), .int .u64 16383, .string ⟨#[120]⟩] w1 fun e w' => e = .returned (.int .i64 0) ∧ Own w w' (Star (plA pb b 0 z4.L z4.s) R)) := Lib.hid (fun w1 b pb R hR h => o_out h hR r' 16383 ⟨#[120]⟩ ra ⟨by decide, by decide⟩ (by decide) _ _ o3 hz4)
  have PGS := Lib.hid (fun w1 rb rp R hR h => o_rpages (w0 := w) (w := w1) (rp := rp) (rb := rb) (R := R) h hR hw2 hr2)
  obtain ⟨l, hl⟩ : ∃ l, rqA (zs 3) r' 32 = l := ⟨_, rfl⟩
  obtain ⟨tb, htb⟩ : ∃ l, tbA (zs 3) r' 32 = l := ⟨_, rfl⟩
  have hlen : l.length ≤ 32768 := by rw [← hl]; exact rqA_len _ _ 32
  rw [hl] at BITS
  rw [hl, htb] at PGS
  have BT : RowKit.Hid (∀ q ∈ l, q.b = 27 ∨ q.b = 23) := Lib.hid BITS
  have HLN := Lib.hid hlen
  rw [hAT] at LK0 LR0
  clear hl htb BITS hlen
  obtain ⟨D, hD⟩ : ∃ D, x.da.size = D := ⟨_, rfl⟩
  obtain ⟨TS, hTS⟩ : ∃ D, x.tx.size = D := ⟨_, rfl⟩
  have HTS := Lib.hid hTS
  have HDS := Lib.hid hD
  rw [hD, hnb] at LK0 LR0
  rw [hD] at INB INC m7
  rw [hTS] at INA m2
  have HD := Lib.hid (show D ≤ 1024 ∧ nb ≤ 4096 ∧ TS ≤ 2048 by omega)
  have HA := Lib.hid atb
  have HR := Lib.hid hlt2
  clear o1 o2 o3 i1 i2 i3 i4 i5 i6 pgT pgD pgS LZ L0 LA hw2 hr2 hz hz0 hz4 e0 e0' e1 hw0 hlf hlt hlt2 sT sD lT lD m1 m2 m3 m4 m5 m6 m7 m8 m9 m10 hsT hsD t1 t8 d20 ra hAT atb hTS hD hm hx1 hx2
  obtain ⟨en, tx, da, bs⟩ := x
  obtain rfl : bs = (nb : Int) := hnb
  replace HTS : RowKit.Hid (tx.size = TS) := HTS
  replace HDS : RowKit.Hid (da.size = D) := HDS
  obtain ⟨ZB, hZB⟩ : ∃ s : ByteArray, (⟨(List.replicate nb 0).toArray⟩ : ByteArray) = s := ⟨_, rfl⟩
  rw [hZB] at INC
  have HZB := Lib.hid hZB
  clear hZB
  have RM2 : RowKit.Hid (∀ w, Calls Tryz.prog 18 #[.agg #[.int .i64 en, .string tx, .string da, .int .i64 (nb : Int)]] w fun e w' => e = .returned (.bool true) ∧ Gr w w') := Lib.hid RM.out
  obtain ⟨BK, hBK⟩ : ∃ B, AT + (D : Int) + (nb : Int) = B := ⟨_, rfl⟩
  obtain ⟨H0, hH0⟩ : ∃ H, hartC 16384 (256 + en) = H := ⟨_, rfl⟩
  have LK2 : RowKit.Hid (∀ w1 b pb R, Stable R → Own w w1 (Star (plA pb b 0 (zNw 64).L (zNw 64).s) R) → Calls Tryz.prog 7 #[.pointer (some ⟨pb, 0, none⟩), .agg #[.int .i64 en, .string tx, .string da, .int .i64 (nb : Int)]] w1 fun e w' => e = .returned (.tuple #[.int .i64 (r' : Int), .agg (hartC 16384 (256 + en)), .int .u64 BK, .int .i64 0]) ∧ Own w w' (Star (plA pb b 0 (zs 3).L (zs 3).s) R)) := Lib.hid (by rw [← hBK]; exact LK0.out)
  have LR2 : RowKit.Hid (∀ w1 b pb R, Stable R → Own w w1 (Star (rpA pb b 0 (zNw 64).L (zNw 64).s) R) → Calls Tryz.prog 14 #[.pointer (some ⟨pb, 0, none⟩), .agg #[.int .i64 en, .string tx, .string da, .int .i64 (nb : Int)]] w1 fun e w' => e = .returned (.tuple #[.int .i64 (r' : Int), .agg (hartC 16384 (256 + en)), .int .u64 BK, .int .i64 0]) ∧ Own w w' (Star (rpA pb b 0 (zs 3).L (zs 3).s) R)) := Lib.hid (by rw [← hBK]; exact LR0.out)
  have HBK := Lib.hid hBK
  clear RM LK0 LR0 hBK hH0
  generalize zNw 64 = z0 at *
  generalize zs 3 = z3 at *
  clear zs
  have K0 := Lib.hid ((Own.start (Gr.refl w)).alloc EM.out (.cells #[.int .i64 en, .string tx, .string da, .int .i64 (nb : Int)] 23))
  have SX := Lib.hid (stable_star (stable_blk w.heap.size (.cells #[.int .i64 en, .string tx, .string da, .int .i64 (nb : Int)] 23)) EM.out)
  show Calls Tryz.prog 4 #[.agg #[.int .i64 en, .string tx, .string da, .int .i64 (nb : Int)]] w _
  go_enter Tryz.func4, Tryz.ntmps4
  go_upto_region 1 with fail
  obtain ⟨wa, hwa⟩ : ∃ wa, w.alloc (.cells #[.int .i64 en, .string tx, .string da, .int .i64 (nb : Int)] 23) = wa := ⟨_, rfl⟩
  rw [hwa] at K0
  rw [hwa]
  clear hwa
  obtain ⟨xb, hxb⟩ : ∃ n, w.heap.size = n := ⟨_, rfl⟩
  rw [hxb] at K0 SX
  rw [hxb]
  clear hxb
  go_upto_region 2 with (go_at_call 5; refine (c_shown12 _).mono ?_; rintro e w1 ⟨rfl, g1⟩; have H1 := Lib.hid (K0.out.gr SX.out g1); clear g1)
  go_upto_region 3 with (go_at_call 8; refine (o_mnew H1.out SX.out 64 (by decide) (by decide)).mono ?_; rintro e w2 ⟨b, rfl, h2⟩; have H2 := Lib.hid h2; clear h2)
  go_upto_region 4 with (go_at_call 9; refine (NW.out _ _ _ SX.out H2.out).mono ?_; rintro e w3 ⟨pb, rfl, h3⟩; have H3 := Lib.hid h3; clear h3)
  have BX := Lib.hid H3.out.swap2.blk
  clear NW K0 H1 H2
  go_upto_region 5 with (first
    | (refine wpList_load_row rfl 23 _ rfl _ rfl 23 _ (0, 0) _ BX.out Tryz.underlying23 rfl pg_info ?_)
    | (go_at_call 7; refine (LK2.out _ b pb _ SX.out H3.out).mono ?_; rintro e w4 ⟨rfl, h4⟩; have H4 := Lib.hid h4; clear h4)
    | (refine wpList_store_row rfl 29 _ _ rfl _ (hartC 16384 (256 + en)) rfl rfl 29 _ (blk_new _ _) hart_info rfl (hart_all _ _) ?_))
  have H5 := Lib.hid (own_newRow (c := hartZ) (T := 29) H4.out (stable_star (PL.out _ _ _) SX.out) (hartC 16384 (256 + en))).right
  unfold hartZ at H5
  generalize (World.setRow _ _ _) = w5 at *
  generalize w4.heap.size = hb at *
  have BX := Lib.hid H5.out.swap2.blk
  try simp only [Act.put]
  clear H4 H3 LK2
  have SPX := Lib.hid (stable_star (PL.out b pb z3) SX.out)
  go_upto_region 8 with (first
    | (refine wpList_load_row rfl 23 _ rfl _ rfl 23 _ (0, 0) _ BX.out Tryz.underlying23 rfl pg_info ?_)
    | (go_at_call 18; refine (RM2.out _).mono ?_; rintro e w6 ⟨rfl, g6⟩; have H6 := Lib.hid (H5.out.gr SPX.out g6); clear g6))
  clear BX H5 RM2
  have BX := Lib.hid H6.out.swap2.blk
  have c1 := blk_cell BX.out 1 rfl
  have c2 := blk_cell BX.out 2 rfl
  have c3 := blk_cell BX.out 3 rfl
  have hTS := HTS.out
  have hDS := HDS.out
  go_upto_region 11 with (go_at_call 19; refine (INA.out _ b pb _ SX.out H6.out).mono ?_; rintro e w7 ⟨rfl, h7⟩; have H7 := Lib.hid h7; clear h7)
  clear c1 c2 c3 BX H6 INA
  obtain ⟨hDb, hNb, hTb⟩ := HD.out
  obtain ⟨A0, A1⟩ := HA.out
  obtain ⟨B2, hB2⟩ : ∃ B, AT + (nb : Int) = B := ⟨_, rfl⟩
  obtain ⟨A3, hA3⟩ : ∃ B, AT + (D : Int) = B := ⟨_, rfl⟩
  have kD : IntKind.u64.wrap (D : Int) = (D : Int) := wrapU _ (by omega) (by omega)
  have kN : IntKind.u64.wrap (nb : Int) = (nb : Int) := wrapU _ (by omega) (by omega)
  have kB : IntKind.u64.wrap (BK - (D : Int)) = B2 := by have := HBK.out; rw [wrapU _ (by omega) (by omega)]; omega
  have kA : IntKind.u64.wrap (B2 - (nb : Int)) = AT := by rw [wrapU _ (by omega) (by omega)]; omega
  have k3 : IntKind.u64.wrap (AT + (D : Int)) = A3 := by rw [hA3]; exact wrapU _ (by omega) (by omega)
  rw [hA3] at INC
  clear hB2 hA3
  have BX := Lib.hid H7.out.swap2.blk
  have c1 := blk_cell BX.out 1 rfl
  have c2 := blk_cell BX.out 2 rfl
  have c3 := blk_cell BX.out 3 rfl
  go_upto_region 13 with (go_at_call 19; refine (INB.out _ b pb _ SX.out H7.out).mono ?_; rintro e w8 ⟨rfl, h8⟩; have H8 := Lib.hid h8; clear h8)
  clear c1 c2 c3 BX H7 INB
  have BX := Lib.hid H8.out.swap2.blk
  have c1 := blk_cell BX.out 1 rfl
  have c2 := blk_cell BX.out 2 rfl
  have c3 := blk_cell BX.out 3 rfl
  go_upto_region 14 with (go_at_call 19; refine (INC.out _ b pb _ SX.out H8.out).mono ?_; rintro e w9 ⟨rfl, h9⟩; have H9 := Lib.hid h9; clear h9)
  clear c1 c2 c3 BX H8 INC kB kA k3 kD kN
  have BX := Lib.hid H9.out.swap2.blk
  have c1 := blk_cell BX.out 1 rfl
  have c2 := blk_cell BX.out 2 rfl
  have c3 := blk_cell BX.out 3 rfl
  have bt : (tx.toList == tx.toList) = true := beq_self_eq_true _
  have bd : (da.toList == da.toList) = true := beq_self_eq_true _
  have bz : (ZB.toList == ZB.toList) = true := beq_self_eq_true _
  have hts := HTS.out
  have MK := mk_bytes nb (by omega) w9
  have WA := Lib.hid (H9.out.alloc SPX.out (.cells (bys (List.replicate nb 0)) 5))
  have CV := bytes_back (w9.alloc (.cells (bys (List.replicate nb 0)) 5)) w9.heap.size nb nb (List.replicate nb 0) (by rw [List.length_replicate]) (fun j hj => by
    have hl : j < (List.replicate nb (0 : UInt8)).length := by rw [List.length_replicate]; exact hj
    have e := blk_cell (blk_new w9 (.cells (bys (List.replicate nb 0)) 5)) j (bys_get _ _ hl)
    rw [e, List.getD_eq_getElem?_getD, List.getElem?_eq_getElem hl]; rfl)
  rw [HZB.out] at CV
  go_upto_region 16 with fail
  have H10 := Lib.hid WA.out.right
  clear WA CV MK bt bd bz c1 c2 c3 BX H9
  generalize w9.alloc (.cells (bys (List.replicate nb 0)) 5) = w10 at *
  go_upto_region 17 with (go_at_call 20; refine (OUA.out _ b pb _ SX.out H10.out).mono ?_; rintro e w11 ⟨rfl, h11⟩; have H11 := Lib.hid h11; clear h11)
  clear OUA H10
  go_upto_region 18 with (go_at_call 20; refine (OUB.out _ b pb _ SX.out H11.out).mono ?_; rintro e w12 ⟨rfl, h12⟩; have H12 := Lib.hid h12; clear h12)
  clear OUB H11
  have SPX := Lib.hid (stable_star (PL.out b pb z4) SX.out)
  go_upto_region 19 with (first
    | (go_at_call 11; refine (o_rnew H12.out SPX.out 64 (by decide)).mono ?_; rintro e w13 ⟨rb, rfl, h13⟩; have H13 := Lib.hid h13; clear h13)
    | (go_at_call 10; refine (NQ.out _ _ _ SPX.out H13.out).mono ?_; rintro e w14 ⟨rp, rfl, h14⟩; have H14 := Lib.hid h14; clear h14))
  clear NQ H12 H13
  have SRX := Lib.hid (stable_star (RL.out rb rp z3) SPX.out)
  have BX := Lib.hid H14.out.right.right.blk
  go_upto_region 20 with (first
    | (refine wpList_load_row rfl 23 _ rfl _ rfl 23 _ (0, 0) _ BX.out Tryz.underlying23 rfl pg_info ?_)
    | (go_at_call 14; refine (LR2.out _ rb rp _ SPX.out H14.out).mono ?_; rintro e w15 ⟨rfl, h15⟩; have H15 := Lib.hid h15; clear h15)
    | (refine wpList_store_row rfl 29 _ _ rfl _ (hartC 16384 (256 + en)) rfl rfl 29 _ (blk_new _ _) hart_info rfl (hart_all _ _) ?_))
  have H16 := Lib.hid (own_newRow (c := hartZ) (T := 29) H15.out SRX.out (hartC 16384 (256 + en))).right
  unfold hartZ at H16
  generalize (World.setRow _ _ _) = w16 at *
  generalize w15.heap.size = hb2 at *
  try simp only [Act.put]
  clear H14 H15 LR2 BX
  go_upto_region 21 with (go_at_call 21; refine (PGS.out _ rb rp _ SPX.out H16.out).mono ?_; rintro e w17 ⟨o6, c6, o7, c7, rfl, h17⟩; have H17 := Lib.hid h17.right.drop2; clear h17)
  clear PGS H16
  go_wp2_with fail
  go_loopg [29] (l.length + 1) (fun t v29 wr => ∃ (k : Nat), k ≤ l.length ∧ t = l.length + 1 - k ∧ v29 = .int .i64 (k : Int) ∧ Own w wr (Star (rowA 67 3 (.slice o6 l.length c6) l.length (pgCells l)) (Star (plA pb b 0 z4.L z4.s) (Star (blkA xb (.cells #[.int .i64 en, .string tx, .string da, .int .i64 (nb : Int)] 23)) emp))))
  case atStart => exact ⟨0, by omega, rfl, rfl, H17.out⟩
  case round =>
    clear H17
    obtain ⟨k, hk, rfl, rfl, ho⟩ := hrel
    have H := Lib.hid ho
    have hln := HLN.out
    clear ho
    by_cases hlt : k < l.length
    · have m1 : (k : Int) < (l.length : Int) := by omega
      have m3 : 0 ≤ (k : Int) := by omega
      have m4 : (k : Int).toNat = k := by omega
      have e5 : IntKind.i64.wrap ((k : Int) + 1) = (k : Int) + 1 := wrapI _ (by omega) (by omega)
      have HROW := Lib.hid H.out.row
      obtain ⟨g, hg⟩ : ∃ g, o6 = some ⟨g, 0, none⟩ := by
        rcases Joins.ownsRow_forms HROW.out with ⟨h, h0⟩ | ⟨g, cap, h⟩
        · omega
        · injection h with h _; exact ⟨g, h⟩
      subst hg
      obtain ⟨q, hq⟩ : ∃ q, l[k]? = some q := ⟨_, List.getElem?_eq_getElem hlt⟩
      have hqb := BT.out q (List.mem_of_getElem? hq)
      have c0 : wr.cell? ⟨g, k * 3 + 1, none⟩ = some (.int .u64 q.b) := by
        rw [World.ownsRow.cellAt HROW.out (k * 3 + 1) (by omega)]
        exact pgCells_at l k q hq
      clear HROW hq
      generalize q.b = qb at *
      rcases hqb with rfl | rfl
      all_goals
        go_wp2_with fail
        go_roundg (l.length + 1 - (k + 1))
        case measure => omega
        case rel => exact ⟨k + 1, by omega, rfl, by go_num, H.out⟩
    · have m1 : ¬ (k : Int) < (l.length : Int) := by omega
      go_wp2_with fail
      go_ret
      exact ⟨rfl, H.out.sub⟩
theorem l_bytes12 (x : Pg) (hx1 : x.tx.size ≤ maxLen) (hx2 : x.da.size ≤ maxLen) (w : World) :
    Calls Tryz.prog 4 #[pgV x] w fun e w' => e = .returned (.bool true) ∧ Gr w w' := by
  cases hm : mayP x with
  | false => exact l_bytes12_bad x hm hx1 hx2 w
  | true =>
    obtain ⟨m1, m2, m3, m4, m5, m6, m7, m8, m9, m10⟩ := may_iff.1 hm
    exact l_bytes12_ok x x.bs.toNat (by omega) hm hx1 hx2 w
end Go.Proofs.YtdlglnoffpnonaaGreat.P
