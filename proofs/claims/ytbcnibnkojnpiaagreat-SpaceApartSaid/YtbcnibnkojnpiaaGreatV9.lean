/- Stage 11: the document's Copy. No condition. -/
import Derived.Test.YtbcnibnkojnpiaaGreatV8
import Derived.Deep.RegionWith
import Derived.StillTailTactics
set_option linter.unusedVariables false
set_option linter.unusedSimpArgs false
set_option maxRecDepth 100000
namespace Go.Proofs.YtbcnibnkojnpiaaGreat.P
open Go.RowKit Go.MuLone Go.Maps
variable {w0 w : World} {rp rb fi : Nat} {z : Sp} {R : Asn} {own : Who}
theorem copy_next {fi : Nat} {z1 : Sp} {own1 : Who} (hw1 : WF fi z1 own1) {r to_ p j : Nat} (hr1 : own1 r = some (3, p, j)) (hto : own1 to_ = some (3, 0, 0)) (hle : ((ilR z1 r).length : Int) ≤ leftX fi z1 + 1) {A B : List It} {it : It} {x : Sp} {ownx : Who} (hpg : pgs z1 r = A ++ it :: B) (hj : CopyJ fi z1 own1 r to_ A x ownx) :
    mapE fi x to_ it.n it.b = 0 ∧ WF fi x ownx ∧ ownx to_ = some (3, 0, 0) ∧ it.f < 256 ∧ ∃ own', CopyJ fi z1 own1 r to_ (A ++ [it]) (cpF fi to_ x it) own' := by
  obtain ⟨h0, pre, post, e1, e2⟩ := pgs_split hpg
  obtain ⟨_, p', j', e⟩ := ilR_own hw1 hr1 (it := it) (by rw [e1]; simp)
  have hj2 := copyJ_filter hj (fun i hi => (e2 i hi).symm)
  obtain ⟨s1, own', s2⟩ := copy_step hw1 hr1 hto hle e1 hj2 h0
  refine ⟨s1, hj.grw.wf, hj.grw.old _ _ hto, Nat.lt_of_lt_of_le (hw1.lt e).2.1 hw1.sz.hi, own', copyJ_filter s2 (fun i hi => ?_)⟩
  rw [List.mem_append, List.mem_append, e2 i hi]
theorem rq_pgs (z : Sp) (r : Nat) : rqA z r 32 = (pgs z r).map toPgr := (ilR_pages z r).1.symm
set_option maxHeartbeats 6400000 in
theorem o_rcopy_yes (h : Own w0 w (Star (rpA rp rb fi z.L z.s) R)) (hR : Stable R) (hw : WF fi z own) {r p j : Nat} (hr : own r = some (3, p, j)) (hge : ((ilR z r).length : Int) ≤ leftX fi z) (n : Int) (hn : takeN z.L fi = n) (zE : Sp) (hzE : copyZ fi (takeX fi z) r n = zE) :
    Calls Tryz.prog 30 #[.pointer (some ⟨rp, 0, none⟩), .int .i64 (r : Int)] w fun e w' => e = .returned (.tuple #[.int .i64 n, .int .i64 0]) ∧ Own w0 w' (Star (rpA rp rb fi zE.L zE.s) R) := by
  obtain ⟨to_, own1, e0, ete, t256, hw1, hto, hr1, hpg, hj0, hZ, hle2, _⟩ := copy_start hw hr hge
  obtain rfl : n = (to_ : Int) := hn.symm.trans e0
  rw [hzE] at hZ
  have HR := Lib.hid hR
  have HSP := Lib.hid (fun (x : Sp) => stable_rp rp rb fi x.L x.s)
  have PG := Lib.hid (o_rpages h hR hw hr)
  have hcnt := ilR_count z r
  obtain ⟨LF, hLF⟩ : ∃ x, leftX fi z = x := ⟨_, rfl⟩
  rw [hLF] at hge
  have hrq := rq_pgs z r
  have hlen := rqA_len z r 32
  have htl := tbA_len z r 32
  obtain ⟨l, hl⟩ : ∃ l, rqA z r 32 = l := ⟨_, rfl⟩
  obtain ⟨tb, htb⟩ : ∃ l, tbA z r 32 = l := ⟨_, rfl⟩
  obtain ⟨pl, hpl⟩ : ∃ l, pgs z r = l := ⟨_, rfl⟩
  rw [hl] at PG hlen hcnt hrq
  rw [htb] at PG htl hcnt
  rw [hpl] at hrq hpg hZ
  obtain ⟨z1, hz1⟩ : ∃ y, takeX fi z = y := ⟨_, rfl⟩
  have TK : RowKit.Hid (∀ w1 Q, Stable Q → Own w0 w1 (Star (rpA rp rb fi z.L z.s) Q) → Calls Tryz.prog 28 #[.pointer (some ⟨rp, 0, none⟩)] w1 fun x w' => x = .returned (.tuple #[.int .i64 (to_ : Int), .int .i64 0]) ∧ Own w0 w' (Star (rpA rp rb fi z1.L z1.s) Q)) := Lib.hid (fun w1 Q hQ h => o_qtake h hQ _ _ _ _ e0 ete (by rw [← hz1]; rfl) (by rw [← hz1]; rfl))
  have LFT : RowKit.Hid (∀ w1 Q, Own w0 w1 (Star (rpA rp rb fi z.L z.s) Q) → Calls Tryz.prog 10 #[.pointer (some ⟨rp, 0, none⟩)] w1 fun e w' => e = .returned (.int .i64 LF) ∧ w' = w1) := Lib.hid (fun w1 Q h => o_qleft h _ hLF)
  rw [hz1] at hw1 hpg hj0 hZ hle2
  have NX := Lib.hid (fun A B it x ownx => copy_next hw1 hr1 hto hle2 (A := A) (B := B) (it := it) (x := x) (ownx := ownx))
  rw [hpg] at NX
  have J0 := Lib.hid hj0
  have HZ := Lib.hid hZ.symm
  have hpll : pl.length = l.length := by rw [hrq, List.length_map]
  have HPL := Lib.hid hrq
  obtain ⟨LL, hLL⟩ : ∃ n, l.length = n := ⟨_, rfl⟩
  obtain ⟨TT, hTT⟩ : ∃ n, tb.length = n := ⟨_, rfl⟩
  rw [hLL] at hlen hpll hcnt PG
  rw [hTT] at htl hcnt PG
  have k1 : IntKind.i64.wrap (1 + (LL : Int)) = 1 + (LL : Int) := wrapI _ (by omega) (by omega)
  have k2 : IntKind.i64.wrap (1 + (LL : Int) + (TT : Int)) = 1 + (LL : Int) + (TT : Int) := wrapI _ (by omega) (by omega)
  have k3 : ¬ LF < 1 + (LL : Int) + (TT : Int) := by omega
  have HLL := Lib.hid hLL
  have HPLL := Lib.hid hpll
  clear h hR hw hr hcnt hge hLF hrq htl hl htb hpl hz1 e0 ete hw1 hto hr1 hpg hj0 hZ hle2 hzE hn hLL hTT hpll
  go_enter Tryz.func30, Tryz.ntmps30
  go_upto_region 2 with (go_at_call 12; refine PG.out.mono ?_; rintro e w1 ⟨o6, c6, o7, c7, rfl, h1⟩; have H1 := Lib.hid h1; clear h1)
  clear PG
  go_upto_region 4 with (go_at_call 10; refine (LFT.out _ _ H1.out).mono ?_; rintro e wk ⟨rfl, hwk⟩; rw [hwk]; clear hwk wk)
  clear LFT k1 k2 k3
  have SB := Lib.hid (stable_star (stable_row 41 3 (.slice o6 LL c6) LL (pgCells l)) (stable_star (stable_row 3 1 (.slice o7 TT c7) TT (tbI tb)) HR.out))
  go_upto_region 5 with (go_at_call 28; refine (TK.out _ _ SB.out H1.out).mono ?_; rintro e w2 ⟨rfl, h2⟩; have H2 := Lib.hid h2; clear h2)
  clear TK H1
  go_wp2_with fail
  go_loopg [10] (LL + 1) (fun t v10 wr => ∃ (A B : List It) (x : Sp) (ownx : Who), A.length ≤ LL ∧ t = LL + 1 - A.length ∧ v10 = .int .i64 (A.length : Int) ∧ pl = A ++ B ∧ CopyJ fi z1 own1 r to_ A x ownx ∧ B.foldl (cpF fi to_) x = zE ∧ Own w0 wr (Star (rpA rp rb fi x.L x.s) (Star (rowA 41 3 (.slice o6 LL c6) LL (pgCells l)) (Star (rowA 3 1 (.slice o7 TT c7) TT (tbI tb)) R))))
  case atStart => exact ⟨[], pl, z1, own1, by simp, rfl, rfl, rfl, J0.out, HZ.out, H2.out⟩
  case round =>
    clear H2 HZ J0
    obtain ⟨A, B, x, ownx, hk, rfl, rfl, hab, hj, hy, ho⟩ := hrel
    have HO := Lib.hid ho
    clear ho
    cases B with
    | nil =>
      have hAL : A.length = LL := by have := HPLL.out; rw [hab, List.append_nil] at this; exact this
      have m1 : ¬ (A.length : Int) < (LL : Int) := by omega
      have hy2 : x = zE := hy
      subst hy2
      clear hy hj hab hAL
      go_wp2_with fail
      go_ret2
      exact ⟨rfl, Own.drop2 (Own.drop2 HO.out)⟩
    | cons it B =>
      have hAL : A.length < LL := by have := HPLL.out; rw [hab, List.length_append, List.length_cons] at this; omega
      obtain ⟨n1, n2, n3, n4, own', n5⟩ := NX.out A B it x ownx hab hj
      obtain ⟨d1, d2, d3, g, leaf, g256, f1, f2, f3, f4, f5⟩ := map_leaf n2 n3 n1
      have hq : l[A.length]? = some (toPgr it) := by rw [HPL.out, hab, List.getElem?_map, List.getElem?_append_right (Nat.le_refl _), Nat.sub_self]; rfl
      obtain ⟨k, hkk⟩ : ∃ k, A.length = k := ⟨_, rfl⟩
      have HA := Lib.hid hkk
      have HAB := Lib.hid hab
      have HN5 := Lib.hid n5
      have HY := Lib.hid (show B.foldl (cpF fi to_) (cpF fi to_ x it) = zE from hy)
      have MP := Lib.hid (o_rmap (HO.out.drew (stable_star (HSP.out x) SB.out)) SB.out n2 n3 d1 d2 d3 0 _ n1 rfl)
      have F5 := Lib.hid (f5 it.f)
      rw [hkk] at hAL hk hq ⊢
      obtain ⟨q1, q2, q3⟩ := pgCells_of l k _ hq
      have HROW := Lib.hid HO.out.right.row
      obtain ⟨gb, hgb⟩ := row_some HROW.out (by omega)
      subst hgb
      clear n1 n2 n3 n5 hy hab hj hkk f5 NX HROW hq
      obtain ⟨P, hP⟩ : ∃ P, it.n = P := ⟨_, rfl⟩
      obtain ⟨bt, hbt⟩ : ∃ P, it.b = P := ⟨_, rfl⟩
      obtain ⟨f, hf⟩ : ∃ P, it.f = P := ⟨_, rfl⟩
      have HC := Lib.hid (show cpF fi to_ x it = _ from F5.out)
      replace q1 : (pgCells l)[k * 3]? = some (.int .i64 (it.n : Int)) := q1
      replace q2 : (pgCells l)[k * 3 + 1]? = some (.int .u64 (it.b : Int)) := q2
      replace q3 : (pgCells l)[k * 3 + 2]? = some (.int .i64 (it.f : Int)) := q3
      rw [hP] at q1 MP HC f1 f4 d1
      rw [hbt] at q2 MP HC f1 f4 d2 d3
      rw [hf] at q3 HC n4
      obtain ⟨x1, hx1⟩ : ∃ y, mapX fi x to_ P bt = y := ⟨_, rfl⟩
      rw [hx1] at MP HC f1 f4
      obtain ⟨xN, hxN⟩ : ∃ y, cpF fi to_ x it = y := ⟨_, rfl⟩
      rw [hxN] at HC HY HN5
      obtain ⟨lr, hlr⟩ : ∃ y, leafR x1.L.length x1.s to_ (256 * (P : Int)) = y := ⟨_, rfl⟩
      obtain ⟨lr2, hlr2⟩ : ∃ y, loadR x1.s leaf 8 = y := ⟨_, rfl⟩
      obtain ⟨cr, hcr⟩ : ∃ y, copyR x1.L.length (g : Int) (f : Int) = y := ⟨_, rfl⟩
      obtain ⟨V, hV⟩ : ∃ V : Int, ((g * 1024 + bt : Nat) : Int) = V := ⟨_, rfl⟩
      rw [hV] at f4
      have hVb : 0 ≤ V ∧ V < 18446744073709551616 := by omega
      have hVd : V / 1024 = (g : Int) := by omega
      have ti : i64 (to_ : Int) := ⟨by omega, by omega⟩
      have LFC : RowKit.Hid (∀ w1 Q, Stable Q → Own w0 w1 (Star (rpA rp rb fi x1.L x1.s) Q) → Calls Tryz.prog 69 #[.pointer (some ⟨rb, 0, none⟩), .int .i64 (to_ : Int), .int .u64 (256 * (P : Int))] w1 fun e w' => e = .returned (.tuple #[.int .u64 leaf, .int .i64 lr]) ∧ Own w0 w' (Star (rpA rp rb fi x1.L x1.s) Q)) := Lib.hid (fun w1 Q hQ h => o_qleaf h hQ (to_ : Int) (256 * (P : Int)) leaf lr ⟨by omega, by omega⟩ ti (by rw [Int.mul_comm]; exact f1) hlr)
      have LDC : RowKit.Hid (∀ w1 Q, Stable Q → Own w0 w1 (Star (rpA rp rb fi x1.L x1.s) Q) → Calls Tryz.prog 70 #[.pointer (some ⟨rb, 0, none⟩), .int .u64 leaf, .int .i64 8] w1 fun e w' => e = .returned (.tuple #[.int .u64 V, .int .i64 lr2]) ∧ Own w0 w' (Star (rpA rp rb fi x1.L x1.s) Q)) := Lib.hid (fun w1 Q hQ h => o_qload h hQ leaf 8 V lr2 ⟨by omega, by omega⟩ f4 hlr2)
      have FRC : RowKit.Hid (∀ w1, Calls Tryz.prog 71 #[.int .u64 V] w1 fun e w' => e = .returned (.int .u64 (g : Int)) ∧ w' = w1) := Lib.hid (fun w1 => by have := r_kframe V ⟨hVb.1, by omega⟩ w1; rw [hVd] at this; exact this)
      have CPC : RowKit.Hid (∀ w1 Q, Stable Q → Own w0 w1 (Star (rpA rp rb fi x1.L x1.s) Q) → Calls Tryz.prog 66 #[.pointer (some ⟨rb, 0, none⟩), .int .i64 (g : Int), .int .i64 (f : Int)] w1 fun e w' => e = .returned (.int .i64 cr) ∧ Own w0 w' (Star (rpA rp rb fi xN.L xN.s) Q)) := Lib.hid (fun w1 Q hQ h => by rw [HC.out]; exact o_qcopy h hQ (g : Int) (f : Int) (by omega) cr _ rfl hcr)
      have m1 : (k : Int) < (LL : Int) := by omega
      have m3 : 0 ≤ (k : Int) := by omega
      have m4 : (k : Int).toNat = k := by omega
      have e5 : IntKind.i64.wrap ((k : Int) + 1) = (k : Int) + 1 := wrapI _ (by omega) (by omega)
      have e6 : IntKind.i64.wrap (256 * (P : Int)) = 256 * (P : Int) := wrapI _ (by omega) (by omega)
      have e7 : IntKind.u64.wrap (256 * (P : Int)) = 256 * (P : Int) := wrapU _ (by omega) (by omega)
      have e8 : IntKind.i64.wrap (g : Int) = (g : Int) := wrapI _ (by omega) (by omega)
      have RC : RowKit.Hid (∀ (w1 : World) (A : Asn), Own w0 w1 (Star A (Star (rowA 41 3 (.slice (some ⟨gb, 0, none⟩) LL c6) LL (pgCells l)) (Star (rowA 3 1 (.slice o7 TT c7) TT (tbI tb)) R))) → w1.cell? ⟨gb, k * 3, none⟩ = some (.int .i64 (P : Int)) ∧ w1.cell? ⟨gb, k * 3 + 1, none⟩ = some (.int .u64 (bt : Int)) ∧ w1.cell? ⟨gb, k * 3 + 2, none⟩ = some (.int .i64 (f : Int))) := Lib.hid (fun w1 A h => by
        have hrow := h.right.row
        exact ⟨by rw [World.ownsRow.cellAt hrow (k * 3) (by omega)]; exact q1, by rw [World.ownsRow.cellAt hrow (k * 3 + 1) (by omega)]; exact q2, by rw [World.ownsRow.cellAt hrow (k * 3 + 2) (by omega)]; exact q3⟩)
      clear q1 q2 q3 f1 f4 hlr hlr2 hcr hV hVb hVd ti hx1 hxN hP hbt hf F5 HC f2 f3 g256 d1 d2 d3 n4
      obtain ⟨c0, c1, c2⟩ := RC.out _ _ HO.out
      go_upto_region 8 with fail
      go_still_tail 12, (by kernel_rfl)
      go_upto_region 9 with (go_at_call 68; refine MP.out.mono ?_; rintro e w3 ⟨rfl, h3⟩; have H3 := Lib.hid h3; clear h3)
      clear MP HO c0 c1 c2
      have HD := Lib.hid (H3.out.drew (stable_star (HSP.out x1) SB.out))
      obtain ⟨c0, c1, c2⟩ := RC.out _ _ HD.out
      have cM := o_qM HD.out
      go_cut [11] (fun s11 wx => s11 = .int .u64 leaf ∧ Own w0 wx (Star (rpA rp rb fi x1.L x1.s) (Star (rowA 41 3 (.slice (some ⟨gb, 0, none⟩) LL c6) LL (pgCells l)) (Star (rowA 3 1 (.slice o7 TT c7) TT (tbI tb)) R))))
      case first =>
        go_region_with (go_at_call 69; refine (LFC.out _ _ SB.out HD.out).mono ?_; rintro e w4 ⟨rfl, h4⟩)
        all_goals
          go_wp2_with fail
          go_meet
          exact ⟨rfl, by assumption⟩
      case rest =>
        clear HD H3 c0 c1 c2 cM LFC
        obtain ⟨rfl, hr⟩ := hcut
        have H4 := Lib.hid hr
        clear hr
        have c0 := o_qM H4.out
        go_upto_region 11 with (go_at_call 70; refine (LDC.out _ _ SB.out H4.out).mono ?_; rintro e w5 ⟨rfl, h5⟩; have H5 := Lib.hid h5; clear h5)
        clear c0 H4 LDC
        have HD := Lib.hid (H5.out.drew (stable_star (HSP.out x1) SB.out))
        obtain ⟨c0, c1, c2⟩ := RC.out _ _ HD.out
        have cM := o_qM HD.out
        go_region_with (first
          | (go_at_call 71; refine (FRC.out _).mono ?_; rintro e wk ⟨rfl, hwk⟩; rw [hwk]; clear hwk wk)
          | (go_at_call 66; refine (CPC.out _ _ SB.out HD.out).mono ?_; rintro e w6 ⟨rfl, h6⟩))
        all_goals
          have H6 := Lib.hid h6
          clear h6 HD c0 c1 c2 cM
          go_wp2_with fail
          go_roundg (LL + 1 - (k + 1))
          case measure => have := HA.out; omega
          case rel =>
            have hA1 : (A ++ [it]).length = k + 1 := by rw [List.length_append, HA.out]; rfl
            refine ⟨A ++ [it], B, xN, own', by omega, by rw [hA1], ?_, by rw [HAB.out, List.append_assoc]; rfl, HN5.out, HY.out, H6.out⟩
            rw [hA1]; go_num
end Go.Proofs.YtbcnibnkojnpiaaGreat.P
