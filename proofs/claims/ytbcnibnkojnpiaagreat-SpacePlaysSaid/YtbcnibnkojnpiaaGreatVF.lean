/- Stage 11: SpacePlays. No condition. -/
import Derived.Test.YtbcnibnkojnpiaaGreatVE
set_option linter.unusedVariables false
set_option linter.unusedSimpArgs false
set_option maxRecDepth 100000
namespace Go.Proofs.YtbcnibnkojnpiaaGreat.P
open Go.RowKit Go.MuLone Go.Maps Go.Proofs.YtbcnibnkojnpiaaGreat.W
theorem whole_get11 (s : List UInt8) (n : Nat) (h : s.length = n) : getV s 0 (n : Int) = ⟨s.toArray⟩ ∧ getR s 0 (n : Int) = 0 := by
  have h2 : inB s 0 (n : Int) = true := inB_t (by omega)
  unfold getV getR
  rw [if_neg (by omega), if_pos h2, if_neg (by omega), if_pos h2]
  refine ⟨?_, rfl⟩
  unfold subB
  rw [show (0 : Int).toNat = 0 from rfl, Int.toNat_natCast, List.drop_zero, ← h, List.take_length]
theorem pages_rq {fi : Nat} {z : Sp} {own : Who} (h : WF fi z own) {r p j : Nat} (hr : own r = some (3, p, j)) : (pagesX fi z r).2 = (rqA z r 32).map fun q => (q.n : Int) := by
  rw [pages_is h hr, rq_pgs, List.map_map]; rfl
set_option maxHeartbeats 12800000 in
theorem l_plays11 (w : World) (size : Int) (oa : Option Addr) (len cap bl off : Nat) (f : Nat → SAct) (hlen : len ≤ maxLen) (hoa : 0 < len → oa = some ⟨bl, off, none⟩) (hl : SActs w bl off len f) :
    Calls Tryz.prog 3 #[.int .i64 size, .slice oa len cap] w fun e w' => e = .returned (.bool true) ∧ Gr w w' := by
  have EM := Lib.hid stable_emp
  obtain ⟨s1, s2⟩ := sizeN_bd size
  have HN := Lib.hid (pl_new (sizeN size) s1 s2)
  have BO := Lib.hid (fun w1 (g : Gr w w1) => o_both2 g size)
  have SPL := Lib.hid (fun pb b (x : Sp) => stable_pl pb b 0 x.L x.s)
  have SRP := Lib.hid (fun rp rb (x : Sp) => stable_rp rp rb 0 x.L x.s)
  have PLY := Lib.hid (fun w1 pb b rp rb z0 N h hp => c_plays11 (w0 := w) (w := w1) (pb := pb) (b := b) (rp := rp) (rb := rb) (z0 := z0) (N := N) (R := emp) h EM.out hp oa len cap bl off f hlen hoa hl)
  generalize sizeN size = N at *
  generalize z11 N = z0 at *
  clear hlen hoa hl s1 s2
  go_enter Tryz.func3, Tryz.ntmps3
  go_upto_region 2 with (go_at_call 6; refine (c_shown11 _).mono ?_; rintro e w1 ⟨rfl, g1⟩; have G1 := Lib.hid g1; clear g1)
  go_upto_region 3 with (go_at_call 7; refine (BO.out _ G1.out).mono ?_; rintro e w2 ⟨b, pb, rb, rp, rfl, h2⟩; have H2 := Lib.hid h2; clear h2)
  go_upto_region 4 with (go_at_call 8; refine (PLY.out _ _ _ _ _ _ _ H2.out HN.out).mono ?_; rintro e w3 ⟨z, rs, o, c, rfl, hpl, h3⟩; have H3 := Lib.hid h3; have HPL := Lib.hid hpl; clear h3 hpl)
  clear BO PLY H2 HN G1
  obtain ⟨LFT, hLFT⟩ : ∃ x, leftX 0 z = x := ⟨_, rfl⟩
  have SB := Lib.hid (stable_star (stable_row 3 1 (.slice o rs.length c) rs.length (tbI rs)) EM.out)
  have LP := Lib.hid (o_pleft H3.out _ hLFT)
  have LR := Lib.hid (o_qleft H3.out.swap2 _ hLFT)
  obtain ⟨rl256, rlt⟩ := HPL.out.len
  have RLT := Lib.hid rlt
  clear hLFT rlt
  go_upto_region 6 with (first
    | (go_at_call 9; refine LP.out.mono ?_; rintro e wk ⟨rfl, hwk⟩; rw [hwk]; clear hwk wk)
    | (go_at_call 10; refine LR.out.mono ?_; rintro e wk ⟨rfl, hwk⟩; rw [hwk]; clear hwk wk))
  clear LP LR
  go_wp2_with fail
  go_loopg [11] (rs.length + 1) (fun t v11 wr => ∃ (i : Nat), i ≤ rs.length ∧ t = rs.length + 1 - i ∧ v11 = .int .i64 (i : Int) ∧ Own w wr (Star (plA pb b 0 z.L z.s) (Star (rpA rp rb 0 z.L z.s) (Star (rowA 3 1 (.slice o rs.length c) rs.length (tbI rs)) emp))))
  case atStart => exact ⟨0, by omega, rfl, rfl, H3.out⟩
  case round =>
    clear H3
    obtain ⟨i, hi, rfl, rfl, ho⟩ := hrel
    have HO := Lib.hid ho
    clear ho
    by_cases hlt : i < rs.length
    · have m1 : (i : Int) < (rs.length : Int) := by omega
      have m3 : 0 ≤ (i : Int) := by omega
      have m4 : (i : Int).toNat = i := by omega
      have e5 : IntKind.i64.wrap ((i : Int) + 1) = (i : Int) + 1 := wrapI _ (by omega) (by omega)
      have HROW := Lib.hid HO.out.right.right.row
      obtain ⟨g, hg⟩ := row_some HROW.out (by omega)
      subst hg
      obtain ⟨r, hr⟩ : ∃ r, rs[i]? = some r := ⟨_, List.getElem?_eq_getElem hlt⟩
      have CR : RowKit.Hid (∀ (w1 : World) (X : Asn), Own w w1 (Star (rowA 3 1 (.slice (some ⟨g, 0, none⟩) rs.length c) rs.length (tbI rs)) X) → w1.cell? ⟨g, i, none⟩ = some (.int .i64 (r : Int))) := Lib.hid (fun w1 X h => by
        rw [World.ownsRow.cellAt h.row i (by omega)]; exact tbI_of rs i r hr)
      have c0 := CR.out _ _ HO.out.right.right
      have hr256 := RLT.out r (List.mem_of_getElem? hr)
      obtain ⟨own, hw, hrs, _, _⟩ := HPL.out
      obtain ⟨p, j, hro⟩ := hrs r (List.mem_of_getElem? hr)
      have PG1 := Lib.hid (o_pages HO.out (stable_star (SRP.out rp rb z) SB.out) (r : Int) ⟨by omega, by omega⟩ (hw.tkn hro))
      have PG2 := Lib.hid (fun w1 Q hQ h => o_rpages (w0 := w) (w := w1) (rp := rp) (rb := rb) (fi := 0) (z := z) (R := Q) h hQ hw hro)
      have hpq := pages_rq hw hro
      have hlen := rqA_len z r 32
      obtain ⟨l, hl⟩ : ∃ l, rqA z r 32 = l := ⟨_, rfl⟩
      obtain ⟨tb, htb⟩ : ∃ l, tbA z r 32 = l := ⟨_, rfl⟩
      obtain ⟨al, hal⟩ : ∃ l, (pagesX 0 z r).2 = l := ⟨_, rfl⟩
      rw [hl] at PG2 hpq hlen
      rw [htb] at PG2
      rw [hal] at PG1 hpq
      have hall : al.length = l.length := by rw [hpq, List.length_map]
      have HAL := Lib.hid hpq
      unfold PagesP at PG1
      rw [hall] at PG1
      obtain ⟨LL, hLL⟩ : ∃ n, l.length = n := ⟨_, rfl⟩
      rw [hLL] at PG1 PG2 hlen hall
      have HLL := Lib.hid hLL
      have HALL := Lib.hid hall
      clear HROW hr hw hrs hro hpq hl htb hal hall hLL
      go_upto_region 10 with (go_at_call 11; refine PG1.out.mono ?_; rintro e w5 ⟨o5, c5, rfl, h5⟩; have H5 := Lib.hid h5.rot3; clear h5)
      clear PG1 c0
      have c0 := CR.out _ _ H5.out.right.right.right
      have SQ := Lib.hid (stable_star (SPL.out pb b z) (stable_star (stable_row 3 1 (.slice o5 LL c5) LL (ints al)) SB.out))
      go_upto_region 11 with (go_at_call 12; refine (PG2.out _ _ SQ.out H5.out).mono ?_; rintro e w6 ⟨o6, c6, o7, c7, rfl, h6⟩; have H6 := Lib.hid h6; clear h6)
      clear PG2 H5 c0
      go_upto_region 13 with fail
      go_wp2_with fail
      go_loopg [16] (LL + 1) (fun t v16 wr => ∃ (k : Nat), k ≤ LL ∧ t = LL + 1 - k ∧ v16 = .int .i64 (k : Int) ∧ Own w wr (Star (rpA rp rb 0 z.L z.s) (Star (rowA 41 3 (.slice o6 LL c6) LL (pgCells l)) (Star (rowA 3 1 (.slice o7 tb.length c7) tb.length (tbI tb)) (Star (plA pb b 0 z.L z.s) (Star (rowA 3 1 (.slice o5 LL c5) LL (ints al)) (Star (rowA 3 1 (.slice (some ⟨g, 0, none⟩) rs.length c) rs.length (tbI rs)) emp)))))))
      case atStart => exact ⟨0, by omega, rfl, rfl, H6.out⟩
      case round =>
        clear H6
        obtain ⟨k, hk, rfl, rfl, hq⟩ := hrel
        have HB := Lib.hid hq
        clear hq
        by_cases hkl : k < LL
        · have k1 : (k : Int) < (LL : Int) := by omega
          have k3 : 0 ≤ (k : Int) := by omega
          have k4 : (k : Int).toNat = k := by omega
          have k5 : IntKind.i64.wrap ((k : Int) + 1) = (k : Int) + 1 := wrapI _ (by omega) (by omega)
          obtain ⟨q, hqq⟩ : ∃ q, l[k]? = some q := ⟨_, List.getElem?_eq_getElem (by rw [HLL.out]; exact hkl)⟩
          have HD := Lib.hid (stable_star (SRP.out rp rb z) (stable_star (stable_row 41 3 (.slice o6 LL c6) LL (pgCells l)) (stable_star (stable_row 3 1 (.slice o7 tb.length c7) tb.length (tbI tb)) SQ.out)))
          have R1 := Lib.hid HB.out.right.right.right.right.row
          have R2 := Lib.hid HB.out.right.row
          obtain ⟨g1, hg1⟩ := row_some R1.out (by omega)
          obtain ⟨g2, hg2⟩ := row_some R2.out (by omega)
          subst hg1
          subst hg2
          have b1 : wr.cell? ⟨g1, k, none⟩ = some (.int .i64 (q.n : Int)) := by
            rw [World.ownsRow.cellAt R1.out k (by omega), HAL.out]
            unfold ints
            rw [List.getElem?_map, List.getElem?_map, hqq]; rfl
          have b2 : wr.cell? ⟨g2, k * 3, none⟩ = some (.int .i64 (q.n : Int)) := by
            rw [World.ownsRow.cellAt R2.out (k * 3) (by omega)]
            exact (pgCells_of l k q hqq).1
          clear R1 R2 hqq
          generalize (q.n : Int) = qn at *
          go_upto_region 16 with fail
          go_quiet (fail)
          go_wp2_with fail
          go_roundg (LL + 1 - (k + 1))
          case measure => omega
          case rel => exact ⟨k + 1, by omega, rfl, by go_num, HB.out.gr HD.out (Gr.drewN (Gr.refl _) _)⟩
        · obtain rfl : k = LL := by omega
          have k1 : ¬ (k : Int) < (k : Int) := by omega
          have HZ := Lib.hid ((HB.out.drop2.drop2.swap2).mono (fun F h => star_mono_r (fun F h => star_drop2 h) h))
          go_wp2_with fail
          go_roundg (rs.length + 1 - (i + 1))
          case measure => omega
          case rel => exact ⟨i + 1, by omega, rfl, by go_num, HZ.out⟩
    · obtain rfl : i = rs.length := by omega
      have m1 : ¬ (rs.length : Int) < (rs.length : Int) := by omega
      have HQ := Lib.hid HO.out.swap2
      have SQ := Lib.hid (stable_star (SPL.out pb b z) SB.out)
      have c0 := o_qM HQ.out
      obtain ⟨vb, q0, _, _⟩ := q_poke HQ.out SQ.out
      obtain ⟨hzl, hz256, _⟩ := o_qlen HQ.out
      obtain ⟨NL, hNL⟩ : ∃ n, z.s.length = n := ⟨_, rfl⟩
      obtain ⟨v1, v2⟩ := whole_get11 z.s NL hNL
      obtain ⟨SV, hSV⟩ : ∃ s : ByteArray, (⟨z.s.toArray⟩ : ByteArray) = s := ⟨_, rfl⟩
      rw [hSV] at v1
      have GT := Lib.hid (o_pget HO.out (stable_star (SRP.out rp rb z) SB.out) 0 (NL : Int) 0 ⟨by decide, by decide⟩ (by omega) _ v1 v2)
      have bS : (SV.toList == SV.toList) = true := beq_self_eq_true _
      have HSV := Lib.hid hSV
      have HNL := Lib.hid hNL
      rw [hNL] at q0 hzl
      have hNb : NL ≤ 65536 := by omega
      clear hSV v1 v2 HQ hNL hzl hz256
      go_upto_region 19 with (go_at_call 13; refine GT.out.mono ?_; rintro e w5 ⟨rfl, h5⟩; have H5 := Lib.hid h5; clear h5)
      clear GT HO c0 q0
      have HQ := Lib.hid H5.out.swap2
      have c0 := o_qM HQ.out
      obtain ⟨vb, q0, q1, _⟩ := q_poke HQ.out SQ.out
      have cv := bytes_back11 w5 vb NL NL z.s HNL.out (fun j h => (q1 j h).1)
      rw [HSV.out] at cv
      rw [HNL.out] at q0
      clear q1
      go_wp2_with fail
      go_ret
      exact ⟨rfl, H5.out.sub⟩
end Go.Proofs.YtbcnibnkojnpiaaGreat.P
