/- Stage 11: SpaceApart. No condition. -/
import Derived.Test.YtbcnibnkojnpiaaGreatVI
set_option linter.unusedVariables false
set_option linter.unusedSimpArgs false
set_option maxRecDepth 100000
namespace Go.Proofs.YtbcnibnkojnpiaaGreat.P
open Go.RowKit Go.MuLone Go.Maps Go.Proofs.YtbcnibnkojnpiaaGreat.W
section
open Go.ChangeShapes Go.WideShapes Go.Deep
variable {H : Type} {enc : TypeId × Value → H} {w : World} {base : Nat} {spare : Nat → Bool} {held : Bool}
set_option maxRecDepth 100000 in
theorem open_apart {v : Value} {d : DataW H} {ps : List MemPlace} {r : Reach} {b0 : Nat} (hv : Value.okWide Tryz.prog w r b0 53 v) (h : DataW.Trod enc Tryz.prog w base spare held 53 v d ps) :
    ∃ (o_l : Option Addr) (len_l cap_l bl_l off_l : Nat) (f_l : Nat → QActV) (wv : Int) (at_ : Int) (s : ByteArray), v = .agg #[.slice o_l len_l cap_l, .int .i64 wv, .int .u64 at_, .string s] ∧ (len_l ≤ maxLen ∧ (0 < len_l → o_l = some ⟨bl_l, off_l, none⟩ ∧ bl_l < w.heap.size) ∧ QActs w bl_l off_l len_l f_l) ∧ i64 wv ∧ u64 at_ ∧ s.size ≤ maxLen := by
  obtain ⟨c, rfl, hsz⟩ := okWide_struct Tryz.underlying53 hv
  obtain ⟨fuel, hf⟩ := h
  obtain ⟨ys, n, _, _, hl, hy, hg⟩ := DataW.trod_struct Tryz.underlying53 hf
  have e0 : Tryz.prog.cellsOf 53 = 4 := by kernel_rfl
  rw [e0] at hl
  obtain ⟨l⟩ := c
  match l, hl, ys, hy with
  | [x0, x1, x2, x3], _, [y0, y1, y2, y3], _ =>
    have h0 : DataW.trod enc Tryz.prog w base spare held n 22 (([x0, x1, x2, x3].drop 0).take (Tryz.prog.cellsOf 22)) = some y0 := hg 0 _ rfl
    rw [show Tryz.prog.cellsOf 22 = 1 by kernel_rfl] at h0
    change DataW.trod enc Tryz.prog w base spare held n 22 [x0] = some y0 at h0
    have h1 : DataW.trod enc Tryz.prog w base spare held n 3 (([x0, x1, x2, x3].drop 1).take (Tryz.prog.cellsOf 3)) = some y1 := hg 1 _ rfl
    rw [show Tryz.prog.cellsOf 3 = 1 by kernel_rfl] at h1
    change DataW.trod enc Tryz.prog w base spare held n 3 [x1] = some y1 at h1
    have h2 : DataW.trod enc Tryz.prog w base spare held n 39 (([x0, x1, x2, x3].drop 2).take (Tryz.prog.cellsOf 39)) = some y2 := hg 2 _ rfl
    rw [show Tryz.prog.cellsOf 39 = 1 by kernel_rfl] at h2
    change DataW.trod enc Tryz.prog w base spare held n 39 [x2] = some y2 at h2
    have h3 : DataW.trod enc Tryz.prog w base spare held n 9 (([x0, x1, x2, x3].drop 3).take (Tryz.prog.cellsOf 9)) = some y3 := hg 3 _ rfl
    rw [show Tryz.prog.cellsOf 9 = 1 by kernel_rfl] at h3
    change DataW.trod enc Tryz.prog w base spare held n 9 [x3] = some y3 at h3
    obtain ⟨o0, len0, cap0, bl0, off0, f0, rfl, a0, b0, c0⟩ := Qopen_acts_c h0
    obtain ⟨z1, e1, _, k1⟩ := DataW.trod_int Tryz.underlying3 h1
    rw [List.singleton_inj] at e1
    subst e1
    obtain ⟨z2, e2, _, k2⟩ := DataW.trod_int Tryz.underlying39 h2
    rw [List.singleton_inj] at e2
    subst e2
    obtain ⟨z3, e3, _, k3⟩ := DataW.trod_string Tryz.underlying9 h3
    rw [List.singleton_inj] at e3
    subst e3
    exact ⟨o0, len0, cap0, bl0, off0, f0, z1, z2, z3, rfl, ⟨a0, b0, c0⟩, wf_i64 k1, wf_u64 k2, k3⟩
end

theorem boolInfo11 : (Tryz.prog.info? 4).map (fun i => (i.zero, i.size, i.bytes)) = some (some (.bool false), 1, 1) := by kernel_rfl
theorem strInfo11 : (Tryz.prog.info? 9).map (fun i => (i.zero, i.size, i.bytes)) = some (some (.string ByteArray.empty), 1, 16) := by kernel_rfl
theorem mk_had (w : World) : (Instr.makeSlice 48 (.int .i64 40) (.int .i64 40)).run Tryz.prog w = .ok (.slice (some ⟨w.heap.size, 0, none⟩) 40 40) (w.alloc (.cells (hadC []) 4)) := by
  obtain ⟨i0, hi, hz0, hz1, hz2⟩ := info_parts boolInfo11
  have := run_make (P := Tryz.prog) w 48 4 i0 (.bool false) Tryz.underlying48 hi hz0 .i64 .i64 40 40 (by omega) (Int.le_refl _) (by rw [hz2]; omega) (by omega)
  rw [this, hz1]
  have e : madeCells (Value.bool false).cells (Int.toNat 40) = hadC [] := by
    rw [hadC_nil]
    apply Array.toList_inj.1
    rw [show (Value.bool false).cells = #[Value.bool false] from rfl, toList_madeCells_one]; rfl
  first | (rw [e]; rfl) | (simp only [Nat.mul_one]; rw [e]; rfl)
def stI (l : List ByteArray) : List Value := l.map Value.string
theorem stI_add (l : List ByteArray) (s : ByteArray) : stI (l ++ [s]) = stI l ++ [.string s] := by unfold stI; rw [List.map_append]; rfl
theorem stI_of (l : List ByteArray) (k : Nat) (x : ByteArray) (h : l[k]? = some x) : (stI l)[k]? = some (.string x) := by
  unfold stI; rw [List.getElem?_map, h]; rfl
theorem stI_len (l : List ByteArray) : (stI l).length = l.length := by unfold stI; exact List.length_map _
theorem out_wf {z : Sp} {own : Who} (h : WF 0 z own) {r p j : Nat} (hr : own r = some (3, p, j)) (a : Int) (y : ByteArray) : WF 0 (outSt 0 z r a y) own := by
  cases hb : movedBad 0 z r y.size with
  | true => rw [show outSt 0 z r a y = z by unfold outSt; rw [hb, cond_true]]; exact h
  | false =>
    have hn : y.size ≤ 4096 := by
      unfold movedBad at hb
      simp only [Bool.or_eq_false_iff, decide_eq_false_iff_not] at hb
      omega
    obtain ⟨_, e2, e3⟩ := out_same h hr a y hn
    by_cases h0 : rckF z r a y.size 0 = 0
    · exact (e2 h0).2.wf h
    · rw [e3 h0]; exact h
set_option maxHeartbeats 25600000 in
theorem l_apart11 (w : World) (oa : Option Addr) (len cap bl off : Nat) (f : Nat → SAct) (wv at_ : Int) (s : ByteArray) (hwv : i64 wv) (hat : u64 at_) (hs : s.size ≤ maxLen) (hlen : len ≤ maxLen) (hoa : 0 < len → oa = some ⟨bl, off, none⟩) (hl : SActs w bl off len f) :
    Calls Tryz.prog 4 #[.agg #[.slice oa len cap, .int .i64 wv, .int .u64 at_, .string s]] w fun e w' => e = .returned (.bool true) ∧ Gr w w' := by
  have EM := Lib.hid stable_emp
  have HN := Lib.hid (pl_new 40 (by decide) (by decide))
  have BO := Lib.hid (fun w1 (g : Gr w w1) => o_both2 g 40)
  rw [show sizeN 40 = 40 from rfl] at BO
  have SPL := Lib.hid (fun pb b (x : Sp) => stable_pl pb b 0 x.L x.s)
  have SRP := Lib.hid (fun rp rb (x : Sp) => stable_rp rp rb 0 x.L x.s)
  have PLY := Lib.hid (fun w1 pb b rp rb z0 N h hp => c_plays11 (w0 := w) (w := w1) (pb := pb) (b := b) (rp := rp) (rb := rb) (z0 := z0) (N := N) (R := emp) h EM.out hp oa len cap bl off f hlen hoa hl)
  generalize z11 40 = z0 at *
  have HAT := Lib.hid hat
  have HS := Lib.hid hs
  obtain ⟨wv0, wv1⟩ := hwv
  have K0 := Lib.hid ((Own.start (Gr.refl w)).alloc EM.out (.cells #[.slice oa len cap, .int .i64 wv, .int .u64 at_, .string s] 53))
  clear hlen hoa hl hat hs
  obtain ⟨i0, hi0, hz0, hz1, hz2⟩ := info_parts intInfo7
  obtain ⟨i3, hi3, hy0, hy1, hy2⟩ := info_parts strInfo11
  go_enter Tryz.func4, Tryz.ntmps4
  go_upto_region 1 with fail
  obtain ⟨wa, hwa⟩ : ∃ wa, w.alloc (.cells #[.slice oa len cap, .int .i64 wv, .int .u64 at_, .string s] 53) = wa := ⟨_, rfl⟩
  rw [hwa] at K0
  rw [hwa]
  clear hwa
  obtain ⟨xb, hxb⟩ : ∃ n, w.heap.size = n := ⟨_, rfl⟩
  rw [hxb] at K0
  rw [hxb]
  clear hxb
  have c0 := blk_cell K0.out.blk 0 rfl
  have c1 := blk_cell K0.out.blk 1 rfl
  have c2 := blk_cell K0.out.blk 2 rfl
  have c3 := blk_cell K0.out.blk 3 rfl
  have GA := Lib.hid K0.out.sub
  clear K0
  go_upto_region 6 with (go_at_call 6; refine (c_shown11 _).mono ?_; rintro e w1 ⟨rfl, g1⟩; have G1 := Lib.hid (gtrans GA.out g1); clear g1)
  clear c0 c1 c2 c3 GA
  go_upto_region 7 with (go_at_call 7; refine (BO.out _ G1.out).mono ?_; rintro e w2 ⟨b, pb, rb, rp, rfl, h2⟩; have H2 := Lib.hid h2; clear h2)
  go_upto_region 10 with (go_at_call 8; refine (PLY.out _ _ _ _ _ _ _ H2.out HN.out).mono ?_; rintro e w3 ⟨z, rs, o, c, rfl, hpl, h3⟩; have H3 := Lib.hid h3; have HPL := Lib.hid hpl; clear h3 hpl)
  clear BO PLY H2 HN G1
  obtain ⟨rl256, rlt⟩ := HPL.out.len
  have RLT := Lib.hid rlt
  clear rlt
  have SR := Lib.hid (stable_star (stable_row 3 1 (.slice o rs.length c) rs.length (tbI rs)) EM.out)
  have MK := mk_had w3
  have H4 := Lib.hid (((H3.out.alloc (stable_star (SPL.out pb b z) (stable_star (SRP.out rp rb z) SR.out)) (.cells (hadC []) 4)).mono (fun F h => star_mono_r (fun F h => star_swap2 h) h)).swap2)
  go_upto_region 11 with fail
  obtain ⟨w4, hw4⟩ : ∃ w4, w3.alloc (.cells (hadC []) 4) = w4 := ⟨_, rfl⟩
  rw [hw4] at H4
  rw [hw4]
  obtain ⟨hb, hhb⟩ : ∃ n, w3.heap.size = n := ⟨_, rfl⟩
  rw [hhb] at H4
  rw [hhb]
  clear hw4 hhb MK H3
  have SHB := Lib.hid (fun S => stable_blk hb (.cells (hadC S) 4))
  have SPR := Lib.hid (stable_star (SPL.out pb b z) SR.out)
  go_wp2_with fail
  go_loopg [14] (rs.length + 1) (fun t v14 wr => ∃ (i : Nat) (S : List Nat), i ≤ rs.length ∧ t = rs.length + 1 - i ∧ v14 = .int .i64 (i : Int) ∧ (∀ f, f ∈ S → ∃ i' r', i' < i ∧ rs[i']? = some r' ∧ f ∈ frF z r') ∧ Own w wr (Star (rpA rp rb 0 z.L z.s) (Star (blkA hb (.cells (hadC S) 4)) (Star (plA pb b 0 z.L z.s) (Star (rowA 3 1 (.slice o rs.length c) rs.length (tbI rs)) emp)))))
  case atStart => exact ⟨0, [], by omega, rfl, rfl, (fun f h => by cases h), H4.out⟩
  case round =>
    clear H4
    obtain ⟨i, S, hi, rfl, rfl, hS, ho⟩ := hrel
    have HO := Lib.hid ho
    have HS1 := Lib.hid hS
    clear ho hS
    by_cases hlt : i < rs.length
    · have m1 : (i : Int) < (rs.length : Int) := by omega
      have m3 : 0 ≤ (i : Int) := by omega
      have m4 : (i : Int).toNat = i := by omega
      have e5 : IntKind.i64.wrap ((i : Int) + 1) = (i : Int) + 1 := wrapI _ (by omega) (by omega)
      have HRW := Lib.hid HO.out.right.right.right.row
      obtain ⟨g, hg⟩ := row_some HRW.out (by omega)
      obtain ⟨r, hr⟩ : ∃ r, rs[i]? = some r := ⟨_, List.getElem?_eq_getElem hlt⟩
      have CR : RowKit.Hid (∀ (w1 : World) (X : Asn), Own w w1 (Star (rowA 3 1 (.slice o rs.length c) rs.length (tbI rs)) X) → w1.cell? ⟨g, i, none⟩ = some (.int .i64 (r : Int))) := Lib.hid (fun w1 X h => by
        have := h.row
        rw [hg] at this
        rw [World.ownsRow.cellAt this i (by omega)]; exact tbI_of rs i r hr)
      have HG := Lib.hid hg
      have hr256 := RLT.out r (List.mem_of_getElem? hr)
      obtain ⟨own, hw, hrs, hnd, hzl⟩ := HPL.out
      obtain ⟨p, j, hro⟩ := hrs r (List.mem_of_getElem? hr)
      have SD := Lib.hid (stable_star (SHB.out S) SPR.out)
      have PG2 := Lib.hid (o_rpages HO.out SD.out hw hro)
      have hlen := rqA_len z r 32
      have htl := tbA_len z r 32
      obtain ⟨fn, ff⟩ := frF_ok hw hro
      have HFN := Lib.hid fn
      have HFF := Lib.hid (fun f hf => (by have := (ff f hf).1; omega : f < 40))
      have HNO : RowKit.Hid (∀ f, f ∈ frF z r → f ∈ S → False) := Lib.hid (fun f h1 h2 => by
        obtain ⟨i', r', e1, e2, e3⟩ := HS1.out f h2
        obtain ⟨p', j', hro'⟩ := hrs r' (List.mem_of_getElem? e2)
        refine frF_apart hw hro hro' (fun e => ?_) h1 e3
        obtain ⟨hl1, hv1⟩ := List.getElem?_eq_some_iff.1 hr
        obtain ⟨hl2, hv2⟩ := List.getElem?_eq_some_iff.1 e2
        exact List.pairwise_iff_getElem.1 hnd i' i hl2 hl1 e1 (by rw [hv1, hv2]; exact e.symm))
      have HRI := Lib.hid hr
      have hfr : frF z r = tbA z r 32 ++ [r] ++ (rqA z r 32).map Pgr.f := rfl
      obtain ⟨TF, hTF⟩ : ∃ T, frF z r = T := ⟨_, rfl⟩
      have HTF := Lib.hid hTF
      rw [hTF] at HFN HFF HNO hfr
      obtain ⟨l, hl⟩ : ∃ l, rqA z r 32 = l := ⟨_, rfl⟩
      obtain ⟨tb, htb⟩ : ∃ l, tbA z r 32 = l := ⟨_, rfl⟩
      rw [hl] at PG2 hlen hfr
      rw [htb] at PG2 htl hfr
      obtain ⟨LL, hLL⟩ : ∃ n, l.length = n := ⟨_, rfl⟩
      rw [hLL] at PG2 hlen
      have HLL := Lib.hid hLL
      have HFR := Lib.hid hfr
      have hTFl : TF.length ≤ 40000 := by rw [hfr]; simp; omega
      have c0 := CR.out _ _ HO.out.right.right.right
      subst hg
      clear HRW hr hw hrs hro hnd hzl hl htb hLL hfr hTF fn ff
      go_upto_region 15 with (go_at_call 12; refine PG2.out.mono ?_; rintro e w6 ⟨o6, c6, o7, c7, rfl, h6⟩; have H6 := Lib.hid (Own.rot3 h6); clear h6)
      clear PG2 HO c0
      have c0 := CR.out _ _ H6.out.right.right.right.right.right
      have SPG := Lib.hid (stable_star (SRP.out rp rb z) (stable_star (stable_row 41 3 (.slice o6 LL c6) LL (pgCells l)) SD.out))
      have H5 := Lib.hid (H6.out.gr (stable_star (stable_row _ _ _ _ _) SPG.out) ((Gr.refl _).alloc (Nat.le_refl _) (.cells #[.int .i64 (r : Int)] 3)))
      have HROW := Lib.hid H5.out.row
      have hbl := tbI_len tb
      go_upto_region 16 with (at_builtin; refine wpList_append_lies _ rfl _ _ _ rfl 0 3 i0 (.int .i64 0) 1 8 Tryz.underlying29 hi0 hz0 hz1 hz2 rfl (by omega) (.slice o7 tb.length c7) tb.length (tbI tb) rfl HROW.out ⟨_, 0, none⟩ 1 1 [.int .i64 (r : Int)] rfl rfl (World.news_of_block (cs := #[.int .i64 (r : Int)]) (blk_new _ _)) (by simp [Value.oneCell']) (by omega) (by unfold maxLen; omega) (by omega) (by omega) (w6.heap.size + 1) (by simp) ?_; intro g2 cap2 w8 hown8 hgrow8 hat8 hlt8; have H9 := Lib.hid (H5.out.grown (g := g2) SPG.out hown8 rfl hgrow8 (hat8.elim .inl (fun e => .inr (by simp; omega))) hlt8); clear hown8 hgrow8 hat8 hlt8)
      have H10 : RowKit.Hid (Own w w8 (Star (rowA 3 1 (.slice (some ⟨g2, 0, none⟩) (tb ++ [r] ++ (l.take 0).map Pgr.f).length cap2) (tb ++ [r] ++ (l.take 0).map Pgr.f).length (tbI (tb ++ [r] ++ (l.take 0).map Pgr.f))) (Star (rpA rp rb 0 z.L z.s) (Star (rowA 41 3 (.slice o6 LL c6) LL (pgCells l)) (Star (blkA hb (.cells (hadC S) 4)) (Star (plA pb b 0 z.L z.s) (Star (rowA 3 1 (.slice (some ⟨g, 0, none⟩) rs.length c) rs.length (tbI rs)) emp))))))) := Lib.hid (by
        have := H9.out
        rw [← tbI_add] at this
        rw [List.take_zero, List.map_nil, List.append_nil, List.length_append]
        exact this)
      clear H5 H6 HROW H9 c0 hbl
      have e7 : ((tb ++ [r] ++ (l.take 0).map Pgr.f).length : Nat) = tb.length + 1 := by simp
      go_wp2_with fail
      go_loopg [16, 17] (LL + 1) (fun t v16 v17 wr => ∃ (k : Nat) (o2 : Option Addr) (c2 : Nat), k ≤ LL ∧ t = LL + 1 - k ∧ v17 = .int .i64 (k : Int) ∧ v16 = .slice o2 (tb ++ [r] ++ (l.take k).map Pgr.f).length c2 ∧ Own w wr (Star (rowA 3 1 (.slice o2 (tb ++ [r] ++ (l.take k).map Pgr.f).length c2) (tb ++ [r] ++ (l.take k).map Pgr.f).length (tbI (tb ++ [r] ++ (l.take k).map Pgr.f))) (Star (rpA rp rb 0 z.L z.s) (Star (rowA 41 3 (.slice o6 LL c6) LL (pgCells l)) (Star (blkA hb (.cells (hadC S) 4)) (Star (plA pb b 0 z.L z.s) (Star (rowA 3 1 (.slice (some ⟨g, 0, none⟩) rs.length c) rs.length (tbI rs)) emp)))))))
      case atStart => exact ⟨0, some ⟨g2, 0, none⟩, cap2, by omega, rfl, rfl, by rw [e7], H10.out⟩
      case round =>
        clear H10 e7
        obtain ⟨k, o2, c2, hk, rfl, rfl, rfl, hq⟩ := hrel
        have HB := Lib.hid hq
        clear hq
        by_cases hkl : k < LL
        · have k1 : (k : Int) < (LL : Int) := by omega
          have k3 : 0 ≤ (k : Int) := by omega
          have k4 : (k : Int).toNat = k := by omega
          have k5 : IntKind.i64.wrap ((k : Int) + 1) = (k : Int) + 1 := wrapI _ (by omega) (by omega)
          obtain ⟨q, hqq⟩ : ∃ q, l[k]? = some q := ⟨_, List.getElem?_eq_getElem (by rw [HLL.out]; exact hkl)⟩
          have R2 := Lib.hid HB.out.right.right.row
          obtain ⟨gp, hgp⟩ := row_some R2.out (by omega)
          have b2 : wr.cell? ⟨gp, k * 3 + 2, none⟩ = some (.int .i64 (q.f : Int)) := by
            have := R2.out
            rw [hgp] at this
            rw [World.ownsRow.cellAt this (k * 3 + 2) (by omega)]
            exact (pgCells_of l k q hqq).2.2
          have hnx : tb ++ [r] ++ (l.take (k + 1)).map Pgr.f = (tb ++ [r] ++ (l.take k).map Pgr.f) ++ [q.f] := by
            rw [List.take_add_one, hqq, List.map_append, List.append_assoc, List.append_assoc, List.append_assoc]; rfl
          have hXl : (tb ++ [r] ++ (l.take k).map Pgr.f).length ≤ 40000 := by simp; omega
          subst hgp
          obtain ⟨X, hX⟩ : ∃ X, tb ++ [r] ++ (l.take k).map Pgr.f = X := ⟨_, rfl⟩
          rw [hX] at hnx hXl HB ⊢
          obtain ⟨n, hn⟩ : ∃ n, q.f = n := ⟨_, rfl⟩
          rw [hn] at hnx b2
          have HNX := Lib.hid hnx
          clear R2 hqq hnx hX hn
          have H5 := Lib.hid (HB.out.gr (stable_star (stable_row _ _ _ _ _) SPG.out) ((Gr.refl _).alloc (Nat.le_refl _) (.cells #[.int .i64 (n : Int)] 3)))
          have HROW := Lib.hid H5.out.row
          have hbl := tbI_len X
          go_wp2_with (at_builtin; refine wpList_append_lies _ rfl _ _ _ rfl 0 3 i0 (.int .i64 0) 1 8 Tryz.underlying29 hi0 hz0 hz1 hz2 rfl (by omega) (.slice o2 X.length c2) X.length (tbI X) rfl HROW.out ⟨_, 0, none⟩ 1 1 [.int .i64 (n : Int)] rfl rfl (World.news_of_block (cs := #[.int .i64 (n : Int)]) (blk_new _ _)) (by simp [Value.oneCell']) (by omega) (by unfold maxLen; omega) (by omega) (by omega) (wr.heap.size + 1) (by simp) ?_; intro g2 cap2 w8 hown8 hgrow8 hat8 hlt8; have H9 := Lib.hid (H5.out.grown (g := g2) SPG.out hown8 rfl hgrow8 (hat8.elim .inl (fun e => .inr (by simp; omega))) hlt8); clear hown8 hgrow8 hat8 hlt8)
          have e7 : (X ++ [n]).length = X.length + 1 := by simp
          go_roundg (LL + 1 - (k + 1))
          case measure => omega
          case rel =>
            refine ⟨k + 1, some ⟨g2, 0, none⟩, cap2, by omega, rfl, by go_num, by rw [HNX.out, e7], ?_⟩
            rw [HNX.out, e7, tbI_add]; exact H9.out
        · obtain rfl : k = LL := by omega
          have k1 : ¬ (k : Int) < (k : Int) := by omega
          have HT0 : RowKit.Hid (Own w wr (Star (blkA hb (.cells (hadC S) 4)) (Star (rowA 3 1 (.slice o2 (TF).length c2) (TF).length (tbI (TF))) (Star (rpA rp rb 0 z.L z.s) (Star (plA pb b 0 z.L z.s) (Star (rowA 3 1 (.slice (some ⟨g, 0, none⟩) rs.length c) rs.length (tbI rs)) emp)))))) := Lib.hid (by
            have := HB.out
            rw [List.take_of_length_le (by rw [HLL.out]; exact Nat.le_refl _), ← HFR.out] at this
            exact (this.mono (fun F h => star_mono_r (fun F h => star_drop2 h) h)).rot3)
          have e8 : (tb ++ [r] ++ (l.take k).map Pgr.f).length = TF.length := by rw [List.take_of_length_le (by rw [HLL.out]; exact Nat.le_refl _), ← HFR.out]
          have SQ3 := Lib.hid (stable_star (stable_row 3 1 (.slice o2 TF.length c2) TF.length (tbI TF)) (stable_star (SRP.out rp rb z) SPR.out))
          rw [e8]
          clear HB e8
          go_wp2_with fail
          go_loopg [18] (TF.length + 1) (fun t v18 wr => ∃ (q : Nat) (S2 : List Nat), q ≤ TF.length ∧ t = TF.length + 1 - q ∧ v18 = .int .i64 (q : Int) ∧ (∀ f, f ∈ S2 ↔ f ∈ S ∨ f ∈ TF.take q) ∧ Own w wr (Star (blkA hb (.cells (hadC S2) 4)) (Star (rowA 3 1 (.slice o2 (TF).length c2) (TF).length (tbI (TF))) (Star (rpA rp rb 0 z.L z.s) (Star (plA pb b 0 z.L z.s) (Star (rowA 3 1 (.slice (some ⟨g, 0, none⟩) rs.length c) rs.length (tbI rs)) emp))))))
          case atStart => exact ⟨0, S, by omega, rfl, rfl, fun f => by simp, HT0.out⟩
          case round =>
            clear HT0
            obtain ⟨q, S2, hq, rfl, rfl, hS2, hq2⟩ := hrel
            have HB := Lib.hid hq2
            have HS2 := Lib.hid hS2
            clear hq2 hS2
            by_cases hql : q < TF.length
            · have g1 : (q : Int) < (TF.length : Int) := by omega
              have g3 : 0 ≤ (q : Int) := by omega
              have g4 : (q : Int).toNat = q := by omega
              have g5 : IntKind.i64.wrap ((q : Int) + 1) = (q : Int) + 1 := wrapI _ (by omega) (by omega)
              have R2 := Lib.hid HB.out.right.row
              obtain ⟨gt, hgt⟩ := row_some R2.out (by omega)
              obtain ⟨n, hn⟩ : ∃ n, TF[q]? = some n := ⟨_, List.getElem?_eq_getElem hql⟩
              have hnm := List.mem_of_getElem? hn
              have hn40 := HFF.out n hnm
              have hnt : n ∉ TF.take q := fun hm => by
                obtain ⟨i', hi', e1⟩ := List.getElem_of_mem hm
                rw [List.getElem_take] at e1
                rw [List.length_take] at hi'
                obtain ⟨hl1, hv1⟩ := List.getElem?_eq_some_iff.1 hn
                exact List.pairwise_iff_getElem.1 HFN.out i' q (by omega) hl1 (by omega) (by rw [e1, hv1])
              have hns : n ∉ S2 := fun hm => (HS2.out n).1 hm |>.elim (fun e => HNO.out n hnm e) hnt
              have b1 : wr.cell? ⟨gt, q, none⟩ = some (.int .i64 (n : Int)) := by
                have := R2.out
                rw [hgt] at this
                rw [World.ownsRow.cellAt this q (by omega)]; exact tbI_of TF q n hn
              subst hgt
              have hbk := HB.out.blk
              have cN : wr.cell? ⟨hb, n, none⟩ = some (.bool false) := blk_cell hbk n (by rw [hadC_get _ _ hn40, decide_eq_false hns])
              have zN := blk_frozen hbk n
              have n1 : (n : Int) < 40 := by omega
              have n2 : (0 : Int) ≤ (n : Int) := by omega
              have n4 : (n : Int).toNat = n := by omega
              have H9 := Lib.hid (HB.out.set SQ3.out n (.bool true))
              rw [hadC_set _ _ hn40] at H9
              have HNX : RowKit.Hid (∀ f, f ∈ n :: S2 ↔ f ∈ S ∨ f ∈ TF.take (q + 1)) := Lib.hid (fun f => by
                rw [List.take_add_one, hn, List.mem_cons, HS2.out f, List.mem_append]
                constructor
                · rintro (e | e | e)
                  · exact .inr (.inr (by subst e; simp))
                  · exact .inl e
                  · exact .inr (.inl e)
                · rintro (e | e | e)
                  · exact .inr (.inl e)
                  · exact .inr (.inr e)
                  · exact .inl (by simpa using e))
              clear R2 hn hnm hnt hns hbk
              go_wp2_with fail
              go_roundg (TF.length + 1 - (q + 1))
              case measure => omega
              case rel => exact ⟨q + 1, n :: S2, by omega, rfl, by go_num, HNX.out, H9.out⟩
            · obtain rfl : q = TF.length := by omega
              have g1 : ¬ (TF.length : Int) < (TF.length : Int) := by omega
              have HZ := Lib.hid (HB.out.drop2.swap2)
              go_wp2_with fail
              go_roundg (rs.length + 1 - (i + 1))
              case measure => omega
              case rel =>
                refine ⟨i + 1, S2, by omega, rfl, by go_num, fun f hf => ?_, HZ.out⟩
                rcases (HS2.out f).1 hf with e | e
                · obtain ⟨i', r', e1, e2, e3⟩ := HS1.out f e
                  exact ⟨i', r', by omega, e2, e3⟩
                · rw [List.take_length, ← HTF.out] at e
                  exact ⟨i, r, by omega, HRI.out, e⟩

    · obtain rfl : i = rs.length := by omega
      have m1 : ¬ (rs.length : Int) < (rs.length : Int) := by omega
      have H0 := Lib.hid HO.out.right.right
      clear HO HS1
      have hd : wv < 0 ∨ (¬ wv < 0 ∧ (rs.length : Int) ≤ wv) ∨ (¬ wv < 0 ∧ ¬ (rs.length : Int) ≤ wv) := by omega
      rcases hd with d1 | ⟨d1, d2⟩ | ⟨d1, d2⟩
      · go_wp2_with fail
        go_ret
        exact ⟨rfl, H0.out.sub⟩
      · go_wp2_with fail
        go_ret
        exact ⟨rfl, H0.out.sub⟩
      · obtain ⟨iw, rfl⟩ : ∃ iw : Nat, wv = (iw : Int) := ⟨wv.toNat, by omega⟩
        have hiw : iw < rs.length := by omega
        obtain ⟨own, hw, hrs, hnd, hzl⟩ := HPL.out
        have CALL := Lib.hid (fun w1 (z1 : Sp) (hw1 : WF 0 z1 own) Q hQ (h : Own w w1 (Star (plA pb b 0 z1.L z1.s) Q)) r p j (hr : own r = some (3, p, j)) => c_allF (w0 := w) (w := w1) (pb := pb) (b := b) (z := z1) (R := Q) h hQ hw1 hr)
        have HW := Lib.hid hw
        have HRS := Lib.hid hrs
        have HND := Lib.hid hnd
        clear hw hrs hnd hzl
        have A2 : RowKit.Hid (Own w wr (Star (rowA 9 1 (.slice none 0 0) 0 []) (Star (plA pb b 0 z.L z.s) (Star (rowA 3 1 (.slice o rs.length c) rs.length (tbI rs)) emp)))) := Lib.hid (H0.out.add SPR.out (Gr.refl _) (A := rowA 9 1 (.slice none 0 0) 0 []) ⟨fun _ => False, ⟨⟨rfl, .inl ⟨rfl, rfl⟩⟩, fun b hb => by cases hb⟩, fun x hx => hx.elim⟩)
        clear H0
        go_wp2_with fail
        go_loopg [19, 20] (rs.length + 1) (fun t v19 v20 wr => ∃ (k : Nat) (o5 : Option Addr) (c5 : Nat), k ≤ rs.length ∧ t = rs.length + 1 - k ∧ v20 = .int .i64 (k : Int) ∧ v19 = .slice o5 ((rs.take k).map (allF z)).length c5 ∧ Own w wr (Star (rowA 9 1 (.slice o5 ((rs.take k).map (allF z)).length c5) ((rs.take k).map (allF z)).length (stI ((rs.take k).map (allF z)))) (Star (plA pb b 0 z.L z.s) (Star (rowA 3 1 (.slice o rs.length c) rs.length (tbI rs)) emp))))
        case atStart => exact ⟨0, none, 0, by omega, rfl, rfl, rfl, A2.out⟩
        case round =>
          clear A2 m1
          obtain ⟨k, o5, c5, hk, rfl, rfl, rfl, hq⟩ := hrel
          have HB := Lib.hid hq
          clear hq
          by_cases hkl : k < rs.length
          · have k1 : (k : Int) < (rs.length : Int) := by omega
            have k3 : 0 ≤ (k : Int) := by omega
            have k4 : (k : Int).toNat = k := by omega
            have k5 : IntKind.i64.wrap ((k : Int) + 1) = (k : Int) + 1 := wrapI _ (by omega) (by omega)
            have R2 := Lib.hid HB.out.right.right.row
            obtain ⟨g, hg⟩ := row_some R2.out (by omega)
            obtain ⟨r, hr⟩ : ∃ r, rs[k]? = some r := ⟨_, List.getElem?_eq_getElem hkl⟩
            have b1 : wr.cell? ⟨g, k, none⟩ = some (.int .i64 (r : Int)) := by
              have := R2.out
              rw [hg] at this
              rw [World.ownsRow.cellAt this k (by omega)]; exact tbI_of rs k r hr
            obtain ⟨p, j, hro⟩ := HRS.out r (List.mem_of_getElem? hr)
            obtain ⟨X, hX⟩ : ∃ X, (rs.take k).map (allF z) = X := ⟨_, rfl⟩
            have hXl : X.length ≤ 256 := by rw [← hX, List.length_map, List.length_take]; omega
            have hnx : (rs.take (k + 1)).map (allF z) = X ++ [allF z r] := by rw [List.take_add_one, hr, List.map_append, hX]; rfl
            rw [hX] at HB ⊢
            have SX := Lib.hid (stable_star (stable_row 9 1 (.slice o5 X.length c5) X.length (stI X)) SR.out)
            have AL := Lib.hid (CALL.out wr z HW.out _ SX.out HB.out.swap2 r p j hro)
            obtain ⟨AF, hAF⟩ : ∃ y, allF z r = y := ⟨_, rfl⟩
            rw [hAF] at hnx AL
            have HNX := Lib.hid hnx
            have HG := Lib.hid hg
            subst hg
            clear R2 hr hro hX hnx hAF HB
            have hbl := stI_len X
            go_wp2_with (first
              | (go_at_call 14; refine AL.out.mono ?_; rintro e w5 ⟨rfl, h5⟩; have H5 := Lib.hid ((Own.swap2 h5).gr (stable_star (stable_row 9 1 (.slice o5 X.length c5) X.length (stI X)) SPR.out) ((Gr.refl _).alloc (Nat.le_refl _) (.cells #[.string AF] 9))); clear h5; have HROW := Lib.hid H5.out.row)
              | (at_builtin; refine wpList_append_lies _ rfl _ _ _ rfl 0 9 i3 (.string ByteArray.empty) 1 16 Tryz.underlying54 hi3 hy0 hy1 hy2 rfl (by omega) (.slice o5 X.length c5) X.length (stI X) rfl HROW.out ⟨_, 0, none⟩ 1 1 [.string AF] rfl rfl (World.news_of_block (cs := #[.string AF]) (blk_new _ _)) (by simp [Value.oneCell']) (by omega) (by unfold maxLen; omega) (by omega) (by omega) (w5.heap.size + 1) (by simp) ?_; intro g2 cap2 w8 hown8 hgrow8 hat8 hlt8; have H9 := Lib.hid (H5.out.grown (g := g2) SPR.out hown8 rfl hgrow8 (hat8.elim .inl (fun e => .inr (by simp; omega))) hlt8); clear hown8 hgrow8 hat8 hlt8))
            have e7 : (X ++ [AF]).length = X.length + 1 := by simp
            go_roundg (rs.length + 1 - (k + 1))
            case measure => omega
            case rel =>
              refine ⟨k + 1, some ⟨g2, 0, none⟩, cap2, by omega, rfl, by go_num, by rw [HNX.out, e7], ?_⟩
              rw [HNX.out, e7, stI_add]; exact H9.out
          · obtain rfl : k = rs.length := by omega
            have k1 : ¬ (rs.length : Int) < (rs.length : Int) := by omega
            rw [List.take_length] at HB ⊢
            obtain ⟨BL, hBL⟩ : ∃ X, rs.map (allF z) = X := ⟨_, rfl⟩
            have hbll : BL.length = rs.length := by rw [← hBL, List.length_map]
            rw [hBL, hbll] at HB
            rw [hBL, hbll]
            have HBL := Lib.hid hBL
            clear hBL hbll
            have H7 := Lib.hid HB.out.swap2
            clear HB
            have R2 := Lib.hid H7.out.right.right.row
            obtain ⟨g, hg⟩ := row_some R2.out (by omega)
            subst hg
            have CRR : RowKit.Hid (∀ (w1 : World) (X Y : Asn), Own w w1 (Star X (Star Y (Star (rowA 3 1 (.slice (some ⟨g, 0, none⟩) rs.length c) rs.length (tbI rs)) emp))) → ∀ (k r : Nat), rs[k]? = some r → w1.cell? ⟨g, k, none⟩ = some (.int .i64 (r : Int))) := Lib.hid (fun w1 X Y h k r hr => by
              have hlt := (List.getElem?_eq_some_iff.1 hr).1
              rw [World.ownsRow.cellAt h.right.right.row k (by omega)]; exact tbI_of rs k r hr)
            obtain ⟨rw_, hrw⟩ : ∃ r, rs[iw]? = some r := ⟨_, List.getElem?_eq_getElem hiw⟩
            obtain ⟨pw, jw, how⟩ := HRS.out rw_ (List.mem_of_getElem? hrw)
            have hrw256 := RLT.out rw_ (List.mem_of_getElem? hrw)
            have c0 := CRR.out _ _ _ H7.out iw rw_ hrw
            have hwN := out_wf HW.out how at_ s
            have KEEP := Lib.hid (fun r' p' j' (h' : own r' = some (3, p', j')) (hne : r' ≠ rw_) => all_keep HW.out how h' hne at_ s)
            have SX := Lib.hid (stable_star (stable_row 9 1 (.slice o5 rs.length c5) rs.length (stI BL)) SR.out)
            obtain ⟨E, hE⟩ : ∃ E, outErr 0 z rw_ at_ s = E := ⟨_, rfl⟩
            obtain ⟨zN, hzN⟩ : ∃ y, outSt 0 z rw_ at_ s = y := ⟨_, rfl⟩
            have OU := Lib.hid (o_out H7.out SX.out (rw_ : Int) at_ s ⟨by omega, by omega⟩ HAT.out (by have := HS.out; unfold maxLen at this; omega) E zN hE hzN)
            rw [hzN] at hwN KEEP
            have HWN := Lib.hid hwN
            have HRWI := Lib.hid hrw
            have w1 : (iw : Int) < (rs.length : Int) := by omega
            have w3 : 0 ≤ (iw : Int) := by omega
            have w4 : (iw : Int).toNat = iw := by omega
            clear R2 hrw how hwN hE hzN
            go_upto_region 34 with (go_at_call 15; refine OU.out.mono ?_; rintro e w6 ⟨rfl, h6⟩; have H8 := Lib.hid h6; clear h6)
            clear OU H7 c0
            go_wp2_with fail
            go_loopg [21] (rs.length + 1) (fun t v21 wr => ∃ (k : Nat), k ≤ rs.length ∧ t = rs.length + 1 - k ∧ v21 = .int .i64 (k : Int) ∧ Own w wr (Star (plA pb b 0 zN.L zN.s) (Star (rowA 9 1 (.slice o5 rs.length c5) rs.length (stI BL)) (Star (rowA 3 1 (.slice (some ⟨g, 0, none⟩) rs.length c) rs.length (tbI rs)) emp))))
            case atStart => exact ⟨0, by omega, rfl, rfl, H8.out⟩
            case round =>
              clear H8 k1
              obtain ⟨k, hk, rfl, rfl, hq⟩ := hrel
              have HB := Lib.hid hq
              clear hq
              by_cases hkl : k < rs.length
              · have k1 : (k : Int) < (rs.length : Int) := by omega
                have k3 : 0 ≤ (k : Int) := by omega
                have k4 : (k : Int).toNat = k := by omega
                have k5 : IntKind.i64.wrap ((k : Int) + 1) = (k : Int) + 1 := wrapI _ (by omega) (by omega)
                have SL := Lib.hid (stable_star (SPL.out pb b zN) SX.out)
                by_cases hki : k = iw
                · subst hki
                  go_upto_region 37 with fail
                  go_quiet (fail)
                  go_wp2_with fail
                  go_roundg (rs.length + 1 - (k + 1))
                  case measure => omega
                  case rel => exact ⟨k + 1, by omega, rfl, by go_num, HB.out.gr SL.out (Gr.drewN (Gr.refl _) _)⟩
                · have k6 : ((k : Int) != (iw : Int)) = true := by
                    have : ¬ (k : Int) = (iw : Int) := by omega
                    simpa using this
                  obtain ⟨r, hr⟩ : ∃ r, rs[k]? = some r := ⟨_, List.getElem?_eq_getElem hkl⟩
                  obtain ⟨p, j, hro⟩ := HRS.out r (List.mem_of_getElem? hr)
                  have hne : r ≠ rw_ := fun e => by
                    obtain ⟨hl1, hv1⟩ := List.getElem?_eq_some_iff.1 hr
                    obtain ⟨hl2, hv2⟩ := List.getElem?_eq_some_iff.1 HRWI.out
                    have hp := List.pairwise_iff_getElem.1 HND.out
                    rcases Nat.lt_or_ge k iw with h1 | h1
                    · exact hp k iw hl1 hl2 h1 (by rw [hv1, hv2]; exact e)
                    · exact hp iw k hl2 hl1 (by omega) (by rw [hv1, hv2]; exact e.symm)
                  have hkeep := KEEP.out r p j hro hne
                  have HD := Lib.hid (HB.out.drew SL.out)
                  have AL := Lib.hid (CALL.out wr.drew zN HWN.out _ SX.out HD.out r p j hro)
                  rw [hkeep] at AL
                  obtain ⟨AF, hAF⟩ : ∃ y, allF z r = y := ⟨_, rfl⟩
                  rw [hAF] at AL
                  have hbk : BL[k]? = some AF := by
                    rw [← HBL.out, List.getElem?_map, hr, ← hAF]; rfl
                  have R5 := HB.out.right.row
                  obtain ⟨gb, hgb⟩ := row_some R5 (by omega)
                  subst hgb
                  have CB2 : RowKit.Hid (∀ (w1 : World) (X Y : Asn), Own w w1 (Star X (Star (rowA 9 1 (.slice (some ⟨gb, 0, none⟩) rs.length c5) rs.length (stI BL)) Y)) → w1.cell? ⟨gb, k, none⟩ = some (.string AF)) := Lib.hid (fun w1 X Y h => by
                    rw [World.ownsRow.cellAt h.right.row k (by omega)]
                    exact stI_of BL k AF hbk)
                  clear R5 hbk
                  have CG : RowKit.Hid (∀ (w1 : World) (X Y : Asn), Own w w1 (Star X (Star Y (Star (rowA 3 1 (.slice (some ⟨g, 0, none⟩) rs.length c) rs.length (tbI rs)) emp))) → w1.cell? ⟨g, k, none⟩ = some (.int .i64 (r : Int))) := Lib.hid (fun w1 X Y h => CRR.out w1 X Y h k r hr)
                  have cb := CB2.out _ _ _ HD.out
                  have c0 := CG.out _ _ _ HD.out
                  have bA : (AF.toList == AF.toList) = true := beq_self_eq_true _
                  clear hr hro hne hkeep hAF
                  go_upto_region 37 with fail
                  have dc0 : wr.cell? ⟨g, k, none⟩ = some (.int .i64 (r : Int)) := CG.out _ _ _ HB.out
                  have dcb : wr.cell? ⟨gb, k, none⟩ = some (.string AF) := CB2.out _ _ _ HB.out
                  first
                    | (go_region_held3 (fun w' => w'.cell? ⟨g, k, none⟩ = some (.int .i64 (r : Int)) ∧ w'.cell? ⟨gb, k, none⟩ = some (.string AF))
                        ((refine ⟨?_, ?_⟩ <;> first | (with_reducible assumption)))
                        (first | (go_at_call 14; refine AL.out.mono ?_; rintro e w7 ⟨rfl, h7⟩; have cb7 := CB2.out _ _ _ h7; have cg7 := CG.out _ _ _ h7)))
                    | fail
                  all_goals
                    go_wp2_with fail
                    go_roundg (rs.length + 1 - (k + 1))
                    case measure => omega
                    case rel => exact ⟨k + 1, by omega, rfl, by go_num, by assumption⟩
              · obtain rfl : k = rs.length := by omega
                have k1 : ¬ (rs.length : Int) < (rs.length : Int) := by omega
                go_wp2_with fail
                go_ret
                exact ⟨rfl, HB.out.sub⟩

end Go.Proofs.YtbcnibnkojnpiaaGreat.P
