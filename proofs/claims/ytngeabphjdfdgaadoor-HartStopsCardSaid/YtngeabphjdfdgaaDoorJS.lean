/- Stage 5: HartStops. No condition but what the program's tables hold. -/
import Derived.Test.YtngeabphjdfdgaaDoorJC
import Derived.Test.YtngeabphjdfdgaaDoorJO
set_option linter.unusedVariables false
set_option linter.unusedSimpArgs false
set_option maxRecDepth 100000
namespace Go.Proofs.YtngeabphjdfdgaaDoor.P
open Go.RowKit Go.MuLone Go.Proofs.YtngeabphjdfdgaaDoor.W
set_option maxHeartbeats 6400000 in
theorem l_stops (w : World) (hT : PT w) (hF : FT w) (oa ov oc : Option Addr) (na ca nv cv nc cc ba fa bv fv bc fc : Nat) (A V C : Nat → Int) (H : HS) (ok : H.ok)
    (hla : na ≤ 9223372036854775807) (hlv : nv ≤ 9223372036854775807) (hlc : nc ≤ 9223372036854775807)
    (ha : 0 < na → oa = some ⟨ba, fa, none⟩ ∧ ba < w.heap.size) (hA : ∀ i, i < na → Go.Proofs.YtngeabphjdfdgaaDoor.P.u64 (A i) ∧ w.cell? ⟨ba, fa + i, none⟩ = some (.int .u64 (A i)))
    (hv : 0 < nv → ov = some ⟨bv, fv, none⟩ ∧ bv < w.heap.size) (hV : ∀ i, i < nv → Go.Proofs.YtngeabphjdfdgaaDoor.P.u64 (V i) ∧ w.cell? ⟨bv, fv + i, none⟩ = some (.int .u64 (V i)))
    (hc : 0 < nc → oc = some ⟨bc, fc, none⟩ ∧ bc < w.heap.size) (hC' : ∀ i, i < nc → u32 (C i) ∧ w.cell? ⟨bc, fc + i, none⟩ = some (.int .u32 (C i))) :
    Calls Tryd.prog 4 #[.agg (wC (.slice oa na ca) (.slice ov nv cv) (.slice oc nc cc) H)] w fun e w' => e = .returned (.bool true) ∧ Gr w w' := by
  have K0 := Lib.hid ((Own.start (Gr.refl w)).alloc stable_emp (.cells (wC (.slice oa na ca) (.slice ov nv cv) (.slice oc nc cc) H) 34))
  have S0 := Lib.hid (stable_star (stable_blk w.heap.size (.cells (wC (.slice oa na ca) (.slice ov nv cv) (.slice oc nc cc) H) 34)) stable_emp)
  have hT1 := hT.gr K0.out.sub
  have hF1 := hF.gr K0.out.sub
  obtain ⟨FS, hFS⟩ : ∃ FS, wrdS (codS C (min nc 64)) A V (min na nv) = FS := ⟨_, rfl⟩
  have CM : RowKit.Hid (∀ w2 : World, Gr w w2 → Calls Tryd.prog 9 #[.agg (wC (.slice oa na ca) (.slice ov nv cv) (.slice oc nc cc) H)] w2 fun e w' => ∃ b rb, e = .returned (.tuple #[.pointer (some ⟨b, 0, none⟩), .pointer (some ⟨rb, 0, none⟩)]) ∧ Own w2 w' (twoA b rb FS emp)) := Lib.hid (fun w2 g => by
    rw [← hFS]
    exact c_made5 w2 oa ov oc na ca nv cv nc cc ba fa bv fv bc fc A V C H hla hlv hlc (fun h => ⟨(ha h).1, Nat.lt_of_lt_of_le (ha h).2 g.size⟩) (fun i h => ⟨(hA i h).1, kcell g (hA i h).2⟩) (fun h => ⟨(hv h).1, Nat.lt_of_lt_of_le (hv h).2 g.size⟩) (fun i h => ⟨(hV i h).1, kcell g (hV i h).2⟩) (fun h => ⟨(hc h).1, Nat.lt_of_lt_of_le (hc h).2 g.size⟩) (fun i h => ⟨(hC' i h).1, kcell g (hC' i h).2⟩))
  clear ha hA hv hV hc hC' hFS
  have HT := Lib.hid hT
  have HF := Lib.hid hF
  clear hT hF
  go_enter Tryd.func4, Tryd.ntmps4
  go_upto_region 1 with fail
  generalize (World.alloc w _) = w1 at *
  generalize w.heap.size = wb at *
  have CS := Lib.hid (l_shown5 w1 hT1 hF1)
  go_upto_region 2 with (go_at_call 8; refine CS.out.mono ?_; rintro e w2 ⟨rfl, g2⟩; have K1 := Lib.hid (K0.out.gr S0.out g2); clear g2)
  clear CS K0 hT1 hF1
  go_upto_region 3 with (first
    | (refine wpList_load_row rfl 34 _ rfl _ rfl 34 _ (0, 0) _ K1.out.blk Tryd.underlying34 rfl (wC_info _ _ _ _) ?_)
    | (go_at_call 9; refine (CM.out _ K1.out.sub).mono ?_; rintro e w3 ⟨b, rb, rfl, h2⟩; have K2' := Lib.hid ((K1.out.under S0.out h2).mono (fun F h => star_assoc h)); clear h2))
  clear CM
  have S1 := Lib.hid (stable_star (stable_star (stable_rm rb 8 FS) stable_emp) S0.out)
  have K2 : RowKit.Hid (Own w w3 (Star (memA b 8 FS) _)) := K2'
  clear K1 K2'
  obtain ⟨G1, hG1⟩ : ∃ G, getV FS 0 2048 = G := ⟨_, rfl⟩
  have HG1 := Lib.hid hG1
  obtain ⟨q1, hq1⟩ : ∃ q, getR FS 0 2048 = q := ⟨_, rfl⟩
  have CG := Lib.hid (o_mget K2.out S1.out 0 2048 q1 ⟨by decide, by decide⟩ (by decide) G1 hG1 hq1)
  clear hG1 hq1
  go_upto_region 4 with (go_at_call 10; refine CG.out.mono ?_; rintro e w4 ⟨rfl, h4⟩; have K4 := Lib.hid h4; clear h4)
  clear CG K2
  obtain ⟨S, hS⟩ : ∃ S, stepF 8 FS 0 H = S := ⟨_, rfl⟩
  have ST := step_stops 8 FS 0 H
  rw [hS] at ST
  have HST := Lib.hid ST
  clear ST
  have C1 := Lib.hid (o_step5 K4.out S1.out HT.out HF.out H ok S hS)
  clear hS
  have I1 := Lib.hid K4.out.right.right.blk
  go_upto_region 5 with (first
    | (refine wpList_load_w rfl _ rfl _ rfl I1.out ?_)
    | (go_at_call 11; refine C1.out.mono ?_; rintro e w5 ⟨rfl, h5⟩; have K5 := Lib.hid h5; clear h5)
    | (refine wpList_store_row rfl 26 _ _ rfl _ _ rfl rfl 26 _ (blk_alloc _ (blk_new _ _)) (hC_info _) rfl (hC_all1 _) ?_; generalize hW : (World.setRow _ _ _) = wa; have Ka := Lib.hid (own_h2e (c1 := hC S.H) hW K5.out (stable_star (stable_mem b 8 S.s) S1.out)); clear hW; generalize w5.heap.size + 1 = e1 at *; generalize w5.heap.size = h1 at *)
    | (refine wpList_store_row rfl 39 _ _ rfl _ _ rfl rfl 39 _ Ka.out.blk (evC_info _) rfl (evC_all1 _) ?_; have Kb := Lib.hid (Ka.out.setRow (stable_star (stable_blk h1 (.cells (hC S.H) 26)) (stable_star (stable_mem b 8 S.s) S1.out)) (evC S.e)); generalize (World.setRow _ _ _) = w6 at *))
  have K6 := Lib.hid (own_turn Kb.out)
  clear Ka Kb C1 K4 K5 I1
  have S6 := Lib.hid (stable_star (stable_blk h1 (.cells (hC S.H) 26)) (stable_star (stable_blk e1 (.cells (evC S.e) 39)) S1.out))
  obtain ⟨G2, hG2⟩ : ∃ G, getV S.s 0 2048 = G := ⟨_, rfl⟩
  have HG2 := Lib.hid hG2
  obtain ⟨q2, hq2⟩ : ∃ q, getR S.s 0 2048 = q := ⟨_, rfl⟩
  have CG := Lib.hid (o_mget K6.out S6.out 0 2048 q2 ⟨by decide, by decide⟩ (by decide) G2 hG2 hq2)
  clear hG2 hq2
  go_upto_region 6 with (go_at_call 10; refine CG.out.mono ?_; rintro e w7 ⟨rfl, h7⟩; have K7 := Lib.hid h7; clear h7)
  clear CG K6
  have SM := Lib.hid (stable_star (stable_mem b 8 S.s) S6.out)
  have I7 := Lib.hid K7.out.right.right.right.right.blk
  go_upto_region 7 with (first
    | (refine wpList_load_w rfl _ rfl _ rfl I7.out ?_)
    | (refine wpList_store_row rfl 26 _ _ rfl _ _ rfl rfl 26 _ (blk_new _ _) (hC_info _) rfl (hC_all1 _) ?_; generalize hW : (World.setRow _ _ _) = w8; have K8 := Lib.hid (own_h1 (c1 := hC H) hW K7.out SM.out); clear hW; generalize w7.heap.size = gb at *))
  clear K7 I7
  have c0 := blk_cell K8.out.blk 0 (hC_x H 0 (by decide))
  have f0 := blk_frozen K8.out.blk 0
  have k9 := K8.out.set SM.out 0 (.int .u64 0)
  rw [hC_setx H 0 0 (by decide)] at k9
  have K9 := Lib.hid k9
  clear k9
  go_upto_region 8 with fail
  generalize World.setCell w8 ⟨gb, 0, none⟩ _ = w9 at *
  clear K8 c0 f0
  rcases HST.out with ⟨⟨k0, e1', e2', e3'⟩ | ⟨k0, hw⟩, hx⟩
  · have y0 := blk_cell K9.out.right.right.right.blk 0 (v := .int .i64 S.e.k) rfl
    have y2 := blk_cell K9.out.right.right.right.blk 2 (v := .bool false) (by rw [← e3']; rfl)
    have hG := HG2.out
    rw [e2', HG1.out] at hG
    subst hG
    have B1 := Lib.hid K9.out.right.right.blk
    rw [e1'] at B1
    have B2 := Lib.hid K9.out.blk
    have eqt := eqH (H.set 0 0)
    have d1 : (S.e.k != 0) = true := by simpa using k0
    have d2 : (S.e.k == 0) = false := by simpa using k0
    have SUB := Lib.hid K9.out.sub
    clear K9 HST hx e1' e2' e3' k0 HG1 HG2 S6 SM S1 S0
    generalize S.e.k = k at *
    go_wp2_with (first
      | (refine wpList_load_g5 (by first | rfl | decide) 26 _ rfl _ rfl 26 _ (0, 0) _ B1.out Tryd.underlying26 rfl (hC_info _) ?_)
      | (refine wpList_load_g5 (by first | rfl | decide) 26 _ rfl _ rfl 26 _ (0, 0) _ B2.out Tryd.underlying26 rfl (hC_info _) ?_))
    go_ret
    exact ⟨rfl, SUB.out⟩
  · have y0 := blk_cell K9.out.right.right.right.blk 0 (v := .int .i64 0) (by rw [← k0]; rfl)
    have x0 := blk_cell K9.out.right.right.blk 0 (v := .int .u64 0) (by rw [← hx]; exact hC_x S.H 0 (by decide))
    have SUB := Lib.hid K9.out.sub
    rcases hw with hw | ⟨e2', e4', e3'⟩
    · have y2 := blk_cell K9.out.right.right.right.blk 2 (v := .bool true) (by rw [← hw]; rfl)
      clear K9 HST hx k0 HG1 HG2 S6 SM S1 S0 hw
      go_wp2_with fail
      go_ret
      exact ⟨rfl, SUB.out⟩
    · have y2 := blk_cell K9.out.right.right.right.blk 2 (v := .bool false) (by rw [← e3']; rfl)
      have y1 := blk_cell K9.out.right.right.right.blk 1 (v := .int .u64 0) (by rw [← e4']; rfl)
      have hG := HG2.out
      rw [e2', HG1.out] at hG
      subst hG
      clear K9 HST hx k0 HG1 HG2 S6 SM S1 S0 e2' e3' e4'
      go_wp2_with fail
      go_ret
      exact ⟨rfl, SUB.out⟩
end Go.Proofs.YtngeabphjdfdgaaDoor.P
