/- Stage 5: HartStays. No condition but what the program's tables hold. -/
import Derived.Test.YtngeabphjdfdgaaDoorJC
import Derived.Test.YtngeabphjdfdgaaDoorJB
import Derived.Deep.LoopGhost
set_option linter.unusedVariables false
set_option linter.unusedSimpArgs false
set_option maxRecDepth 100000
namespace Go.Proofs.YtngeabphjdfdgaaDoor.P
open Go.RowKit Go.MuLone Go.Proofs.YtngeabphjdfdgaaDoor.W
theorem low_see {s : List UInt8} (h : LowT s) : SeeS s s := ⟨h, h, rfl⟩
theorem cod_low (C : Nat → Int) : ∀ k, k ≤ 64 → LowT (codS C k)
  | 0, _ => ⟨pre_len, rfl⟩
  | k + 1, h => by
    have ih := cod_low C k (by omega)
    have hin : (768 + 4 * (k : Int)) + 4 ≤ ((codS C k).length : Int) := by rw [ih.1]; omega
    obtain ⟨e1, e2⟩ := storeS_in (s := codS C k) (768 + 4 * (k : Int)) 4 (C k) (.inr (.inr (.inl rfl))) (by omega) hin
    have t1 : (768 + 4 * (k : Int)).toNat + (bytesF (C k) 4).data.toList.length ≤ (codS C k).length := by rw [e2]; omega
    refine ⟨?_, ?_⟩
    · show (storeS (codS C k) (768 + 4 * (k : Int)) 4 (C k)).length = 2048
      rw [e1, putL_len _ _ _ t1]; exact ih.1
    · show (storeS (codS C k) (768 + 4 * (k : Int)) 4 (C k)).take 768 = _
      rw [e1, put_take_low _ _ _ _ t1 (by omega)]; exact ih.2
theorem low_get0 {s : List UInt8} (h : LowT s) : getV s 0 768 = subB (preS 5) 0 768 := by
  unfold getV
  rw [if_neg (by decide), if_pos (inB_t (by rw [h.1]; decide))]
  exact subB_take h.2 0 768 (by decide)
theorem low_get {s : List UInt8} {G : ByteArray} (h : LowT s) (hg : subB (preS 5) 0 768 = G) : getV s 0 768 = G := (low_get0 h).trans hg
theorem high_get {s z : List UInt8} (h : LowT s) (hd : s.drop 1280 = z.drop 1280 ∧ z.length = 2048) : getV s 1280 768 = getV z 1280 768 := by
  unfold getV
  rw [if_neg (by decide), if_pos (inB_t (by rw [h.1]; decide)), if_neg (by decide), if_pos (inB_t (by rw [hd.2]; decide))]
  show subB s 1280 768 = subB z 1280 768
  unfold subB
  rw [hd.1]
set_option maxHeartbeats 6400000 in
theorem l_stays (w : World) (hT : PT w) (hF : FT w) (oc : Option Addr) (nc cc bc fc : Nat) (C : Nat → Int) (H : HS) (ok : H.ok) (n : Int) (hn : i64 n)
    (hlc : nc ≤ 9223372036854775807)
    (hc : 0 < nc → oc = some ⟨bc, fc, none⟩ ∧ bc < w.heap.size) (hC' : ∀ i, i < nc → u32 (C i) ∧ w.cell? ⟨bc, fc + i, none⟩ = some (.int .u32 (C i))) :
    Calls Tryd.prog 3 #[.slice oc nc cc, .agg (hC H), .int .i64 n] w fun e w' => e = .returned (.bool true) ∧ Gr w w' := by
  have K0 := Lib.hid ((Own.start (Gr.refl w)).alloc stable_emp (.cells (hC H) 26))
  have S0 := Lib.hid (stable_star (stable_blk w.heap.size (.cells (hC H) 26)) stable_emp)
  have hT1 := hT.gr K0.out.sub
  have hF1 := hF.gr K0.out.sub
  obtain ⟨n0, n1⟩ := hn
  have hlow := cod_low C (min nc 64) (by omega)
  obtain ⟨FS, hFS⟩ : ∃ FS, codS C (min nc 64) = FS := ⟨_, rfl⟩
  have LF : RowKit.Hid (LowT FS) := Lib.hid (by rw [← hFS]; exact hlow)
  have CM : RowKit.Hid (∀ w2 : World, Gr w w2 → Calls Tryd.prog 9 #[.agg (wC (.slice none 0 0) (.slice none 0 0) (.slice oc nc cc) HZ)] w2 fun e w' => ∃ b rb, e = .returned (.tuple #[.pointer (some ⟨b, 0, none⟩), .pointer (some ⟨rb, 0, none⟩)]) ∧ Own w2 w' (twoA b rb FS emp)) := Lib.hid (fun w2 g => by
    rw [← hFS]
    exact c_made5 w2 none none oc 0 0 0 0 nc cc 0 0 0 0 bc fc (fun _ => 0) (fun _ => 0) C HZ (by decide) (by decide) hlc (fun h => absurd h (by decide)) (fun i h => absurd h (by omega)) (fun h => absurd h (by decide)) (fun i h => absurd h (by omega)) (fun h => ⟨(hc h).1, Nat.lt_of_lt_of_le (hc h).2 g.size⟩) (fun i h => ⟨(hC' i h).1, kcell g (hC' i h).2⟩))
  clear hc hC' hFS hlow
  have HT := Lib.hid hT
  have HF := Lib.hid hF
  have OK := Lib.hid ok
  clear hT hF ok
  go_enter Tryd.func3, Tryd.ntmps3
  go_upto_region 1 with fail
  generalize (World.alloc w _) = w1 at *
  generalize w.heap.size = hb at *
  have CS := Lib.hid (l_shown5 w1 hT1 hF1)
  go_upto_region 2 with (go_at_call 8; refine CS.out.mono ?_; rintro e w2 ⟨rfl, g2⟩; have K1 := Lib.hid (K0.out.gr S0.out g2); clear g2)
  clear CS K0 hT1 hF1
  go_upto_region 3 with (first
    | (refine wpList_build1 rfl _ _ _ rfl _ rfl _ (built_world _ _ _) ?_)
    | (go_at_call 9; refine (CM.out _ K1.out.sub).mono ?_; rintro e w3 ⟨b, rb, rfl, h2⟩; have K2 := Lib.hid ((K1.out.under S0.out h2).mono (fun F h => star_assoc h)); clear h2))
  clear CM
  obtain ⟨R0, hR0⟩ : ∃ R0, Star (Star (rmA rb 8 FS) emp) emp = R0 := ⟨_, rfl⟩
  have SR : RowKit.Hid (Stable R0) := Lib.hid (by rw [← hR0]; exact stable_star (stable_star (stable_rm rb 8 FS) stable_emp) stable_emp)
  have K3 : RowKit.Hid (Own w w3 (Star (memA b 8 FS) (Star (blkA hb (.cells (hC H) 26)) R0))) := Lib.hid (by rw [← hR0]; exact K2.out.mono (fun F h => star_mono_r (fun F h => star_swap2 h) h))
  clear K1 K2 S0 hR0
  have SH := Lib.hid (stable_star (stable_blk hb (.cells (hC H) 26)) SR.out)
  obtain ⟨G1, hG1⟩ : ∃ G, subB (preS 5) 0 768 = G := ⟨_, rfl⟩
  have HG1 := Lib.hid hG1
  obtain ⟨G2, hG2⟩ : ∃ G, getV FS 1280 768 = G := ⟨_, rfl⟩
  have HG2 := Lib.hid hG2
  obtain ⟨q1, hq1⟩ : ∃ q, getR FS 0 768 = q := ⟨_, rfl⟩
  obtain ⟨q2, hq2⟩ : ∃ q, getR FS 1280 768 = q := ⟨_, rfl⟩
  have CG := Lib.hid (o_mget K3.out SH.out 0 768 q1 ⟨by decide, by decide⟩ (by decide) G1 (low_get LF.out hG1) hq1)
  clear hG1 hq1
  go_upto_region 4 with (go_at_call 10; refine CG.out.mono ?_; rintro e w4 ⟨rfl, h4⟩; have K4 := Lib.hid h4; clear h4)
  clear CG K3
  have CG := Lib.hid (o_mget K4.out SH.out 1280 768 q2 ⟨by decide, by decide⟩ (by decide) G2 hG2 hq2)
  clear hG2 hq2
  go_upto_region 5 with (go_at_call 10; refine CG.out.mono ?_; rintro e w5 ⟨rfl, h5⟩; have K5 := Lib.hid h5; clear h5)
  clear CG K4 SH
  go_wp2_with fail
  go_loopg [14] 201 (fun t v14 wr => ∃ (k : Nat) (s : List UInt8) (H : HS), k ≤ 200 ∧ t = 201 - k ∧ v14 = .int .i64 (k : Int) ∧ H.ok ∧ LowT s ∧ s.drop 1280 = FS.drop 1280 ∧ Own w wr (Star (memA b 8 s) (Star (blkA hb (.cells (hC H) 26)) R0)))
  case atStart => exact ⟨0, FS, H, by decide, by decide, rfl, OK.out, LF.out, rfl, K5.out⟩
  case round =>
    clear K5
    obtain ⟨k, s, H, hk, rfl, rfl, ok, ls, hd, ho⟩ := hrel
    have KE := Lib.hid ho
    have LS := Lib.hid ls
    have OKH := Lib.hid ok
    have HD : RowKit.Hid (s.drop 1280 = FS.drop 1280 ∧ FS.length = 2048) := Lib.hid ⟨hd, LF.out.1⟩
    clear ho ls ok hd
    have SH := Lib.hid (stable_star (stable_blk hb (.cells (hC H) 26)) SR.out)
    have hlt : (¬ (k : Int) < n) ∨ ((k : Int) < n ∧ ¬ (k : Int) < 200) ∨ ((k : Int) < n ∧ (k : Int) < 200) := by omega
    rcases hlt with d1 | ⟨d1, d2⟩ | ⟨d1, d2⟩
    case inl =>
      obtain ⟨q3, hq3⟩ : ∃ q, getR s 0 768 = q := ⟨_, rfl⟩
      obtain ⟨q4, hq4⟩ : ∃ q, getR s 1280 768 = q := ⟨_, rfl⟩
      have CG3 := Lib.hid (o_mget KE.out SH.out 0 768 q3 ⟨by decide, by decide⟩ (by decide) G1 (low_get LS.out HG1.out) hq3)
      clear hq3
      go_upto_region 14 with (go_at_call 10; refine CG3.out.mono ?_; rintro e w8 ⟨rfl, h8⟩; have K8 := Lib.hid h8; have CG4 := Lib.hid (o_mget h8 SH.out 1280 768 q4 ⟨by decide, by decide⟩ (by decide) G2 ((high_get LS.out HD.out).trans HG2.out) hq4); clear h8)
      clear CG3
      go_wp2_with (go_at_call 10; refine CG4.out.mono ?_; rintro e w9 ⟨rfl, h9⟩; have K9 := Lib.hid h9; clear h9)
      go_ret
      exact ⟨rfl, K9.out.sub⟩
    case inr.inl =>
      obtain ⟨q3, hq3⟩ : ∃ q, getR s 0 768 = q := ⟨_, rfl⟩
      obtain ⟨q4, hq4⟩ : ∃ q, getR s 1280 768 = q := ⟨_, rfl⟩
      have CG3 := Lib.hid (o_mget KE.out SH.out 0 768 q3 ⟨by decide, by decide⟩ (by decide) G1 (low_get LS.out HG1.out) hq3)
      clear hq3
      go_upto_region 14 with (go_at_call 10; refine CG3.out.mono ?_; rintro e w8 ⟨rfl, h8⟩; have K8 := Lib.hid h8; have CG4 := Lib.hid (o_mget h8 SH.out 1280 768 q4 ⟨by decide, by decide⟩ (by decide) G2 ((high_get LS.out HD.out).trans HG2.out) hq4); clear h8)
      clear CG3
      go_wp2_with (go_at_call 10; refine CG4.out.mono ?_; rintro e w9 ⟨rfl, h9⟩; have K9 := Lib.hid h9; clear h9)
      go_ret
      exact ⟨rfl, K9.out.sub⟩
    case inr.inr =>
      obtain ⟨S, hS⟩ : ∃ S, stepF 8 s 0 H = S := ⟨_, rfl⟩
      have ST := step_stops 8 s 0 H
      have TW := two_step (low_see LS.out) OKH.out
      have OK2 := step_ok (by decide : 8 ≤ 256) s 0 OKH.out
      rw [hS] at ST TW OK2
      have HST := Lib.hid ST
      have HTW := Lib.hid TW
      have HOK := Lib.hid OK2
      clear ST TW OK2
      have C1 := Lib.hid (o_step5 KE.out SH.out HT.out HF.out H OKH.out S hS)
      clear hS
      have I1 := Lib.hid KE.out.right.blk
      go_upto_region 9 with (first
        | (refine wpList_load_row rfl 26 _ rfl _ rfl 26 _ (0, 0) _ I1.out Tryd.underlying26 rfl (hC_info _) ?_)
        | (go_at_call 11; refine C1.out.mono ?_; rintro e w6 ⟨rfl, h6⟩; have K6 := Lib.hid h6; clear h6)
        | (refine wpList_store_row rfl 26 _ _ rfl _ _ rfl rfl 26 _ (blk_alloc _ (blk_new _ _)) (hC_info _) rfl (hC_all1 _) ?_; generalize hW : (World.setRow _ _ _) = wa; have Ka := Lib.hid (own_h2e (c1 := hC S.H) hW K6.out (stable_star (stable_mem b 8 S.s) SH.out)); clear hW; generalize w6.heap.size + 1 = e1 at *; generalize w6.heap.size = h1 at *)
        | (refine wpList_store_row rfl 39 _ _ rfl _ _ rfl rfl 39 _ Ka.out.blk (evC_info _) rfl (evC_all1 _) ?_; have Kb := Lib.hid (Ka.out.setRow (stable_star (stable_blk h1 (.cells (hC S.H) 26)) (stable_star (stable_mem b 8 S.s) SH.out)) (evC S.e)); generalize (World.setRow _ _ _) = w7 at *))
      have K7 := Lib.hid (own_turn Kb.out)
      clear Ka Kb C1 K6 I1
      have S7 := Lib.hid (stable_star (stable_blk h1 (.cells (hC S.H) 26)) (stable_star (stable_blk e1 (.cells (evC S.e) 39)) SH.out))
      have LS2 := Lib.hid HTW.out.2.2.1.ls
      have HD2 : RowKit.Hid (S.s.drop 1280 = FS.drop 1280 ∧ FS.length = 2048) := Lib.hid ⟨HTW.out.2.2.2.1.trans HD.out.1, HD.out.2⟩
      have x0 := blk_cell K7.out.right.blk 0 (v := .int .u64 0) (by rw [← HST.out.2]; exact hC_x S.H 0 (by decide))
      have y0 := blk_cell K7.out.right.right.blk 0 (v := .int .i64 S.e.k) rfl
      have y1 := blk_cell K7.out.right.right.blk 1 (v := .int .u64 S.e.ad) rfl
      have hwr : S.e.wr = false ∨ (S.e.wr = true ∧ 768 ≤ S.e.ad ∧ S.e.ad < 1280) := by
        cases hw : S.e.wr with
        | false => exact .inl rfl
        | true => exact .inr ⟨rfl, HTW.out.2.2.2.2 hw⟩
      have hkk : S.e.k = 0 ∨ S.e.k ≠ 0 := by omega
      have KH := Lib.hid (K7.out.mono (fun F h => st4 h))
      have SHS := Lib.hid (stable_star (stable_mem b 8 S.s) (stable_star (stable_blk h1 (.cells (hC S.H) 26)) (stable_star (stable_blk e1 (.cells (evC S.e) 39)) SR.out)))
      have I7 := Lib.hid K7.out.right.blk
      have e5 : IntKind.i64.wrap ((k : Int) + 1) = (k : Int) + 1 := by rw [IntKind.wrap_i64]; omega
      clear HST HTW
      obtain ⟨ek, hek⟩ : ∃ q, S.e.k = q := ⟨_, rfl⟩
      obtain ⟨ea, hea⟩ : ∃ q, S.e.ad = q := ⟨_, rfl⟩
      rw [hek] at y0 hkk
      rw [hea] at y1 hwr
      rcases hwr with hw | ⟨hw, w1, w2⟩
      all_goals
        have y2 := blk_cell K7.out.right.right.blk 2 (v := .bool S.e.wr) rfl
        rw [hw] at y2
        clear hw hek hea
        rcases hkk with rfl | hk0
        · go_upto_region 12 with fail
          clear x0 y0 y1 y2
          go_wp2_with (first
            | (refine wpList_load_row rfl 26 _ rfl _ rfl 26 _ (0, 0) _ I7.out Tryd.underlying26 rfl (hC_info _) ?_)
            | (refine wpList_store_row rfl 26 _ _ rfl _ _ rfl rfl 26 _ KH.out.blk (hC_info _) rfl (hC_all1 _) ?_))
          go_roundg (201 - (k + 1))
          case measure => omega
          case rel => exact ⟨k + 1, S.s, S.H, by omega, by omega, by go_num, HOK.out, LS2.out, HD2.out.1, (((KH.out.setRow SHS.out (hC S.H)).mono (fun F h => star_mono_r (fun F h => star_drop2 (star_drop2 h)) h)).swap2)⟩
        · have d3 : (ek != 0) = true := by simpa using hk0
          have d4 : (ek == 0) = false := by simpa using hk0
          obtain ⟨q3, hq3⟩ : ∃ q, getR S.s 0 768 = q := ⟨_, rfl⟩
          obtain ⟨q4, hq4⟩ : ∃ q, getR S.s 1280 768 = q := ⟨_, rfl⟩
          have CG3 := Lib.hid (o_mget K7.out S7.out 0 768 q3 ⟨by decide, by decide⟩ (by decide) G1 (low_get LS2.out HG1.out) hq3)
          clear hq3
          go_upto_region 14 with (go_at_call 10; refine CG3.out.mono ?_; rintro e w8 ⟨rfl, h8⟩; have K8 := Lib.hid h8; have CG4 := Lib.hid (o_mget h8 S7.out 1280 768 q4 ⟨by decide, by decide⟩ (by decide) G2 ((high_get LS2.out HD2.out).trans HG2.out) hq4); clear h8)
          clear CG3
          go_wp2_with (go_at_call 10; refine CG4.out.mono ?_; rintro e w9 ⟨rfl, h9⟩; have K9 := Lib.hid h9; clear h9)
          go_ret
          exact ⟨rfl, K9.out.sub⟩
end Go.Proofs.YtngeabphjdfdgaaDoor.P
