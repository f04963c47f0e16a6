/- Stage 8: Read. No condition. -/
import Derived.Test.YtlpcccpagmipnaaGreatWJ
set_option linter.unusedVariables false
set_option linter.unusedSimpArgs false
set_option maxRecDepth 100000
namespace Go.Proofs.YtlpcccpagmipnaaGreat.P
open Go.RowKit Go.ChangeMaps Go.MapKept
attribute [local go_sem] Oper.semAt_some
section
variable {w0 w : World} {d : Nat} {z : DState} {l ml V D mb : Nat} {st : List (Int × ByteArray)} {n : Nat} {rows : List (Int × ByteArray)} {R Y : Asn}
set_option maxHeartbeats 12800000 in
theorem c_vread (h : Own w0 w (VL d z l ml st V R)) (hs : Stable R) (hz : LI z n) (hst : okSt (n + 32) st) (k : Nat) (hk : k < 32) (off many : Nat) (hoB : off ≤ 9223372036854775807) (hmB : many ≤ 9223372036854775807) (hkd : ¬ (inoV [] z st k).kind = 0)
    (hsz : (inoV [] z st k).size ≤ 2368) (hp : (inoV [] z st k).pl.getD 5 0 < n) (hall : ∀ j, (fileV [] z st (inoV [] z st k)).all.getD j 0 < n) :
    Calls Tryz.prog 33 #[.pointer (some ⟨V, 0, none⟩), .int .i64 (k : Int), .int .i64 (off : Int), .int .i64 (many : Int)] w fun e w' => e = .returned (.tuple #[.string ⟨(rdL (rowV8 [] z st) (fileV [] z st (inoV [] z st k)).all (min off (inoV [] z st k).size) (min many ((inoV [] z st k).size - min off (inoV [] z st k).size))).toArray⟩, .int .i64 0]) ∧ Own w0 w' (VL d z l ml st V R) := by
  have hlo := hz.lo
  have hhi := hz.hi
  have hx6 : (inoV [] z st k).pl.length = 6 := inoV_len [] z st k
  have h37 := fileV_len [] z st hx6
  have hsY : ∀ oB x, Stable (Star (ib oB x) R) := fun oB x => stable_star (stable_blk _ _) hs
  have hsV : ∀ oB x, Stable (Star (volA V l) (Star (ib oB x) R)) := fun oB x => stable_star (stable_blk _ _) (hsY oB x)
  have hsT : ∀ oB y g x P D, Stable (Star (ik g x) (Star (ptA P D) (Star (volA V l) (Star (ib oB y) R)))) := fun oB y g x P D => stable_star (stable_blk _ _) (stable_star (stable_blk _ _) (hsV oB y))
  have H0 : Hid (Own w0 (w.alloc (.cells #[.int .i64 (off : Int)] 3)) (VL d z l ml st V (Star (ib w.heap.size off) R))) := Lib.hid (by
    have h1 := h.alloc (stable_dl _ _ _ _ _ _ (stable_star (stable_blk _ _) hs)) (.cells #[.int .i64 (off : Int)] 3)
    exact (show Own w0 _ (Star (ib w.heap.size off) (Star (dsk d z) (Star (lgA l d ml st false) (Star (volA V l) R)))) from h1).ac (by unfold VL DL; ac_rfl))
  have CT : Hid (∀ wx oB, Own w0 wx (VL d z l ml st V (Star (ib oB off) R)) → Calls Tryz.prog 68 #[.pointer (some ⟨V, 0, none⟩), .int .i64 (k : Int)] wx (TakeP w0 d z l ml st V (Star (ib oB off) R) k)) := Lib.hid (fun wx oB hw => c_take_ok hw (hsY _ _) hz hst k hk hkd)
  unfold TakeP at CT
  rw [minI_of hsz] at CT
  have HT2 : Hid (∀ wx D mb oB, Own w0 wx (VX d z l ml st D mb [] (Star (volA V l) (Star (ib oB off) R))) → _) := Lib.hid (fun wx D mb oB hw => own_take2 hw (hsV oB off) (inoV [] z st k))
  have HM1 := Lib.hid (ino_infoX (inoV [] z st k) hx6)
  have HM2 := Lib.hid (ino_one (inoV [] z st k))
  have HM3 : Hid ((inoL i0).toArray.size = (inoL (inoV [] z st k)).toArray.size) := Lib.hid (by rw [ino_size _ hx6]; rfl)
  have HF1 := Lib.hid (fil_infoX (f := fileV [] z st (inoV [] z st k)) hx6 h37)
  have HF2 := Lib.hid (fil_one (fileV [] z st (inoV [] z st k)))
  have HF3 : Hid ((filL f0).toArray.size = (filL (fileV [] z st (inoV [] z st k))).toArray.size) := Lib.hid (by rw [List.size_toArray, List.size_toArray, fil_len (f := fileV [] z st (inoV [] z st k)) hx6 h37]; rfl)
  have HFX : Hid ((fileV [] z st (inoV [] z st k)).ino.pl.length = 6 ∧ (fileV [] z st (inoV [] z st k)).all.length = 37) := Lib.hid ⟨hx6, h37⟩
  -- the first byte, and how many
  generalize ho1 : min off (inoV [] z st k).size = o1 at *
  generalize hm1 : min many ((inoV [] z st k).size - o1) = m1 at *
  have ho2 : o1 ≤ (inoV [] z st k).size := by omega
  have hm2 : o1 + m1 ≤ (inoV [] z st k).size := by omega
  obtain ⟨en, hen⟩ : ∃ en, o1 + m1 = en := ⟨_, rfl⟩
  have hend : en ≤ 2368 := by omega
  have f1 : min (off : Int) ((inoV [] z st k).size : Int) = (o1 : Int) := by omega
  have f2 : ((inoV [] z st k).size : Int) - (o1 : Int) = (((inoV [] z st k).size - o1 : Nat) : Int) := by omega
  have f3 : min (many : Int) (((inoV [] z st k).size - o1 : Nat) : Int) = (m1 : Int) := by omega
  have f4 : (o1 : Int) + (m1 : Int) = (en : Int) := by omega
  have f5 : IntKind.i64.wrap (((inoV [] z st k).size - o1 : Nat) : Int) = (((inoV [] z st k).size - o1 : Nat) : Int) := IntWalk.i64_in _ (by omega)
  have f6 : IntKind.i64.wrap (en : Int) = (en : Int) := IntWalk.i64_in _ (by omega)
  have HEN := Lib.hid hen
  clear hm1 ho1
  have CC3 : Hid (∀ wx D mb oB y g P, Own w0 wx (VX d z l ml st D mb [] (Star (ik g (inoV [] z st k)) (Star (ptA P D) (Star (volA V l) (Star (ib oB y) R))))) → wx.cell? ⟨g, 2, none⟩ = some (.int .i64 ((inoV [] z st k).size : Int)) ∧ wx.cell? ⟨oB, 0, none⟩ = some (.int .i64 (y : Int)) ∧ wx.frozen? ⟨oB, 0, none⟩ = false ∧ Own w0 (wx.setCell ⟨oB, 0, none⟩ (.int .i64 (o1 : Int))) (VX d z l ml st D mb [] (Star (ik g (inoV [] z st k)) (Star (ptA P D) (Star (volA V l) (Star (ib oB o1) R)))))) := Lib.hid (fun wx D mb oB y g P hw => by
    have h1 := hw.right.right.right.right
    refine ⟨blk_cell h1.blk 2 rfl, blk_cell h1.right.right.right.blk 0 rfl, blk_frozen h1.right.right.right.blk 0, ?_⟩
    have h2 : Own w0 wx (Star (ib oB y) (VX d z l ml st D mb [] (Star (ik g (inoV [] z st k)) (Star (ptA P D) (Star (volA V l) R))))) := hw.ac (by unfold VX DL; ac_rfl)
    have h3 := h2.put8 (stable_vx (stable_star (stable_blk _ _) (stable_star (stable_blk _ _) (stable_star (stable_blk _ _) hs)))) 0 (.int .i64 (o1 : Int)) #[.int .i64 (o1 : Int)] rfl
    exact (show Own w0 _ (Star (ib oB o1) (VX d z l ml st D mb [] (Star (ik g (inoV [] z st k)) (Star (ptA P D) (Star (volA V l) R))))) from h3).ac (by unfold VX DL; ac_rfl))
  -- the end's box
  have HB4 : Hid (∀ wx D mb oB g P, Own w0 wx (VX d z l ml st D mb [] (Star (ik g (inoV [] z st k)) (Star (ptA P D) (Star (volA V l) (Star (ib oB o1) R))))) → Own w0 (wx.alloc (.cells #[.int .i64 (en : Int)] 3)) (VX d z l ml st D mb [] (Star (ib wx.heap.size en) (Star (ik g (inoV [] z st k)) (Star (ptA P D) (Star (volA V l) (Star (ib oB o1) R))))))) := Lib.hid (fun wx D mb oB g P hw => hw.box4 (stable_vx (hsT _ _ _ _ _ _)) _)
  have CC4 : Hid (∀ wx D mb oB g P eB, Own w0 wx (VX d z l ml st D mb [] (Star (ib eB en) (Star (ik g (inoV [] z st k)) (Star (ptA P D) (Star (volA V l) (Star (ib oB o1) R)))))) → wx.cell? ⟨P, 0, none⟩ = some (.pointer (some ⟨D, 0, none⟩)) ∧ wx.heap[g]? = some (.cells (inoL (inoV [] z st k)).toArray 132) ∧ Calls Tryz.prog 70 #[.pointer (some ⟨D, 0, none⟩), .agg (inoL (inoV [] z st k)).toArray] wx fun e w' => e = .returned (.agg (filL (fileV [] z st (inoV [] z st k))).toArray) ∧ Own w0 w' (VX d z l ml st D mb [] (Star (ib eB en) (Star (ik g (inoV [] z st k)) (Star (ptA P D) (Star (volA V l) (Star (ib oB o1) R))))))) := Lib.hid (fun wx D mb oB g P eB hw => by
    have h1 := hw.right.right.right.right
    exact ⟨blk_cell h1.right.right.blk 0 rfl, h1.right.blk, c_vfile hw (stable_star (stable_blk _ _) (hsT _ _ _ _ _ _)) hz hst _ hx6 hp⟩)
  -- the file's box, and that of what comes out
  have HB5 : Hid (∀ wx D mb oB g P eB, Own w0 wx (VX d z l ml st D mb [] (Star (ib eB en) (Star (ik g (inoV [] z st k)) (Star (ptA P D) (Star (volA V l) (Star (ib oB o1) R)))))) → (wx.alloc (.cells (filL f0).toArray 137)).heap[wx.heap.size]? = some (.cells (filL f0).toArray 137) ∧ Own w0 ((wx.alloc (.cells (filL f0).toArray 137)).setRow wx.heap.size (filL (fileV [] z st (inoV [] z st k))).toArray) (VX d z l ml st D mb [] (Star (fk wx.heap.size (fileV [] z st (inoV [] z st k))) (Star (ib eB en) (Star (ik g (inoV [] z st k)) (Star (ptA P D) (Star (volA V l) (Star (ib oB o1) R)))))))) := Lib.hid (fun wx D mb oB g P eB hw => own_fil hw (stable_star (stable_blk _ _) (hsT _ _ _ _ _ _)) _)
  have HB6 : Hid (∀ wx D mb Y', Stable Y' → Own w0 wx (VX d z l ml st D mb [] Y') → Own w0 (wx.alloc (.cells #[.slice none 0 0] 87)) (VX d z l ml st D mb [] (Star (outA wx.heap.size []) Y'))) := Lib.hid (fun wx D mb Y' hY' hw => by
    have h1 := hw.box4 (stable_vx hY') (.cells #[.slice none 0 0] 87)
    have h2 := h1.add (A := byA none 0 []) (stable_vx (stable_star (stable_blk _ _) hY')) (Gr.refl _) ⟨fun _ => False, ⟨⟨rfl, .inl ⟨rfl, rfl⟩⟩, fun b hb => by cases hb⟩, fun _ h => h.elim⟩
    have h3 : Own w0 (wx.alloc (.cells #[.slice none 0 0] 87)) (Star (blkA wx.heap.size (.cells #[.slice none ([] : List UInt8).length 0] 87)) (Star (byA none 0 []) (VX d z l ml st D mb [] Y'))) := (show Own w0 _ (Star (byA none 0 []) (VX d z l ml st D mb [] (Star (blkA wx.heap.size (.cells #[.slice none ([] : List UInt8).length 0] 87)) Y'))) from h2).ac (by unfold VX DL; ac_rfl)
    exact h3.outShut.ac (by unfold VX DL; ac_rfl))
  have n1 : ¬ (off : Int) < 0 := by omega
  have n2 : ¬ (many : Int) < 0 := by omega
  refine (callsIn_wide (n := 3)).1 (callsIn_of_wp_marks Tryz.func33 rfl trivial (wpIn_wide.2 ?_) rfl)
  simp only [Tryz.ntmps33, List.size_toArray, List.length_cons, List.length_nil, Nat.reduceAdd, Nat.reduceSub, Array.replicate_succ, Array.replicate_zero, List.push_toArray, List.append_toArray, List.nil_append, List.cons_append]
  clear h
  generalize fileV [] z st (inoV [] z st k) = FF at *
  generalize inoV [] z st k = X at *
  generalize X.size - o1 = xs at *
  go_upto_region 1 with fail
  generalize (World.alloc w _) = w1 at H0 ⊢
  generalize w.heap.size = oB at H0 ⊢
  go_upto_region 2 with (first
    | (go_at_call 68; refine (CT.out _ _ H0.out).mono ?_; rintro e w2 ⟨D, mb, rfl, h2⟩; have H2 := Lib.hid h2; clear h2)
    | (refine wpList_alloc_blk rfl 132 (inoL i0).toArray rfl (ino_zero _) ?_)
    | (refine wpList_store_row rfl _ _ _ rfl (w2.heap.size + 1) (inoL X).toArray rfl rfl _ _ (HT2.out _ _ _ _ H2.out).1 HM1.out HM3.out HM2.out ?_))
  have H3 := Lib.hid (HT2.out _ _ _ _ H2.out).2
  clear HT2 CT H2
  generalize (World.setRow _ _ _) = w3 at *
  generalize w2.heap.size = P at *
  generalize P + 1 = g at *
  obtain ⟨a1, a2, a3, a4⟩ := CC3.out _ _ _ _ _ _ _ H3.out
  have H3b := Lib.hid a4
  clear a4
  go_upto_region 7 with fail
  clear a1 a2 a3 H3
  generalize (World.setCell _ _ _) = w3 at *
  obtain ⟨a1, a2, _, _⟩ := CC3.out _ _ _ _ _ _ _ H3b.out
  have H4 := Lib.hid (HB4.out _ _ _ _ _ _ H3b.out)
  clear HB4 CC3
  go_upto_region 8 with fail
  generalize (World.alloc w3 _) = w4 at *
  generalize w3.heap.size = eB at *
  clear a1 a2 H3b
  obtain ⟨b2, b3, b5⟩ := CC4.out _ _ _ _ _ _ _ H4.out
  have B5 := Lib.hid b5
  clear b5 CC4
  go_upto_region 9 with (first
    | (refine wpList_load_row rfl _ _ rfl g rfl _ (inoL X).toArray (0, 0) _ b3 Tryz.underlying132 rfl HM1.out ?_)
    | (go_at_call 70; refine B5.out.mono ?_; rintro e w5 ⟨rfl, h5⟩; have H5 := Lib.hid h5; clear h5)
    | (refine wpList_alloc_blk rfl 137 (filL f0).toArray rfl (fil_zero _) ?_)
    | (refine wpList_store_row rfl _ _ _ rfl w5.heap.size (filL FF).toArray rfl rfl _ _ (HB5.out _ _ _ _ _ _ _ H5.out).1 HF1.out HF3.out HF2.out ?_))
  have H6 := Lib.hid (HB5.out _ _ _ _ _ _ _ H5.out).2
  clear HB5 B5 b2 b3
  generalize (World.setRow _ _ _) = w6 at *
  generalize w5.heap.size = G at *
  clear H5
  have hGx : FF.ino.pl.length = 6 := HFX.out.1
  have hG37 : FF.all.length = 37 := HFX.out.2
  obtain ⟨X8, hX8⟩ : ∃ X8 : Asn, X8 = Star (fk G FF) (Star (ib eB en) (Star (ik g X) (Star (ptA P D) (Star (volA V l) (Star (ib oB o1) R))))) := ⟨_, rfl⟩
  rw [← hX8] at H6
  have hsX8 : Stable X8 := by rw [hX8]; exact stable_star (stable_blk _ _) (stable_star (stable_blk _ _) (hsT _ _ _ _ _ _))
  have H7 := Lib.hid (HB6.out _ _ _ _ hsX8 H6.out)
  clear HB6
  go_upto_region 10 with fail
  generalize (World.alloc w6 _) = w7 at *
  generalize w6.heap.size = kB at *
  clear H6
  have CX8 : Hid (∀ wx Y', Own w0 wx (VX d z l ml st D mb [] (Star X8 Y')) → wx.cell? ⟨P, 0, none⟩ = some (.pointer (some ⟨D, 0, none⟩)) ∧ wx.cell? ⟨eB, 0, none⟩ = some (.int .i64 (en : Int)) ∧ wx.cell? ⟨oB, 0, none⟩ = some (.int .i64 (o1 : Int)) ∧ wx.cell? ⟨D, 2, none⟩ = some (.int .i64 0) ∧ wx.heap[G]? = some (.cells (filL FF).toArray 137)) := Lib.hid (fun wx Y' hw => by
    have h1 := hw.right.right.right.right.left
    rw [hX8] at h1
    exact ⟨blk_cell h1.right.right.right.blk 0 rfl, blk_cell h1.right.blk 0 rfl, blk_cell h1.right.right.right.right.right.blk 0 rfl, blk_cell (vx_map hw).1 2 rfl, h1.blk⟩)
  obtain ⟨d1, d2, d3, _, d6⟩ := CX8.out _ _ (H7.out.ac (by unfold VX DL; ac_rfl : VX d z l ml st D mb [] (Star (outA kB []) X8) = VX d z l ml st D mb [] (Star X8 (outA kB []))))
  have CSC := Lib.hid (c_fsec H7.out (stable_vx (stable_star (stable_out _ _) hsX8)) FF o1 en)
  unfold SecP at CSC
  go_upto_block 0 with (first
    | (refine wpList_load_row rfl _ _ rfl G rfl _ (filL FF).toArray (0, 0) _ d6 Tryz.underlying137 rfl HF1.out ?_)
    | (go_at_call 71; refine CSC.out.mono ?_; rintro e w9 ⟨OB, EB, FB, rfl, h9⟩; have H9 := Lib.hid h9; clear h9))
  clear d1 d2 d3 d6 CSC H7
  refine wp_block ?_
  have h9s : Own w0 w9 (Star (secA OB EB FB o1 en FF) (VX d z l ml st D mb [] (Star (outA kB (rdL (rowV8 [] z st) FF.all o1 (min (64 * (o1 / 64 + 0)) en - o1))) X8))) := by
    have e0 : min (64 * (o1 / 64 + 0)) en - o1 = 0 := by omega
    rw [e0]
    exact H9.out
  clear H9
  refine (wpIn_wide (n := 3)).1 (wpIn_rangeFunc_N (Bx := secA OB EB FB o1 en FF) (N := cntN en - o1 / 64) (w0 := w0) (enc := encS FF o1) (sectors_seq hGx hG37 (by omega) (by omega)) rfl (enters_of Tryz.func105 (by kernel_rfl) rfl) (fun _ => rfl) (stable_sec _ _ _ _ _ _) (fun j => VX d z l ml st D mb [] (Star (outA kB (rdL (rowV8 [] z st) FF.all o1 (min (64 * (o1 / 64 + j)) en - o1))) X8)) (fun j => stable_vx (stable_star (stable_out _ _) hsX8)) (fun _ _ => falseA) (fun _ _ => stable_false) h9s ?round ?done ?stop)
  case stop =>
    intro D9 c9 k9 W9 hk9 h9
    obtain ⟨F, hF⟩ := h9.right.right.get
    exact hF.elim
  case done =>
    intro D9 W9 h9
    have e9 : min (64 * (o1 / 64 + (cntN en - o1 / 64))) en - o1 = m1 := by have := HEN.out; unfold cntN; omega
    rw [e9] at h9
    have hl9 := rdL_len (rowV8 [] z st) FF.all o1 m1
    generalize hbb : rdL (rowV8 [] z st) FF.all o1 m1 = bb at *
    have HBB := Lib.hid hbb
    clear hbb e9
    have h9a : Own w0 W9 (VX d z l ml st D mb [] (Star X8 (Star (outA kB bb) (Star (secA OB EB FB o1 en FF) (defA D9))))) := h9.ac (by unfold VX DL; ac_rfl)
    obtain ⟨g1, _, _, g4, _⟩ := CX8.out _ _ h9a
    have h9b : Own w0 W9 (Star (outA kB bb) (Star (defA D9) (Star (secA OB EB FB o1 en FF) (VX d z l ml st D mb [] X8)))) := h9.ac (by unfold VX DL; ac_rfl)
    obtain ⟨ov, oc, h9c⟩ := h9b.outOpen
    have k1 := blk_cell h9c.blk 0 (v := .slice ov bb.length oc) rfl
    have hcv := conv_row h9c.right.row
    rw [hl9] at hcv k1
    clear hl9
    have HD9 := Lib.hid (h9c.right.right : Own w0 W9 (Star (defA D9) (Star (secA OB EB FB o1 en FF) (VX d z l ml st D mb [] X8))))
    clear h9 h9a h9b h9c
    go_wp2_with fail
    refine ⟨by simp, .inl ⟨_, _, rfl, run_takeDeferred HD9.out.blk, ?_⟩⟩
    have hb2 := (HD9.out.putO (stable_star (stable_sec _ _ _ _ _ _) (stable_vx hsX8)) (.deferred none)).right
    rw [hX8] at hb2
    have hb3 : Own w0 (W9.putObj D9 (.deferred none)) (Star (Star (secA OB EB FB o1 en FF) (Star (drB D l (.map (some mb))) (Star (bmA mb []) (Star (fk G FF) (Star (ib eB en) (Star (ik g X) (Star (ptA P D) (ib oB o1)))))))) (VL d z l ml st V R)) := hb2.ac (by unfold VX VL DL; ac_rfl)
    refine ⟨_, results_tmp2 rfl _ _ _, ?_⟩
    rw [HBB.out]
    exact ⟨rfl, hb3.right⟩
  case round =>
    intro lp j W Rr hRr hj ho
    have hi9 := hall (o1 / 64 + j)
    have hp9 : o1 / 64 + j < cntN en := by omega
    have hp7 : o1 / 64 + j < 37 := by have := cnt_le en hend; omega
    have hst9 : rdL (rowV8 [] z st) FF.all o1 (min (64 * (o1 / 64 + (j + 1))) en - o1) = rdL (rowV8 [] z st) FF.all o1 (min (64 * (o1 / 64 + j)) en - o1) ++ ((rowL [] z st (FF.all.getD (o1 / 64 + j) 0)).drop (o1 - 64 * (o1 / 64 + j))).take (min (en - 64 * (o1 / 64 + j)) 64 - (o1 - 64 * (o1 / 64 + j))) := by
      have hl : (rowV8 [] z st (FF.all.getD (o1 / 64 + j) 0)).length = 64 := (rowL_len (show Own w0 W (VX d z l ml st D mb [] (Star (Star (outA kB _) X8) (Star (secA OB EB FB o1 en FF) Rr))) from ho.ac (by unfold VX DL; ac_rfl)) hz hst hi9).1
      have := HEN.out
      exact (rdL_step hl (by omega) (by unfold cntN at hp9; omega) (by omega)).symm
    obtain ⟨iv, hiv⟩ : ∃ iv, FF.all.getD (o1 / 64 + j) 0 = iv := ⟨_, rfl⟩
    obtain ⟨p, hpp⟩ : ∃ p, o1 / 64 + j = p := ⟨_, rfl⟩
    unfold encS
    have hlen0 := rdL_len (rowV8 [] z st) FF.all o1 (min (64 * (o1 / 64 + j)) en - o1)
    have hlb : min (64 * (o1 / 64 + j)) en - o1 ≤ 2368 := by omega
    generalize rdL (rowV8 [] z st) FF.all o1 (min (64 * (o1 / 64 + j)) en - o1) = bs at *
    rw [hst9]
    rw [hiv, hpp]
    have HIV := Lib.hid hiv
    have HPP := Lib.hid hpp
    have hbl : bs.length ≤ 2368 := by omega
    rw [hiv] at hi9
    rw [hpp] at hp9 hp7
    clear hiv hpp hj hst9 hlen0 hlb
    gi_wp2
    refine ⟨_, stable_vx (stable_star (stable_out _ _) hsX8), ho, ?_⟩
    intro W2 R2 hR2 ho2
    clear ho W
    have hv : Own w0 W2 (VX d z l ml st D mb [] (Star X8 (Star (outA kB bs) (Star (secA OB EB FB o1 en FF) R2)))) := ho2.ac (by unfold VX DL; ac_rfl)
    have hsZ : Stable (Star X8 (Star (outA kB bs) (Star (secA OB EB FB o1 en FF) R2))) := stable_star hsX8 (stable_star (stable_out _ _) (stable_star (stable_sec _ _ _ _ _ _) hR2))
    obtain ⟨q1, q2, q3, _, _⟩ := CX8.out _ _ hv
    have hl64 : (rowL [] z st iv).length = 64 := (rowL_len hv hz hst hi9).1
    have CGT := Lib.hid (c_vget hv hsZ hz hst iv hi9)
    have HSR : Hid (∀ wx, Own w0 wx (VX d z l ml st D mb [] (Star X8 (Star (outA kB bs) (Star (secA OB EB FB o1 en FF) R2)))) → (wx.alloc (.cells (bcL zL) 83)).heap[wx.heap.size]? = some (.cells (bcL zL) 83) ∧ Own w0 ((wx.alloc (.cells (bcL zL) 83)).setRow wx.heap.size (bcL (rowL [] z st iv))) (VX d z l ml st D mb [] (Star (bk wx.heap.size (rowL [] z st iv)) (Star X8 (Star (outA kB bs) (Star (secA OB EB FB o1 en FF) R2)))))) := Lib.hid (fun wx hw => ⟨blk_new _ _, ((hw.box4 (stable_vx hsZ) (.cells (bcL zL) 83)).out4.setRow (stable_vx hsZ) _).in4⟩)
    have HC1 := Lib.hid (bc_info _ hl64)
    have HC2 := Lib.hid (bcL_all1 (rowL [] z st iv))
    have HC3 : Hid ((bcL zL).size = (bcL (rowL [] z st iv)).size) := Lib.hid (by rw [bcL_size, bcL_size, hl64]; rfl)
    generalize rowL [] z st iv = L at *
    refine wpIn_block ?_
    refine wpIn_seq ?_
    refine region_round (by rintro ⟨a, w, h⟩; exact h) rfl ?_
    go_simp
    go_wp2_with (first
      | (go_at_call 72; refine CGT.out.mono ?_; rintro e w4 ⟨rfl, h4⟩; have H4 := Lib.hid h4; have H5 := Lib.hid (HSR.out _ h4).2; clear h4)
      | (refine wpList_alloc_blk rfl 83 (bcL zL) rfl (blk_zero _) ?_)
      | (refine wpList_store_row rfl _ _ _ rfl w4.heap.size (bcL L) rfl rfl _ _ (HSR.out _ H4.out).1 HC1.out HC3.out HC2.out ?_))
    clear H4 CGT HSR HC1 HC2 HC3 q1 q2 q3 hv ho2
    generalize World.setRow _ _ _ = w5 at *
    generalize w4.heap.size = g9 at *
    have H5b : Hid (Own w0 w5 (VX d z l ml st D mb [] (Star X8 (Star (bk g9 L) (Star (outA kB bs) (Star (secA OB EB FB o1 en FF) R2)))))) := Lib.hid (H5.out.ac (by unfold VX DL; ac_rfl))
    obtain ⟨q1, q2, q3, _, _⟩ := CX8.out _ _ H5b.out
    have hpc : 64 * p < en := by unfold cntN at hp9; omega
    have hop : o1 < 64 * p + 64 := by have := HPP.out; omega
    have hfr : max ((o1 : Int) - (p : Int) * 64) 0 = ((o1 - 64 * p : Nat) : Int) := by omega
    have hto : min ((en : Int) - (p : Int) * 64) 64 = ((min (en - 64 * p) 64 : Nat) : Int) := by omega
    have hoe : o1 ≤ en := by have := HEN.out; omega
    have CIN : Hid (∀ wx, Calls Tryz.prog 73 #[.int .i64 (p : Int), .int .i64 (o1 : Int), .int .i64 (en : Int)] wx fun e w' => e = .returned (.tuple #[.int .i64 ((o1 - 64 * p : Nat) : Int), .int .i64 ((min (en - 64 * p) 64 : Nat) : Int)]) ∧ w' = wx) := Lib.hid (fun wx => by
      have := c_inside p o1 en (by omega) (by omega) (by omega) wx
      rw [hfr, hto] at this
      exact this)
    have k1 : o1 - 64 * p ≤ min (en - 64 * p) 64 := by omega
    have k10 : ¬ 64 = o1 - 64 * p := by omega
    have k2 : min (en - 64 * p) 64 ≤ 64 := Nat.min_le_right _ _
    clear hfr hto
    generalize o1 - 64 * p = fr at *
    generalize min (en - 64 * p) 64 = tt at *
    refine wpIn_seq ?_
    refine region_round (by rintro ⟨a, w, h⟩; exact h) rfl ?_
    go_wp2_with (go_at_call 73; refine (CIN.out _).mono ?_; rintro e w' ⟨rfl, hw'⟩; rw [hw']; clear hw' w')
    clear q1 q2 q3 CIN
    have hsQ : Stable (VX d z l ml st D mb [] (Star X8 (Star (bk g9 L) (Star (secA OB EB FB o1 en FF) R2)))) := stable_vx (stable_star hsX8 (stable_star (stable_blk _ _) (stable_star (stable_sec _ _ _ _ _ _) hR2)))
    have h6 : Own w0 w5 (Star (outA kB bs) (VX d z l ml st D mb [] (Star X8 (Star (bk g9 L) (Star (secA OB EB FB o1 en FF) R2))))) := H5.out.ac (by unfold VX DL; ac_rfl)
    obtain ⟨ov, oc, h6b⟩ := h6.outOpen
    have H6 := Lib.hid (h6b.drew (stable_star (stable_blk _ _) (stable_star (stable_row _ _ _ _ _) hsQ)))
    have c5 := blk_cell h6b.blk 0 (v := .slice ov bs.length oc) rfl
    have c6 : w5.drew.cell? ⟨kB, 0, none⟩ = some (.slice ov bs.length oc) := c5
    have hg9 : w5.drew.heap[g9]? = some (.cells (bcL L) 83) := by
      have h7 : Own w0 w5.drew (Star (bk g9 L) (Star (Star (blkA kB (.cells #[.slice ov bs.length oc] 87)) (byA ov oc bs)) (VX d z l ml st D mb [] (Star X8 (Star (secA OB EB FB o1 en FF) R2))))) := H6.out.ac (by unfold VX DL; ac_rfl)
      exact h7.blk
    have k5 : (fr : Int) ≤ (tt : Int) := by omega
    have k6 : (tt : Int) ≤ 64 := by omega
    have k9 : (0 : Int) ≤ (fr : Int) := by omega
    have HG9 := Lib.hid hg9
    clear h6 h6b H5 H5b hg9
    have HROW := Lib.hid H6.out.right.row
    obtain ⟨i0', hi0, hz0, hz1, hz2⟩ := info_parts u8Info8
    refine still_tail_round 4 (by rintro ⟨a, w, h⟩; exact h) rfl (by kernel_rfl) (by kernel_rfl) ?_
    simp only [List.take_succ_cons, List.take_zero, List.drop_succ_cons, List.drop_zero]
    repeat still_step
    refine wpStill_nil ?_
    have hsR : Stable (Star (blkA kB (.cells #[.slice ov bs.length oc] 87)) (VX d z l ml st D mb [] (Star X8 (Star (bk g9 L) (Star (secA OB EB FB o1 en FF) R2))))) := stable_star (stable_blk _ _) hsQ
    have hpl : ((L.drop fr).take (tt - fr)).length = tt - fr := by rw [List.length_take, List.length_drop, hl64]; omega
    have hFIN : Hid (∀ (wx : World) (ls : List UInt8), ls = bs ++ (L.drop fr).take (tt - fr) → Own w0 wx (Star (outA kB ls) (VX d z l ml st D mb [] (Star X8 (Star (bk g9 L) (Star (secA OB EB FB o1 en FF) R2))))) → Own w0 wx (Star (secA OB EB FB o1 en FF) (Star (VX d z l ml st D mb [] (Star (outA kB (bs ++ (L.drop fr).take (tt - fr))) (Star (fk G FF) (Star (ib eB en) (Star (ik g X) (Star (ptA P D) (Star (volA V l) (Star (ib oB o1) R)))))))) R2))) := Lib.hid (fun wx ls hls hw => by
      rw [hls] at hw
      have h1 : Own w0 wx (Star (bk g9 L) (Star (secA OB EB FB o1 en FF) (Star (VX d z l ml st D mb [] (Star (outA kB (bs ++ (L.drop fr).take (tt - fr))) X8)) R2))) := hw.ac (by unfold VX DL; ac_rfl)
      have h2 := h1.right
      rw [hX8] at h2
      exact h2)
    generalize hpc9 : (L.drop fr).take (tt - fr) = pc at *
    by_cases hm : tt - fr = 0
    · have hpn : pc = [] := List.length_eq_zero_iff.1 (by omega)
      have hre : (Builtin.append_ #[87, 87] 87 #[.slice ov bs.length oc, .slice (some ⟨g9, fr, none⟩) (tt - fr) (64 - fr)]).run Tryz.prog w5.drew = .ok (.slice ov bs.length oc) w5.drew := by
        rw [hm]
        exact run_append_empty8 _ _ _ 5 i0' Tryz.underlying87 hi0 _ bs.length (Lib.byteCells bs) 1 HROW.out _ _
      refine wpList_append_run rfl _ _ _ rfl (.slice ov bs.length oc) (.slice (some ⟨g9, fr, none⟩) (tt - fr) (64 - fr)) _ _ (by kernel_rfl) (by kernel_rfl) hre ?_
      have z6 := blk_frozen H6.out.blk 0
      have H8 := Lib.hid (H6.out.put8 (stable_star (stable_row _ _ _ _ _) hsQ) 0 (.slice ov bs.length oc) #[.slice ov bs.length oc] rfl)
      have HBS : Hid (bs = bs ++ pc) := Lib.hid (by rw [hpn, List.append_nil])
      clear hre HROW hpn hpl hm hpc9
      generalize w5.drew = w6 at *
      go_simp
      go_wp2_with fail
      exact hFIN.out _ bs HBS.out H8.out.outShut
    · have hb1 : bs.length + (tt - fr) ≤ 3000 := by omega
      have hnew : ∀ j u, (Lib.byteCells pc)[j]? = some u → w5.drew.cell? ((⟨g9, fr, none⟩ : Addr).add j) = some u := fun j u hu => by
        rw [Addr.add_lit]
        rw [← hpc9] at hu
        unfold Lib.byteCells at hu
        rw [List.map_take, List.map_drop] at hu
        have h1 : (bcL L)[fr + j]? = some u := by
          unfold bcL Lib.byteCells
          rw [List.getElem?_toArray]
          by_cases hj : j < tt - fr
          · rw [List.getElem?_take_of_lt hj, List.getElem?_drop] at hu
            exact hu
          · rw [List.getElem?_eq_none (by rw [List.length_take]; omega)] at hu
            cases hu
        exact blk_cell HG9.out (fr + j) h1
      refine wpList_append_lies w5.drew rfl _ _ _ rfl 0 5 i0' (.int .u8 0) 1 1 Tryz.underlying87 hi0 hz0 hz1 hz2 rfl (by omega) (.slice ov bs.length oc) bs.length (Lib.byteCells bs) (by kernel_rfl) HROW.out ⟨g9, fr, none⟩ (tt - fr) (64 - fr) (Lib.byteCells pc) (by kernel_rfl) (by rw [Lib.byteCells_length, hpl, Nat.mul_one]) hnew (bc_one _) (by omega) (by unfold maxLen; omega) (by omega) (by omega) w5.drew.heap.size rfl ?_
      intro g2 cap2 w8 hown8 hgrow8 hat8 hlt8
      have h9 := H6.out.swap2.grown (g := g2) hsR hown8 rfl hgrow8 (hat8.elim .inl (fun e => .inr (by omega))) hlt8
      rw [← Lib.byteCells_append] at h9
      have hll : bs.length + (tt - fr) = (bs ++ pc).length := by rw [List.length_append, hpl]
      rw [hll] at h9
      rw [hll]
      have HL9 := Lib.hid hll
      have c8 := blk_cell h9.right.blk 0 (v := .slice ov bs.length oc) rfl
      have z8 := blk_frozen h9.right.blk 0
      have H8 := Lib.hid (h9.swap2.put8 (stable_star (stable_row _ _ _ _ _) hsQ) 0 (.slice (some ⟨g2, 0, none⟩) (bs ++ pc).length cap2) #[.slice (some ⟨g2, 0, none⟩) (bs ++ pc).length cap2] rfl)
      have hF := Lib.hid (hFIN.out _ (bs ++ pc) rfl H8.out.outShut)
      clear h9 hown8 hgrow8 hat8 hlt8 HROW H6 H8 c5 c6 hnew hll hpl hb1 hpc9 hm hFIN
      generalize bs ++ pc = bq at *
      generalize bq.length = bl at *
      go_simp
      go_wp2_with fail
      exact hF.out
end
end Go.Proofs.YtlpcccpagmipnaaGreat.P
