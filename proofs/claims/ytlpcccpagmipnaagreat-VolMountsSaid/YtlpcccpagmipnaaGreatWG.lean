/- Stage 8: Write. No condition. -/
import Derived.Test.YtlpcccpagmipnaaGreatWF
set_option linter.unusedVariables false
set_option linter.unusedSimpArgs false
set_option maxRecDepth 100000
namespace Go.Proofs.YtlpcccpagmipnaaGreat.P
open Go.RowKit Go.ChangeMaps Go.MapKept
section
variable {w0 w : World} {d : Nat} {z : DState} {l ml V D mb : Nat} {st : List (Int × ByteArray)} {n : Nat} {rows : List (Int × ByteArray)} {R Y : Asn}
theorem list_end {P : Program} {ops : Array Oper} {K : Act → World → Prop} {Q : Exit → Act → World → Prop} {a : Act} {w : World} (h : K a w) : wpList P ops (Exit.then K Q) [] a w := h
def falseA : Asn := fun _ _ => False
theorem stable_false : Stable falseA := fun _ _ _ _ h _ _ => h.elim
attribute [local go_sem] Oper.semAt_some
theorem minI_of {x : Ino} (h : x.size ≤ 2368) : minI x = x := by
  unfold minI; rw [Nat.min_eq_left h]
/-- What Write stages. -/
def wrRows (n : Nat) (z : DState) (st : List (Int × ByteArray)) (k off : Nat) (s : ByteArray) : List (Int × ByteArray) :=
  putF (wrR (putS 0 ⟨(growF n (rowL [] z st 0) (fileV [] z st (inoV [] z st k)) (max (inoV [] z st k).size (off + s.size))).2.1.toArray⟩ []) z st (cntN (inoV [] z st k).size) off s (grF n (rowL [] z st 0) (fileV [] z st (inoV [] z st k)) (max (inoV [] z st k).size (off + s.size))).all (cntN (off + s.size) - off / 64)) z st k (grF n (rowL [] z st 0) (fileV [] z st (inoV [] z st k)) (max (inoV [] z st k).size (off + s.size)))
set_option maxHeartbeats 12800000 in
theorem c_vwrite (h : Own w0 w (VL d z l ml st V R)) (hs : Stable R) (hz : LI z n) (hst : okSt (n + 32) st) (h16 : st.length ≤ 16) (k : Nat) (hk : k < 32) (off : Nat) (s : ByteArray) (hkd : ¬ (inoV [] z st k).kind = 0)
    (hsz : (inoV [] z st k).size ≤ 2368) (hoff : off ≤ (inoV [] z st k).size) (hs5 : s.size ≤ 512) (hend : off + s.size ≤ 2368) (hp : (inoV [] z st k).pl.getD 5 0 < n)
    (hg : (growF n (rowL [] z st 0) (fileV [] z st (inoV [] z st k)) (max (inoV [] z st k).size (off + s.size))).2.2 = true)
    (hall : ∀ j, (grF n (rowL [] z st 0) (fileV [] z st (inoV [] z st k)) (max (inoV [] z st k).size (off + s.size))).all.getD j 0 < n)
    (hokF : okF (grF n (rowL [] z st 0) (fileV [] z st (inoV [] z st k)) (max (inoV [] z st k).size (off + s.size)))) (hp5 : (grF n (rowL [] z st 0) (fileV [] z st (inoV [] z st k)) (max (inoV [] z st k).size (off + s.size))).ino.pl.getD 5 0 < n) :
    Calls Tryz.prog 36 #[.pointer (some ⟨V, 0, none⟩), .int .i64 (k : Int), .int .i64 (off : Int), .string s] w fun e w' => e = .returned (.int .i64 (stgF z.safe.length (strikeS z st (wrRows n z st k off s)) st).1) ∧ Own w0 w' (VL d z l ml (stgF z.safe.length (strikeS z st (wrRows n z st k off s)) st).2 V R) := by
  have hlo := hz.lo
  have hhi := hz.hi
  have hx6 : (inoV [] z st k).pl.length = 6 := inoV_len [] z st k
  have h37 := fileV_len [] z st hx6
  unfold wrRows
  -- the boxes
  have hsY : ∀ oB sB, Stable (Star (sb sB s) (Star (ib oB off) R)) := fun oB sB => stable_star (stable_blk _ _) (stable_star (stable_blk _ _) hs)
  have hsV : ∀ oB sB, Stable (Star (volA V l) (Star (sb sB s) (Star (ib oB off) R))) := fun oB sB => stable_star (stable_blk _ _) (hsY oB sB)
  have hsT : ∀ oB sB g x P D, Stable (Star (ik g x) (Star (ptA P D) (Star (volA V l) (Star (sb sB s) (Star (ib oB off) R))))) := fun oB sB g x P D => stable_star (stable_blk _ _) (stable_star (stable_blk _ _) (hsV oB sB))
  have H0 : Hid (Own w0 ((w.alloc (.cells #[.int .i64 (off : Int)] 3)).alloc (.cells #[.string s] 9)) (VL d z l ml st V (Star (sb (w.heap.size + 1) s) (Star (ib w.heap.size off) R)))) := Lib.hid (by
    have h1 := h.alloc (stable_dl _ _ _ _ _ _ (stable_star (stable_blk _ _) hs)) (.cells #[.int .i64 (off : Int)] 3)
    have h2 := h1.alloc (stable_star (stable_blk _ _) (stable_dl _ _ _ _ _ _ (stable_star (stable_blk _ _) hs))) (.cells #[.string s] 9)
    rw [World.size_alloc] at h2
    exact (show Own w0 _ (Star (sb (w.heap.size + 1) s) (Star (ib w.heap.size off) (Star (dsk d z) (Star (lgA l d ml st false) (Star (volA V l) R))))) from h2).ac (by unfold VL DL; ac_rfl))
  have CT : Hid (∀ wx oB sB, Own w0 wx (VL d z l ml st V (Star (sb sB s) (Star (ib oB off) R))) → Calls Tryz.prog 68 #[.pointer (some ⟨V, 0, none⟩), .int .i64 (k : Int)] wx (TakeP w0 d z l ml st V (Star (sb sB s) (Star (ib oB off) R)) k)) := Lib.hid (fun wx oB sB hw => c_take_ok hw (hsY _ _) hz hst k hk hkd)
  unfold TakeP at CT
  rw [minI_of hsz] at CT
  have HT2 : Hid (∀ wx D mb oB sB, Own w0 wx (VX d z l ml st D mb [] (Star (volA V l) (Star (sb sB s) (Star (ib oB off) R)))) → _) := Lib.hid (fun wx D mb oB sB hw => own_take2 hw (hsV oB sB) (inoV [] z st k))
  have HM1 := Lib.hid (ino_infoX (inoV [] z st k) hx6)
  have HM2 := Lib.hid (ino_one (inoV [] z st k))
  have HM3 : Hid ((inoL i0).toArray.size = (inoL (inoV [] z st k)).toArray.size) := Lib.hid (by rw [ino_size _ hx6]; rfl)
  have HF1 := Lib.hid (fil_infoX (f := fileV [] z st (inoV [] z st k)) hx6 h37)
  have HF2 := Lib.hid (fil_one (fileV [] z st (inoV [] z st k)))
  have HF3 : Hid ((filL f0).toArray.size = (filL (fileV [] z st (inoV [] z st k))).toArray.size) := Lib.hid (by rw [List.size_toArray, List.size_toArray, fil_len (f := fileV [] z st (inoV [] z st k)) hx6 h37]; rfl)
  have CC3 : Hid (∀ wx D mb oB sB g P, Own w0 wx (VX d z l ml st D mb [] (Star (ik g (inoV [] z st k)) (Star (ptA P D) (Star (volA V l) (Star (sb sB s) (Star (ib oB off) R)))))) → wx.cell? ⟨g, 2, none⟩ = some (.int .i64 ((inoV [] z st k).size : Int)) ∧ wx.cell? ⟨oB, 0, none⟩ = some (.int .i64 (off : Int)) ∧ wx.cell? ⟨sB, 0, none⟩ = some (.string s)) := Lib.hid (fun wx D mb oB sB g P hw => by
    have h1 := hw.right.right.right.right
    exact ⟨blk_cell h1.blk 2 rfl, blk_cell h1.right.right.right.right.blk 0 rfl, blk_cell h1.right.right.right.blk 0 rfl⟩)
  generalize hen : off + s.size = en at *
  have hE : (off : Int) + (s.size : Int) = (en : Int) := by omega
  have hE2 : off + s.size = en := hen
  have HEN := Lib.hid hen
  clear hen
  -- the end's box
  have HB4 : Hid (∀ wx D mb oB sB g P, Own w0 wx (VX d z l ml st D mb [] (Star (ik g (inoV [] z st k)) (Star (ptA P D) (Star (volA V l) (Star (sb sB s) (Star (ib oB off) R)))))) → Own w0 (wx.alloc (.cells #[.int .i64 (en : Int)] 3)) (VX d z l ml st D mb [] (Star (ib wx.heap.size en) (Star (ik g (inoV [] z st k)) (Star (ptA P D) (Star (volA V l) (Star (sb sB s) (Star (ib oB off) R)))))))) := Lib.hid (fun wx D mb oB sB g P hw => hw.box4 (stable_vx (hsT _ _ _ _ _ _)) _)
  have CC4 : Hid (∀ wx D mb oB sB g P eB, Own w0 wx (VX d z l ml st D mb [] (Star (ib eB en) (Star (ik g (inoV [] z st k)) (Star (ptA P D) (Star (volA V l) (Star (sb sB s) (Star (ib oB off) R))))))) → wx.cell? ⟨eB, 0, none⟩ = some (.int .i64 (en : Int)) ∧ wx.cell? ⟨P, 0, none⟩ = some (.pointer (some ⟨D, 0, none⟩)) ∧ wx.heap[g]? = some (.cells (inoL (inoV [] z st k)).toArray 132) ∧ Calls Tryz.prog 74 #[.pointer (some ⟨V, 0, none⟩)] wx (fun e w' => e = .returned (.int .i64 0) ∧ w' = wx) ∧ Calls Tryz.prog 70 #[.pointer (some ⟨D, 0, none⟩), .agg (inoL (inoV [] z st k)).toArray] wx fun e w' => e = .returned (.agg (filL (fileV [] z st (inoV [] z st k))).toArray) ∧ Own w0 w' (VX d z l ml st D mb [] (Star (ib eB en) (Star (ik g (inoV [] z st k)) (Star (ptA P D) (Star (volA V l) (Star (sb sB s) (Star (ib oB off) R)))))))) := Lib.hid (fun wx D mb oB sB g P eB hw => by
    have h1 := hw.right.right.right.right
    exact ⟨blk_cell h1.blk 0 rfl, blk_cell h1.right.right.blk 0 rfl, h1.right.blk, c_roomX hw (blk_cell h1.right.right.right.blk 0 rfl) h16, c_vfile hw (stable_star (stable_blk _ _) (hsT _ _ _ _ _ _)) hz hst _ hx6 hp⟩)
  -- the file's box
  have HB5 : Hid (∀ wx D mb oB sB g P eB, Own w0 wx (VX d z l ml st D mb [] (Star (ib eB en) (Star (ik g (inoV [] z st k)) (Star (ptA P D) (Star (volA V l) (Star (sb sB s) (Star (ib oB off) R))))))) → (wx.alloc (.cells (filL f0).toArray 137)).heap[wx.heap.size]? = some (.cells (filL f0).toArray 137) ∧ Own w0 ((wx.alloc (.cells (filL f0).toArray 137)).setRow wx.heap.size (filL (fileV [] z st (inoV [] z st k))).toArray) (VX d z l ml st D mb [] (Star (fk wx.heap.size (fileV [] z st (inoV [] z st k))) (Star (ib eB en) (Star (ik g (inoV [] z st k)) (Star (ptA P D) (Star (volA V l) (Star (sb sB s) (Star (ib oB off) R))))))))) := Lib.hid (fun wx D mb oB sB g P eB hw => own_fil hw (stable_star (stable_blk _ _) (hsT _ _ _ _ _ _)) _)
  have CC5 : Hid (∀ wx D mb G Y', Own w0 wx (VX d z l ml st D mb [] (Star (fk G (fileV [] z st (inoV [] z st k))) Y')) → wx.cell? ⟨G, 2, none⟩ = some (.int .i64 ((inoV [] z st k).size : Int))) := Lib.hid (fun wx D mb G Y' hw => blk_cell hw.out4.blk 2 (fil_cell2 _))
  have CCN := Lib.hid (fun wx => c_count (inoV [] z st k).size (by omega) wx)
  -- the box of how many it had
  have HB6 : Hid (∀ wx D mb oB sB g P eB G, Own w0 wx (VX d z l ml st D mb [] (Star (fk G (fileV [] z st (inoV [] z st k))) (Star (ib eB en) (Star (ik g (inoV [] z st k)) (Star (ptA P D) (Star (volA V l) (Star (sb sB s) (Star (ib oB off) R)))))))) → Own w0 (wx.alloc (.cells #[.int .i64 (cntN (inoV [] z st k).size : Int)] 3)) (VX d z l ml st D mb [] (Star (ib wx.heap.size (cntN (inoV [] z st k).size)) (Star (fk G (fileV [] z st (inoV [] z st k))) (Star (ib eB en) (Star (ik g (inoV [] z st k)) (Star (ptA P D) (Star (volA V l) (Star (sb sB s) (Star (ib oB off) R)))))))))) := Lib.hid (fun wx D mb oB sB g P eB G hw => hw.box4 (stable_vx (stable_star (stable_blk _ _) (stable_star (stable_blk _ _) (hsT _ _ _ _ _ _)))) _)
  have hsG : ∀ hB c eB g x P D oB sB, Stable (Star (ib hB c) (Star (ib eB en) (Star (ik g x) (Star (ptA P D) (Star (volA V l) (Star (sb sB s) (Star (ib oB off) R))))))) := fun hB c eB g x P D oB sB => stable_star (stable_blk _ _) (stable_star (stable_blk _ _) (hsT _ _ _ _ _ _))
  generalize hM : max (inoV [] z st k).size en = M at *
  have hM0 : max ((inoV [] z st k).size : Int) (en : Int) = (M : Int) := by omega
  have hM2 : M ≤ 2368 := by omega
  clear hM
  have CGR : Hid (∀ wx D mb hB oB sB g P eB G, Own w0 wx (VX d z l ml st D mb [] (Star (ib hB (cntN (inoV [] z st k).size)) (Star (fk G (fileV [] z st (inoV [] z st k))) (Star (ib eB en) (Star (ik g (inoV [] z st k)) (Star (ptA P D) (Star (volA V l) (Star (sb sB s) (Star (ib oB off) R))))))))) → wx.cell? ⟨G, 2, none⟩ = some (.int .i64 ((inoV [] z st k).size : Int)) ∧ wx.cell? ⟨P, 0, none⟩ = some (.pointer (some ⟨D, 0, none⟩)) ∧ wx.cell? ⟨eB, 0, none⟩ = some (.int .i64 (en : Int)) ∧ Calls Tryz.prog 79 #[.pointer (some ⟨D, 0, none⟩), .pointer (some ⟨G, 0, none⟩), .int .i64 (M : Int)] wx fun e w' => e = .returned (.int .i64 0) ∧ Own w0 w' (VX d z l ml st D mb (putS 0 ⟨(growF n (rowL [] z st 0) (fileV [] z st (inoV [] z st k)) M).2.1.toArray⟩ []) (Star (fk G (grF n (rowL [] z st 0) (fileV [] z st (inoV [] z st k)) M)) (Star (ib hB (cntN (inoV [] z st k).size)) (Star (ib eB en) (Star (ik g (inoV [] z st k)) (Star (ptA P D) (Star (volA V l) (Star (sb sB s) (Star (ib oB off) R)))))))))) := Lib.hid (fun wx D mb hB oB sB g P eB G hw => by
    have h1 := hw.right.right.right.right.right
    have := c_vgrow hw.swapR (hsG _ _ _ _ _ _ _ _ _) hz hst (by simp) hx6 h37 M hM2
    rw [hg] at this
    exact ⟨blk_cell h1.blk 2 (fil_cell2 _), blk_cell h1.right.right.right.blk 0 rfl, blk_cell h1.right.blk 0 rfl, this⟩)
  have n1 : ¬ (off : Int) < 0 := by omega
  have n2 : ¬ (inoV [] z st k).size < off := by omega
  have n3 : ¬ 512 < s.size := by omega
  have n4 : ¬ 2368 < en := by omega
  have n2' : ¬ ((inoV [] z st k).size : Int) < (off : Int) := by omega
  have n3' : ¬ (512 : Int) < (s.size : Int) := by omega
  have n4' : ¬ (2368 : Int) < (en : Int) := by omega
  refine (callsIn_wide (n := 3)).1 (callsIn_of_wp_marks Tryz.func36 rfl trivial (wpIn_wide.2 ?_) rfl)
  simp only [Tryz.ntmps36, List.size_toArray, List.length_cons, List.length_nil, Nat.reduceAdd, Nat.reduceSub, Array.replicate_succ, Array.replicate_zero, List.push_toArray, List.append_toArray, List.nil_append, List.cons_append]
  clear h
  generalize fileV [] z st (inoV [] z st k) = FF at *
  generalize inoV [] z st k = X at *
  generalize grF n (rowL [] z st 0) FF M = GF at *
  generalize (growF n (rowL [] z st 0) FF M).2.1 = MM at *
  go_upto_region 1 with fail
  generalize (World.alloc (World.alloc w _) _) = w1 at H0 ⊢
  generalize w.heap.size = oB at H0 ⊢
  go_upto_region 2 with (first
    | (go_at_call 68; refine (CT.out _ _ _ H0.out).mono ?_; rintro e w2 ⟨D, mb, rfl, h2⟩; have H2 := Lib.hid h2; clear h2)
    | (refine wpList_alloc_blk rfl 132 (inoL i0).toArray rfl (ino_zero _) ?_)
    | (refine wpList_store_row rfl _ _ _ rfl (w2.heap.size + 1) (inoL X).toArray rfl rfl _ _ (HT2.out _ _ _ _ _ H2.out).1 HM1.out HM3.out HM2.out ?_))
  have H3 := Lib.hid (HT2.out _ _ _ _ _ H2.out).2
  clear HT2 CT H2
  generalize (World.setRow _ _ _) = w3 at *
  generalize w2.heap.size = P at *
  generalize oB + 1 = sB at *
  generalize P + 1 = g at *
  obtain ⟨a1, a2, a3⟩ := CC3.out _ _ _ _ _ _ _ H3.out
  have H4 := Lib.hid (HB4.out _ _ _ _ _ _ _ H3.out)
  clear HB4 CC3
  go_upto_region 7 with fail
  generalize (World.alloc w3 _) = w4 at *
  generalize w3.heap.size = eB at *
  clear a1 a2 a3 H3
  obtain ⟨b1, b2, b3, b4, b5⟩ := CC4.out _ _ _ _ _ _ _ _ H4.out
  have B4 := Lib.hid b4
  have B5 := Lib.hid b5
  clear b4 b5 CC4
  go_upto_region 13 with (first
    | (go_at_call 74; refine B4.out.mono ?_; rintro e w' ⟨rfl, hw'⟩; rw [hw']; clear hw' w')
    | (refine wpList_load_row rfl _ _ rfl g rfl _ (inoL X).toArray (0, 0) _ b3 Tryz.underlying132 rfl HM1.out ?_)
    | (go_at_call 70; refine B5.out.mono ?_; rintro e w5 ⟨rfl, h5⟩; have H5 := Lib.hid h5; clear h5)
    | (refine wpList_alloc_blk rfl 137 (filL f0).toArray rfl (fil_zero _) ?_)
    | (refine wpList_store_row rfl _ _ _ rfl w5.heap.size (filL FF).toArray rfl rfl _ _ (HB5.out _ _ _ _ _ _ _ _ H5.out).1 HF1.out HF3.out HF2.out ?_))
  have H6 := Lib.hid (HB5.out _ _ _ _ _ _ _ _ H5.out).2
  clear HB5 B4 B5 b1 b2 b3
  generalize (World.setRow _ _ _) = w6 at *
  generalize w5.heap.size = G at *
  clear H5
  have c1 := CC5.out _ _ _ _ _ H6.out
  have H7 := Lib.hid (HB6.out _ _ _ _ _ _ _ _ _ H6.out)
  clear CC5 HB6
  go_upto_region 14 with (go_at_call 78; refine (CCN.out _).mono ?_; rintro e w' ⟨rfl, hw'⟩; rw [hw']; clear hw' w')
  clear CCN c1
  generalize (World.alloc w6 _) = w7 at *
  generalize w6.heap.size = hB at *
  clear H6
  obtain ⟨e1, e2, e3, e4⟩ := CGR.out _ _ _ _ _ _ _ _ _ _ H7.out
  have E4 := Lib.hid e4
  clear e4 CGR
  go_upto_region 17 with (go_at_call 79; refine E4.out.mono ?_; rintro e w8 ⟨rfl, h8⟩; have H8 := Lib.hid h8; clear h8)
  clear E4 e1 e2 e3 H7
  have hGx : GF.ino.pl.length = 6 := hokF.1
  have hG37 : GF.all.length = 37 := hokF.2.1
  have HG1 := Lib.hid (fil_infoX (f := GF) hGx hG37)
  generalize hhd : cntN X.size = hd at *
  have HHD := Lib.hid hhd
  clear hhd
  obtain ⟨X8, hX8⟩ : ∃ X8 : Asn, X8 = Star (fk G GF) (Star (ib hB hd) (Star (ib eB en) (Star (ik g X) (Star (ptA P D) (Star (volA V l) (Star (sb sB s) (Star (ib oB off) R))))))) := ⟨_, rfl⟩
  rw [← hX8] at H8
  have hsX8 : Stable X8 := by rw [hX8]; exact stable_star (stable_blk _ _) (hsG _ _ _ _ _ _ _ _ _)
  have CX8 : Hid (∀ wx rows Y', Own w0 wx (VX d z l ml st D mb rows (Star X8 Y')) → wx.cell? ⟨P, 0, none⟩ = some (.pointer (some ⟨D, 0, none⟩)) ∧ wx.cell? ⟨eB, 0, none⟩ = some (.int .i64 (en : Int)) ∧ wx.cell? ⟨oB, 0, none⟩ = some (.int .i64 (off : Int)) ∧ wx.cell? ⟨sB, 0, none⟩ = some (.string s) ∧ wx.cell? ⟨hB, 0, none⟩ = some (.int .i64 (hd : Int)) ∧ wx.heap[G]? = some (.cells (filL GF).toArray 137)) := Lib.hid (fun wx rows Y' hw => by
    have h1 := hw.right.right.right.right.left
    rw [hX8] at h1
    exact ⟨blk_cell h1.right.right.right.right.blk 0 rfl, blk_cell h1.right.right.blk 0 rfl, blk_cell h1.right.right.right.right.right.right.right.blk 0 rfl, blk_cell h1.right.right.right.right.right.right.blk 0 rfl, blk_cell h1.right.blk 0 rfl, h1.blk⟩)
  have H8e : Hid (Own w0 w8 (VX d z l ml st D mb (putS 0 ⟨MM.toArray⟩ []) (Star X8 emp))) := Lib.hid (H8.out.mono fun F hF => by
    obtain ⟨F1, F2, k1, ⟨F3, F4, k3, ⟨F5, F6, k5, ⟨F7, F8, k7, k8, q1⟩, q2⟩, q3⟩, q4⟩ := hF
    exact ⟨F1, F2, k1, ⟨F3, F4, k3, ⟨F5, F6, k5, ⟨F7, F8, k7, (by rw [star_comm]; exact star_emp k8), q1⟩, q2⟩, q3⟩, q4⟩)
  obtain ⟨d1, d2, d3, _, _, d6⟩ := CX8.out _ _ _ H8e.out
  have CSC := Lib.hid (c_fsec H8.out (stable_vx hsX8) GF off en)
  unfold SecP at CSC
  go_upto_block 0 with (first
    | (refine wpList_load_row rfl _ _ rfl G rfl _ (filL GF).toArray (0, 0) _ d6 Tryz.underlying137 rfl HG1.out ?_)
    | (go_at_call 71; refine CSC.out.mono ?_; rintro e w9 ⟨OB, EB, FB, rfl, h9⟩; have H9 := Lib.hid h9; clear h9))
  clear d1 d2 d3 d6 CSC H8e H8
  refine wp_block ?_
  refine (wpIn_wide (n := 3)).1 (wpIn_rangeFunc_N (Bx := secA OB EB FB off en GF) (N := cntN en - off / 64) (w0 := w0) (enc := encS GF off) (sectors_seq hGx hG37 (by omega) (by omega)) rfl (enters_of Tryz.func105 (by kernel_rfl) rfl) (fun _ => rfl) (stable_sec _ _ _ _ _ _) (fun j => VX d z l ml st D mb (wrR (putS 0 ⟨MM.toArray⟩ []) z st hd off s GF.all j) X8) (fun j => stable_vx hsX8) (fun _ _ => falseA) (fun _ _ => stable_false) H9.out ?round ?done ?stop)
  case stop =>
    intro D9 c9 k9 W9 hk9 h9
    obtain ⟨F, hF⟩ := h9.right.right.get
    exact hF.elim
  case done =>
    intro D9 W9 h9
    have h9' : Own w0 W9 (VX d z l ml st D mb (wrR (putS 0 ⟨MM.toArray⟩ []) z st hd off s GF.all (cntN en - off / 64)) (Star X8 (Star (secA OB EB FB off en GF) (defA D9)))) := h9.ac (by unfold VX DL; ac_rfl)
    have hsZ : Stable (Star X8 (Star (secA OB EB FB off en GF) (defA D9))) := stable_star hsX8 (stable_star (stable_sec _ _ _ _ _ _) (stable_blk _ _))
    have hlen : (wrR (putS 0 ⟨MM.toArray⟩ []) z st hd off s GF.all (cntN en - off / 64)).length ≤ 1 + 37 := by
      have h1 := wrR_len (putS 0 ⟨MM.toArray⟩ []) z st hd off s GF.all (cntN en - off / 64)
      have h2 : (putS 0 ⟨MM.toArray⟩ ([] : List (Int × ByteArray))).length = 1 := rfl
      have h3 := cnt_le en hend
      omega
    obtain ⟨f1, _, _, _, _, f4⟩ := CX8.out _ _ _ h9'
    have F2 := Lib.hid (c_vputFile h9' hsZ hz hst (by omega) k hk GF hokF hp5)
    have hkeys : ∀ x ∈ putF (wrR (putS 0 ⟨MM.toArray⟩ []) z st hd off s GF.all (cntN en - off / 64)) z st k GF, 0 ≤ x.1 ∧ x.1 < (n : Int) := fun x hx => by
      rcases mem_putF hx with e | e | e
      · rw [e]; omega
      · rw [e]; omega
      · rcases wrR_mem _ e with q | ⟨q, _, e⟩
        · rcases mem_putS q with e | e
          · rw [e]; exact ⟨by show (0 : Int) ≤ 0; omega, by show (0 : Int) < _; omega⟩
          · cases e
        · have := hall (off / 64 + q)
          rw [e]; omega
    have hpl := putF_len (wrR (putS 0 ⟨MM.toArray⟩ []) z st hd off s GF.all (cntN en - off / 64)) z st k GF
    have CDA : Hid (∀ wx, Own w0 wx (VX d z l ml st D mb (putF (wrR (putS 0 ⟨MM.toArray⟩ []) z st hd off s GF.all (cntN en - off / 64)) z st k GF) (Star X8 (Star (secA OB EB FB off en GF) (defA D9)))) → wx.cell? ⟨P, 0, none⟩ = some (.pointer (some ⟨D, 0, none⟩)) ∧ Calls Tryz.prog 77 #[.pointer (some ⟨D, 0, none⟩)] wx fun e w' => e = .returned (.int .i64 (stgF z.safe.length (strikeS z st (putF (wrR (putS 0 ⟨MM.toArray⟩ []) z st hd off s GF.all (cntN en - off / 64)) z st k GF)) st).1) ∧ Own w0 w' (DL d z l ml (stgF z.safe.length (strikeS z st (putF (wrR (putS 0 ⟨MM.toArray⟩ []) z st hd off s GF.all (cntN en - off / 64)) z st k GF)) st).2 false (Star X8 (Star (secA OB EB FB off en GF) (defA D9))))) := Lib.hid (fun wx hw => ⟨(CX8.out _ _ _ hw).1, c_stage hw hsZ hz hst hkeys (by omega)⟩)
    clear h9 h9' hlen hkeys hpl
    generalize hr9 : putF (wrR (putS 0 ⟨MM.toArray⟩ []) z st hd off s GF.all (cntN en - off / 64)) z st k GF = R9 at *
    generalize hq : stgF z.safe.length (strikeS z st R9) st = q at *
    obtain ⟨q1, q2⟩ := q
    have HR9 := Lib.hid hr9
    have HQ := Lib.hid hq
    clear hr9 hq
    dsimp only at *
    go_wp2_with (first
      | (refine wpList_load_row rfl _ _ rfl G rfl _ (filL GF).toArray (0, 0) _ f4 Tryz.underlying137 rfl HG1.out ?_)
      | (go_at_call 81; refine F2.out.mono ?_; rintro e wa ⟨rfl, ha⟩; have HA := Lib.hid ha; have f5 := (CDA.out _ ha).1; clear ha)
      | (go_at_call 77; refine (CDA.out _ HA.out).2.mono ?_; rintro e wb ⟨rfl, hb⟩; have HB := Lib.hid hb; clear hb))
    have hb1 : Own w0 wb (Star (defA D9) (DL d z l ml q2 false (Star X8 (secA OB EB FB off en GF)))) := HB.out.ac (by unfold DL; ac_rfl)
    refine ⟨by simp, .inl ⟨_, _, rfl, run_takeDeferred hb1.blk, ?_⟩⟩
    have hb2 := (hb1.putO (stable_dl _ _ _ _ _ _ (stable_star hsX8 (stable_sec _ _ _ _ _ _))) (.deferred none)).right
    rw [hX8] at hb2
    have hb3 : Own w0 (wb.putObj D9 (.deferred none)) (Star (Star (secA OB EB FB off en GF) (Star (fk G GF) (Star (ib hB hd) (Star (ib eB en) (Star (ik g X) (Star (ptA P D) (Star (sb sB s) (ib oB off)))))))) (VL d z l ml q2 V R)) := hb2.ac (by unfold VL DL; ac_rfl)
    refine ⟨_, results_tmp rfl _ _ _, ?_⟩
    rw [HHD.out, HR9.out, HQ.out]
    exact ⟨rfl, hb3.right⟩
  case round =>
    intro lp j W Rr hRr hj ho
    have hjn := Lib.hid hj
    have hi9 := hall (off / 64 + j)
    have hp9 : off / 64 + j < cntN en := by omega
    have hp7 : off / 64 + j < 37 := by have := cnt_le en hend; omega
    obtain ⟨iv, hiv⟩ : ∃ iv, GF.all.getD (off / 64 + j) 0 = iv := ⟨_, rfl⟩
    obtain ⟨p, hpp⟩ : ∃ p, off / 64 + j = p := ⟨_, rfl⟩
    unfold encS
    rw [hiv, hpp]
    have HIV := Lib.hid hiv
    have HPP := Lib.hid hpp
    rw [hiv] at hi9
    rw [hpp] at hp9 hp7
    clear hiv hpp hj
    gi_wp2
    refine ⟨_, stable_vx hsX8, ho, ?_⟩
    intro W2 R2 hR2 ho2
    clear ho W
    have hv : Own w0 W2 (VX d z l ml st D mb (wrR (putS 0 ⟨MM.toArray⟩ []) z st hd off s GF.all j) (Star X8 (Star (secA OB EB FB off en GF) R2))) := ho2.ac (by unfold VX DL; ac_rfl)
    have hsZ : Stable (Star X8 (Star (secA OB EB FB off en GF) R2)) := stable_star hsX8 (stable_star (stable_sec _ _ _ _ _ _) hR2)
    refine wpIn_block ?_
    refine wpIn_seq ?_
    refine region_round (by rintro ⟨a, w, h⟩; exact h) rfl ?_
    refine wpList_alloc_blk rfl 83 (bcL zL) rfl (blk_zero _) ?_
    refine list_end ?_
    go_simp
    have H3 := Lib.hid (hv.box4 (stable_vx hsZ) (.cells (bcL zL) 83))
    clear hv ho2
    generalize World.alloc W2 _ = w3 at *
    generalize W2.heap.size = g9 at *
    have HSZ := Lib.hid hsZ
    have CXR : Hid (∀ wx (L : List UInt8), Own w0 wx (VX d z l ml st D mb (wrR (putS 0 ⟨MM.toArray⟩ []) z st hd off s GF.all j) (Star (bk g9 L) (Star X8 (Star (secA OB EB FB off en GF) R2)))) → wx.cell? ⟨P, 0, none⟩ = some (.pointer (some ⟨D, 0, none⟩)) ∧ wx.cell? ⟨eB, 0, none⟩ = some (.int .i64 (en : Int)) ∧ wx.cell? ⟨oB, 0, none⟩ = some (.int .i64 (off : Int)) ∧ wx.cell? ⟨sB, 0, none⟩ = some (.string s) ∧ wx.cell? ⟨hB, 0, none⟩ = some (.int .i64 (hd : Int)) ∧ wx.heap[g9]? = some (.cells (bcL L) 83)) := Lib.hid (fun wx L hw => by
      obtain ⟨q1, q2, q3, q4, q5, _⟩ := CX8.out wx _ (Star (bk g9 L) (Star (secA OB EB FB off en GF) R2)) (hw.ac (by unfold VX DL; ac_rfl))
      exact ⟨q1, q2, q3, q4, q5, hw.out4.blk⟩)
    obtain ⟨q1, q2, q3, q4, q5, q6⟩ := CXR.out _ _ H3.out
    have hl64 : (rowL (wrR (putS 0 ⟨MM.toArray⟩ []) z st hd off s GF.all j) z st iv).length = 64 := (rowL_len H3.out hz hst hi9).1
    have CGT := Lib.hid (c_vget H3.out (stable_star (stable_blk _ _) hsZ) hz hst iv hi9)
    have HSR : Hid (∀ wx, Own w0 wx (VX d z l ml st D mb (wrR (putS 0 ⟨MM.toArray⟩ []) z st hd off s GF.all j) (Star (bk g9 zL) (Star X8 (Star (secA OB EB FB off en GF) R2)))) → wx.heap[g9]? = some (.cells (bcL zL) 83) ∧ Own w0 (wx.setRow g9 (bcL (rowL (wrR (putS 0 ⟨MM.toArray⟩ []) z st hd off s GF.all j) z st iv))) (VX d z l ml st D mb (wrR (putS 0 ⟨MM.toArray⟩ []) z st hd off s GF.all j) (Star (bk g9 (rowL (wrR (putS 0 ⟨MM.toArray⟩ []) z st hd off s GF.all j) z st iv)) (Star X8 (Star (secA OB EB FB off en GF) R2))))) := Lib.hid (fun wx hw => ⟨hw.out4.blk, (hw.out4.setRow (stable_vx hsZ) _).in4⟩)
    have HC1 := Lib.hid (bc_info _ hl64)
    have HC2 := Lib.hid (bcL_all1 (rowL (wrR (putS 0 ⟨MM.toArray⟩ []) z st hd off s GF.all j) z st iv))
    have HC3 : Hid ((bcL zL).size = (bcL (rowL (wrR (putS 0 ⟨MM.toArray⟩ []) z st hd off s GF.all j) z st iv)).size) := Lib.hid (by rw [bcL_size, bcL_size, hl64]; rfl)
    have HWR : Hid (wrR (putS 0 ⟨MM.toArray⟩ []) z st hd off s GF.all (j + 1) = putS (iv : Int) ⟨(rowW off en s.data.toList (if p < hd then rowL (wrR (putS 0 ⟨MM.toArray⟩ []) z st hd off s GF.all j) z st iv else zL) p).toArray⟩ (wrR (putS 0 ⟨MM.toArray⟩ []) z st hd off s GF.all j)) := Lib.hid (by rw [wrR, HIV.out, HPP.out, HEN.out])
    have hcast : ((p : Int) < (hd : Int)) = (p < hd) := by rw [Int.ofNat_lt]
    refine wpIn_seq ?_
    refine wpIn_seq ?_
    refine region_round (by rintro ⟨a, w, h⟩; exact h) rfl ?_
    obtain ⟨rowJ, hrowJ⟩ : ∃ rowJ, rowL (wrR (putS 0 ⟨MM.toArray⟩ []) z st hd off s GF.all j) z st iv = rowJ := ⟨_, rfl⟩
    rw [hrowJ] at CGT HSR HC1 HC2 HC3 HWR hl64
    clear hrowJ
    obtain ⟨RJ, hRJ⟩ : ∃ RJ, wrR (putS 0 ⟨MM.toArray⟩ []) z st hd off s GF.all j = RJ := ⟨_, rfl⟩
    have hRJl : RJ.length ≤ 100 := by
      have h1 := wrR_len (putS 0 ⟨MM.toArray⟩ []) z st hd off s GF.all j
      have h2 : (putS 0 ⟨MM.toArray⟩ ([] : List (Int × ByteArray))).length = 1 := rfl
      have h3 := cnt_le en hend
      have h4 := hjn.out
      rw [hRJ] at h1
      omega
    rw [hRJ] at H3 CXR CGT HSR HWR
    clear hRJ
    by_cases hlt : p < hd
    · have dl : decide (p < hd) = true := decide_eq_true hlt
      rw [if_pos hlt] at HWR
      go_wp2_with fail
      refine wpIn_cond_true rfl ?_
      refine region_round (by rintro ⟨a, w, h⟩; exact h) rfl ?_
      go_wp2_with (first
        | (go_at_call 72; refine CGT.out.mono ?_; rintro e w4 ⟨rfl, h4⟩; have H4 := Lib.hid h4; have H5 := Lib.hid (HSR.out _ h4).2; clear h4)
        | (refine wpList_store_row rfl _ _ _ rfl g9 (bcL rowJ) rfl rfl _ _ (HSR.out _ H4.out).1 HC1.out HC3.out HC2.out ?_))
      have hLL : rowJ.length = 64 := hl64
      clear H4 CGT HSR HC1 HC2 HC3 hl64 q1 q2 q3 q4 q5 q6 H3
      generalize World.setRow _ _ _ = w5 at *
      generalize rowJ = L at *
      obtain ⟨q1, q2, q3, q4, q5, q6⟩ := CXR.out _ _ H5.out
      have hpc : 64 * p < en := by unfold cntN at hp9; omega
      have hop : off < 64 * p + 64 := by have := HPP.out; omega
      have hfr : max ((off : Int) - (p : Int) * 64) 0 = ((off - 64 * p : Nat) : Int) := by omega
      have hto : min ((en : Int) - (p : Int) * 64) 64 = ((min (en - 64 * p) 64 : Nat) : Int) := by omega
      have CIN : Hid (∀ wx, Calls Tryz.prog 73 #[.int .i64 (p : Int), .int .i64 (off : Int), .int .i64 (en : Int)] wx fun e w' => e = .returned (.tuple #[.int .i64 ((off - 64 * p : Nat) : Int), .int .i64 ((min (en - 64 * p) 64 : Nat) : Int)]) ∧ w' = wx) := Lib.hid (fun wx => by
        have := c_inside p off en (by omega) (by omega) (by omega) wx
        rw [hfr, hto] at this
        exact this)
      have k4 : min (en - 64 * p) 64 - (off - 64 * p) ≤ s.size - (64 * p + (off - 64 * p) - off) := by omega
      have HRW : Hid (rowW off en s.data.toList L p = splice L (off - 64 * p) (((s.extract (64 * p + (off - 64 * p) - off) s.size).data.toList).take (min (en - 64 * p) 64 - (off - 64 * p)))) := Lib.hid (by
        unfold rowW
        rw [ext_toList, List.take_take, Nat.min_eq_left k4])
      have hsx : (s.extract (64 * p + (off - 64 * p) - off) s.size).size = s.size - (64 * p + (off - 64 * p) - off) := by rw [ByteArray.size_extract]; omega
      have k1 : off - 64 * p ≤ min (en - 64 * p) 64 := by omega
      have k10 : ¬ 64 = off - 64 * p := by omega
      have k2 : min (en - 64 * p) 64 ≤ 64 := Nat.min_le_right _ _
      have k3 : 64 * p + (off - 64 * p) - off ≤ s.size := by omega
      have t1 : IntKind.i64.wrap ((p : Int) * 64) = ((64 * p : Nat) : Int) := by rw [IntWalk.i64_in _ (by omega)]; omega
      have t2 : IntKind.i64.wrap (((64 * p : Nat) : Int) + ((off - 64 * p : Nat) : Int)) = ((64 * p + (off - 64 * p) : Nat) : Int) := by rw [IntWalk.i64_in _ (by omega)]; omega
      have t3 : IntKind.i64.wrap (((64 * p + (off - 64 * p) : Nat) : Int) - (off : Int)) = ((64 * p + (off - 64 * p) - off : Nat) : Int) := by rw [IntWalk.i64_in _ (by omega)]; omega
      clear hfr hto
      generalize off - 64 * p = fr at *
      generalize min (en - 64 * p) 64 = tt at *
      generalize 64 * p + fr - off = aa at *
      generalize 64 * p + fr = a2 at *
      generalize 64 * p = a1 at *
      refine wpIn_seq ?_
      refine region_round (by rintro ⟨a, w, h⟩; exact h) rfl ?_
      go_wp2_with (go_at_call 73; refine (CIN.out _).mono ?_; rintro e w' ⟨rfl, hw'⟩; rw [hw']; clear hw' w')
      have r3 : w5.drew.cell? ⟨oB, 0, none⟩ = some (.int .i64 (off : Int)) := q3
      have r4 : w5.drew.cell? ⟨sB, 0, none⟩ = some (.string s) := q4
      have H6 := Lib.hid (H5.out.drew (stable_vx (stable_star (stable_blk _ _) HSZ.out)))
      have k5 : (fr : Int) ≤ (tt : Int) := by omega
      have k6 : (tt : Int) ≤ 64 := by omega
      have k7 : (aa : Int) ≤ (s.size : Int) := by omega
      have k8 : (0 : Int) ≤ (aa : Int) := by omega
      have k9 : (0 : Int) ≤ (fr : Int) := by omega
      have HCP := Lib.hid (run_copy_str w5.drew 87 9 3 5 g9 fr (tt - fr) (64 - fr) (s.extract aa s.size) L 83 Tryz.underlying87 (by kernel_rfl) H6.out.out4.blk (tt - fr) (by rw [hsx]; exact (Nat.min_eq_right k4).symm) (by rw [hLL]; omega))
      have H7 := Lib.hid ((H6.out.out4.setRow (stable_vx HSZ.out) (bcL (splice L fr ((s.extract aa s.size).data.toList.take (tt - fr))))).in4)
      have hl9 : (splice L fr ((s.extract aa s.size).data.toList.take (tt - fr))).length = 64 := by rw [splice_len (by rw [List.length_take, hLL]; omega), hLL]
      rw [HRW.out] at HWR
      generalize splice L fr ((s.extract aa s.size).data.toList.take (tt - fr)) = L9 at *
      refine wpIn_seq ?_
      refine still_tail_round 11 (by rintro ⟨a, w, h⟩; exact h) rfl (by kernel_rfl) (by kernel_rfl) ?_
      simp only [List.take_succ_cons, List.take_zero, List.drop_succ_cons, List.drop_zero]
      repeat still_step
      refine wpStill_nil ?_
      refine wpList_copy rfl _ _ 87 9 rfl (.slice (some ⟨g9, fr, none⟩) (tt - fr) (64 - fr)) (.string (s.extract aa s.size)) (by kernel_rfl) (by kernel_rfl) HCP.out ?_
      refine list_end ?_
      go_simp
      clear r3 r4 q1 q2 q3 q4 q5 q6 H5 H6 HCP CIN t1 t2 t3
      generalize World.setRow _ _ _ = w6 at *
      obtain ⟨u1, _, _, _, _, u6⟩ := CXR.out _ _ H7.out
      have HE1 := Lib.hid (bc_info _ hl9)
      have CPT : Hid (Calls Tryz.prog 80 #[.pointer (some ⟨D, 0, none⟩), .int .i64 (iv : Int), .agg (bcL L9)] w6 fun e w' => e = .returned (.tuple #[]) ∧ Own w0 w' (VX d z l ml st D mb (putS (iv : Int) ⟨L9.toArray⟩ RJ) (Star (bk g9 L9) (Star X8 (Star (secA OB EB FB off en GF) R2))))) := Lib.hid (c_vput H7.out (stable_star (stable_blk _ _) HSZ.out) (by omega) iv (by omega) ⟨L9.toArray⟩ (by show (List.toArray _).size = 64; rw [List.size_toArray, hl9]))
      rw [← HWR.out] at CPT
      clear H7
      refine region_round (by rintro ⟨a, w, h⟩; exact h) rfl ?_
      go_wp2_with (first
        | (refine wpList_load_row rfl _ _ rfl g9 rfl _ (bcL L9) (0, 0) _ u6 Tryz.underlying83 rfl HE1.out ?_)
        | (go_at_call 80; refine CPT.out.mono ?_; rintro e w7 ⟨rfl, h7⟩; have H8 := Lib.hid h7; clear h7))
      all_goals
       have hfin : Own w0 w7 (Star (secA OB EB FB off en GF) (Star (VX d z l ml st D mb (wrR (putS 0 ⟨MM.toArray⟩ []) z st hd off s GF.all (j + 1)) X8) R2)) := H8.out.unbox4.ac (by unfold VX DL; ac_rfl)
       rw [hX8] at hfin
       exact hfin
    · have dl : decide (p < hd) = false := decide_eq_false hlt
      rw [if_neg hlt] at HWR
      go_wp2_with fail
      refine wpIn_cond_false rfl ?_
      refine wpIn_skip ?_
      dsimp only [Exit.then]
      have hLL : zL.length = 64 := rfl
      have H5 := H3
      clear CGT HSR HC1 HC2 HC3 hl64 q1 q2 q3 q4 q5 q6 H3
      generalize zL = L at *
      generalize w3 = w5 at *
      obtain ⟨q1, q2, q3, q4, q5, q6⟩ := CXR.out _ _ H5.out
      have hpc : 64 * p < en := by unfold cntN at hp9; omega
      have hop : off < 64 * p + 64 := by have := HPP.out; omega
      have hfr : max ((off : Int) - (p : Int) * 64) 0 = ((off - 64 * p : Nat) : Int) := by omega
      have hto : min ((en : Int) - (p : Int) * 64) 64 = ((min (en - 64 * p) 64 : Nat) : Int) := by omega
      have CIN : Hid (∀ wx, Calls Tryz.prog 73 #[.int .i64 (p : Int), .int .i64 (off : Int), .int .i64 (en : Int)] wx fun e w' => e = .returned (.tuple #[.int .i64 ((off - 64 * p : Nat) : Int), .int .i64 ((min (en - 64 * p) 64 : Nat) : Int)]) ∧ w' = wx) := Lib.hid (fun wx => by
        have := c_inside p off en (by omega) (by omega) (by omega) wx
        rw [hfr, hto] at this
        exact this)
      have k4 : min (en - 64 * p) 64 - (off - 64 * p) ≤ s.size - (64 * p + (off - 64 * p) - off) := by omega
      have HRW : Hid (rowW off en s.data.toList L p = splice L (off - 64 * p) (((s.extract (64 * p + (off - 64 * p) - off) s.size).data.toList).take (min (en - 64 * p) 64 - (off - 64 * p)))) := Lib.hid (by
        unfold rowW
        rw [ext_toList, List.take_take, Nat.min_eq_left k4])
      have hsx : (s.extract (64 * p + (off - 64 * p) - off) s.size).size = s.size - (64 * p + (off - 64 * p) - off) := by rw [ByteArray.size_extract]; omega
      have k1 : off - 64 * p ≤ min (en - 64 * p) 64 := by omega
      have k10 : ¬ 64 = off - 64 * p := by omega
      have k2 : min (en - 64 * p) 64 ≤ 64 := Nat.min_le_right _ _
      have k3 : 64 * p + (off - 64 * p) - off ≤ s.size := by omega
      have t1 : IntKind.i64.wrap ((p : Int) * 64) = ((64 * p : Nat) : Int) := by rw [IntWalk.i64_in _ (by omega)]; omega
      have t2 : IntKind.i64.wrap (((64 * p : Nat) : Int) + ((off - 64 * p : Nat) : Int)) = ((64 * p + (off - 64 * p) : Nat) : Int) := by rw [IntWalk.i64_in _ (by omega)]; omega
      have t3 : IntKind.i64.wrap (((64 * p + (off - 64 * p) : Nat) : Int) - (off : Int)) = ((64 * p + (off - 64 * p) - off : Nat) : Int) := by rw [IntWalk.i64_in _ (by omega)]; omega
      clear hfr hto
      generalize off - 64 * p = fr at *
      generalize min (en - 64 * p) 64 = tt at *
      generalize 64 * p + fr - off = aa at *
      generalize 64 * p + fr = a2 at *
      generalize 64 * p = a1 at *
      refine wpIn_seq ?_
      refine region_round (by rintro ⟨a, w, h⟩; exact h) rfl ?_
      go_wp2_with (go_at_call 73; refine (CIN.out _).mono ?_; rintro e w' ⟨rfl, hw'⟩; rw [hw']; clear hw' w')
      have r3 : w5.drew.cell? ⟨oB, 0, none⟩ = some (.int .i64 (off : Int)) := q3
      have r4 : w5.drew.cell? ⟨sB, 0, none⟩ = some (.string s) := q4
      have H6 := Lib.hid (H5.out.drew (stable_vx (stable_star (stable_blk _ _) HSZ.out)))
      have k5 : (fr : Int) ≤ (tt : Int) := by omega
      have k6 : (tt : Int) ≤ 64 := by omega
      have k7 : (aa : Int) ≤ (s.size : Int) := by omega
      have k8 : (0 : Int) ≤ (aa : Int) := by omega
      have k9 : (0 : Int) ≤ (fr : Int) := by omega
      have HCP := Lib.hid (run_copy_str w5.drew 87 9 3 5 g9 fr (tt - fr) (64 - fr) (s.extract aa s.size) L 83 Tryz.underlying87 (by kernel_rfl) H6.out.out4.blk (tt - fr) (by rw [hsx]; exact (Nat.min_eq_right k4).symm) (by rw [hLL]; omega))
      have H7 := Lib.hid ((H6.out.out4.setRow (stable_vx HSZ.out) (bcL (splice L fr ((s.extract aa s.size).data.toList.take (tt - fr))))).in4)
      have hl9 : (splice L fr ((s.extract aa s.size).data.toList.take (tt - fr))).length = 64 := by rw [splice_len (by rw [List.length_take, hLL]; omega), hLL]
      rw [HRW.out] at HWR
      generalize splice L fr ((s.extract aa s.size).data.toList.take (tt - fr)) = L9 at *
      refine wpIn_seq ?_
      refine still_tail_round 11 (by rintro ⟨a, w, h⟩; exact h) rfl (by kernel_rfl) (by kernel_rfl) ?_
      simp only [List.take_succ_cons, List.take_zero, List.drop_succ_cons, List.drop_zero]
      repeat still_step
      refine wpStill_nil ?_
      refine wpList_copy rfl _ _ 87 9 rfl (.slice (some ⟨g9, fr, none⟩) (tt - fr) (64 - fr)) (.string (s.extract aa s.size)) (by kernel_rfl) (by kernel_rfl) HCP.out ?_
      refine list_end ?_
      go_simp
      clear r3 r4 q1 q2 q3 q4 q5 q6 H5 H6 HCP CIN t1 t2 t3
      generalize World.setRow _ _ _ = w6 at *
      obtain ⟨u1, _, _, _, _, u6⟩ := CXR.out _ _ H7.out
      have HE1 := Lib.hid (bc_info _ hl9)
      have CPT : Hid (Calls Tryz.prog 80 #[.pointer (some ⟨D, 0, none⟩), .int .i64 (iv : Int), .agg (bcL L9)] w6 fun e w' => e = .returned (.tuple #[]) ∧ Own w0 w' (VX d z l ml st D mb (putS (iv : Int) ⟨L9.toArray⟩ RJ) (Star (bk g9 L9) (Star X8 (Star (secA OB EB FB off en GF) R2))))) := Lib.hid (c_vput H7.out (stable_star (stable_blk _ _) HSZ.out) (by omega) iv (by omega) ⟨L9.toArray⟩ (by show (List.toArray _).size = 64; rw [List.size_toArray, hl9]))
      rw [← HWR.out] at CPT
      clear H7
      refine region_round (by rintro ⟨a, w, h⟩; exact h) rfl ?_
      go_wp2_with (first
        | (refine wpList_load_row rfl _ _ rfl g9 rfl _ (bcL L9) (0, 0) _ u6 Tryz.underlying83 rfl HE1.out ?_)
        | (go_at_call 80; refine CPT.out.mono ?_; rintro e w7 ⟨rfl, h7⟩; have H8 := Lib.hid h7; clear h7))
      all_goals
       have hfin : Own w0 w7 (Star (secA OB EB FB off en GF) (Star (VX d z l ml st D mb (wrR (putS 0 ⟨MM.toArray⟩ []) z st hd off s GF.all (j + 1)) X8) R2)) := H8.out.unbox4.ac (by unfold VX DL; ac_rfl)
       rw [hX8] at hfin
       exact hfin
end
end Go.Proofs.YtlpcccpagmipnaaGreat.P
