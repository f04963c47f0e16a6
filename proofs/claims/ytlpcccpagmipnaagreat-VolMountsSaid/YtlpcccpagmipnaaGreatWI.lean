/- Stage 8: Write, where it is refused. No condition. -/
import Derived.Test.YtlpcccpagmipnaaGreatWG
set_option linter.unusedVariables false
set_option linter.unusedSimpArgs false
set_option maxRecDepth 100000
namespace Go.Proofs.YtlpcccpagmipnaaGreat.P
open Go.RowKit Go.ChangeMaps Go.MapKept
section
variable {w0 w : World} {d : Nat} {z : DState} {l ml V D mb : Nat} {st : List (Int × ByteArray)} {n : Nat} {rows : List (Int × ByteArray)} {R Y : Asn}
abbrev iz (B : Nat) (x : Int) : Asn := blkA B (.cells #[.int .i64 x] 3)
set_option maxHeartbeats 12800000 in
theorem c_vwrite_arg (h : Own w0 w (VL d z l ml st V R)) (hs : Stable R) (hz : LI z n) (hst : okSt (n + 32) st) (k : Nat) (hk : k < 32) (off : Int) (s : ByteArray) (hkd : ¬ (inoV [] z st k).kind = 0) (hsz : (inoV [] z st k).size ≤ 2368) (hb : off < 0 ∨ ((inoV [] z st k).size : Int) < off ∨ 512 < s.size) :
    Calls Tryz.prog 36 #[.pointer (some ⟨V, 0, none⟩), .int .i64 (k : Int), .int .i64 off, .string s] w fun e w' => e = .returned (.int .i64 1) ∧ Own w0 w' (VL d z l ml st V R) := by
  have hx6 : (inoV [] z st k).pl.length = 6 := inoV_len [] z st k
  have hsY : ∀ oB sB, Stable (Star (sb sB s) (Star (iz oB off) R)) := fun oB sB => stable_star (stable_blk _ _) (stable_star (stable_blk _ _) hs)
  have hsV : ∀ oB sB, Stable (Star (volA V l) (Star (sb sB s) (Star (iz oB off) R))) := fun oB sB => stable_star (stable_blk _ _) (hsY oB sB)
  have hsT : ∀ oB sB g x P D, Stable (Star (ik g x) (Star (ptA P D) (Star (volA V l) (Star (sb sB s) (Star (iz oB off) R))))) := fun oB sB g x P D => stable_star (stable_blk _ _) (stable_star (stable_blk _ _) (hsV oB sB))
  have H0 : Hid (Own w0 ((w.alloc (.cells #[.int .i64 off] 3)).alloc (.cells #[.string s] 9)) (VL d z l ml st V (Star (sb (w.heap.size + 1) s) (Star (iz w.heap.size off) R)))) := Lib.hid (by
    have h1 := h.alloc (stable_dl _ _ _ _ _ _ (stable_star (stable_blk _ _) hs)) (.cells #[.int .i64 off] 3)
    have h2 := h1.alloc (stable_star (stable_blk _ _) (stable_dl _ _ _ _ _ _ (stable_star (stable_blk _ _) hs))) (.cells #[.string s] 9)
    rw [World.size_alloc] at h2
    exact (show Own w0 _ (Star (sb (w.heap.size + 1) s) (Star (iz w.heap.size off) (Star (dsk d z) (Star (lgA l d ml st false) (Star (volA V l) R))))) from h2).ac (by unfold VL DL; ac_rfl))
  have CT : Hid (∀ wx oB sB, Own w0 wx (VL d z l ml st V (Star (sb sB s) (Star (iz oB off) R))) → Calls Tryz.prog 68 #[.pointer (some ⟨V, 0, none⟩), .int .i64 (k : Int)] wx (TakeP w0 d z l ml st V (Star (sb sB s) (Star (iz oB off) R)) k)) := Lib.hid (fun wx oB sB hw => c_take_ok hw (hsY _ _) hz hst k hk hkd)
  unfold TakeP at CT
  rw [minI_of hsz] at CT
  have HT2 : Hid (∀ wx D mb oB sB, Own w0 wx (VX d z l ml st D mb [] (Star (volA V l) (Star (sb sB s) (Star (iz oB off) R)))) → _) := Lib.hid (fun wx D mb oB sB hw => own_take2 hw (hsV oB sB) (inoV [] z st k))
  have HM1 := Lib.hid (ino_infoX (inoV [] z st k) hx6)
  have HM2 := Lib.hid (ino_one (inoV [] z st k))
  have HM3 : Hid ((inoL i0).toArray.size = (inoL (inoV [] z st k)).toArray.size) := Lib.hid (by rw [ino_size _ hx6]; rfl)
  have HFN : Hid (∀ wx D mb oB sB g P, Own w0 wx (VX d z l ml st D mb [] (Star (ik g (inoV [] z st k)) (Star (ptA P D) (Star (volA V l) (Star (sb sB s) (Star (iz oB off) R)))))) → Own w0 wx (VL d z l ml st V R)) := Lib.hid (fun wx D mb oB sB g P hw =>
    (hw.ac (by unfold VX VL DL; ac_rfl) : Own w0 wx (Star (Star (drB D l (.map (some mb))) (Star (bmA mb []) (Star (ik g (inoV [] z st k)) (Star (ptA P D) (Star (sb sB s) (iz oB off)))))) (VL d z l ml st V R))).right)
  have CC3 : Hid (∀ wx D mb oB sB g P, Own w0 wx (VX d z l ml st D mb [] (Star (ik g (inoV [] z st k)) (Star (ptA P D) (Star (volA V l) (Star (sb sB s) (Star (iz oB off) R)))))) → wx.cell? ⟨g, 2, none⟩ = some (.int .i64 ((inoV [] z st k).size : Int)) ∧ wx.cell? ⟨oB, 0, none⟩ = some (.int .i64 off) ∧ wx.cell? ⟨sB, 0, none⟩ = some (.string s)) := Lib.hid (fun wx D mb oB sB g P hw => by
    have h1 := hw.right.right.right.right
    exact ⟨blk_cell h1.blk 2 rfl, blk_cell h1.right.right.right.right.blk 0 rfl, blk_cell h1.right.right.right.blk 0 rfl⟩)
  clear h
  generalize inoV [] z st k = X at *
  go_enter Tryz.func36, Tryz.ntmps36
  go_upto_region 1 with fail
  generalize (World.alloc (World.alloc w _) _) = w1 at H0 ⊢
  generalize w.heap.size = oB at H0 ⊢
  go_upto_region 2 with (first
    | (go_at_call 68; refine (CT.out _ _ _ H0.out).mono ?_; rintro e w2 ⟨D, mb, rfl, h2⟩; have H2 := Lib.hid h2; clear h2)
    | (refine wpList_alloc_blk rfl 132 (inoL i0).toArray rfl (ino_zero _) ?_)
    | (refine wpList_store_row rfl _ _ _ rfl (w2.heap.size + 1) (inoL X).toArray rfl rfl _ _ (HT2.out _ _ _ _ _ H2.out).1 HM1.out HM3.out HM2.out ?_))
  have H3 := Lib.hid (HT2.out _ _ _ _ _ H2.out).2
  clear HT2 CT H2
  generalize (World.setRow _ _ _) = w3 at *
  generalize w2.heap.size = P at *
  generalize oB + 1 = sB at *
  generalize P + 1 = g at *
  obtain ⟨a1, a2, a3⟩ := CC3.out _ _ _ _ _ _ _ H3.out
  have H9 := Lib.hid (HFN.out _ _ _ _ _ _ _ H3.out)
  clear CC3 HFN
  clear H3
  by_cases n1 : off < 0
  · have d1 : decide (off < 0) = true := decide_eq_true n1
    go_wp2_with fail
    go_ret
    exact ⟨rfl, H9.out⟩
  · have d1 : decide (off < 0) = false := decide_eq_false n1
    by_cases n2 : (X.size : Int) < off
    · have d2 : decide ((X.size : Int) < off) = true := decide_eq_true n2
      go_wp2_with fail
      go_ret
      exact ⟨rfl, H9.out⟩
    · have d2 : decide ((X.size : Int) < off) = false := decide_eq_false n2
      have n3 : 512 < s.size := by
        rcases hb with q | q | q
        · exact absurd q n1
        · exact absurd q n2
        · exact q
      have d3 : decide (512 < s.size) = true := decide_eq_true n3
      have n3' : (512 : Int) < (s.size : Int) := by omega
      clear hb
      go_wp2_with fail
      go_ret
      exact ⟨rfl, H9.out⟩
set_option maxHeartbeats 12800000 in
theorem c_vwrite_big (h : Own w0 w (VL d z l ml st V R)) (hs : Stable R) (hz : LI z n) (hst : okSt (n + 32) st) (k : Nat) (hk : k < 32) (off : Int) (s : ByteArray) (hkd : ¬ (inoV [] z st k).kind = 0) (hsz : (inoV [] z st k).size ≤ 2368) (h0 : 0 ≤ off) (h1 : off ≤ ((inoV [] z st k).size : Int)) (h5 : s.size ≤ 512) (hb : 2368 < off + (s.size : Int)) :
    Calls Tryz.prog 36 #[.pointer (some ⟨V, 0, none⟩), .int .i64 (k : Int), .int .i64 off, .string s] w fun e w' => e = .returned (.int .i64 15) ∧ Own w0 w' (VL d z l ml st V R) := by
  have hx6 : (inoV [] z st k).pl.length = 6 := inoV_len [] z st k
  have hsY : ∀ oB sB, Stable (Star (sb sB s) (Star (iz oB off) R)) := fun oB sB => stable_star (stable_blk _ _) (stable_star (stable_blk _ _) hs)
  have hsV : ∀ oB sB, Stable (Star (volA V l) (Star (sb sB s) (Star (iz oB off) R))) := fun oB sB => stable_star (stable_blk _ _) (hsY oB sB)
  have hsT : ∀ oB sB g x P D, Stable (Star (ik g x) (Star (ptA P D) (Star (volA V l) (Star (sb sB s) (Star (iz oB off) R))))) := fun oB sB g x P D => stable_star (stable_blk _ _) (stable_star (stable_blk _ _) (hsV oB sB))
  have H0 : Hid (Own w0 ((w.alloc (.cells #[.int .i64 off] 3)).alloc (.cells #[.string s] 9)) (VL d z l ml st V (Star (sb (w.heap.size + 1) s) (Star (iz w.heap.size off) R)))) := Lib.hid (by
    have h1 := h.alloc (stable_dl _ _ _ _ _ _ (stable_star (stable_blk _ _) hs)) (.cells #[.int .i64 off] 3)
    have h2 := h1.alloc (stable_star (stable_blk _ _) (stable_dl _ _ _ _ _ _ (stable_star (stable_blk _ _) hs))) (.cells #[.string s] 9)
    rw [World.size_alloc] at h2
    exact (show Own w0 _ (Star (sb (w.heap.size + 1) s) (Star (iz w.heap.size off) (Star (dsk d z) (Star (lgA l d ml st false) (Star (volA V l) R))))) from h2).ac (by unfold VL DL; ac_rfl))
  have CT : Hid (∀ wx oB sB, Own w0 wx (VL d z l ml st V (Star (sb sB s) (Star (iz oB off) R))) → Calls Tryz.prog 68 #[.pointer (some ⟨V, 0, none⟩), .int .i64 (k : Int)] wx (TakeP w0 d z l ml st V (Star (sb sB s) (Star (iz oB off) R)) k)) := Lib.hid (fun wx oB sB hw => c_take_ok hw (hsY _ _) hz hst k hk hkd)
  unfold TakeP at CT
  rw [minI_of hsz] at CT
  have HT2 : Hid (∀ wx D mb oB sB, Own w0 wx (VX d z l ml st D mb [] (Star (volA V l) (Star (sb sB s) (Star (iz oB off) R)))) → _) := Lib.hid (fun wx D mb oB sB hw => own_take2 hw (hsV oB sB) (inoV [] z st k))
  have HM1 := Lib.hid (ino_infoX (inoV [] z st k) hx6)
  have HM2 := Lib.hid (ino_one (inoV [] z st k))
  have HM3 : Hid ((inoL i0).toArray.size = (inoL (inoV [] z st k)).toArray.size) := Lib.hid (by rw [ino_size _ hx6]; rfl)
  have HFN : Hid (∀ wx D mb oB sB g P, Own w0 wx (VX d z l ml st D mb [] (Star (ik g (inoV [] z st k)) (Star (ptA P D) (Star (volA V l) (Star (sb sB s) (Star (iz oB off) R)))))) → Own w0 wx (VL d z l ml st V R)) := Lib.hid (fun wx D mb oB sB g P hw =>
    (hw.ac (by unfold VX VL DL; ac_rfl) : Own w0 wx (Star (Star (drB D l (.map (some mb))) (Star (bmA mb []) (Star (ik g (inoV [] z st k)) (Star (ptA P D) (Star (sb sB s) (iz oB off)))))) (VL d z l ml st V R))).right)
  have CC3 : Hid (∀ wx D mb oB sB g P, Own w0 wx (VX d z l ml st D mb [] (Star (ik g (inoV [] z st k)) (Star (ptA P D) (Star (volA V l) (Star (sb sB s) (Star (iz oB off) R)))))) → wx.cell? ⟨g, 2, none⟩ = some (.int .i64 ((inoV [] z st k).size : Int)) ∧ wx.cell? ⟨oB, 0, none⟩ = some (.int .i64 off) ∧ wx.cell? ⟨sB, 0, none⟩ = some (.string s)) := Lib.hid (fun wx D mb oB sB g P hw => by
    have h1 := hw.right.right.right.right
    exact ⟨blk_cell h1.blk 2 rfl, blk_cell h1.right.right.right.right.blk 0 rfl, blk_cell h1.right.right.right.blk 0 rfl⟩)
  have n1 : ¬ off < 0 := by omega
  have n2 : ¬ ((inoV [] z st k).size : Int) < off := by omega
  have n3 : ¬ 512 < s.size := by omega
  have d1 : decide (off < 0) = false := decide_eq_false n1
  have d2 : decide (((inoV [] z st k).size : Int) < off) = false := decide_eq_false n2
  have d3 : decide (512 < s.size) = false := decide_eq_false n3
  have n3' : ¬ (512 : Int) < (s.size : Int) := by omega
  obtain ⟨en, hE⟩ : ∃ en : Int, off + (s.size : Int) = en := ⟨_, rfl⟩
  have hwr : IntKind.i64.wrap en = en := IntWalk.i64_in _ (by omega)
  have n4 : 2368 < en := by omega
  have d4 : decide (2368 < en) = true := decide_eq_true n4
  clear h
  generalize inoV [] z st k = X at *
  go_enter Tryz.func36, Tryz.ntmps36
  go_upto_region 1 with fail
  generalize (World.alloc (World.alloc w _) _) = w1 at H0 ⊢
  generalize w.heap.size = oB at H0 ⊢
  go_upto_region 2 with (first
    | (go_at_call 68; refine (CT.out _ _ _ H0.out).mono ?_; rintro e w2 ⟨D, mb, rfl, h2⟩; have H2 := Lib.hid h2; clear h2)
    | (refine wpList_alloc_blk rfl 132 (inoL i0).toArray rfl (ino_zero _) ?_)
    | (refine wpList_store_row rfl _ _ _ rfl (w2.heap.size + 1) (inoL X).toArray rfl rfl _ _ (HT2.out _ _ _ _ _ H2.out).1 HM1.out HM3.out HM2.out ?_))
  have H3 := Lib.hid (HT2.out _ _ _ _ _ H2.out).2
  clear HT2 CT H2
  generalize (World.setRow _ _ _) = w3 at *
  generalize w2.heap.size = P at *
  generalize oB + 1 = sB at *
  generalize P + 1 = g at *
  obtain ⟨a1, a2, a3⟩ := CC3.out _ _ _ _ _ _ _ H3.out
  have H9 := Lib.hid (HFN.out _ _ _ _ _ _ _ H3.out)
  clear CC3 HFN
  clear H3
  have HG : ∀ v T, Hid (Own w0 (w3.alloc (.cells #[v] T)) (VL d z l ml st V R)) := fun v T => Lib.hid (H9.out.gr (stable_dl _ _ _ _ _ _ (stable_star (stable_blk _ _) hs)) ((Gr.refl _).alloc (Nat.le_refl _) _))
  go_wp2_with fail
  go_ret
  exact ⟨rfl, (HG _ _).out⟩
set_option maxHeartbeats 12800000 in
theorem c_vwrite_room (h : Own w0 w (VL d z l ml st V R)) (hs : Stable R) (hz : LI z n) (hst : okSt (n + 32) st) (k : Nat) (hk : k < 32) (off : Int) (s : ByteArray) (hkd : ¬ (inoV [] z st k).kind = 0) (hsz : (inoV [] z st k).size ≤ 2368) (h0 : 0 ≤ off) (h1 : off ≤ ((inoV [] z st k).size : Int)) (h5 : s.size ≤ 512) (h6 : off + (s.size : Int) ≤ 2368) (h16 : 16 < st.length) :
    Calls Tryz.prog 36 #[.pointer (some ⟨V, 0, none⟩), .int .i64 (k : Int), .int .i64 off, .string s] w fun e w' => e = .returned (.int .i64 4) ∧ Own w0 w' (VL d z l ml st V R) := by
  have hx6 : (inoV [] z st k).pl.length = 6 := inoV_len [] z st k
  have hsY : ∀ oB sB, Stable (Star (sb sB s) (Star (iz oB off) R)) := fun oB sB => stable_star (stable_blk _ _) (stable_star (stable_blk _ _) hs)
  have hsV : ∀ oB sB, Stable (Star (volA V l) (Star (sb sB s) (Star (iz oB off) R))) := fun oB sB => stable_star (stable_blk _ _) (hsY oB sB)
  have hsT : ∀ oB sB g x P D, Stable (Star (ik g x) (Star (ptA P D) (Star (volA V l) (Star (sb sB s) (Star (iz oB off) R))))) := fun oB sB g x P D => stable_star (stable_blk _ _) (stable_star (stable_blk _ _) (hsV oB sB))
  have H0 : Hid (Own w0 ((w.alloc (.cells #[.int .i64 off] 3)).alloc (.cells #[.string s] 9)) (VL d z l ml st V (Star (sb (w.heap.size + 1) s) (Star (iz w.heap.size off) R)))) := Lib.hid (by
    have h1 := h.alloc (stable_dl _ _ _ _ _ _ (stable_star (stable_blk _ _) hs)) (.cells #[.int .i64 off] 3)
    have h2 := h1.alloc (stable_star (stable_blk _ _) (stable_dl _ _ _ _ _ _ (stable_star (stable_blk _ _) hs))) (.cells #[.string s] 9)
    rw [World.size_alloc] at h2
    exact (show Own w0 _ (Star (sb (w.heap.size + 1) s) (Star (iz w.heap.size off) (Star (dsk d z) (Star (lgA l d ml st false) (Star (volA V l) R))))) from h2).ac (by unfold VL DL; ac_rfl))
  have CT : Hid (∀ wx oB sB, Own w0 wx (VL d z l ml st V (Star (sb sB s) (Star (iz oB off) R))) → Calls Tryz.prog 68 #[.pointer (some ⟨V, 0, none⟩), .int .i64 (k : Int)] wx (TakeP w0 d z l ml st V (Star (sb sB s) (Star (iz oB off) R)) k)) := Lib.hid (fun wx oB sB hw => c_take_ok hw (hsY _ _) hz hst k hk hkd)
  unfold TakeP at CT
  rw [minI_of hsz] at CT
  have HT2 : Hid (∀ wx D mb oB sB, Own w0 wx (VX d z l ml st D mb [] (Star (volA V l) (Star (sb sB s) (Star (iz oB off) R)))) → _) := Lib.hid (fun wx D mb oB sB hw => own_take2 hw (hsV oB sB) (inoV [] z st k))
  have HM1 := Lib.hid (ino_infoX (inoV [] z st k) hx6)
  have HM2 := Lib.hid (ino_one (inoV [] z st k))
  have HM3 : Hid ((inoL i0).toArray.size = (inoL (inoV [] z st k)).toArray.size) := Lib.hid (by rw [ino_size _ hx6]; rfl)
  have HFN : Hid (∀ wx D mb oB sB g P, Own w0 wx (VX d z l ml st D mb [] (Star (ik g (inoV [] z st k)) (Star (ptA P D) (Star (volA V l) (Star (sb sB s) (Star (iz oB off) R)))))) → Own w0 wx (VL d z l ml st V R)) := Lib.hid (fun wx D mb oB sB g P hw =>
    (hw.ac (by unfold VX VL DL; ac_rfl) : Own w0 wx (Star (Star (drB D l (.map (some mb))) (Star (bmA mb []) (Star (ik g (inoV [] z st k)) (Star (ptA P D) (Star (sb sB s) (iz oB off)))))) (VL d z l ml st V R))).right)
  have CC3 : Hid (∀ wx D mb oB sB g P, Own w0 wx (VX d z l ml st D mb [] (Star (ik g (inoV [] z st k)) (Star (ptA P D) (Star (volA V l) (Star (sb sB s) (Star (iz oB off) R)))))) → wx.cell? ⟨g, 2, none⟩ = some (.int .i64 ((inoV [] z st k).size : Int)) ∧ wx.cell? ⟨oB, 0, none⟩ = some (.int .i64 off) ∧ wx.cell? ⟨sB, 0, none⟩ = some (.string s)) := Lib.hid (fun wx D mb oB sB g P hw => by
    have h1 := hw.right.right.right.right
    exact ⟨blk_cell h1.blk 2 rfl, blk_cell h1.right.right.right.right.blk 0 rfl, blk_cell h1.right.right.right.blk 0 rfl⟩)
  have n1 : ¬ off < 0 := by omega
  have n2 : ¬ ((inoV [] z st k).size : Int) < off := by omega
  have n3 : ¬ 512 < s.size := by omega
  have d1 : decide (off < 0) = false := decide_eq_false n1
  have d2 : decide (((inoV [] z st k).size : Int) < off) = false := decide_eq_false n2
  have d3 : decide (512 < s.size) = false := decide_eq_false n3
  have n3' : ¬ (512 : Int) < (s.size : Int) := by omega
  obtain ⟨en, hE⟩ : ∃ en : Int, off + (s.size : Int) = en := ⟨_, rfl⟩
  have hwr : IntKind.i64.wrap en = en := IntWalk.i64_in _ (by omega)
  have n4 : ¬ 2368 < en := by omega
  have d4 : decide (2368 < en) = false := decide_eq_false n4
  have CRM : Hid (∀ wx D mb oB sB g P v T, Own w0 wx (VX d z l ml st D mb [] (Star (ik g (inoV [] z st k)) (Star (ptA P D) (Star (volA V l) (Star (sb sB s) (Star (iz oB off) R)))))) → Calls Tryz.prog 74 #[.pointer (some ⟨V, 0, none⟩)] (wx.alloc (.cells #[v] T)) fun e w' => e = .returned (.int .i64 4) ∧ w' = wx.alloc (.cells #[v] T)) := Lib.hid (fun wx D mb oB sB g P v T hw => by
    have h2 := hw.gr (stable_vx (hsT _ _ _ _ _ _)) ((Gr.refl wx).alloc (Nat.le_refl _) (.cells #[v] T))
    exact c_roomX4 h2 (blk_cell h2.right.right.right.right.right.right.blk 0 rfl) h16)
  clear h
  generalize inoV [] z st k = X at *
  go_enter Tryz.func36, Tryz.ntmps36
  go_upto_region 1 with fail
  generalize (World.alloc (World.alloc w _) _) = w1 at H0 ⊢
  generalize w.heap.size = oB at H0 ⊢
  go_upto_region 2 with (first
    | (go_at_call 68; refine (CT.out _ _ _ H0.out).mono ?_; rintro e w2 ⟨D, mb, rfl, h2⟩; have H2 := Lib.hid h2; clear h2)
    | (refine wpList_alloc_blk rfl 132 (inoL i0).toArray rfl (ino_zero _) ?_)
    | (refine wpList_store_row rfl _ _ _ rfl (w2.heap.size + 1) (inoL X).toArray rfl rfl _ _ (HT2.out _ _ _ _ _ H2.out).1 HM1.out HM3.out HM2.out ?_))
  have H3 := Lib.hid (HT2.out _ _ _ _ _ H2.out).2
  clear HT2 CT H2
  generalize (World.setRow _ _ _) = w3 at *
  generalize w2.heap.size = P at *
  generalize oB + 1 = sB at *
  generalize P + 1 = g at *
  obtain ⟨a1, a2, a3⟩ := CC3.out _ _ _ _ _ _ _ H3.out
  have H9 := Lib.hid (HFN.out _ _ _ _ _ _ _ H3.out)
  clear CC3 HFN
  have CR := fun v T => Lib.hid (CRM.out _ _ _ _ _ _ _ v T H3.out)
  clear H3 CRM
  have HG : ∀ v T, Hid (Own w0 (w3.alloc (.cells #[v] T)) (VL d z l ml st V R)) := fun v T => Lib.hid (H9.out.gr (stable_dl _ _ _ _ _ _ (stable_star (stable_blk _ _) hs)) ((Gr.refl _).alloc (Nat.le_refl _) _))
  go_wp2_with (go_at_call 74; refine (CR _ _).out.mono ?_; rintro e w' ⟨rfl, hw'⟩; rw [hw']; clear hw' w')
  go_ret
  exact ⟨rfl, (HG _ _).out⟩
/-- Where take answers none. -/
theorem c_write_no {A : Asn} {pv : Value} {er k off : Int} {s : ByteArray} (hs : Stable A) (her : er ≠ 0) (h : Own w0 w A) (hT : ∀ wx, Own w0 wx A → Calls Tryz.prog 68 #[pv, .int .i64 k] wx fun e w' => e = .returned (.tuple #[.pointer none, .agg (inoL i0).toArray, .int .i64 er]) ∧ Own w0 w' A) : Calls Tryz.prog 36 #[pv, .int .i64 k, .int .i64 off, .string s] w fun e w' => e = .returned (.int .i64 er) ∧ Own w0 w' A := by
  have H0 : Hid (Own w0 ((w.alloc (.cells #[.int .i64 off] 3)).alloc (.cells #[.string s] 9)) A) := Lib.hid (h.gr hs (((Gr.refl w).alloc (Nat.le_refl _) (.cells #[.int .i64 off] 3)).alloc (by simp) _))
  have CT := Lib.hid hT
  have HM1 := Lib.hid (ino_infoX i0 rfl)
  have HM2 := Lib.hid (ino_one i0)
  have HA := Lib.hid ino_second
  have HF : Hid (∀ w2, Own w0 w2 A → Own w0 (((w2.alloc (.cells #[.pointer none] 114)).alloc (.cells (inoL i0).toArray 132)).setRow (w2.heap.size + 1) (inoL i0).toArray) A) := Lib.hid (fun w2 h2 => h2.gr hs (gr_second (Gr.refl w2)))
  have e1 : (er != 0) = true := bne_iff_ne.2 her
  have e2 : (er == 0) = false := beq_eq_false_iff_ne.2 her
  clear hT h
  go_enter Tryz.func36, Tryz.ntmps36
  go_upto_region 1 with fail
  generalize (World.alloc (World.alloc w _) _) = w1 at H0 ⊢
  generalize w.heap.size = oB at *
  go_wp2_with (first
    | (go_at_call 68; refine (CT.out _ H0.out).mono ?_; rintro e w2 ⟨rfl, h2⟩; have H2 := Lib.hid (HF.out _ h2); clear h2)
    | (refine wpList_alloc_blk rfl 132 (inoL i0).toArray rfl (ino_zero _) ?_)
    | (refine wpList_store_row rfl _ _ _ rfl (w2.heap.size + 1) (inoL i0).toArray rfl rfl _ _ (HA.out w2) HM1.out rfl HM2.out ?_))
  go_ret
  exact ⟨rfl, H2.out⟩
end
end Go.Proofs.YtlpcccpagmipnaaGreat.P
namespace Go.Proofs.YtlpcccpagmipnaaGreat.P
open Go.RowKit Go.ChangeMaps Go.MapKept
section
variable {w0 w : World} {d : Nat} {z : DState} {l ml V D mb : Nat} {st : List (Int × ByteArray)} {n : Nat} {rows : List (Int × ByteArray)} {R Y : Asn}
set_option maxHeartbeats 12800000 in
theorem c_vwrite_full (h : Own w0 w (VL d z l ml st V R)) (hs : Stable R) (hz : LI z n) (hst : okSt (n + 32) st) (h16 : st.length ≤ 16) (k : Nat) (hk : k < 32) (off : Nat) (s : ByteArray) (hkd : ¬ (inoV [] z st k).kind = 0)
    (hsz : (inoV [] z st k).size ≤ 2368) (hoff : off ≤ (inoV [] z st k).size) (hs5 : s.size ≤ 512) (hend : off + s.size ≤ 2368) (hp : (inoV [] z st k).pl.getD 5 0 < n)
    (hg : (growF n (rowL [] z st 0) (fileV [] z st (inoV [] z st k)) (max (inoV [] z st k).size (off + s.size))).2.2 = false) :
    Calls Tryz.prog 36 #[.pointer (some ⟨V, 0, none⟩), .int .i64 (k : Int), .int .i64 (off : Int), .string s] w fun e w' => e = .returned (.int .i64 4) ∧ Own w0 w' (VL d z l ml st V R) := by
  have hlo := hz.lo
  have hhi := hz.hi
  have hx6 : (inoV [] z st k).pl.length = 6 := inoV_len [] z st k
  have h37 := fileV_len [] z st hx6
  -- the boxes
  have hsY : ∀ oB sB, Stable (Star (sb sB s) (Star (ib oB off) R)) := fun oB sB => stable_star (stable_blk _ _) (stable_star (stable_blk _ _) hs)
  have hsV : ∀ oB sB, Stable (Star (volA V l) (Star (sb sB s) (Star (ib oB off) R))) := fun oB sB => stable_star (stable_blk _ _) (hsY oB sB)
  have hsT : ∀ oB sB g x P D, Stable (Star (ik g x) (Star (ptA P D) (Star (volA V l) (Star (sb sB s) (Star (ib oB off) R))))) := fun oB sB g x P D => stable_star (stable_blk _ _) (stable_star (stable_blk _ _) (hsV oB sB))
  have H0 : Hid (Own w0 ((w.alloc (.cells #[.int .i64 (off : Int)] 3)).alloc (.cells #[.string s] 9)) (VL d z l ml st V (Star (sb (w.heap.size + 1) s) (Star (ib w.heap.size off) R)))) := Lib.hid (by
    have h1 := h.alloc (stable_dl _ _ _ _ _ _ (stable_star (stable_blk _ _) hs)) (.cells #[.int .i64 (off : Int)] 3)
    have h2 := h1.alloc (stable_star (stable_blk _ _) (stable_dl _ _ _ _ _ _ (stable_star (stable_blk _ _) hs))) (.cells #[.string s] 9)
    rw [World.size_alloc] at h2
    exact (show Own w0 _ (Star (sb (w.heap.size + 1) s) (Star (ib w.heap.size off) (Star (dsk d z) (Star (lgA l d ml st false) (Star (volA V l) R))))) from h2).ac (by unfold VL DL; ac_rfl))
  have CT : Hid (∀ wx oB sB, Own w0 wx (VL d z l ml st V (Star (sb sB s) (Star (ib oB off) R))) → Calls Tryz.prog 68 #[.pointer (some ⟨V, 0, none⟩), .int .i64 (k : Int)] wx (TakeP w0 d z l ml st V (Star (sb sB s) (Star (ib oB off) R)) k)) := Lib.hid (fun wx oB sB hw => c_take_ok hw (hsY _ _) hz hst k hk hkd)
  unfold TakeP at CT
  rw [minI_of hsz] at CT
  have HT2 : Hid (∀ wx D mb oB sB, Own w0 wx (VX d z l ml st D mb [] (Star (volA V l) (Star (sb sB s) (Star (ib oB off) R)))) → _) := Lib.hid (fun wx D mb oB sB hw => own_take2 hw (hsV oB sB) (inoV [] z st k))
  have HM1 := Lib.hid (ino_infoX (inoV [] z st k) hx6)
  have HM2 := Lib.hid (ino_one (inoV [] z st k))
  have HM3 : Hid ((inoL i0).toArray.size = (inoL (inoV [] z st k)).toArray.size) := Lib.hid (by rw [ino_size _ hx6]; rfl)
  have HF1 := Lib.hid (fil_infoX (f := fileV [] z st (inoV [] z st k)) hx6 h37)
  have HF2 := Lib.hid (fil_one (fileV [] z st (inoV [] z st k)))
  have HF3 : Hid ((filL f0).toArray.size = (filL (fileV [] z st (inoV [] z st k))).toArray.size) := Lib.hid (by rw [List.size_toArray, List.size_toArray, fil_len (f := fileV [] z st (inoV [] z st k)) hx6 h37]; rfl)
  have CC3 : Hid (∀ wx D mb oB sB g P, Own w0 wx (VX d z l ml st D mb [] (Star (ik g (inoV [] z st k)) (Star (ptA P D) (Star (volA V l) (Star (sb sB s) (Star (ib oB off) R)))))) → wx.cell? ⟨g, 2, none⟩ = some (.int .i64 ((inoV [] z st k).size : Int)) ∧ wx.cell? ⟨oB, 0, none⟩ = some (.int .i64 (off : Int)) ∧ wx.cell? ⟨sB, 0, none⟩ = some (.string s)) := Lib.hid (fun wx D mb oB sB g P hw => by
    have h1 := hw.right.right.right.right
    exact ⟨blk_cell h1.blk 2 rfl, blk_cell h1.right.right.right.right.blk 0 rfl, blk_cell h1.right.right.right.blk 0 rfl⟩)
  generalize hen : off + s.size = en at *
  have hE : (off : Int) + (s.size : Int) = (en : Int) := by omega
  have hE2 : off + s.size = en := hen
  have HEN := Lib.hid hen
  clear hen
  -- the end's box
  have HB4 : Hid (∀ wx D mb oB sB g P, Own w0 wx (VX d z l ml st D mb [] (Star (ik g (inoV [] z st k)) (Star (ptA P D) (Star (volA V l) (Star (sb sB s) (Star (ib oB off) R)))))) → Own w0 (wx.alloc (.cells #[.int .i64 (en : Int)] 3)) (VX d z l ml st D mb [] (Star (ib wx.heap.size en) (Star (ik g (inoV [] z st k)) (Star (ptA P D) (Star (volA V l) (Star (sb sB s) (Star (ib oB off) R)))))))) := Lib.hid (fun wx D mb oB sB g P hw => hw.box4 (stable_vx (hsT _ _ _ _ _ _)) _)
  have CC4 : Hid (∀ wx D mb oB sB g P eB, Own w0 wx (VX d z l ml st D mb [] (Star (ib eB en) (Star (ik g (inoV [] z st k)) (Star (ptA P D) (Star (volA V l) (Star (sb sB s) (Star (ib oB off) R))))))) → wx.cell? ⟨eB, 0, none⟩ = some (.int .i64 (en : Int)) ∧ wx.cell? ⟨P, 0, none⟩ = some (.pointer (some ⟨D, 0, none⟩)) ∧ wx.heap[g]? = some (.cells (inoL (inoV [] z st k)).toArray 132) ∧ Calls Tryz.prog 74 #[.pointer (some ⟨V, 0, none⟩)] wx (fun e w' => e = .returned (.int .i64 0) ∧ w' = wx) ∧ Calls Tryz.prog 70 #[.pointer (some ⟨D, 0, none⟩), .agg (inoL (inoV [] z st k)).toArray] wx fun e w' => e = .returned (.agg (filL (fileV [] z st (inoV [] z st k))).toArray) ∧ Own w0 w' (VX d z l ml st D mb [] (Star (ib eB en) (Star (ik g (inoV [] z st k)) (Star (ptA P D) (Star (volA V l) (Star (sb sB s) (Star (ib oB off) R)))))))) := Lib.hid (fun wx D mb oB sB g P eB hw => by
    have h1 := hw.right.right.right.right
    exact ⟨blk_cell h1.blk 0 rfl, blk_cell h1.right.right.blk 0 rfl, h1.right.blk, c_roomX hw (blk_cell h1.right.right.right.blk 0 rfl) h16, c_vfile hw (stable_star (stable_blk _ _) (hsT _ _ _ _ _ _)) hz hst _ hx6 hp⟩)
  -- the file's box
  have HB5 : Hid (∀ wx D mb oB sB g P eB, Own w0 wx (VX d z l ml st D mb [] (Star (ib eB en) (Star (ik g (inoV [] z st k)) (Star (ptA P D) (Star (volA V l) (Star (sb sB s) (Star (ib oB off) R))))))) → (wx.alloc (.cells (filL f0).toArray 137)).heap[wx.heap.size]? = some (.cells (filL f0).toArray 137) ∧ Own w0 ((wx.alloc (.cells (filL f0).toArray 137)).setRow wx.heap.size (filL (fileV [] z st (inoV [] z st k))).toArray) (VX d z l ml st D mb [] (Star (fk wx.heap.size (fileV [] z st (inoV [] z st k))) (Star (ib eB en) (Star (ik g (inoV [] z st k)) (Star (ptA P D) (Star (volA V l) (Star (sb sB s) (Star (ib oB off) R))))))))) := Lib.hid (fun wx D mb oB sB g P eB hw => own_fil hw (stable_star (stable_blk _ _) (hsT _ _ _ _ _ _)) _)
  have CC5 : Hid (∀ wx D mb G Y', Own w0 wx (VX d z l ml st D mb [] (Star (fk G (fileV [] z st (inoV [] z st k))) Y')) → wx.cell? ⟨G, 2, none⟩ = some (.int .i64 ((inoV [] z st k).size : Int))) := Lib.hid (fun wx D mb G Y' hw => blk_cell hw.out4.blk 2 (fil_cell2 _))
  have CCN := Lib.hid (fun wx => c_count (inoV [] z st k).size (by omega) wx)
  -- the box of how many it had
  have HB6 : Hid (∀ wx D mb oB sB g P eB G, Own w0 wx (VX d z l ml st D mb [] (Star (fk G (fileV [] z st (inoV [] z st k))) (Star (ib eB en) (Star (ik g (inoV [] z st k)) (Star (ptA P D) (Star (volA V l) (Star (sb sB s) (Star (ib oB off) R)))))))) → Own w0 (wx.alloc (.cells #[.int .i64 (cntN (inoV [] z st k).size : Int)] 3)) (VX d z l ml st D mb [] (Star (ib wx.heap.size (cntN (inoV [] z st k).size)) (Star (fk G (fileV [] z st (inoV [] z st k))) (Star (ib eB en) (Star (ik g (inoV [] z st k)) (Star (ptA P D) (Star (volA V l) (Star (sb sB s) (Star (ib oB off) R)))))))))) := Lib.hid (fun wx D mb oB sB g P eB G hw => hw.box4 (stable_vx (stable_star (stable_blk _ _) (stable_star (stable_blk _ _) (hsT _ _ _ _ _ _)))) _)
  have hsG : ∀ hB c eB g x P D oB sB, Stable (Star (ib hB c) (Star (ib eB en) (Star (ik g x) (Star (ptA P D) (Star (volA V l) (Star (sb sB s) (Star (ib oB off) R))))))) := fun hB c eB g x P D oB sB => stable_star (stable_blk _ _) (stable_star (stable_blk _ _) (hsT _ _ _ _ _ _))
  generalize hM : max (inoV [] z st k).size en = M at *
  have hM0 : max ((inoV [] z st k).size : Int) (en : Int) = (M : Int) := by omega
  have hM2 : M ≤ 2368 := by omega
  clear hM
  have CGR : Hid (∀ wx D mb hB oB sB g P eB G, Own w0 wx (VX d z l ml st D mb [] (Star (ib hB (cntN (inoV [] z st k).size)) (Star (fk G (fileV [] z st (inoV [] z st k))) (Star (ib eB en) (Star (ik g (inoV [] z st k)) (Star (ptA P D) (Star (volA V l) (Star (sb sB s) (Star (ib oB off) R))))))))) → wx.cell? ⟨G, 2, none⟩ = some (.int .i64 ((inoV [] z st k).size : Int)) ∧ wx.cell? ⟨P, 0, none⟩ = some (.pointer (some ⟨D, 0, none⟩)) ∧ wx.cell? ⟨eB, 0, none⟩ = some (.int .i64 (en : Int)) ∧ Calls Tryz.prog 79 #[.pointer (some ⟨D, 0, none⟩), .pointer (some ⟨G, 0, none⟩), .int .i64 (M : Int)] wx fun e w' => e = .returned (.int .i64 4) ∧ Own w0 w' (VX d z l ml st D mb [] (Star (fk G (growF n (rowL [] z st 0) (fileV [] z st (inoV [] z st k)) M).1) (Star (ib hB (cntN (inoV [] z st k).size)) (Star (ib eB en) (Star (ik g (inoV [] z st k)) (Star (ptA P D) (Star (volA V l) (Star (sb sB s) (Star (ib oB off) R)))))))))) := Lib.hid (fun wx D mb hB oB sB g P eB G hw => by
    have h1 := hw.right.right.right.right.right
    have := c_vgrow hw.swapR (hsG _ _ _ _ _ _ _ _ _) hz hst (by simp) hx6 h37 M hM2
    rw [hg] at this
    exact ⟨blk_cell h1.blk 2 (fil_cell2 _), blk_cell h1.right.right.right.blk 0 rfl, blk_cell h1.right.blk 0 rfl, this⟩)
  have n1 : ¬ (off : Int) < 0 := by omega
  have n2 : ¬ (inoV [] z st k).size < off := by omega
  have n3 : ¬ 512 < s.size := by omega
  have n4 : ¬ 2368 < en := by omega
  have n2' : ¬ ((inoV [] z st k).size : Int) < (off : Int) := by omega
  have n3' : ¬ (512 : Int) < (s.size : Int) := by omega
  have n4' : ¬ (2368 : Int) < (en : Int) := by omega
  clear h
  generalize fileV [] z st (inoV [] z st k) = FF at *
  generalize inoV [] z st k = X at *
  generalize (growF n (rowL [] z st 0) FF M).1 = GF at *
  go_enter Tryz.func36, Tryz.ntmps36
  go_upto_region 1 with fail
  generalize (World.alloc (World.alloc w _) _) = w1 at H0 ⊢
  generalize w.heap.size = oB at H0 ⊢
  go_upto_region 2 with (first
    | (go_at_call 68; refine (CT.out _ _ _ H0.out).mono ?_; rintro e w2 ⟨D, mb, rfl, h2⟩; have H2 := Lib.hid h2; clear h2)
    | (refine wpList_alloc_blk rfl 132 (inoL i0).toArray rfl (ino_zero _) ?_)
    | (refine wpList_store_row rfl _ _ _ rfl (w2.heap.size + 1) (inoL X).toArray rfl rfl _ _ (HT2.out _ _ _ _ _ H2.out).1 HM1.out HM3.out HM2.out ?_))
  have H3 := Lib.hid (HT2.out _ _ _ _ _ H2.out).2
  clear HT2 CT H2
  generalize (World.setRow _ _ _) = w3 at *
  generalize w2.heap.size = P at *
  generalize oB + 1 = sB at *
  generalize P + 1 = g at *
  obtain ⟨a1, a2, a3⟩ := CC3.out _ _ _ _ _ _ _ H3.out
  have H4 := Lib.hid (HB4.out _ _ _ _ _ _ _ H3.out)
  clear HB4 CC3
  go_upto_region 7 with fail
  generalize (World.alloc w3 _) = w4 at *
  generalize w3.heap.size = eB at *
  clear a1 a2 a3 H3
  obtain ⟨b1, b2, b3, b4, b5⟩ := CC4.out _ _ _ _ _ _ _ _ H4.out
  have B4 := Lib.hid b4
  have B5 := Lib.hid b5
  clear b4 b5 CC4
  go_upto_region 13 with (first
    | (go_at_call 74; refine B4.out.mono ?_; rintro e w' ⟨rfl, hw'⟩; rw [hw']; clear hw' w')
    | (refine wpList_load_row rfl _ _ rfl g rfl _ (inoL X).toArray (0, 0) _ b3 Tryz.underlying132 rfl HM1.out ?_)
    | (go_at_call 70; refine B5.out.mono ?_; rintro e w5 ⟨rfl, h5⟩; have H5 := Lib.hid h5; clear h5)
    | (refine wpList_alloc_blk rfl 137 (filL f0).toArray rfl (fil_zero _) ?_)
    | (refine wpList_store_row rfl _ _ _ rfl w5.heap.size (filL FF).toArray rfl rfl _ _ (HB5.out _ _ _ _ _ _ _ _ H5.out).1 HF1.out HF3.out HF2.out ?_))
  have H6 := Lib.hid (HB5.out _ _ _ _ _ _ _ _ H5.out).2
  clear HB5 B4 B5 b1 b2 b3
  generalize (World.setRow _ _ _) = w6 at *
  generalize w5.heap.size = G at *
  clear H5
  have c1 := CC5.out _ _ _ _ _ H6.out
  have H7 := Lib.hid (HB6.out _ _ _ _ _ _ _ _ _ H6.out)
  clear CC5 HB6
  go_upto_region 14 with (go_at_call 78; refine (CCN.out _).mono ?_; rintro e w' ⟨rfl, hw'⟩; rw [hw']; clear hw' w')
  clear CCN c1
  generalize (World.alloc w6 _) = w7 at *
  generalize w6.heap.size = hB at *
  clear H6
  obtain ⟨e1, e2, e3, e4⟩ := CGR.out _ _ _ _ _ _ _ _ _ _ H7.out
  have E4 := Lib.hid e4
  clear e4 CGR
  have HFN : Hid (∀ wx, Own w0 wx (VX d z l ml st D mb [] (Star (fk G GF) (Star (ib hB (cntN X.size)) (Star (ib eB en) (Star (ik g X) (Star (ptA P D) (Star (volA V l) (Star (sb sB s) (Star (ib oB off) R))))))))) → Own w0 wx (VL d z l ml st V R)) := Lib.hid (fun wx hw =>
    (hw.ac (by unfold VX VL DL; ac_rfl) : Own w0 wx (Star (Star (drB D l (.map (some mb))) (Star (bmA mb []) (Star (fk G GF) (Star (ib hB (cntN X.size)) (Star (ib eB en) (Star (ik g X) (Star (ptA P D) (Star (sb sB s) (ib oB off))))))))) (VL d z l ml st V R))).right)
  go_wp2_with (go_at_call 79; refine E4.out.mono ?_; rintro e w8 ⟨rfl, h8⟩; have H8 := Lib.hid (HFN.out _ h8); clear h8)
  go_ret
  exact ⟨rfl, H8.out⟩
end
end Go.Proofs.YtlpcccpagmipnaaGreat.P
