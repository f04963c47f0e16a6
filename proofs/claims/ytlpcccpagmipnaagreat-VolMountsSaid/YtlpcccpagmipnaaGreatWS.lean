/- Stage 8: the other calls, where they are refused. No condition. -/
import Derived.Test.YtlpcccpagmipnaaGreatWK
set_option linter.unusedVariables false
set_option linter.unusedSimpArgs false
set_option maxRecDepth 100000
namespace Go.Proofs.YtlpcccpagmipnaaGreat.P
open Go.RowKit Go.ChangeMaps Go.MapKept
section
variable {w0 w : World} {d : Nat} {z : DState} {l ml V D mb : Nat} {st : List (Int × ByteArray)} {n : Nat} {R Y : Asn}
set_option maxHeartbeats 3200000 in
theorem c_vlink_many (h : Own w0 w (VL d z l ml st V R)) (hs : Stable R) (hz : LI z n) (hst : okSt (n + 32) st) (k : Nat) (hk : k < 32) (hkd : ¬ (inoV [] z st k).kind = 0) (by_ : Int) (hl0 : (inoV [] z st k).links ≤ 255) (hb : by_ < -((inoV [] z st k).links : Int) ∨ (255 : Int) - ((inoV [] z st k).links : Int) < by_) :
    Calls Tryz.prog 38 #[.pointer (some ⟨V, 0, none⟩), .int .i64 (k : Int), .int .i64 by_] w fun e w' => e = .returned (.int .i64 15) ∧ Own w0 w' (VL d z l ml st V R) := by
  have hx6 : (minI (inoV [] z st k)).pl.length = 6 := inoV_len [] z st k
  have hsY : Stable (Star (volA V l) R) := stable_star (stable_blk _ _) hs
  have CT := Lib.hid (c_take_ok h hs hz hst k hk hkd)
  have HB1 : Hid (∀ wx D mb, Own w0 wx (VX d z l ml st D mb [] (Star (volA V l) R)) → (wx.alloc (.cells (inoL i0).toArray 132)).heap[wx.heap.size]? = some (.cells (inoL i0).toArray 132) ∧ Own w0 ((wx.alloc (.cells (inoL i0).toArray 132)).setRow wx.heap.size (inoL (minI (inoV [] z st k))).toArray) (VX d z l ml st D mb [] (Star (ik wx.heap.size (minI (inoV [] z st k))) (Star (volA V l) R)))) := Lib.hid (fun wx D mb hw => own_ino hw hsY _)
  have CRM : Hid (∀ wx D mb g, Own w0 wx (VX d z l ml st D mb [] (Star (ik g (minI (inoV [] z st k))) (Star (volA V l) R))) → Own w0 wx (VL d z l ml st V R)) := Lib.hid (fun wx D mb g hw => own_drop (own_drop (own_drop hw)))
  have CC : Hid (∀ wx D mb g, Own w0 wx (VX d z l ml st D mb [] (Star (ik g (minI (inoV [] z st k))) (Star (volA V l) R))) → wx.cell? ⟨g, 1, none⟩ = some (.int .i64 ((minI (inoV [] z st k)).links : Int)) ∧ wx.cell? ⟨g, 2, none⟩ = some (.int .i64 ((minI (inoV [] z st k)).size : Int))) := Lib.hid (fun wx D mb g hw => ⟨blk_cell hw.out4.blk 1 rfl, blk_cell hw.out4.blk 2 rfl⟩)
  have hml : (minI (inoV [] z st k)).links ≤ 255 := hl0
  have n1 : IntKind.i64.wrap (-((minI (inoV [] z st k)).links : Int)) = -((minI (inoV [] z st k)).links : Int) := IntWalk.i64_in _ (by omega)
  have n2 : IntKind.i64.wrap (255 - ((minI (inoV [] z st k)).links : Int)) = 255 - ((minI (inoV [] z st k)).links : Int) := IntWalk.i64_in _ (by omega)
  have hbm : ¬ by_ < -((minI (inoV [] z st k)).links : Int) → (255 : Int) - ((minI (inoV [] z st k)).links : Int) < by_ := fun q => hb.elim (fun e => absurd e q) id
  have HM1 := Lib.hid (ino_infoX (minI (inoV [] z st k)) hx6)
  have HM2 := Lib.hid (ino_one (minI (inoV [] z st k)))
  have HM3 : Hid ((inoL i0).toArray.size = (inoL (minI (inoV [] z st k))).toArray.size) := Lib.hid (by rw [ino_size _ hx6]; rfl)
  unfold TakeP at CT
  clear hb hl0 h hs hz hst hk hkd hx6 hsY
  generalize minI (inoV [] z st k) = X at *
  go_enter Tryz.func38, Tryz.ntmps38
  go_upto_region 2 with (first
    | (go_at_call 68; refine CT.out.mono ?_; rintro e w2 ⟨D, mb, rfl, h2⟩; have H2 := Lib.hid h2; clear h2)
    | (refine wpList_alloc_blk rfl 132 (inoL i0).toArray rfl (ino_zero _) ?_)
    | (refine wpList_store_row rfl _ _ _ rfl w2.heap.size (inoL X).toArray rfl rfl _ _ (HB1.out _ _ _ H2.out).1 HM1.out HM3.out HM2.out ?_))
  have H3 := Lib.hid (HB1.out _ _ _ H2.out).2
  clear HB1 CT
  generalize (World.setRow _ _ _) = w3 at *
  generalize w2.heap.size = g at *
  clear H2
  obtain ⟨l1, l2⟩ := CC.out _ _ _ _ H3.out
  clear CC
  have H9 := Lib.hid (CRM.out _ _ _ _ H3.out)
  clear CRM
  by_cases k1 : by_ < -(X.links : Int)
  · have d1 : decide (by_ < -(X.links : Int)) = true := decide_eq_true k1
    go_wp2_with fail
    go_ret
    exact ⟨rfl, H9.out⟩
  · have d1 : decide (by_ < -(X.links : Int)) = false := decide_eq_false k1
    have k2 := hbm (by omega)
    have d2 : decide ((255 : Int) - (X.links : Int) < by_) = true := decide_eq_true k2
    clear hbm
    go_wp2_with fail
    go_ret
    exact ⟨rfl, H9.out⟩
set_option maxHeartbeats 3200000 in
theorem c_vlink_full (h : Own w0 w (VL d z l ml st V R)) (hs : Stable R) (hz : LI z n) (hst : okSt (n + 32) st) (h16 : 16 < st.length) (k : Nat) (hk : k < 32) (hkd : ¬ (inoV [] z st k).kind = 0) (by_ : Int) (hl0 : (inoV [] z st k).links ≤ 255) (h1 : ¬ by_ < -((inoV [] z st k).links : Int)) (h2 : ¬ (255 : Int) - ((inoV [] z st k).links : Int) < by_) :
    Calls Tryz.prog 38 #[.pointer (some ⟨V, 0, none⟩), .int .i64 (k : Int), .int .i64 by_] w fun e w' => e = .returned (.int .i64 4) ∧ Own w0 w' (VL d z l ml st V R) := by
  have hx6 : (minI (inoV [] z st k)).pl.length = 6 := inoV_len [] z st k
  have hsY : Stable (Star (volA V l) R) := stable_star (stable_blk _ _) hs
  have CT := Lib.hid (c_take_ok h hs hz hst k hk hkd)
  have HB1 : Hid (∀ wx D mb, Own w0 wx (VX d z l ml st D mb [] (Star (volA V l) R)) → (wx.alloc (.cells (inoL i0).toArray 132)).heap[wx.heap.size]? = some (.cells (inoL i0).toArray 132) ∧ Own w0 ((wx.alloc (.cells (inoL i0).toArray 132)).setRow wx.heap.size (inoL (minI (inoV [] z st k))).toArray) (VX d z l ml st D mb [] (Star (ik wx.heap.size (minI (inoV [] z st k))) (Star (volA V l) R)))) := Lib.hid (fun wx D mb hw => own_ino hw hsY _)
  have CRM : Hid (∀ wx D mb g, Own w0 wx (VX d z l ml st D mb [] (Star (ik g (minI (inoV [] z st k))) (Star (volA V l) R))) → Calls Tryz.prog 74 #[.pointer (some ⟨V, 0, none⟩)] wx (fun e w' => e = .returned (.int .i64 4) ∧ w' = wx) ∧ Own w0 wx (VL d z l ml st V R)) := Lib.hid (fun wx D mb g hw => ⟨c_roomX4 hw (blk_cell hw.swapR.out4.blk 0 rfl) h16, own_drop (own_drop hw.out4.right)⟩)
  have CC : Hid (∀ wx D mb g, Own w0 wx (VX d z l ml st D mb [] (Star (ik g (minI (inoV [] z st k))) (Star (volA V l) R))) → wx.cell? ⟨g, 1, none⟩ = some (.int .i64 ((minI (inoV [] z st k)).links : Int)) ∧ wx.cell? ⟨g, 2, none⟩ = some (.int .i64 ((minI (inoV [] z st k)).size : Int))) := Lib.hid (fun wx D mb g hw => ⟨blk_cell hw.out4.blk 1 rfl, blk_cell hw.out4.blk 2 rfl⟩)
  have hml : (minI (inoV [] z st k)).links ≤ 255 := hl0
  have n1 : IntKind.i64.wrap (-((minI (inoV [] z st k)).links : Int)) = -((minI (inoV [] z st k)).links : Int) := IntWalk.i64_in _ (by omega)
  have n2 : IntKind.i64.wrap (255 - ((minI (inoV [] z st k)).links : Int)) = 255 - ((minI (inoV [] z st k)).links : Int) := IntWalk.i64_in _ (by omega)
  have k1 : ¬ by_ < -((minI (inoV [] z st k)).links : Int) := h1
  have k2 : ¬ (255 : Int) - ((minI (inoV [] z st k)).links : Int) < by_ := h2
  have HM1 := Lib.hid (ino_infoX (minI (inoV [] z st k)) hx6)
  have HM2 := Lib.hid (ino_one (minI (inoV [] z st k)))
  have HM3 : Hid ((inoL i0).toArray.size = (inoL (minI (inoV [] z st k))).toArray.size) := Lib.hid (by rw [ino_size _ hx6]; rfl)
  unfold TakeP at CT
  clear h1 h2 hl0 h hs hz hst hk hkd hx6 hsY h16
  generalize minI (inoV [] z st k) = X at *
  go_enter Tryz.func38, Tryz.ntmps38
  go_upto_region 2 with (first
    | (go_at_call 68; refine CT.out.mono ?_; rintro e w2 ⟨D, mb, rfl, h2⟩; have H2 := Lib.hid h2; clear h2)
    | (refine wpList_alloc_blk rfl 132 (inoL i0).toArray rfl (ino_zero _) ?_)
    | (refine wpList_store_row rfl _ _ _ rfl w2.heap.size (inoL X).toArray rfl rfl _ _ (HB1.out _ _ _ H2.out).1 HM1.out HM3.out HM2.out ?_))
  have H3 := Lib.hid (HB1.out _ _ _ H2.out).2
  clear HB1 CT
  generalize (World.setRow _ _ _) = w3 at *
  generalize w2.heap.size = g at *
  clear H2
  obtain ⟨l1, l2⟩ := CC.out _ _ _ _ H3.out
  clear CC
  obtain ⟨cr, h9⟩ := CRM.out _ _ _ _ H3.out
  have CR := Lib.hid cr
  have H9 := Lib.hid h9
  clear CRM cr h9
  go_wp2_with (go_at_call 74; refine CR.out.mono ?_; rintro e w' ⟨rfl, hw'⟩; rw [hw']; clear hw' w')
  go_ret
  exact ⟨rfl, H9.out⟩
set_option maxHeartbeats 3200000 in
theorem c_vcut_arg (h : Own w0 w (VL d z l ml st V R)) (hs : Stable R) (hz : LI z n) (hst : okSt (n + 32) st) (k : Nat) (hk : k < 32) (hkd : ¬ (inoV [] z st k).kind = 0) (size : Int) (hb : size < 0 ∨ ((minI (inoV [] z st k)).size : Int) < size) :
    Calls Tryz.prog 39 #[.pointer (some ⟨V, 0, none⟩), .int .i64 (k : Int), .int .i64 size] w fun e w' => e = .returned (.int .i64 1) ∧ Own w0 w' (VL d z l ml st V R) := by
  have hx6 : (minI (inoV [] z st k)).pl.length = 6 := inoV_len [] z st k
  have hsY : Stable (Star (volA V l) R) := stable_star (stable_blk _ _) hs
  have CT := Lib.hid (c_take_ok h hs hz hst k hk hkd)
  have HB1 : Hid (∀ wx D mb, Own w0 wx (VX d z l ml st D mb [] (Star (volA V l) R)) → (wx.alloc (.cells (inoL i0).toArray 132)).heap[wx.heap.size]? = some (.cells (inoL i0).toArray 132) ∧ Own w0 ((wx.alloc (.cells (inoL i0).toArray 132)).setRow wx.heap.size (inoL (minI (inoV [] z st k))).toArray) (VX d z l ml st D mb [] (Star (ik wx.heap.size (minI (inoV [] z st k))) (Star (volA V l) R)))) := Lib.hid (fun wx D mb hw => own_ino hw hsY _)
  have CRM : Hid (∀ wx D mb g, Own w0 wx (VX d z l ml st D mb [] (Star (ik g (minI (inoV [] z st k))) (Star (volA V l) R))) → Own w0 wx (VL d z l ml st V R)) := Lib.hid (fun wx D mb g hw => own_drop (own_drop (own_drop hw)))
  have CC : Hid (∀ wx D mb g, Own w0 wx (VX d z l ml st D mb [] (Star (ik g (minI (inoV [] z st k))) (Star (volA V l) R))) → wx.cell? ⟨g, 1, none⟩ = some (.int .i64 ((minI (inoV [] z st k)).links : Int)) ∧ wx.cell? ⟨g, 2, none⟩ = some (.int .i64 ((minI (inoV [] z st k)).size : Int))) := Lib.hid (fun wx D mb g hw => ⟨blk_cell hw.out4.blk 1 rfl, blk_cell hw.out4.blk 2 rfl⟩)
  have hbm : ¬ size < 0 → ((minI (inoV [] z st k)).size : Int) < size := fun q => hb.elim (fun e => absurd e q) id
  have HM1 := Lib.hid (ino_infoX (minI (inoV [] z st k)) hx6)
  have HM2 := Lib.hid (ino_one (minI (inoV [] z st k)))
  have HM3 : Hid ((inoL i0).toArray.size = (inoL (minI (inoV [] z st k))).toArray.size) := Lib.hid (by rw [ino_size _ hx6]; rfl)
  unfold TakeP at CT
  clear hb h hs hz hst hk hkd hx6 hsY
  generalize minI (inoV [] z st k) = X at *
  go_enter Tryz.func39, Tryz.ntmps39
  go_upto_region 2 with (first
    | (go_at_call 68; refine CT.out.mono ?_; rintro e w2 ⟨D, mb, rfl, h2⟩; have H2 := Lib.hid h2; clear h2)
    | (refine wpList_alloc_blk rfl 132 (inoL i0).toArray rfl (ino_zero _) ?_)
    | (refine wpList_store_row rfl _ _ _ rfl w2.heap.size (inoL X).toArray rfl rfl _ _ (HB1.out _ _ _ H2.out).1 HM1.out HM3.out HM2.out ?_))
  have H3 := Lib.hid (HB1.out _ _ _ H2.out).2
  clear HB1 CT
  generalize (World.setRow _ _ _) = w3 at *
  generalize w2.heap.size = g at *
  clear H2
  obtain ⟨l1, l2⟩ := CC.out _ _ _ _ H3.out
  clear CC
  have H9 := Lib.hid (CRM.out _ _ _ _ H3.out)
  clear CRM
  by_cases k1 : size < 0
  · have d1 : decide (size < 0) = true := decide_eq_true k1
    go_wp2_with fail
    go_ret
    exact ⟨rfl, H9.out⟩
  · have d1 : decide (size < 0) = false := decide_eq_false k1
    have k2 := hbm (by omega)
    have d2 : decide ((X.size : Int) < size) = true := decide_eq_true k2
    clear hbm
    go_wp2_with fail
    go_ret
    exact ⟨rfl, H9.out⟩
set_option maxHeartbeats 3200000 in
theorem c_vcut_full (h : Own w0 w (VL d z l ml st V R)) (hs : Stable R) (hz : LI z n) (hst : okSt (n + 32) st) (h16 : 16 < st.length) (k : Nat) (hk : k < 32) (hkd : ¬ (inoV [] z st k).kind = 0) (size : Int) (h1 : ¬ size < 0) (h2 : ¬ ((minI (inoV [] z st k)).size : Int) < size) :
    Calls Tryz.prog 39 #[.pointer (some ⟨V, 0, none⟩), .int .i64 (k : Int), .int .i64 size] w fun e w' => e = .returned (.int .i64 4) ∧ Own w0 w' (VL d z l ml st V R) := by
  have hx6 : (minI (inoV [] z st k)).pl.length = 6 := inoV_len [] z st k
  have hsY : Stable (Star (volA V l) R) := stable_star (stable_blk _ _) hs
  have CT := Lib.hid (c_take_ok h hs hz hst k hk hkd)
  have HB1 : Hid (∀ wx D mb, Own w0 wx (VX d z l ml st D mb [] (Star (volA V l) R)) → (wx.alloc (.cells (inoL i0).toArray 132)).heap[wx.heap.size]? = some (.cells (inoL i0).toArray 132) ∧ Own w0 ((wx.alloc (.cells (inoL i0).toArray 132)).setRow wx.heap.size (inoL (minI (inoV [] z st k))).toArray) (VX d z l ml st D mb [] (Star (ik wx.heap.size (minI (inoV [] z st k))) (Star (volA V l) R)))) := Lib.hid (fun wx D mb hw => own_ino hw hsY _)
  have CRM : Hid (∀ wx D mb g, Own w0 wx (VX d z l ml st D mb [] (Star (ik g (minI (inoV [] z st k))) (Star (volA V l) R))) → Calls Tryz.prog 74 #[.pointer (some ⟨V, 0, none⟩)] wx (fun e w' => e = .returned (.int .i64 4) ∧ w' = wx) ∧ Own w0 wx (VL d z l ml st V R)) := Lib.hid (fun wx D mb g hw => ⟨c_roomX4 hw (blk_cell hw.swapR.out4.blk 0 rfl) h16, own_drop (own_drop hw.out4.right)⟩)
  have CC : Hid (∀ wx D mb g, Own w0 wx (VX d z l ml st D mb [] (Star (ik g (minI (inoV [] z st k))) (Star (volA V l) R))) → wx.cell? ⟨g, 1, none⟩ = some (.int .i64 ((minI (inoV [] z st k)).links : Int)) ∧ wx.cell? ⟨g, 2, none⟩ = some (.int .i64 ((minI (inoV [] z st k)).size : Int))) := Lib.hid (fun wx D mb g hw => ⟨blk_cell hw.out4.blk 1 rfl, blk_cell hw.out4.blk 2 rfl⟩)
  have k1 : ¬ size < 0 := h1
  have k2 : ¬ ((minI (inoV [] z st k)).size : Int) < size := h2
  have HM1 := Lib.hid (ino_infoX (minI (inoV [] z st k)) hx6)
  have HM2 := Lib.hid (ino_one (minI (inoV [] z st k)))
  have HM3 : Hid ((inoL i0).toArray.size = (inoL (minI (inoV [] z st k))).toArray.size) := Lib.hid (by rw [ino_size _ hx6]; rfl)
  unfold TakeP at CT
  clear h1 h2 h hs hz hst hk hkd hx6 hsY h16
  generalize minI (inoV [] z st k) = X at *
  go_enter Tryz.func39, Tryz.ntmps39
  go_upto_region 2 with (first
    | (go_at_call 68; refine CT.out.mono ?_; rintro e w2 ⟨D, mb, rfl, h2⟩; have H2 := Lib.hid h2; clear h2)
    | (refine wpList_alloc_blk rfl 132 (inoL i0).toArray rfl (ino_zero _) ?_)
    | (refine wpList_store_row rfl _ _ _ rfl w2.heap.size (inoL X).toArray rfl rfl _ _ (HB1.out _ _ _ H2.out).1 HM1.out HM3.out HM2.out ?_))
  have H3 := Lib.hid (HB1.out _ _ _ H2.out).2
  clear HB1 CT
  generalize (World.setRow _ _ _) = w3 at *
  generalize w2.heap.size = g at *
  clear H2
  obtain ⟨l1, l2⟩ := CC.out _ _ _ _ H3.out
  clear CC
  obtain ⟨cr, h9⟩ := CRM.out _ _ _ _ H3.out
  have CR := Lib.hid cr
  have H9 := Lib.hid h9
  clear CRM cr h9
  go_wp2_with (go_at_call 74; refine CR.out.mono ?_; rintro e w' ⟨rfl, hw'⟩; rw [hw']; clear hw' w')
  go_ret
  exact ⟨rfl, H9.out⟩
/-- New, of no kind; where too much is staged. -/
theorem c_vnew_bad (h : Own w0 w (VL d z l ml st V R)) (hs : Stable R) (hl : st.length ≤ 1000) (kd : Int) (h1 : kd ≠ 1) (h2 : kd ≠ 2) :
    Calls Tryz.prog 35 #[.pointer (some ⟨V, 0, none⟩), .int .i64 kd] w fun e w' => e = .returned (.tuple #[.int .i64 0, .int .i64 1]) ∧ Own w0 w' (VL d z l ml st V R) := by
  have CU := Lib.hid (c_usable h hs hl)
  have e1 : (kd == 1) = false := beq_eq_false_iff_ne.2 h1
  have e2 : (kd == 2) = false := beq_eq_false_iff_ne.2 h2
  have e3 : (kd != 1) = true := bne_iff_ne.2 h1
  have e4 : (kd != 2) = true := bne_iff_ne.2 h2
  clear h
  go_enter Tryz.func35, Tryz.ntmps35
  go_wp2_with (go_at_call 59; refine CU.out.mono ?_; rintro e w2 ⟨rfl, h2⟩; have H2 := Lib.hid h2; clear h2)
  go_ret2
  exact ⟨rfl, H2.out⟩
theorem c_vnew_full (h : Own w0 w (VL d z l ml st V R)) (hs : Stable R) (hl : st.length ≤ 1000) (h16 : 16 < st.length) (kd : Int) (hk : kd = 1 ∨ kd = 2) :
    Calls Tryz.prog 35 #[.pointer (some ⟨V, 0, none⟩), .int .i64 kd] w fun e w' => e = .returned (.tuple #[.int .i64 0, .int .i64 4]) ∧ Own w0 w' (VL d z l ml st V R) := by
  have CU := Lib.hid (c_usable h hs hl)
  have CR : Hid (∀ wx, Own w0 wx (VL d z l ml st V R) → Calls Tryz.prog 74 #[.pointer (some ⟨V, 0, none⟩)] wx fun e w' => e = .returned (.int .i64 4) ∧ w' = wx) := Lib.hid (fun wx hw => c_roomX4 hw (vl_cell hw) h16)
  clear h
  rcases hk with rfl | rfl
  · go_enter Tryz.func35, Tryz.ntmps35
    go_wp2_with (first
      | (go_at_call 59; refine CU.out.mono ?_; rintro e w2 ⟨rfl, h2⟩; have H2 := Lib.hid h2; clear h2)
      | (go_at_call 74; refine (CR.out _ H2.out).mono ?_; rintro e w' ⟨rfl, hw'⟩; rw [hw']; clear hw' w'))
    go_ret2
    exact ⟨rfl, H2.out⟩
  · go_enter Tryz.func35, Tryz.ntmps35
    go_wp2_with (first
      | (go_at_call 59; refine CU.out.mono ?_; rintro e w2 ⟨rfl, h2⟩; have H2 := Lib.hid h2; clear h2)
      | (go_at_call 74; refine (CR.out _ H2.out).mono ?_; rintro e w' ⟨rfl, hw'⟩; rw [hw']; clear hw' w'))
    go_ret2
    exact ⟨rfl, H2.out⟩
/-- Where take answers none. -/
theorem c_stat_no {A : Asn} {pv : Value} {k er : Int} (hs : Stable A) (her : er ≠ 0) (h : Own w0 w A) (hT : ∀ wx B, Own w0 wx (Star (blkA B (.cells stat0 56)) A) → Calls Tryz.prog 68 #[pv, .int .i64 k] wx fun e w' => e = .returned (.tuple #[.pointer none, .agg (inoL i0).toArray, .int .i64 er]) ∧ Own w0 w' (Star (blkA B (.cells stat0 56)) A)) : Calls Tryz.prog 31 #[pv, .int .i64 k] w fun e w' => e = .returned (.tuple #[.agg stat0, .int .i64 er]) ∧ Own w0 w' A := by
  have H0 := Lib.hid (h.alloc hs (.cells stat0 56))
  have CT := Lib.hid hT
  have HM1 := Lib.hid (ino_infoX i0 rfl)
  have HM2 := Lib.hid (ino_one i0)
  have HA := Lib.hid ino0_all
  have HS1 := Lib.hid (stat_info i0)
  have HS2 := Lib.hid (stat_one i0)
  have e1 : (er != 0) = true := bne_iff_ne.2 her
  have e2 : (er == 0) = false := beq_eq_false_iff_ne.2 her
  have HB : Hid (∀ w2 B, Own w0 w2 (Star (blkA B (.cells stat0 56)) A) → Own w0 ((w2.alloc (.cells (inoL i0).toArray 132)).setRow w2.heap.size (inoL i0).toArray) (Star (blkA B (.cells stat0 56)) A)) := Lib.hid (fun w2 B h2 => ((h2.alloc (stable_star (stable_blk _ _) hs) (.cells (inoL i0).toArray 132)).setRow (stable_star (stable_blk _ _) hs) (inoL i0).toArray).right)
  have HC : Hid (∀ w2 B, Own w0 w2 (Star (blkA B (.cells stat0 56)) A) → Own w0 (w2.setRow B stat0) (Star (blkA B (.cells stat0 56)) A)) := Lib.hid (fun w2 B h2 => h2.setRow hs stat0)
  clear hT h
  go_enter Tryz.func31, Tryz.ntmps31
  go_upto_region 1 with (refine wpList_alloc_blk rfl 56 stat0 rfl (stat_zero _) ?_)
  generalize (World.alloc w _) = w1 at H0 ⊢
  generalize w.heap.size = s at *
  go_upto_region 2 with (first
    | (go_at_call 68; refine (CT.out _ _ H0.out).mono ?_; rintro e w2 ⟨rfl, h2⟩; have H2 := Lib.hid (HB.out _ _ h2); clear h2)
    | (refine wpList_alloc_blk rfl 132 (inoL i0).toArray rfl (ino_zero _) ?_)
    | (refine wpList_store_row rfl _ _ _ rfl w2.heap.size (inoL i0).toArray rfl rfl _ _ (HA.out w2) HM1.out rfl HM2.out ?_))
  generalize (World.setRow _ _ _) = w3 at *
  have H4 := Lib.hid (HC.out _ _ H2.out)
  clear CT HB HC
  go_wp2_with (refine wpList_store_row rfl _ _ _ rfl s stat0 rfl rfl _ _ H2.out.blk HS1.out rfl HS2.out ?_)
  refine bodyPost_ret (res_ct rfl rfl (ld_stat H4.out.blk HS1.out)) rfl ?_
  exact ⟨rfl, H4.out.right⟩
theorem c_read_no {A : Asn} {pv : Value} {er k off many : Int} (hs : Stable A) (her : er ≠ 0) (h : Own w0 w A) (hT : ∀ wx, Own w0 wx A → Calls Tryz.prog 68 #[pv, .int .i64 k] wx fun e w' => e = .returned (.tuple #[.pointer none, .agg (inoL i0).toArray, .int .i64 er]) ∧ Own w0 w' A) : Calls Tryz.prog 33 #[pv, .int .i64 k, .int .i64 off, .int .i64 many] w fun e w' => e = .returned (.tuple #[.string ⟨#[]⟩, .int .i64 er]) ∧ Own w0 w' A := by
  have H0 : Hid (Own w0 (w.alloc (.cells #[.int .i64 off] 3)) A) := Lib.hid (h.gr hs ((Gr.refl w).alloc (Nat.le_refl _) (.cells #[.int .i64 off] 3)))
  have CT := Lib.hid hT
  have HM1 := Lib.hid (ino_infoX i0 rfl)
  have HM2 := Lib.hid (ino_one i0)
  have HA := Lib.hid ino_second
  have HF : Hid (∀ w2, Own w0 w2 A → Own w0 (((w2.alloc (.cells #[.pointer none] 114)).alloc (.cells (inoL i0).toArray 132)).setRow (w2.heap.size + 1) (inoL i0).toArray) A) := Lib.hid (fun w2 h2 => h2.gr hs (gr_second (Gr.refl w2)))
  have e1 : (er != 0) = true := bne_iff_ne.2 her
  have e2 : (er == 0) = false := beq_eq_false_iff_ne.2 her
  clear hT h
  go_enter Tryz.func33, Tryz.ntmps33
  go_upto_region 1 with fail
  generalize (World.alloc w _) = w1 at H0 ⊢
  generalize w.heap.size = oB at *
  go_wp2_with (first
    | (go_at_call 68; refine (CT.out _ H0.out).mono ?_; rintro e w2 ⟨rfl, h2⟩; have H2 := Lib.hid (HF.out _ h2); clear h2)
    | (refine wpList_alloc_blk rfl 132 (inoL i0).toArray rfl (ino_zero _) ?_)
    | (refine wpList_store_row rfl _ _ _ rfl (w2.heap.size + 1) (inoL i0).toArray rfl rfl _ _ (HA.out w2) HM1.out rfl HM2.out ?_))
  go_ret2
  exact ⟨rfl, H2.out⟩
end
end Go.Proofs.YtlpcccpagmipnaaGreat.P
namespace Go.Proofs.YtlpcccpagmipnaaGreat.P
open Go.RowKit Go.ChangeMaps Go.MapKept
section
variable {w0 w : World} {d : Nat} {z : DState} {l ml V D mb : Nat} {st : List (Int × ByteArray)} {n : Nat} {R Y : Asn}
set_option maxHeartbeats 6400000 in
theorem c_vread_arg (h : Own w0 w (VL d z l ml st V R)) (hs : Stable R) (hz : LI z n) (hst : okSt (n + 32) st) (k : Nat) (hk : k < 32) (off many : Int) (hkd : ¬ (inoV [] z st k).kind = 0) (hb : off < 0 ∨ many < 0) :
    Calls Tryz.prog 33 #[.pointer (some ⟨V, 0, none⟩), .int .i64 (k : Int), .int .i64 off, .int .i64 many] w fun e w' => e = .returned (.tuple #[.string ⟨#[]⟩, .int .i64 1]) ∧ Own w0 w' (VL d z l ml st V R) := by
  have hx6 : (minI (inoV [] z st k)).pl.length = 6 := inoV_len [] z st k
  have hsY : ∀ oB, Stable (Star (iz oB off) R) := fun oB => stable_star (stable_blk _ _) hs
  have hsV : ∀ oB, Stable (Star (volA V l) (Star (iz oB off) R)) := fun oB => stable_star (stable_blk _ _) (hsY oB)
  have H0 : Hid (Own w0 (w.alloc (.cells #[.int .i64 off] 3)) (VL d z l ml st V (Star (iz w.heap.size off) R))) := Lib.hid (by
    have h1 := h.alloc (stable_dl _ _ _ _ _ _ (stable_star (stable_blk _ _) hs)) (.cells #[.int .i64 off] 3)
    exact (show Own w0 _ (Star (iz w.heap.size off) (Star (dsk d z) (Star (lgA l d ml st false) (Star (volA V l) R)))) from h1).ac (by unfold VL DL; ac_rfl))
  have CT : Hid (∀ wx oB, Own w0 wx (VL d z l ml st V (Star (iz oB off) R)) → Calls Tryz.prog 68 #[.pointer (some ⟨V, 0, none⟩), .int .i64 (k : Int)] wx (TakeP w0 d z l ml st V (Star (iz oB off) R) k)) := Lib.hid (fun wx oB hw => c_take_ok hw (hsY _) hz hst k hk hkd)
  unfold TakeP at CT
  have HT2 : Hid (∀ wx D mb oB, Own w0 wx (VX d z l ml st D mb [] (Star (volA V l) (Star (iz oB off) R))) → _) := Lib.hid (fun wx D mb oB hw => own_take2 hw (hsV oB) (minI (inoV [] z st k)))
  have HM1 := Lib.hid (ino_infoX (minI (inoV [] z st k)) hx6)
  have HM2 := Lib.hid (ino_one (minI (inoV [] z st k)))
  have HM3 : Hid ((inoL i0).toArray.size = (inoL (minI (inoV [] z st k))).toArray.size) := Lib.hid (by rw [ino_size _ hx6]; rfl)
  have HFN : Hid (∀ wx D mb oB g P, Own w0 wx (VX d z l ml st D mb [] (Star (ik g (minI (inoV [] z st k))) (Star (ptA P D) (Star (volA V l) (Star (iz oB off) R))))) → wx.cell? ⟨oB, 0, none⟩ = some (.int .i64 off) ∧ Own w0 wx (VL d z l ml st V R)) := Lib.hid (fun wx D mb oB g P hw => by
    refine ⟨blk_cell hw.right.right.right.right.right.right.right.blk 0 rfl, ?_⟩
    exact (hw.ac (by unfold VX VL DL; ac_rfl) : Own w0 wx (Star (Star (drB D l (.map (some mb))) (Star (bmA mb []) (Star (ik g (minI (inoV [] z st k))) (Star (ptA P D) (iz oB off))))) (VL d z l ml st V R))).right)
  clear h
  generalize minI (inoV [] z st k) = X at *
  go_enter Tryz.func33, Tryz.ntmps33
  go_upto_region 1 with fail
  generalize (World.alloc w _) = w1 at H0 ⊢
  generalize w.heap.size = oB at H0 ⊢
  go_upto_region 2 with (first
    | (go_at_call 68; refine (CT.out _ _ H0.out).mono ?_; rintro e w2 ⟨D, mb, rfl, h2⟩; have H2 := Lib.hid h2; clear h2)
    | (refine wpList_alloc_blk rfl 132 (inoL i0).toArray rfl (ino_zero _) ?_)
    | (refine wpList_store_row rfl _ _ _ rfl (w2.heap.size + 1) (inoL X).toArray rfl rfl _ _ (HT2.out _ _ _ _ H2.out).1 HM1.out HM3.out HM2.out ?_))
  have H3 := Lib.hid (HT2.out _ _ _ _ H2.out).2
  clear HT2 CT H2
  generalize (World.setRow _ _ _) = w3 at *
  generalize w2.heap.size = P at *
  generalize P + 1 = g at *
  obtain ⟨c1, h9⟩ := HFN.out _ _ _ _ _ _ H3.out
  have H9 := Lib.hid h9
  clear h9 HFN
  by_cases n1 : off < 0
  · have d1 : decide (off < 0) = true := decide_eq_true n1
    go_wp2_with fail
    go_ret2
    exact ⟨rfl, H9.out⟩
  · have d1 : decide (off < 0) = false := decide_eq_false n1
    have n2 : many < 0 := by omega
    have d2 : decide (many < 0) = true := decide_eq_true n2
    clear hb
    go_wp2_with fail
    go_ret2
    exact ⟨rfl, H9.out⟩
end
/-! what the document says of a volume -/
def findN (N : Nat → NodeA) (k : Int) : Int := if k < 0 ∨ 31 < k then 1 else if (N k.toNat).kind = 0 then 5 else 0
def firstN (N : Nat → NodeA) : Option Nat := (List.range 32).find? fun k => decide ((N k).kind = 0)
def addN (N : Nat → NodeA) (full : Bool) (kd : Int) : Int × Int × (Nat → NodeA) :=
  if kd ≠ 1 ∧ kd ≠ 2 then (0, 1, N) else if full then (0, 4, N) else match firstN N with
    | some k => ((k : Int), 0, insN N k ⟨kd.toNat, 0, []⟩)
    | none => (0, 4, N)
def freeNd (N : Nat → NodeA) (full : Bool) (k : Int) : Int × (Nat → NodeA) :=
  if findN N k ≠ 0 then (findN N k, N) else if full then (4, N) else (0, insN N k.toNat node0)
def linkN (N : Nat → NodeA) (full : Bool) (k by_ : Int) : Int × (Nat → NodeA) :=
  if findN N k ≠ 0 then (findN N k, N) else if ((N k.toNat).links : Int) + by_ < 0 ∨ 255 < ((N k.toNat).links : Int) + by_ then (15, N) else if full then (4, N) else (0, insN N k.toNat ⟨(N k.toNat).kind, (((N k.toNat).links : Int) + by_).toNat, (N k.toNat).data⟩)
def readN (N : Nat → NodeA) (k off many : Int) : List UInt8 × Int :=
  if findN N k ≠ 0 then ([], findN N k) else if off < 0 ∨ many < 0 then ([], 1) else (((N k.toNat).data.drop off.toNat).take many.toNat, 0)
def sumTk (N : Nat → NodeA) : Nat := sumN (fun k => takesN (N k).data.length) 32
def roomN (N : Nat → NodeA) (n : Nat) : Int := (n : Int) - 9 - (sumTk N : Int)
def writeN (N : Nat → NodeA) (n : Nat) (full : Bool) (k off : Int) (s : List UInt8) : Int × (Nat → NodeA) :=
  if findN N k ≠ 0 then (findN N k, N) else if off < 0 ∨ ((N k.toNat).data.length : Int) < off ∨ 512 < s.length then (1, N) else if 2368 < off + (s.length : Int) then (15, N) else if full then (4, N)
  else if roomN N n < (takesN (wrD (N k.toNat).data off.toNat s).length : Int) - (takesN (N k.toNat).data.length : Int) then (4, N) else (0, insN N k.toNat ⟨(N k.toNat).kind, (N k.toNat).links, wrD (N k.toNat).data off.toNat s⟩)
def cutN (N : Nat → NodeA) (full : Bool) (k size : Int) : Int × (Nat → NodeA) :=
  if findN N k ≠ 0 then (findN N k, N) else if size < 0 ∨ ((N k.toNat).data.length : Int) < size then (1, N) else if full then (4, N) else (0, insN N k.toNat ⟨(N k.toNat).kind, (N k.toNat).links, (N k.toNat).data.take size.toNat⟩)
end Go.Proofs.YtlpcccpagmipnaaGreat.P
namespace Go.Proofs.YtlpcccpagmipnaaGreat.P
open Go.RowKit Go.ChangeMaps Go.MapKept
/-! rows to be staged -/
structure RowsOk (n : Nat) (rows : List (Int × ByteArray)) : Prop where
  rise : Rising rows
  all : ∀ x ∈ rows, 0 ≤ x.1 ∧ x.1 < (n : Int) ∧ x.2.size = 64
theorem rowsOk_nil (n : Nat) : RowsOk n [] := ⟨trivial, fun x hx => by cases hx⟩
theorem rowsOk_put {n : Nat} {rows : List (Int × ByteArray)} (h : RowsOk n rows) {i : Nat} (hi : i < n) {L : List UInt8} (hl : L.length = 64) : RowsOk n (putS (i : Int) ⟨L.toArray⟩ rows) :=
  ⟨rising_put _ _ _ h.rise, fun x hx => by
    rcases mem_putS hx with e | e
    · rw [e]
      exact ⟨by show (0 : Int) ≤ (i : Int); omega, by show (i : Int) < (n : Int); omega, by show (List.toArray L).size = 64; rw [List.size_toArray, hl]⟩
    · exact h.all x e⟩
theorem rowsOk_len {n : Nat} {rows : List (Int × ByteArray)} (h : RowsOk n rows) {z : DState} {st : List (Int × ByteArray)} (hz : LI z n) (hst : okSt (n + 32) st) {i : Nat} (hi : i < n) : (rowL rows z st i).length = 64 := by
  have h64 : (rowB rows z st i).size = 64 := by
    unfold rowB
    cases hl : lookS (i : Int) rows with
    | none => exact (get_ok hz hst i hi).2
    | some s => exact (h.all _ (look_mem hl)).2.2
  rw [← h64]
  exact (Go.Lib.size_eq _).symm
theorem rowsOk_putR {n : Nat} {rows : List (Int × ByteArray)} (h : RowsOk n rows) {z : DState} {st : List (Int × ByteArray)} (hz : LI z n) (hst : okSt (n + 32) st) {k : Nat} (hk : k < 32) (x : Ino) : RowsOk n (putR rows z st k x) := by
  have hlo := hz.lo
  have hl := rowsOk_len h hz hst (i := 1 + k / 4) (by omega)
  exact rowsOk_put h (by omega) (by unfold frI; rw [frK_len _ _ _ (by omega) 6 (by omega), hl])
theorem rowsOk_putF {n : Nat} {rows : List (Int × ByteArray)} (h : RowsOk n rows) {z : DState} {st : List (Int × ByteArray)} (hz : LI z n) (hst : okSt (n + 32) st) {k : Nat} (hk : k < 32) {f : Fil} (hf : f.ino.pl.getD 5 0 < n) : RowsOk n (putF rows z st k f) := by
  unfold putF
  refine rowsOk_putR ?_ hz hst hk _
  unfold putF1
  by_cases h0 : f.ino.pl.getD 5 0 = 0
  · rw [decide_eq_true h0, cond_true]; exact h
  · rw [decide_eq_false h0, cond_false]; exact rowsOk_put h hf (indK_len f 32 (by omega))
theorem rowsOk_wr {n : Nat} {rows : List (Int × ByteArray)} (h : RowsOk n rows) {z : DState} {st : List (Int × ByteArray)} (hz : LI z n) (hst : okSt (n + 32) st) {held off : Nat} {s : ByteArray} {all : List Nat} (ha : ∀ j, all.getD j 0 < n) : ∀ k, RowsOk n (wrR rows z st held off s all k)
  | 0 => h
  | k + 1 => by
    have ih := rowsOk_wr h hz hst (held := held) (off := off) (s := s) ha k
    unfold wrR
    refine rowsOk_put ih (ha _) ?_
    have hsz : s.size = s.data.toList.length := Go.Lib.size_eq s
    rw [hsz]
    refine rowW_len ?_ (by omega)
    split
    · exact rowsOk_len ih hz hst (ha _)
    · rfl
section
variable {w0 w : World} {d : Nat} {z : DState} {l ml V D mb : Nat} {st : List (Int × ByteArray)} {n : Nat} {R Y : Asn} {N : Nat → NodeA}
/-- What a call leaves. -/
def VolP (w0 : World) (d : Nat) (z : DState) (l ml n V : Nat) (R : Asn) (m : Nat) (N : Nat → NodeA) (w : World) : Prop := ∃ st, okSt (n + 32) st ∧ Own w0 w (VL d z l ml st V R) ∧ IsVol (Vw z st) n N ∧ st.length ≤ m
theorem volP_stg {rows : List (Int × ByteArray)} {N' : Nat → NodeA} {e : Ending} {w' : World} {c : Nat} (hz : LI z n) (hst : okSt (n + 32) st) (h16 : ¬ 16 < st.length) (hc : c ≤ 14) (hr : RowsOk n rows) (hn : rows.length ≤ c) (hv : IsVol (rowV8 rows z st) n N')
    (h : e = .returned (.int .i64 (stgF z.safe.length (strikeS z st rows) st).1) ∧ Own w0 w' (VL d z l ml (stgF z.safe.length (strikeS z st rows) st).2 V R)) : e = .returned (.int .i64 0) ∧ VolP w0 d z l ml n V R (st.length + c) N' w' := by
  obtain ⟨i1, i2, i3, i4⟩ := stg_is hz.len hst hr.rise hr.all (by omega)
  obtain ⟨rfl, h2⟩ := h
  rw [i1]
  exact ⟨rfl, _, i2, h2, by rw [i4]; exact hv, by omega⟩
theorem find_bad {k : Int} (h : k < 0 ∨ 31 < k) : findN N k = 1 := by unfold findN; rw [if_pos h]
theorem find_free {k : Nat} (hk : k < 32) (h : (N k).kind = 0) : findN N (k : Int) = 5 := by
  unfold findN; rw [if_neg (by omega), Int.toNat_natCast, if_pos h]
theorem find_ok {k : Nat} (hk : k < 32) (h : ¬ (N k).kind = 0) : findN N (k : Int) = 0 := by
  unfold findN; rw [if_neg (by omega), Int.toNat_natCast, if_neg h]
theorem nat_of {k : Int} (h : ¬ (k < 0 ∨ 31 < k)) : ∃ q : Nat, k = (q : Int) ∧ q < 32 := ⟨k.toNat, by omega, by omega⟩
/-- What a volume says of an inode. -/
structure InoIs (z : DState) (st : List (Int × ByteArray)) (n : Nat) (S : Nat → FA) (N : Nat → NodeA) (k : Nat) : Prop where
  ino : inoV [] z st k = (S k).ino
  fil : fileV [] z st (inoV [] z st k) = filA (S k)
  min : minI (inoV [] z st k) = inoV [] z st k
  ok : (S k).ok n
  kind : (N k).kind = (inoV [] z st k).kind
  links : (N k).links = (inoV [] z st k).links
  size : (N k).data.length = (inoV [] z st k).size
  data : (N k).data = datA (Vw z st) (S k)
theorem ino_is {S : Nat → FA} (hr : Rep (Vw z st) n S) (hN : ∀ k, k < 32 → N k = nodA (Vw z st) (S k)) {k : Nat} (hk : k < 32) : InoIs z st n S N k := by
  have e1 : inoV [] z st k = (S k).ino := hr.ino k hk
  have e2 : fileV [] z st (inoV [] z st k) = filA (S k) := by
    rw [e1]; exact fil_rep hr hk
  refine ⟨e1, e2, minI_of (by rw [e1]; exact (hr.ok k hk).size), hr.ok k hk, by rw [hN k hk, e1]; rfl, by rw [hN k hk, e1]; rfl, by rw [hN k hk, e1]; exact datA_len _ _, by rw [hN k hk]; rfl⟩
theorem take_no {k : Int} (hs : Stable R) (hz : LI z n) (hst : okSt (n + 32) st) (hV : IsVol (Vw z st) n N) (hf : findN N k ≠ 0) (wx : World) (h : Own w0 wx (VL d z l ml st V R)) : Calls Tryz.prog 68 #[.pointer (some ⟨V, 0, none⟩), .int .i64 k] wx fun e w' => e = .returned (.tuple #[.pointer none, .agg (inoL i0).toArray, .int .i64 (findN N k)]) ∧ Own w0 w' (VL d z l ml st V R) := by
  have hl30 := hst.2.1
  by_cases hb : k < 0 ∨ 31 < k
  · rw [find_bad hb]
    exact c_take_bad h hs (by omega) k (by omega)
  · obtain ⟨q, rfl, hq⟩ := nat_of hb
    obtain ⟨S, hr, hN⟩ := hV
    have hi := ino_is hr hN hq
    have hk0 : (N q).kind = 0 := by
      rcases Nat.eq_zero_or_pos (N q).kind with e | e
      · exact e
      · exact absurd (find_ok hq (by omega)) hf
    rw [find_free hq hk0]
    exact c_take_free h hs hz hst q hq (by rw [← hi.kind]; exact hk0)
theorem find_zero {k : Int} (hf : findN N k = 0) : ∃ q : Nat, k = (q : Int) ∧ q < 32 ∧ ¬ (N q).kind = 0 := by
  by_cases hb : k < 0 ∨ 31 < k
  · rw [find_bad hb] at hf; cases hf
  · obtain ⟨q, rfl, hq⟩ := nat_of hb
    refine ⟨q, rfl, hq, fun e => ?_⟩
    rw [find_free hq e] at hf; cases hf
theorem pl5_lt {S : Nat → FA} {k : Nat} (hi : InoIs z st n S N k) (hn : 9 ≤ n) : (inoV [] z st k).pl.getD 5 0 < n := by
  rw [hi.ino, FA.ino_five]; exact hi.ok.indlt hn
theorem own_volP {c : Nat} (hst : okSt (n + 32) st) (hV : IsVol (Vw z st) n N) (h : Own w0 w (VL d z l ml st V R)) : VolP w0 d z l ml n V R (st.length + c) N w := ⟨st, hst, h, hV, Nat.le_add_right _ _⟩
/-- Free. -/
theorem o_vfree (h : Own w0 w (VL d z l ml st V R)) (hs : Stable R) (hz : LI z n) (hst : okSt (n + 32) st) (hV : IsVol (Vw z st) n N) (k : Int) :
    Calls Tryz.prog 37 #[.pointer (some ⟨V, 0, none⟩), .int .i64 k] w fun e w' => e = .returned (.int .i64 (freeNd N (decide (16 < st.length)) k).1) ∧ VolP w0 d z l ml n V R (st.length + 2) (freeNd N (decide (16 < st.length)) k).2 w' := by
  have hlo := hz.lo
  have hhi := hz.hi
  by_cases hf : findN N k = 0
  · obtain ⟨q, rfl, hq, hkd⟩ := find_zero hf
    have hV2 := hV
    obtain ⟨S, hr, hN⟩ := hV
    have hi := ino_is hr hN hq
    have hkd2 : ¬ (inoV [] z st q).kind = 0 := by rw [← hi.kind]; exact hkd
    by_cases h16 : 16 < st.length
    · have e : freeNd N (decide (16 < st.length)) (q : Int) = (4, N) := by
        unfold freeNd; rw [if_neg (by rw [hf]; exact fun e => e rfl), if_pos (decide_eq_true h16)]
      rw [e]
      refine (c_vfree_full h hs hz hst h16 q hq hkd2).mono ?_
      rintro e w' ⟨rfl, k2⟩
      exact ⟨rfl, own_volP hst hV2 k2⟩
    · have e : freeNd N (decide (16 < st.length)) (q : Int) = (0, insN N q node0) := by
        unfold freeNd; rw [if_neg (by rw [hf]; exact fun e => e rfl), if_neg (by rw [decide_eq_false h16]; exact Bool.false_ne_true), Int.toNat_natCast]
      rw [e]
      have hp := pl5_lt hi (by omega)
      have ha : ∀ j, j < cntN (min (inoV [] z st q).size 2368) → (fileV [] z st (minI (inoV [] z st q))).all.getD j 0 < 512 := fun j _ => by
        rw [hi.min, hi.fil]; exact all_bound hi.ok hhi j
      refine (c_vfree h hs hz hst (by omega) q hq hkd2 hp ha).mono ?_
      intro e w' k2
      have hview : rowV8 (freeR z st q) z st = putRV (putV (Vw z st) 0 (shF (Vw z st 0) ⟨(S q).ino, padN 37 (S q).secs⟩ 0).1) q i0 := by
        unfold freeR
        rw [hi.min, hi.fil, rowV_putR (rising_put _ _ [] trivial)]
        congr 1
        exact rowV_put (rows := []) trivial z st 0 _
      have hsh := shF_is (hr.len 0 (by omega)) (hr.ok q hq) hhi (by omega) (hr.nodup q hq) (Nat.zero_le (S q).size)
      refine volP_stg hz hst h16 (by omega) (rows := freeR z st q) ?_ ?_ (by rw [hview]; exact vol_free hN hr (by omega) hhi hq) k2
      · unfold freeR
        rw [hi.min, hi.fil]
        exact rowsOk_putR (rowsOk_put (i := 0) (rowsOk_nil n) (by omega) hsh.2.2.2.2.1) hz hst hq _
      · have h1 := putS_len1 ((1 + q / 4 : Nat) : Int) ⟨(frI (rowL (putS 0 ⟨(shF (rowL [] z st 0) (fileV [] z st (minI (inoV [] z st q))) 0).1.toArray⟩ []) z st (1 + q / 4)) (q % 4 * 16) i0).toArray⟩ (putS 0 ⟨(shF (rowL [] z st 0) (fileV [] z st (minI (inoV [] z st q))) 0).1.toArray⟩ [])
        have h2 : (putS 0 ⟨(shF (rowL [] z st 0) (fileV [] z st (minI (inoV [] z st q))) 0).1.toArray⟩ ([] : List (Int × ByteArray))).length = 1 := rfl
        show (putS _ _ _).length ≤ 2
        omega
  · have e : freeNd N (decide (16 < st.length)) k = (findN N k, N) := by unfold freeNd; rw [if_pos hf]
    rw [e]
    refine (c_free_no (stable_dl _ _ _ _ _ _ (stable_star (stable_blk _ _) hs)) hf (take_no hs hz hst hV hf w h)).mono ?_
    rintro e w' ⟨rfl, k2⟩
    exact ⟨rfl, own_volP hst hV k2⟩
/-- Cut. -/
theorem o_vcut (h : Own w0 w (VL d z l ml st V R)) (hs : Stable R) (hz : LI z n) (hst : okSt (n + 32) st) (hV : IsVol (Vw z st) n N) (k size : Int) :
    Calls Tryz.prog 39 #[.pointer (some ⟨V, 0, none⟩), .int .i64 k, .int .i64 size] w fun e w' => e = .returned (.int .i64 (cutN N (decide (16 < st.length)) k size).1) ∧ VolP w0 d z l ml n V R (st.length + 3) (cutN N (decide (16 < st.length)) k size).2 w' := by
  have hlo := hz.lo
  have hhi := hz.hi
  by_cases hf : findN N k = 0
  · obtain ⟨q, rfl, hq, hkd⟩ := find_zero hf
    have hV2 := hV
    obtain ⟨S, hr, hN⟩ := hV
    have hi := ino_is hr hN hq
    have hkd2 : ¬ (inoV [] z st q).kind = 0 := by rw [← hi.kind]; exact hkd
    have e0 : ¬ findN N (q : Int) ≠ 0 := fun e => e hf
    by_cases hb : size < 0 ∨ ((N q).data.length : Int) < size
    · have e : cutN N (decide (16 < st.length)) (q : Int) size = (1, N) := by
        unfold cutN; rw [if_neg e0, Int.toNat_natCast, if_pos hb]
      rw [e]
      refine (c_vcut_arg h hs hz hst q hq hkd2 size (by rw [hi.min, ← hi.size]; exact hb)).mono ?_
      rintro e w' ⟨rfl, k2⟩
      exact ⟨rfl, own_volP hst hV2 k2⟩
    · have hb1 : ¬ size < 0 := fun q => hb (.inl q)
      have hb2 : ¬ ((N q).data.length : Int) < size := fun q => hb (.inr q)
      by_cases h16 : 16 < st.length
      · have e : cutN N (decide (16 < st.length)) (q : Int) size = (4, N) := by
          unfold cutN; rw [if_neg e0, Int.toNat_natCast, if_neg hb, if_pos (decide_eq_true h16)]
        rw [e]
        refine (c_vcut_full h hs hz hst h16 q hq hkd2 size hb1 (by rw [hi.min, ← hi.size]; exact hb2)).mono ?_
        rintro e w' ⟨rfl, k2⟩
        exact ⟨rfl, own_volP hst hV2 k2⟩
      · obtain ⟨m, rfl⟩ : ∃ m : Nat, size = (m : Int) := ⟨size.toNat, by omega⟩
        have e : cutN N (decide (16 < st.length)) (q : Int) (m : Int) = (0, insN N q ⟨(S q).kind, (S q).links, (datA (Vw z st) (S q)).take m⟩) := by
          unfold cutN; rw [if_neg e0, Int.toNat_natCast, if_neg hb, if_neg (by rw [decide_eq_false h16]; exact Bool.false_ne_true), Int.toNat_natCast, hN q hq]; rfl
        rw [e]
        have hm : m ≤ (S q).size := by have := hi.size; rw [hi.data, datA_len] at this; rw [hi.data, datA_len] at hb2; omega
        have hsz2 : (inoV [] z st q).size = (S q).size := by rw [hi.ino]; rfl
        have hp := pl5_lt hi (by omega)
        have ha : ∀ j, j < cntN (min (inoV [] z st q).size 2368) → (fileV [] z st (minI (inoV [] z st q))).all.getD j 0 < 512 := fun j _ => by
          rw [hi.min, hi.fil]; exact all_bound hi.ok hhi j
        obtain ⟨s1, s2, s3, s4, s5, _⟩ := shF_is (hr.len 0 (by omega)) (hr.ok q hq) hhi (by omega) (hr.nodup q hq) hm
        have hc := cut_ok hi.ok (by have := hkd; rw [hN q hq] at this; exact this) hm
        have e1 : fileV [] z st (minI (inoV [] z st q)) = filA (S q) := by rw [hi.min, hi.fil]
        have hok : okF (shF (rowL [] z st 0) (fileV [] z st (minI (inoV [] z st q))) m).2 := by
          rw [e1]
          refine ⟨s4, ?_, ?_, fun j _ => ?_⟩
          · show (shF (Vw z st 0) ⟨(S q).ino, padN 37 (S q).secs⟩ m).2.all.length = 37
            rw [s1, padN_len hc.le]
          · show okI (pI (shF (Vw z st 0) ⟨(S q).ino, padN 37 (S q).secs⟩ m).2)
            rw [s2]; exact hc.okI hhi
          · show (shF (Vw z st 0) ⟨(S q).ino, padN 37 (S q).secs⟩ m).2.all.getD j 0 < 65536
            rw [s1, getD_pad]; have := hc.sec hhi j; omega
        have hp5 : (shF (rowL [] z st 0) (fileV [] z st (minI (inoV [] z st q))) m).2.ino.pl.getD 5 0 < n := by
          rw [e1]
          show (shF (Vw z st 0) ⟨(S q).ino, padN 37 (S q).secs⟩ m).2.ino.pl.getD 5 0 < n
          rw [s3]; exact hc.indlt (by omega)
        refine (c_vcut h hs hz hst (by omega) q hq m hkd2 (by rw [hsz2]; have := (hr.ok q hq).size; omega) hok hp5 hp ha).mono ?_
        intro e w' k2
        have hview : rowV8 (cutR z st q m) z st = putRV (putFV (putV (Vw z st) 0 (shF (Vw z st 0) ⟨(S q).ino, padN 37 (S q).secs⟩ m).1) (shF (Vw z st 0) ⟨(S q).ino, padN 37 (S q).secs⟩ m).2) q (pI (shF (Vw z st 0) ⟨(S q).ino, padN 37 (S q).secs⟩ m).2) := by
          unfold cutR
          rw [e1, (rowV_putF (rising_put _ _ [] trivial) z st q _).1]
          congr 2
          exact rowV_put (rows := []) trivial z st 0 _
        refine volP_stg hz hst h16 (by omega) (rows := cutR z st q m) ?_ ?_ (by rw [hview]; exact vol_cut hN hr (by omega) hhi hq (by have := hkd; rw [hN q hq] at this; exact this) hm) k2
        · unfold cutR
          rw [e1] at hp5 ⊢
          exact rowsOk_putF (rowsOk_put (i := 0) (rowsOk_nil n) (by omega) s5) hz hst hq hp5
        · have h1 := putF_len (putS 0 ⟨(shF (rowL [] z st 0) (fileV [] z st (minI (inoV [] z st q))) m).1.toArray⟩ []) z st q (shF (rowL [] z st 0) (fileV [] z st (minI (inoV [] z st q))) m).2
          have h2 : (putS 0 ⟨(shF (rowL [] z st 0) (fileV [] z st (minI (inoV [] z st q))) m).1.toArray⟩ ([] : List (Int × ByteArray))).length = 1 := rfl
          show (putF _ _ _ _ _).length ≤ 3
          omega
  · have e : cutN N (decide (16 < st.length)) k size = (findN N k, N) := by unfold cutN; rw [if_pos hf]
    rw [e]
    refine (c_cut_no (stable_dl _ _ _ _ _ _ (stable_star (stable_blk _ _) hs)) hf (take_no hs hz hst hV hf w h)).mono ?_
    rintro e w' ⟨rfl, k2⟩
    exact ⟨rfl, own_volP hst hV k2⟩
/-- Link. -/
theorem o_vlink (h : Own w0 w (VL d z l ml st V R)) (hs : Stable R) (hz : LI z n) (hst : okSt (n + 32) st) (hV : IsVol (Vw z st) n N) (k by_ : Int) :
    Calls Tryz.prog 38 #[.pointer (some ⟨V, 0, none⟩), .int .i64 k, .int .i64 by_] w fun e w' => e = .returned (.int .i64 (linkN N (decide (16 < st.length)) k by_).1) ∧ VolP w0 d z l ml n V R (st.length + 1) (linkN N (decide (16 < st.length)) k by_).2 w' := by
  have hlo := hz.lo
  have hhi := hz.hi
  by_cases hf : findN N k = 0
  · obtain ⟨q, rfl, hq, hkd⟩ := find_zero hf
    have hV2 := hV
    obtain ⟨S, hr, hN⟩ := hV
    have hi := ino_is hr hN hq
    have hkd2 : ¬ (inoV [] z st q).kind = 0 := by rw [← hi.kind]; exact hkd
    have e0 : ¬ findN N (q : Int) ≠ 0 := fun e => e hf
    have hl0 : (inoV [] z st q).links ≤ 255 := by rw [hi.ino]; exact hi.ok.links
    by_cases hb : ((N q).links : Int) + by_ < 0 ∨ 255 < ((N q).links : Int) + by_
    · have e : linkN N (decide (16 < st.length)) (q : Int) by_ = (15, N) := by
        unfold linkN; rw [if_neg e0, Int.toNat_natCast, if_pos hb]
      rw [e]
      refine (c_vlink_many h hs hz hst q hq hkd2 by_ hl0 (by rw [← hi.links]; omega)).mono ?_
      rintro e w' ⟨rfl, k2⟩
      exact ⟨rfl, own_volP hst hV2 k2⟩
    · by_cases h16 : 16 < st.length
      · have e : linkN N (decide (16 < st.length)) (q : Int) by_ = (4, N) := by
          unfold linkN; rw [if_neg e0, Int.toNat_natCast, if_neg hb, if_pos (decide_eq_true h16)]
        rw [e]
        refine (c_vlink_full h hs hz hst h16 q hq hkd2 by_ hl0 (by rw [← hi.links]; omega) (by rw [← hi.links]; omega)).mono ?_
        rintro e w' ⟨rfl, k2⟩
        exact ⟨rfl, own_volP hst hV2 k2⟩
      · obtain ⟨m, hm⟩ : ∃ m : Nat, ((N q).links : Int) + by_ = (m : Int) := ⟨(((N q).links : Int) + by_).toNat, by omega⟩
        have hd : (N q).data = datA (Vw z st) (S q) := hi.data
        have e : linkN N (decide (16 < st.length)) (q : Int) by_ = (0, insN N q (nodA (Vw z st) ⟨(S q).kind, m, (S q).size, (S q).secs, (S q).ind⟩)) := by
          unfold linkN
          rw [if_neg e0, Int.toNat_natCast, if_neg hb, if_neg (by rw [decide_eq_false h16]; exact Bool.false_ne_true), hm, Int.toNat_natCast, hd]
          have : (N q).kind = (S q).kind := by rw [hN q hq]; rfl
          rw [this]; rfl
        rw [e]
        have ha : (⟨(S q).kind, m, (S q).size, (S q).secs, (S q).ind⟩ : FA).ok n := by
          have o := hi.ok
          have hk0 : (S q).kind ≠ 0 := by have := hkd; rw [hN q hq] at this; exact this
          exact ⟨o.kind, by show m ≤ 255; omega, o.size, o.len, o.ind, fun e => absurd e hk0, o.inn⟩
        have hlk : linkI (minI (inoV [] z st q)) m = (⟨(S q).kind, m, (S q).size, (S q).secs, (S q).ind⟩ : FA).ino := by
          rw [hi.min, hi.ino]; rfl
        refine (c_vlink h hs hz hst (by omega) q hq m by_ (by rw [← hi.links]; exact hm) (by omega) hl0 (by rw [hlk]; exact ha.okI hhi) hkd2).mono ?_
        intro e w' k2
        have hview : rowV8 (linkR z st q m) z st = putRV (Vw z st) q (⟨(S q).kind, m, (S q).size, (S q).secs, (S q).ind⟩ : FA).ino := by
          unfold linkR
          rw [rowV_putR (rows := []) trivial, hlk]; rfl
        refine volP_stg hz hst h16 (by omega) (rows := linkR z st q m) (rowsOk_putR (rowsOk_nil n) hz hst hq _) ?_ (by rw [hview]; exact vol_meta hN hr (by omega) hhi hq ha rfl rfl) k2
        have h1 := putS_len1 ((1 + q / 4 : Nat) : Int) ⟨(frI (rowL [] z st (1 + q / 4)) (q % 4 * 16) (linkI (minI (inoV [] z st q)) m)).toArray⟩ []
        have h2 : ([] : List (Int × ByteArray)).length = 0 := rfl
        show (putS _ _ _).length ≤ 1
        omega
  · have e : linkN N (decide (16 < st.length)) k by_ = (findN N k, N) := by unfold linkN; rw [if_pos hf]
    rw [e]
    refine (c_link_no (stable_dl _ _ _ _ _ _ (stable_star (stable_blk _ _) hs)) hf (take_no hs hz hst hV hf w h)).mono ?_
    rintro e w' ⟨rfl, k2⟩
    exact ⟨rfl, own_volP hst hV k2⟩
end
end Go.Proofs.YtlpcccpagmipnaaGreat.P
namespace Go.Proofs.YtlpcccpagmipnaaGreat.P
open Go.RowKit Go.ChangeMaps Go.MapKept
theorem find_congr {T : Type} {p q : T → Bool} : ∀ (l : List T), (∀ x ∈ l, p x = q x) → l.find? p = l.find? q
  | [], _ => rfl
  | x :: l, h => by
    rw [List.find?_cons, List.find?_cons, h x (List.mem_cons_self ..), find_congr l fun y hy => h y (List.mem_cons_of_mem _ hy)]
theorem drop_take_min (L : List UInt8) (a b : Nat) : (L.drop (min a L.length)).take (min b (L.length - min a L.length)) = (L.drop a).take b := by
  by_cases h : a ≤ L.length
  · rw [Nat.min_eq_left h]
    by_cases h2 : b ≤ L.length - a
    · rw [Nat.min_eq_left h2]
    · rw [Nat.min_eq_right (by omega), List.take_of_length_le (by rw [List.length_drop]; omega), List.take_of_length_le (by rw [List.length_drop]; omega)]
  · rw [Nat.min_eq_right (by omega : L.length ≤ a), List.drop_of_length_le (Nat.le_refl _), List.drop_of_length_le (by omega), List.take_nil, List.take_nil]
section
variable {w0 w : World} {d : Nat} {z : DState} {l ml V D mb : Nat} {st : List (Int × ByteArray)} {n : Nat} {R Y : Asn} {N : Nat → NodeA}
theorem eq_i0 {S : Nat → FA} {k : Nat} (hi : InoIs z st n S N k) : eqIno (inoV [] z st k) i0 = decide ((N k).kind = 0) := by
  have ho := hi.ok
  have hk : (N k).kind = (S k).kind := by rw [hi.kind, hi.ino]; rfl
  rw [hi.ino, hk]
  by_cases h : (S k).kind = 0
  · obtain ⟨hl, hs⟩ := ho.free h
    obtain ⟨e1, e2⟩ := fa_empty ho hs
    have : (S k).ino = i0 := by
      unfold FA.ino
      rw [h, hl, hs, e1, e2]; rfl
    rw [this, decide_eq_true h]; rfl
  · rw [decide_eq_false h]
    unfold eqIno
    have : decide ((S k).ino.kind = i0.kind) = false := decide_eq_false h
    rw [this]; rfl
theorem newF_is {S : Nat → FA} (hr : Rep (Vw z st) n S) (hN : ∀ k, k < 32 → N k = nodA (Vw z st) (S k)) : newF z st = firstN N :=
  find_congr _ fun k hk => eq_i0 (ino_is hr hN (List.mem_range.1 hk))
theorem firstN_some {k : Nat} (h : firstN N = some k) : k < 32 ∧ (N k).kind = 0 := by
  have h1 := List.find?_some h
  have h2 := List.mem_of_find?_eq_some h
  exact ⟨List.mem_range.1 h2, of_decide_eq_true h1⟩
/-- New. -/
theorem o_vnew (h : Own w0 w (VL d z l ml st V R)) (hs : Stable R) (hz : LI z n) (hst : okSt (n + 32) st) (hV : IsVol (Vw z st) n N) (kd : Int) :
    Calls Tryz.prog 35 #[.pointer (some ⟨V, 0, none⟩), .int .i64 kd] w fun e w' => e = .returned (.tuple #[.int .i64 (addN N (decide (16 < st.length)) kd).1, .int .i64 (addN N (decide (16 < st.length)) kd).2.1]) ∧ VolP w0 d z l ml n V R (st.length + 1) (addN N (decide (16 < st.length)) kd).2.2 w' := by
  have hlo := hz.lo
  have hhi := hz.hi
  have hl30 := hst.2.1
  by_cases hb : kd ≠ 1 ∧ kd ≠ 2
  · have e : addN N (decide (16 < st.length)) kd = (0, 1, N) := by unfold addN; rw [if_pos hb]
    rw [e]
    refine (c_vnew_bad h hs (by omega) kd hb.1 hb.2).mono ?_
    rintro e w' ⟨rfl, k2⟩
    exact ⟨rfl, own_volP hst hV k2⟩
  · have hk12 : kd = 1 ∨ kd = 2 := by omega
    by_cases h16 : 16 < st.length
    · have e : addN N (decide (16 < st.length)) kd = (0, 4, N) := by
        unfold addN; rw [if_neg hb, if_pos (decide_eq_true h16)]
      rw [e]
      refine (c_vnew_full h hs (by omega) h16 kd hk12).mono ?_
      rintro e w' ⟨rfl, k2⟩
      exact ⟨rfl, own_volP hst hV k2⟩
    · obtain ⟨q, rfl⟩ : ∃ q : Nat, kd = (q : Int) := ⟨kd.toNat, by omega⟩
      have hV2 := hV
      obtain ⟨S, hr, hN⟩ := hV
      have e : addN N (decide (16 < st.length)) (q : Int) = match firstN N with
          | some k => ((k : Int), 0, insN N k ⟨q, 0, []⟩)
          | none => (0, 4, N) := by
        unfold addN; rw [if_neg hb, if_neg (by rw [decide_eq_false h16]; exact Bool.false_ne_true), Int.toNat_natCast]
        all_goals (cases firstN N <;> rfl)
      rw [e]
      refine (c_vnew h hs hz hst (by omega) q (by omega)).mono ?_
      unfold newA
      rw [newF_is hr hN]
      cases hf : firstN N with
      | none =>
        rintro e w' ⟨rfl, k2⟩
        exact ⟨rfl, own_volP hst hV2 k2⟩
      | some k =>
        obtain ⟨hk, hk0⟩ := firstN_some hf
        have hi := ino_is hr hN hk
        have hs0 : (S k).kind = 0 := by rw [hN k hk] at hk0; exact hk0
        obtain ⟨e1, e2⟩ := fa_empty hi.ok (hi.ok.free hs0).2
        have hview : rowV8 (newR z st k q) z st = putRV (Vw z st) k (⟨q, 0, 0, [], 0⟩ : FA).ino := rowV_putR (rows := []) trivial z st k _
        have hro : RowsOk n (newR z st k q) := rowsOk_putR (rowsOk_nil n) hz hst hk _
        have hln : (newR z st k q).length ≤ 1 := by
          have h1 := putS_len1 ((1 + k / 4 : Nat) : Int) ⟨(frI (rowL [] z st (1 + k / 4)) (k % 4 * 16) (newI q)).toArray⟩ []
          have h2 : ([] : List (Int × ByteArray)).length = 0 := rfl
          show (putS _ _ _).length ≤ 1
          omega
        obtain ⟨i1, i2, i3, i4⟩ := stg_is hz.len hst hro.rise hro.all (by omega)
        rintro e w' ⟨rfl, k2⟩
        dsimp only at k2 ⊢
        rw [i1]
        refine ⟨rfl, _, i2, k2, ?_, by omega⟩
        rw [i4, hview]
        exact vol_meta hN hr (by omega) hhi hk (ok_new (kd := q) (by omega)) e1.symm e2.symm
/-- Stat. -/
def statV (N : Nat → NodeA) (k : Int) : Array Value := if findN N k ≠ 0 then stat0 else #[.int .i64 ((N k.toNat).kind : Int), .int .i64 ((N k.toNat).links : Int), .int .i64 ((N k.toNat).data.length : Int)]
theorem take_noR {k : Int} (hs : Stable R) (hz : LI z n) (hst : okSt (n + 32) st) (hV : IsVol (Vw z st) n N) (hf : findN N k ≠ 0) (wx : World) (B : Nat) (o : Obj) (h : Own w0 wx (Star (blkA B o) (VL d z l ml st V R))) : Calls Tryz.prog 68 #[.pointer (some ⟨V, 0, none⟩), .int .i64 k] wx fun e w' => e = .returned (.tuple #[.pointer none, .agg (inoL i0).toArray, .int .i64 (findN N k)]) ∧ Own w0 w' (Star (blkA B o) (VL d z l ml st V R)) := by
  have h1 : Own w0 wx (VL d z l ml st V (Star (blkA B o) R)) := h.ac (by unfold VL DL; ac_rfl)
  refine (take_no (stable_star (stable_blk B o) hs) hz hst hV hf wx h1).mono ?_
  rintro e w' ⟨rfl, k2⟩
  exact ⟨rfl, k2.ac (by unfold VL DL; ac_rfl)⟩
theorem o_vstat (h : Own w0 w (VL d z l ml st V R)) (hs : Stable R) (hz : LI z n) (hst : okSt (n + 32) st) (hV : IsVol (Vw z st) n N) (k : Int) :
    Calls Tryz.prog 31 #[.pointer (some ⟨V, 0, none⟩), .int .i64 k] w fun e w' => e = .returned (.tuple #[.agg (statV N k), .int .i64 (findN N k)]) ∧ Own w0 w' (VL d z l ml st V R) := by
  by_cases hf : findN N k = 0
  · obtain ⟨q, rfl, hq, hkd⟩ := find_zero hf
    obtain ⟨S, hr, hN⟩ := hV
    have hi := ino_is hr hN hq
    have hkd2 : ¬ (inoV [] z st q).kind = 0 := by rw [← hi.kind]; exact hkd
    have e : statV N (q : Int) = statL (minI (inoV [] z st q)) := by
      unfold statV statL
      rw [if_neg (fun e => e hf), Int.toNat_natCast, hi.min, hi.kind, hi.links, hi.size]
    rw [e, hf]
    exact c_vstat h hs hz hst q hq hkd2
  · have e : statV N k = stat0 := by unfold statV; rw [if_pos hf]
    rw [e]
    exact c_stat_no (stable_dl _ _ _ _ _ _ (stable_star (stable_blk _ _) hs)) hf h (fun wx B hw => take_noR hs hz hst hV hf wx B _ hw)
/-- Room. -/
theorem room_eq (hz : LI z n) (hV : IsVol (Vw z st) n N) : (freeN (rowL [] z st 0) n : Int) = roomN N n := by
  obtain ⟨S, hr, hN⟩ := hV
  have h1 := room_is hr (by have := hz.lo; omega) hz.hi
  have h2 : sumTk N = sumN (fun k => takesN (S k).size) 32 := sumN_congr fun k hk => by rw [hN k hk]; show takesN (datA _ _).length = _; rw [datA_len]
  unfold roomN
  rw [h2]
  have h3 : freeN (rowL [] z st 0) n = freeN (Vw z st 0) n := rfl
  omega
theorem o_vroom (h : Own w0 w (VL d z l ml st V R)) (hs : Stable R) (hz : LI z n) (hst : okSt (n + 32) st) (hV : IsVol (Vw z st) n N) :
    Calls Tryz.prog 25 #[.pointer (some ⟨V, 0, none⟩)] w fun e w' => e = .returned (.tuple #[.int .i64 (roomN N n), .int .i64 0]) ∧ Own w0 w' (VL d z l ml st V R) := by
  rw [← room_eq hz hV]
  exact c_vroom h hs hz hst
/-- Read. -/
theorem o_vread (h : Own w0 w (VL d z l ml st V R)) (hs : Stable R) (hz : LI z n) (hst : okSt (n + 32) st) (hV : IsVol (Vw z st) n N) (k off many : Int) (ho : off ≤ 9223372036854775807) (hm : many ≤ 9223372036854775807) :
    Calls Tryz.prog 33 #[.pointer (some ⟨V, 0, none⟩), .int .i64 k, .int .i64 off, .int .i64 many] w fun e w' => e = .returned (.tuple #[.string ⟨(readN N k off many).1.toArray⟩, .int .i64 (readN N k off many).2]) ∧ Own w0 w' (VL d z l ml st V R) := by
  have hlo := hz.lo
  have hhi := hz.hi
  by_cases hf : findN N k = 0
  · obtain ⟨q, rfl, hq, hkd⟩ := find_zero hf
    have hV2 := hV
    obtain ⟨S, hr, hN⟩ := hV
    have hi := ino_is hr hN hq
    have hkd2 : ¬ (inoV [] z st q).kind = 0 := by rw [← hi.kind]; exact hkd
    have e0 : ¬ findN N (q : Int) ≠ 0 := fun e => e hf
    by_cases hb : off < 0 ∨ many < 0
    · have e : readN N (q : Int) off many = ([], 1) := by unfold readN; rw [if_neg e0, if_pos hb]
      rw [e]
      exact c_vread_arg h hs hz hst q hq off many hkd2 hb
    · obtain ⟨a, rfl⟩ : ∃ a : Nat, off = (a : Int) := ⟨off.toNat, by omega⟩
      obtain ⟨b, rfl⟩ : ∃ b : Nat, many = (b : Int) := ⟨many.toNat, by omega⟩
      have hsz : (inoV [] z st q).size = (S q).size := by rw [hi.ino]; rfl
      have hs2 := hi.ok.size
      have e : readN N (q : Int) (a : Int) (b : Int) = (rdL (rowV8 [] z st) (fileV [] z st (inoV [] z st q)).all (min a (inoV [] z st q).size) (min b ((inoV [] z st q).size - min a (inoV [] z st q).size)), 0) := by
        unfold readN
        rw [if_neg e0, if_neg hb, Int.toNat_natCast, Int.toNat_natCast, Int.toNat_natCast, hi.fil, hsz]
        show _ = (rdL (Vw z st) (padN 37 (S q).secs) _ _, 0)
        rw [rdL_congr _ (m := (S q).secs) (fun j => getD_pad 37 _ j), rdL_dat (by omega), hi.data]
        have hl := datA_len (Vw z st) (S q)
        rw [← drop_take_min, hl]
      rw [e]
      exact c_vread h hs hz hst q hq a b (by omega) (by omega) hkd2 (by omega) (pl5_lt hi (by omega)) (fun j => by
        rw [hi.fil]
        show (padN 37 (S q).secs).getD j 0 < n
        rw [getD_pad]
        by_cases hj : j < (S q).secs.length
        · exact (hi.ok.inn _ (own_secs (getD_mem hj))).2
        · rw [getD_none (by omega)]; omega)
  · have e : readN N k off many = ([], findN N k) := by unfold readN; rw [if_pos hf]
    rw [e]
    exact c_read_no (stable_dl _ _ _ _ _ _ (stable_star (stable_blk _ _) hs)) hf h (take_no hs hz hst hV hf)
/-- How many a write stages at most. -/
def wrC (off len : Nat) : Nat := 3 + (cntN (off + len) - off / 64)
/-- Write. -/
theorem o_vwrite (h : Own w0 w (VL d z l ml st V R)) (hs : Stable R) (hz : LI z n) (hst : okSt (n + 32) st) (hV : IsVol (Vw z st) n N) (k off : Int) (s : ByteArray) :
    Calls Tryz.prog 36 #[.pointer (some ⟨V, 0, none⟩), .int .i64 k, .int .i64 off, .string s] w fun e w' => e = .returned (.int .i64 (writeN N n (decide (16 < st.length)) k off s.data.toList).1) ∧ VolP w0 d z l ml n V R (st.length + wrC off.toNat s.size) (writeN N n (decide (16 < st.length)) k off s.data.toList).2 w' := by
  have hlo := hz.lo
  have hhi := hz.hi
  have hsl : s.data.toList.length = s.size := (Go.Lib.size_eq s).symm
  by_cases hf : findN N k = 0
  · obtain ⟨q, rfl, hq, hkd⟩ := find_zero hf
    have hV2 := hV
    obtain ⟨S, hr, hN⟩ := hV
    have hi := ino_is hr hN hq
    have hkd2 : ¬ (inoV [] z st q).kind = 0 := by rw [← hi.kind]; exact hkd
    have hkd3 : (S q).kind ≠ 0 := by have := hkd; rw [hN q hq] at this; exact this
    have e0 : ¬ findN N (q : Int) ≠ 0 := fun e => e hf
    have hsz : (inoV [] z st q).size = (S q).size := by rw [hi.ino]; rfl
    have hs2 := hi.ok.size
    have hsize : (inoV [] z st q).size ≤ 2368 := by omega
    unfold writeN
    rw [if_neg e0, Int.toNat_natCast, hsl, hi.size]
    by_cases hb : off < 0 ∨ ((inoV [] z st q).size : Int) < off ∨ 512 < s.size
    · rw [if_pos hb]
      refine (c_vwrite_arg h hs hz hst q hq off s hkd2 hsize hb).mono ?_
      rintro e w' ⟨rfl, k2⟩
      exact ⟨rfl, own_volP hst hV2 k2⟩
    · rw [if_neg hb]
      have b1 : 0 ≤ off := by omega
      have b2 : off ≤ ((inoV [] z st q).size : Int) := by omega
      have b3 : s.size ≤ 512 := by omega
      by_cases hbig : 2368 < off + (s.size : Int)
      · rw [if_pos hbig]
        refine (c_vwrite_big h hs hz hst q hq off s hkd2 hsize b1 b2 b3 hbig).mono ?_
        rintro e w' ⟨rfl, k2⟩
        exact ⟨rfl, own_volP hst hV2 k2⟩
      · rw [if_neg hbig]
        by_cases h16 : 16 < st.length
        · rw [if_pos (decide_eq_true h16)]
          refine (c_vwrite_room h hs hz hst q hq off s hkd2 hsize b1 b2 b3 (by omega) h16).mono ?_
          rintro e w' ⟨rfl, k2⟩
          exact ⟨rfl, own_volP hst hV2 k2⟩
        · rw [if_neg (by rw [decide_eq_false h16]; exact Bool.false_ne_true)]
          obtain ⟨a, rfl⟩ : ∃ a : Nat, off = (a : Int) := ⟨off.toNat, by omega⟩
          have hdl : (N q).data.length = (S q).size := by rw [hi.size, hsz]
          have hoa : a ≤ (S q).size := by omega
          have hend : a + s.data.toList.length ≤ 2368 := by omega
          have hwl : (wrD (N q).data a s.data.toList).length = max (S q).size (a + s.size) := by rw [wrD_len (by omega), hdl, hsl]
          have hroom := room_eq hz hV2
          have htk := (takes_diff (a := (S q).size) (b := max (S q).size (a + s.size)) (Nat.le_max_left _ _)).2
          rw [Int.toNat_natCast, hwl, hsz, ← hroom]
          have hw := vol_write hN hr (by omega) hhi hq hkd3 (off := a) (s := s.data.toList) hoa hend
          unfold wrV at hw
          rw [hsl] at hw
          have hM : max (inoV [] z st q).size (a + s.size) = max (S q).size (a + s.size) := by rw [hsz]
          rcases hw with ⟨g1, g2, g3, g4, g5, g6, g7⟩ | ⟨g1, g2⟩
          · have hfr : ¬ (freeN (rowL [] z st 0) n : Int) < (takesN (max (S q).size (a + s.size)) : Int) - (takesN (S q).size : Int) := by
              have : freeN (rowL [] z st 0) n = freeN (Vw z st 0) n := rfl
              omega
            rw [if_neg hfr]
            refine (c_vwrite h hs hz hst (by omega) q hq a s hkd2 hsize (by omega) b3 (by omega) (pl5_lt hi (by omega)) (by rw [hi.fil, hM]; exact g2) (by rw [hi.fil, hM]; exact g3) (by rw [hi.fil, hM]; exact g4) (by rw [hi.fil, hM]; exact g5)).mono ?_
            intro e w' k2
            have hro : RowsOk n (putS 0 ⟨(growF n (rowL [] z st 0) (filA (S q)) (max (S q).size (a + s.size))).2.1.toArray⟩ []) := rowsOk_put (i := 0) (rowsOk_nil n) (by omega) g6
            have hrw := rowsOk_wr hro hz hst (held := cntN (S q).size) (off := a) (s := s) g3 (cntN (a + s.size) - a / 64)
            have hrise : Rising (wrR (putS 0 ⟨(growF n (rowL [] z st 0) (filA (S q)) (max (S q).size (a + s.size))).2.1.toArray⟩ []) z st (cntN (S q).size) a s (grF n (rowL [] z st 0) (filA (S q)) (max (S q).size (a + s.size))).all (cntN (a + s.size) - a / 64)) := hrw.rise
            have hview : rowV8 (wrRows n z st q a s) z st = putRV (putFV (wrK (putV (Vw z st) 0 (growF n (Vw z st 0) (filA (S q)) (max (S q).size (a + s.size))).2.1) (cntN (S q).size) a s.data.toList (grF n (Vw z st 0) (filA (S q)) (max (S q).size (a + s.size))).all (cntN (a + s.size) - a / 64)) (grF n (Vw z st 0) (filA (S q)) (max (S q).size (a + s.size)))) q (pI (grF n (Vw z st 0) (filA (S q)) (max (S q).size (a + s.size)))) := by
              unfold wrRows
              rw [hi.fil, hM, hsz, (rowV_putF hrise z st q _).1, wrR_view hro.rise]
              have h0 : rowV8 (putS 0 ⟨(growF n (rowL [] z st 0) (filA (S q)) (max (S q).size (a + s.size))).2.1.toArray⟩ []) z st = putV (Vw z st) 0 (growF n (Vw z st 0) (filA (S q)) (max (S q).size (a + s.size))).2.1 := rowV_put (rows := []) trivial z st 0 _
              rw [h0]; rfl
            have hnk : (N q).kind = (S q).kind := by rw [hN q hq]; rfl
            have hnl : (N q).links = (S q).links := by rw [hN q hq]; rfl
            rw [hnk, hnl, hi.data]
            have hwc : wrC a s.size ≤ 14 := by unfold wrC cntN; omega
            refine volP_stg hz hst h16 hwc (rows := wrRows n z st q a s) ?_ ?_ (by rw [hview]; exact g7) k2
            · unfold wrRows
              rw [hi.fil, hM, hsz]
              exact rowsOk_putF hrw hz hst hq g5
            · unfold wrRows
              rw [hi.fil, hM, hsz]
              have l1 := putF_len (wrR (putS 0 ⟨(growF n (rowL [] z st 0) (filA (S q)) (max (S q).size (a + s.size))).2.1.toArray⟩ []) z st (cntN (S q).size) a s (grF n (rowL [] z st 0) (filA (S q)) (max (S q).size (a + s.size))).all (cntN (a + s.size) - a / 64)) z st q (grF n (rowL [] z st 0) (filA (S q)) (max (S q).size (a + s.size)))
              have l2 := wrR_len (putS 0 ⟨(growF n (rowL [] z st 0) (filA (S q)) (max (S q).size (a + s.size))).2.1.toArray⟩ []) z st (cntN (S q).size) a s (grF n (rowL [] z st 0) (filA (S q)) (max (S q).size (a + s.size))).all (cntN (a + s.size) - a / 64)
              have l3 : (putS 0 ⟨(growF n (rowL [] z st 0) (filA (S q)) (max (S q).size (a + s.size))).2.1.toArray⟩ ([] : List (Int × ByteArray))).length = 1 := rfl
              unfold wrC
              omega
          · have hfr : (freeN (rowL [] z st 0) n : Int) < (takesN (max (S q).size (a + s.size)) : Int) - (takesN (S q).size : Int) := by
              have : freeN (rowL [] z st 0) n = freeN (Vw z st 0) n := rfl
              omega
            rw [if_pos hfr]
            refine (c_vwrite_full h hs hz hst (by omega) q hq a s hkd2 hsize (by omega) b3 (by omega) (pl5_lt hi (by omega)) (by rw [hi.fil, hM]; exact g2)).mono ?_
            rintro e w' ⟨rfl, k2⟩
            exact ⟨rfl, own_volP hst hV2 k2⟩
  · have e : writeN N n (decide (16 < st.length)) k off s.data.toList = (findN N k, N) := by unfold writeN; rw [if_pos hf]
    rw [e]
    refine (c_write_no (stable_dl _ _ _ _ _ _ (stable_star (stable_blk _ _) hs)) hf h (take_no hs hz hst hV hf)).mono ?_
    rintro e w' ⟨rfl, k2⟩
    exact ⟨rfl, own_volP hst hV k2⟩
end
end Go.Proofs.YtlpcccpagmipnaaGreat.P
namespace Go.Proofs.YtlpcccpagmipnaaGreat.P
open Go.RowKit Go.ChangeMaps Go.MapKept
theorem li_of {z : DState} {n : Nat} (h : Clean z (n + 32)) (h1 : 16 ≤ n) (h2 : n ≤ 512) : LI z n := ⟨h.live.1, h.len, h1, h2, h.sz, by rw [h.still]; exact Nat.zero_le _⟩
theorem getB_far {z : DState} {n : Nat} (hlen : z.safe.length = n + 32) (st : List (Int × ByteArray)) {i : Nat} (hi : n ≤ i) : getB false z st (i : Int) = ⟨#[]⟩ := by
  have : refF false z.safe.length (i : Int) = 1 := by
    unfold refF
    rw [cond_false, decide_eq_true (by omega : (0 : Int) ≤ i), decide_eq_false (by omega : ¬ (i : Int) < (z.safe.length : Int) - 32)]; rfl
  unfold getB
  rw [this]; rfl
theorem vw_comm {z : DState} {n : Nat} {st : List (Int × ByteArray)} (hc : Clean z (n + 32)) (hn : 16 ≤ n) (hst : okSt (n + 32) st) : Clean (commZ st z) (n + 32) ∧ Vw (commZ st z) [] = Vw z st := by
  obtain ⟨c1, _, c3⟩ := comm_clean hc (by omega) hst
  refine ⟨c1, ?_⟩
  funext i
  show (getB false (commZ st z) [] (i : Int)).data.toList = (getB false z st (i : Int)).data.toList
  by_cases hi : i < n
  · rw [get_clean c1 [] i (by omega), get_clean hc st i (by omega), ← c3 i (by omega)]; rfl
  · rw [getB_far c1.len [] (by omega), getB_far hc.len st (by omega)]
/-! an empty volume -/
theorem fmtK_rising : ∀ k, Rising (fmtK k)
  | 0 => trivial
  | k + 1 => rising_put _ _ _ (fmtK_rising k)
theorem look_fmt (i : Nat) : ∀ k, lookS (i : Int) (fmtK k) = if i < k then some ⟨(fmtL i).toArray⟩ else none
  | 0 => rfl
  | k + 1 => by
    show lookS (i : Int) (putS (k : Int) ⟨(fmtL k).toArray⟩ (fmtK k)) = _
    rw [look_put _ _ _ _ (fmtK_rising k), look_fmt i k]
    by_cases h : (k : Int) = (i : Int)
    · have : k = i := by omega
      rw [if_pos h, if_pos (by omega), this]
    · rw [if_neg h]
      by_cases h2 : i < k
      · rw [if_pos h2, if_pos (by omega)]
      · rw [if_neg h2, if_neg (by omega)]
theorem fmt_ok (n : Nat) (hn : 16 ≤ n) : okSt (n + 32) (fmtK 9) := by
  have h : ∀ k, k ≤ 9 → ∀ x ∈ fmtK k, 0 ≤ x.1 ∧ x.1 < ((n + 32 : Nat) : Int) - 32 ∧ x.2.size = 64 := by
    intro k
    induction k with
    | zero => intro _ x hx; cases hx
    | succ k ih =>
      intro hk x hx
      rcases mem_putS hx with e | e
      · rw [e]
        exact ⟨by show (0 : Int) ≤ (k : Int); omega, by show (k : Int) < _; omega, by show (List.toArray _).size = 64; rw [List.size_toArray, fmtL_len]⟩
      · exact ih (by omega) x e
  exact ⟨fmtK_rising 9, by have := fmtK_len 9; omega, h 9 (Nat.le_refl _)⟩
theorem map9 : ∀ i, i < 512 → usedB (mapK 9) i = decide (i < 9) := by
  have : ∀ i < 512, usedB (mapK 9) i = decide (i < 9) := by decide +kernel
  exact this
theorem toF_zero : ∀ q, q < 4 → toF zL (q * 16) = fa0.ino := by
  intro q hq
  rcases (by omega : q = 0 ∨ q = 1 ∨ q = 2 ∨ q = 3) with rfl | rfl | rfl | rfl <;> rfl
theorem vol_fmt {z : DState} {n : Nat} (hz : LI z n) : IsVol (Vw z (fmtK 9)) n (fun _ => node0) := by
  have hlo := hz.lo
  have hv : ∀ i, i < 9 → Vw z (fmtK 9) i = fmtL i := fun i hi => by
    have h1 := look_fmt i 9
    rw [if_pos hi] at h1
    show (getB false z (fmtK 9) (i : Int)).data.toList = _
    have hr : refF false z.safe.length (i : Int) = 0 := by
      unfold refF
      rw [cond_false, hz.len, decide_eq_true (by omega : (0 : Int) ≤ i), decide_eq_true (by omega : (i : Int) < ((n + 32 : Nat) : Int) - 32)]; rfl
    unfold getB
    rw [hr, h1]; rfl
  have h0 : fa0.own = [] := rfl
  refine ⟨fun _ => fa0, ⟨fun i hi => ?_, fun k hk => ok_new (kd := 0) (by omega), fun k hk => ?_, fun k hk h => absurd rfl h, fun k hk => ?_, fun j k _ _ _ o ho => (by rw [h0] at ho; cases ho), fun i hi => ?_⟩, fun k hk => rfl⟩
  · have := (get_ok hz (fmt_ok n hlo) i hi).2
    show (getB false z (fmtK 9) (i : Int)).data.toList.length = 64
    rw [← this]; exact (Go.Lib.size_eq _).symm
  · rw [hv _ (by omega)]
    have : fmtL (1 + k / 4) = zL := by unfold fmtL; rw [decide_eq_false (by omega)]; rfl
    rw [this]
    exact toF_zero _ (by omega)
  · rw [h0]; exact List.nodup_nil
  · rw [hv 0 (by omega)]
    have : fmtL 0 = mapK 9 := rfl
    rw [this, map9 i hi]
    constructor
    · intro h; exact .inl (of_decide_eq_true h)
    · rintro (h | ⟨k, _, h⟩)
      · exact decide_eq_true h
      · rw [h0] at h; cases h
/-! the calls, on a volume whose log is clean -/
def VS (w0 : World) (d n l V : Nat) (R : Asn) (m : Nat) (N : Nat → NodeA) (w : World) : Prop := ∃ z ml st, Clean z (n + 32) ∧ okSt (n + 32) st ∧ Own w0 w (VL d z l ml st V R) ∧ IsVol (Vw z st) n N ∧ st.length ≤ m
section
variable {w0 w : World} {d n l V m : Nat} {R : Asn} {N : Nat → NodeA}
theorem VS.gr (h : VS w0 d n l V R m N w) (hs : Stable R) {w' : World} (g : Gr w w') : VS w0 d n l V R m N w' := by
  obtain ⟨z, ml, st, h1, h2, h3, h4, h5⟩ := h
  exact ⟨z, ml, st, h1, h2, h3.gr (stable_dl _ _ _ _ _ _ (stable_star (stable_blk _ _) hs)) g, h4, h5⟩
theorem VS.le {m' : Nat} (h : VS w0 d n l V R m N w) (hm : m ≤ m') : VS w0 d n l V R m' N w := by
  obtain ⟨z, ml, st, h1, h2, h3, h4, h5⟩ := h
  exact ⟨z, ml, st, h1, h2, h3, h4, by omega⟩
theorem full_no {st : List (Int × ByteArray)} (h : st.length ≤ m) (hm : m ≤ 16) : decide (16 < st.length) = false := decide_eq_false (by omega)
theorem k_new (h : VS w0 d n l V R m N w) (hs : Stable R) (h1 : 16 ≤ n) (h2 : n ≤ 512) (hm : m ≤ 16) (kd : Int) :
    Calls Tryz.prog 35 #[.pointer (some ⟨V, 0, none⟩), .int .i64 kd] w fun e w' => e = .returned (.tuple #[.int .i64 (addN N false kd).1, .int .i64 (addN N false kd).2.1]) ∧ VS w0 d n l V R (m + 1) (addN N false kd).2.2 w' := by
  obtain ⟨z, ml, st, c1, c2, c3, c4, c5⟩ := h
  have := o_vnew c3 hs (li_of c1 h1 h2) c2 c4 kd
  rw [full_no c5 hm] at this
  refine this.mono ?_
  rintro e w' ⟨rfl, st', k1, k2, k3, k4⟩
  exact ⟨rfl, z, ml, st', c1, k1, k2, k3, by omega⟩
theorem k_free (h : VS w0 d n l V R m N w) (hs : Stable R) (h1 : 16 ≤ n) (h2 : n ≤ 512) (hm : m ≤ 16) (k : Int) :
    Calls Tryz.prog 37 #[.pointer (some ⟨V, 0, none⟩), .int .i64 k] w fun e w' => e = .returned (.int .i64 (freeNd N false k).1) ∧ VS w0 d n l V R (m + 2) (freeNd N false k).2 w' := by
  obtain ⟨z, ml, st, c1, c2, c3, c4, c5⟩ := h
  have := o_vfree c3 hs (li_of c1 h1 h2) c2 c4 k
  rw [full_no c5 hm] at this
  refine this.mono ?_
  rintro e w' ⟨rfl, st', k1, k2, k3, k4⟩
  exact ⟨rfl, z, ml, st', c1, k1, k2, k3, by omega⟩
theorem k_cut (h : VS w0 d n l V R m N w) (hs : Stable R) (h1 : 16 ≤ n) (h2 : n ≤ 512) (hm : m ≤ 16) (k size : Int) :
    Calls Tryz.prog 39 #[.pointer (some ⟨V, 0, none⟩), .int .i64 k, .int .i64 size] w fun e w' => e = .returned (.int .i64 (cutN N false k size).1) ∧ VS w0 d n l V R (m + 3) (cutN N false k size).2 w' := by
  obtain ⟨z, ml, st, c1, c2, c3, c4, c5⟩ := h
  have := o_vcut c3 hs (li_of c1 h1 h2) c2 c4 k size
  rw [full_no c5 hm] at this
  refine this.mono ?_
  rintro e w' ⟨rfl, st', k1, k2, k3, k4⟩
  exact ⟨rfl, z, ml, st', c1, k1, k2, k3, by omega⟩
theorem k_link (h : VS w0 d n l V R m N w) (hs : Stable R) (h1 : 16 ≤ n) (h2 : n ≤ 512) (hm : m ≤ 16) (k by_ : Int) :
    Calls Tryz.prog 38 #[.pointer (some ⟨V, 0, none⟩), .int .i64 k, .int .i64 by_] w fun e w' => e = .returned (.int .i64 (linkN N false k by_).1) ∧ VS w0 d n l V R (m + 1) (linkN N false k by_).2 w' := by
  obtain ⟨z, ml, st, c1, c2, c3, c4, c5⟩ := h
  have := o_vlink c3 hs (li_of c1 h1 h2) c2 c4 k by_
  rw [full_no c5 hm] at this
  refine this.mono ?_
  rintro e w' ⟨rfl, st', k1, k2, k3, k4⟩
  exact ⟨rfl, z, ml, st', c1, k1, k2, k3, by omega⟩
theorem k_write (h : VS w0 d n l V R m N w) (hs : Stable R) (h1 : 16 ≤ n) (h2 : n ≤ 512) (hm : m ≤ 16) (k off : Int) (s : ByteArray) :
    Calls Tryz.prog 36 #[.pointer (some ⟨V, 0, none⟩), .int .i64 k, .int .i64 off, .string s] w fun e w' => e = .returned (.int .i64 (writeN N n false k off s.data.toList).1) ∧ VS w0 d n l V R (m + wrC off.toNat s.size) (writeN N n false k off s.data.toList).2 w' := by
  obtain ⟨z, ml, st, c1, c2, c3, c4, c5⟩ := h
  have := o_vwrite c3 hs (li_of c1 h1 h2) c2 c4 k off s
  rw [full_no c5 hm] at this
  refine this.mono ?_
  rintro e w' ⟨rfl, st', k1, k2, k3, k4⟩
  exact ⟨rfl, z, ml, st', c1, k1, k2, k3, by omega⟩
theorem k_stat (h : VS w0 d n l V R m N w) (hs : Stable R) (h1 : 16 ≤ n) (h2 : n ≤ 512) (k : Int) :
    Calls Tryz.prog 31 #[.pointer (some ⟨V, 0, none⟩), .int .i64 k] w fun e w' => e = .returned (.tuple #[.agg (statV N k), .int .i64 (findN N k)]) ∧ VS w0 d n l V R m N w' := by
  obtain ⟨z, ml, st, c1, c2, c3, c4, c5⟩ := h
  refine (o_vstat c3 hs (li_of c1 h1 h2) c2 c4 k).mono ?_
  rintro e w' ⟨rfl, k2⟩
  exact ⟨rfl, z, ml, st, c1, c2, k2, c4, c5⟩
theorem k_room (h : VS w0 d n l V R m N w) (hs : Stable R) (h1 : 16 ≤ n) (h2 : n ≤ 512) :
    Calls Tryz.prog 25 #[.pointer (some ⟨V, 0, none⟩)] w fun e w' => e = .returned (.tuple #[.int .i64 (roomN N n), .int .i64 0]) ∧ VS w0 d n l V R m N w' := by
  obtain ⟨z, ml, st, c1, c2, c3, c4, c5⟩ := h
  refine (o_vroom c3 hs (li_of c1 h1 h2) c2 c4).mono ?_
  rintro e w' ⟨rfl, k2⟩
  exact ⟨rfl, z, ml, st, c1, c2, k2, c4, c5⟩
theorem k_read (h : VS w0 d n l V R m N w) (hs : Stable R) (h1 : 16 ≤ n) (h2 : n ≤ 512) (k off many : Int) (ho : off ≤ 9223372036854775807) (hm : many ≤ 9223372036854775807) :
    Calls Tryz.prog 33 #[.pointer (some ⟨V, 0, none⟩), .int .i64 k, .int .i64 off, .int .i64 many] w fun e w' => e = .returned (.tuple #[.string ⟨(readN N k off many).1.toArray⟩, .int .i64 (readN N k off many).2]) ∧ VS w0 d n l V R m N w' := by
  obtain ⟨z, ml, st, c1, c2, c3, c4, c5⟩ := h
  refine (o_vread c3 hs (li_of c1 h1 h2) c2 c4 k off many ho hm).mono ?_
  rintro e w' ⟨rfl, k2⟩
  exact ⟨rfl, z, ml, st, c1, c2, k2, c4, c5⟩
theorem k_commit (h : VS w0 d n l V R m N w) (hs : Stable R) (h1 : 16 ≤ n) (h2 : n ≤ 512) :
    Calls Tryz.prog 14 #[.pointer (some ⟨l, 0, none⟩)] w fun e w' => e = .returned (.int .i64 0) ∧ VS w0 d n l V R 0 N w' := by
  obtain ⟨z, ml, st, c1, c2, c3, c4, c5⟩ := h
  obtain ⟨v1, v2⟩ := vw_comm c1 h1 c2
  refine (o_comm c3 (stable_star (stable_blk _ _) hs) c1 (by omega) (by omega) c2).mono ?_
  rintro e w' ⟨rfl, k2⟩
  exact ⟨rfl, _, ml, [], v1, ok_nil _, k2, by rw [v2]; exact c4, Nat.le_refl _⟩
end
end Go.Proofs.YtlpcccpagmipnaaGreat.P
namespace Go.Proofs.YtlpcccpagmipnaaGreat.P
open Go.RowKit Go.ChangeMaps Go.MapKept
theorem bcL_rep (n : Nat) : bcL (List.replicate n 0) = (List.replicate n (Value.int .u8 0)).toArray := by
  unfold bcL Lib.byteCells
  rw [List.map_replicate]; rfl
theorem made_bytes (n : Nat) : madeCells #[Value.int .u8 0] n = bcL (List.replicate n 0) := by
  rw [bcL_rep]
  apply Array.toList_inj.1
  rw [toList_madeCells_one]
theorem mk_bytes (n : Nat) (hn : n ≤ 100000) (w : World) : (Instr.makeSlice 87 (.int .i64 (n : Int)) (.int .i64 (n : Int))).run Tryz.prog w = .ok (.slice (some ⟨w.heap.size, 0, none⟩) n n) (w.alloc (.cells (bcL (List.replicate n 0)) 5)) := by
  obtain ⟨i0, hi, hz0, hz1, hz2⟩ := info_parts u8Info8
  have := run_make (P := Tryz.prog) w 87 5 i0 (.int .u8 0) Tryz.underlying87 hi hz0 .i64 .i64 (n : Int) (n : Int) (by omega) (Int.le_refl _) (by rw [hz2]; omega) (by omega)
  rw [this, hz1, Int.toNat_natCast]
  simp only [Nat.mul_one]
  rw [show (Value.int .u8 0).cells = #[Value.int .u8 0] from rfl, made_bytes]
def txtK (n k : Nat) : List UInt8 := (List.range k).map UInt8.ofNat ++ List.replicate (n - k) 0
theorem txtK_len {n k : Nat} (h : k ≤ n) : (txtK n k).length = n := by
  unfold txtK; rw [List.length_append, List.length_map, List.length_range, List.length_replicate]; omega
theorem txtK_set {n k : Nat} (h : k < n) : (txtK n k).set k (UInt8.ofNat k) = txtK n (k + 1) := by
  have hl : ((List.range k).map UInt8.ofNat).length = k := by rw [List.length_map, List.length_range]
  unfold txtK
  rw [List.set_append_right _ _ (by omega), hl, Nat.sub_self, show n - k = (n - (k + 1)) + 1 by omega, List.replicate_succ, List.set_cons_zero, List.range_succ, List.map_append, List.append_assoc]
  rfl
theorem conv_bytes (wx : World) (g : Nat) (L : List UInt8) (T : TypeId) (hg : wx.heap[g]? = some (.cells (bcL L) T)) : (convert 87 9 (.slice (some ⟨g, 0, none⟩) L.length L.length)).run Tryz.prog wx = .ok (.string ⟨L.toArray⟩) wx :=
  Go.Lib.run_convert_whole (P := Tryz.prog) wx 87 5 9 Tryz.underlying87 Tryz.underlying5 Tryz.underlying9 g 0 ⟨L.toArray⟩ (fun i hi => by
    have hi2 : i < L.length := by
      have e : (⟨L.toArray⟩ : ByteArray).size = L.length := List.size_toArray
      omega
    have h3 := blk_cell hg i (bcL_cell hi2)
    rw [Nat.zero_add, h3]
    unfold byL
    rw [List.getD_eq_getElem?_getD, List.getElem?_eq_getElem hi2]; rfl) L.length
def textB (n : Nat) : List UInt8 := (List.range n).map UInt8.ofNat
theorem txtK_all (n : Nat) : txtK n n = textB n := by unfold txtK textB; rw [Nat.sub_self, List.replicate_zero, List.append_nil]
set_option maxHeartbeats 1600000 in
theorem c_text (n : Nat) (hn : n ≤ 256) (w : World) : Calls Tryz.prog 41 #[.int .i64 (n : Int)] w fun e w' => e = .returned (.string ⟨(textB n).toArray⟩) ∧ Gr w w' := by
  have hmk := mk_bytes n (by omega) w
  have H0 : Hid (Own w (w.alloc (.cells (bcL (txtK n 0)) 5)) (Star (blkA w.heap.size (.cells (bcL (txtK n 0)) 5)) emp)) := Lib.hid ((Own.start (Gr.refl w)).alloc stable_emp _)
  have e0 : txtK n 0 = List.replicate n 0 := rfl
  rw [e0] at H0
  go_enter Tryz.func41, Tryz.ntmps41
  go_wp2_with fail
  rw [← e0] at H0 ⊢
  clear hmk e0
  generalize (World.alloc w _) = w1 at H0 ⊢
  generalize w.heap.size = g at H0 ⊢
  go_loopw [4] (fun v4 wr => ∃ k : Nat, k ≤ n ∧ v4 = .int .i64 k ∧ Own w wr (Star (blkA g (.cells (bcL (txtK n k)) 5)) emp)) (fun v _ => n - (intOf v).toNat)
  case atStart => exact ⟨0, Nat.zero_le _, rfl, H0.out⟩
  case round =>
    obtain ⟨k, hk, rfl, ho⟩ := hrel
    have HO := Lib.hid ho
    by_cases hlt : k < n
    · have dl : decide (k < n) = true := decide_eq_true hlt
      have c1 := blk_cell ho.blk k (bcL_cell (by rw [txtK_len hk]; exact hlt))
      have z1 := blk_frozen ho.blk k
      have HP : Hid (Own w (wr.setCell ⟨g, k, none⟩ (.int .u8 (k : Int))) (Star (blkA g (.cells (bcL (txtK n (k + 1))) 5)) emp)) := Lib.hid (by
        have := ho.putB stable_emp k k (by omega)
        rw [txtK_set hlt] at this
        exact this)
      have w8 : IntKind.u8.wrap (k : Int) = (k : Int) := by rw [IntKind.wrap_u8]; omega
      have k0 : (0 : Int) ≤ (k : Int) := by omega
      have k1 : (k : Int) < (n : Int) := by omega
      clear ho
      generalize byL (txtK n k) k = x at *
      go_wp2_with fail
      go_roundw
      case rel => exact ⟨k + 1, by omega, by go_num, HP.out⟩
      case measure => simp [intOf]; omega
    · obtain rfl : k = n := by omega
      have dl : decide (k < k) = false := decide_eq_false (by omega)
      have hcv := conv_bytes wr g (txtK k k) 5 ho.blk
      rw [txtK_len (Nat.le_refl _)] at hcv
      have HS := Lib.hid ho.sub
      have HT := Lib.hid (txtK_all k)
      clear ho HO
      generalize txtK k k = L at *
      go_wp2_with fail
      go_ret
      rw [HT.out]
      exact ⟨rfl, HS.out⟩
section
variable {w0 w : World} {R : Asn}
def freshN (s : Int) : Nat := if s < 48 ∨ 544 < s then 48 else s.toNat
def FreshP (w0 : World) (m : Nat) (R : Asn) (e : Ending) (w' : World) : Prop := ∃ d l ml, e = .returned (.tuple #[.pointer (some ⟨d, 0, none⟩), .pointer (some ⟨l, 0, none⟩)]) ∧ Own w0 w' (DL d (newZ (List.replicate m z64)) l ml [] false R)
theorem c_fresh8 (h : Own w0 w R) (hs : Stable R) (s : Int) : Calls Tryz.prog 12 #[.int .i64 s] w (FreshP w0 (freshN s) R) := by
  have hm1 : 48 ≤ freshN s ∧ freshN s ≤ 544 := by unfold freshN; split <;> omega
  have CN := Lib.hid (o_new h hs (freshN s) hm1.1 hm1.2)
  have CO : Hid (∀ wx d, Own w0 wx (Star (dsk d (newZ (List.replicate (freshN s) z64))) R) → Calls Tryz.prog 30 #[ptr d] wx fun e w' => ∃ l mb, e = .returned (.tuple #[ptr l, .int .i64 0]) ∧ Own w0 w' (DL d (newZ (List.replicate (freshN s) z64)) l mb [] false R)) := Lib.hid (fun wx d hw => o_open_ok hw hs (sz_new _) (by show 0 ≤ _; omega) _ (ex_new _ hm1.1))
  unfold NewO at CN
  by_cases hb : s < 48 ∨ 544 < s
  · have hf : freshN s = 48 := by unfold freshN; rw [if_pos hb]
    rw [hf] at CN CO ⊢
    clear h
    by_cases h1 : s < 48
    · have d1 : decide (s < 48) = true := decide_eq_true h1
      go_enter Tryz.func12, Tryz.ntmps12
      go_wp2_with (first
        | (go_at_call 42; refine CN.out.mono ?_; rintro e w1 ⟨d, rfl, h1⟩; have H1 := Lib.hid h1; clear h1)
        | (go_at_call 30; refine (CO.out _ _ H1.out).mono ?_; rintro e w2 ⟨l, mb, rfl, h2⟩; have H2 := Lib.hid h2; clear h2))
      go_ret2
      exact ⟨_, _, _, rfl, H2.out⟩
    · have d1 : decide (s < 48) = false := decide_eq_false h1
      have h2 : 544 < s := by omega
      have d2 : decide (544 < s) = true := decide_eq_true h2
      go_enter Tryz.func12, Tryz.ntmps12
      go_wp2_with (first
        | (go_at_call 42; refine CN.out.mono ?_; rintro e w1 ⟨d, rfl, h1⟩; have H1 := Lib.hid h1; clear h1)
        | (go_at_call 30; refine (CO.out _ _ H1.out).mono ?_; rintro e w2 ⟨l, mb, rfl, h2⟩; have H2 := Lib.hid h2; clear h2))
      go_ret2
      exact ⟨_, _, _, rfl, H2.out⟩
  · obtain ⟨q, rfl⟩ : ∃ q : Nat, s = (q : Int) := ⟨s.toNat, by omega⟩
    have hf : freshN (q : Int) = q := by unfold freshN; rw [if_neg hb, Int.toNat_natCast]
    rw [hf] at CN CO ⊢
    have d1 : ¬ (q : Int) < 48 := by omega
    have d2 : ¬ (544 : Int) < (q : Int) := by omega
    have d3 : ¬ q < 48 := by omega
    have d4 : ¬ 544 < q := by omega
    clear h hb
    go_enter Tryz.func12, Tryz.ntmps12
    go_wp2_with (first
      | (go_at_call 42; refine CN.out.mono ?_; rintro e w1 ⟨d, rfl, h1⟩; have H1 := Lib.hid h1; clear h1)
      | (go_at_call 30; refine (CO.out _ _ H1.out).mono ?_; rintro e w2 ⟨l, mb, rfl, h2⟩; have H2 := Lib.hid h2; clear h2))
    go_ret2
    exact ⟨_, _, _, rfl, H2.out⟩
/-- Format, of a fresh log. -/
theorem k_format {d l ml n : Nat} (h : Own w0 w (DL d (newZ (List.replicate (n + 32) z64)) l ml [] false R)) (hs : Stable R) (h1 : 16 ≤ n) (h2 : n ≤ 512) :
    Calls Tryz.prog 13 #[.pointer (some ⟨l, 0, none⟩)] w fun e w' => ∃ V, e = .returned (.tuple #[.pointer (some ⟨V, 0, none⟩), .int .i64 0]) ∧ VS w0 d n l V R 9 (fun _ => node0) w' := by
  have hc := clean_new (n + 32) (by omega) (by omega)
  refine (c_format h hs (li_of hc h1 h2)).mono ?_
  rintro e w' ⟨V, rfl, k2⟩
  exact ⟨V, rfl, _, ml, fmtK 9, hc, fmt_ok n h1, k2, vol_fmt (li_of hc h1 h2), fmtK_len 9⟩
end
end Go.Proofs.YtlpcccpagmipnaaGreat.P
namespace Go.Proofs.YtlpcccpagmipnaaGreat.P
open Go.RowKit Go.ChangeMaps Go.MapKept
def exN0 : Nat → NodeA := fun _ => node0
def exN1 : Nat → NodeA := (addN exN0 false 1).2.2
def exN2 : Nat → NodeA := (writeN exN1 16 false 0 0 (textB 65)).2
def exN3 : Nat → NodeA := (writeN exN2 16 false 0 65 (textB 255)).2
def exN4 : Nat → NodeA := (writeN exN3 16 false 0 320 [120]).2
def exN5 : Nat → NodeA := (writeN exN4 16 false 0 384 [120]).2
def exN6 : Nat → NodeA := (cutN exN5 false 0 320).2
theorem ex_n : roomN exN0 16 = 7 ∧ (addN exN0 false 1).1 = 0 ∧ (addN exN0 false 1).2.1 = 0 ∧ roomN exN2 16 = 5 ∧ roomN exN4 16 = 0 ∧ (writeN exN4 16 false 0 384 [120]).1 = 1 ∧ (cutN exN5 false 0 320).1 = 0 ∧ roomN exN6 16 = 2 := by decide +kernel
section
variable {w0 w : World} {d l V : Nat} {R : Asn}
theorem ex_room {m : Nat} {N : Nat → NodeA} (h : VS w0 d 16 l V R m N w) (hs : Stable R) (r : Int) (hr : roomN N 16 = r) :
    Calls Tryz.prog 25 #[.pointer (some ⟨V, 0, none⟩)] w fun e w' => e = .returned (.tuple #[.int .i64 r, .int .i64 0]) ∧ VS w0 d 16 l V R m N w' := by
  rw [← hr]; exact k_room h hs (by omega) (by omega)
theorem ex_new8 (h : VS w0 d 16 l V R 9 exN0 w) (hs : Stable R) :
    Calls Tryz.prog 35 #[.pointer (some ⟨V, 0, none⟩), .int .i64 1] w fun e w' => e = .returned (.tuple #[.int .i64 0, .int .i64 0]) ∧ VS w0 d 16 l V R 10 exN1 w' := by
  have := k_new h hs (by omega) (by omega) (by omega) 1
  rw [ex_n.2.1, ex_n.2.2.1] at this
  exact this
theorem ex_write {m : Nat} {N N' : Nat → NodeA} (h : VS w0 d 16 l V R m N w) (hs : Stable R) (hm : m ≤ 16) (off : Int) (L : List UInt8) (s : ByteArray) (hL : s.data.toList = L) (hN : N' = (writeN N 16 false 0 off L).2) (m' : Nat) (hm' : m + wrC off.toNat s.size = m') (r : Int) (hr : (writeN N 16 false 0 off L).1 = r) :
    Calls Tryz.prog 36 #[.pointer (some ⟨V, 0, none⟩), .int .i64 0, .int .i64 off, .string s] w fun e w' => e = .returned (.int .i64 r) ∧ VS w0 d 16 l V R m' N' w' := by
  have := k_write h hs (by omega) (by omega) hm 0 off s
  rw [hL, hr, ← hN, hm'] at this
  exact this
theorem ex_cut {m : Nat} {N' : Nat → NodeA} {N : Nat → NodeA} (h : VS w0 d 16 l V R m N w) (hs : Stable R) (hm : m ≤ 16) (size : Int) (hN : N' = (cutN N false 0 size).2) (r : Int) (hr : (cutN N false 0 size).1 = r) :
    Calls Tryz.prog 39 #[.pointer (some ⟨V, 0, none⟩), .int .i64 0, .int .i64 size] w fun e w' => e = .returned (.int .i64 r) ∧ VS w0 d 16 l V R (m + 3) N' w' := by
  have := k_cut h hs (by omega) (by omega) hm 0 size
  rw [hr, ← hN] at this
  exact this
end
theorem VS.sub {w0 w : World} {d n l V m : Nat} {R : Asn} {N : Nat → NodeA} (h : VS w0 d n l V R m N w) : Gr w0 w := by
  obtain ⟨z, ml, st, c1, c2, c3, c4, c5⟩ := h
  exact c3.sub
set_option maxHeartbeats 6400000 in
theorem c_shown8 (w : World) : Calls Tryz.prog 11 #[] w fun e w' => e = .returned (.bool true) ∧ Gr w w' := by
  have CF := Lib.hid (c_fresh8 (Own.start (Gr.refl w)) stable_emp 48)
  have e48 : freshN 48 = 16 + 32 := rfl
  unfold FreshP at CF
  rw [e48] at CF
  have r2 : ∃ r, (writeN exN1 16 false 0 0 (textB 65)).1 = r := ⟨_, rfl⟩
  have r3 : ∃ r, (writeN exN2 16 false 0 65 (textB 255)).1 = r := ⟨_, rfl⟩
  have r4 : ∃ r, (writeN exN3 16 false 0 320 [120]).1 = r := ⟨_, rfl⟩
  obtain ⟨r2, hr2⟩ := r2
  obtain ⟨r3, hr3⟩ := r3
  obtain ⟨r4, hr4⟩ := r4
  have HR2 := Lib.hid hr2
  have HR3 := Lib.hid hr3
  have HR4 := Lib.hid hr4
  clear hr2 hr3 hr4
  have HX := Lib.hid ex_n
  go_enter Tryz.func11, Tryz.ntmps11
  go_upto_region 2 with (go_at_call 12; refine CF.out.mono ?_; rintro e w1 ⟨d, l, ml, rfl, h1⟩; have H1 := Lib.hid h1; clear h1)
  go_upto_region 5 with (go_at_call 13; refine (k_format H1.out stable_emp (by omega) (by omega)).mono ?_; rintro e w2 ⟨V, rfl, h2⟩; have H2 := Lib.hid h2; clear h2)
  go_upto_region 6 with (go_at_call 25; refine (ex_room (N := exN0) H2.out stable_emp 7 HX.out.1).mono ?_; rintro e w3 ⟨rfl, h3⟩; have H3 := Lib.hid h3; clear h3)
  go_upto_region 7 with (go_at_call 35; refine (ex_new8 H3.out stable_emp).mono ?_; rintro e w4 ⟨rfl, h4⟩; have H4 := Lib.hid h4; clear h4)
  go_upto_region 8 with (first
    | (go_at_call 41; refine (c_text 65 (by omega) _).mono ?_; rintro e w5 ⟨rfl, g5⟩; have H5 := Lib.hid (H4.out.gr stable_emp g5); clear g5)
    | (go_at_call 36; refine (ex_write H5.out stable_emp (by omega) 0 (textB 65) _ rfl (N' := exN2) rfl 15 rfl r2 HR2.out).mono ?_; rintro e w6 ⟨rfl, h6⟩; have H6 := Lib.hid h6; clear h6))
  go_upto_region 9 with (go_at_call 25; refine (ex_room (N := exN2) H6.out stable_emp 5 HX.out.2.2.2.1).mono ?_; rintro e w7 ⟨rfl, h7⟩; have H7 := Lib.hid h7; clear h7)
  go_upto_region 10 with (first
    | (go_at_call 41; refine (c_text 255 (by omega) _).mono ?_; rintro e w8 ⟨rfl, g8⟩; have H8 := Lib.hid (H7.out.gr stable_emp g8); clear g8)
    | (go_at_call 36; refine (ex_write H8.out stable_emp (by omega) 65 (textB 255) _ rfl (N' := exN3) rfl 22 rfl r3 HR3.out).mono ?_; rintro e w9 ⟨rfl, h9⟩; have H9 := Lib.hid h9; clear h9))
  go_upto_region 11 with (go_at_call 14; refine (k_commit H9.out stable_emp (by omega) (by omega)).mono ?_; rintro e w10 ⟨rfl, h10⟩; have H10 := Lib.hid h10; clear h10)
  go_upto_region 12 with (go_at_call 36; refine (ex_write H10.out stable_emp (by omega) 320 [120] _ rfl (N' := exN4) rfl 4 rfl r4 HR4.out).mono ?_; rintro e w11 ⟨rfl, h11⟩; have H11 := Lib.hid h11; clear h11)
  go_upto_region 13 with (go_at_call 25; refine (ex_room (N := exN4) H11.out stable_emp 0 HX.out.2.2.2.2.1).mono ?_; rintro e w12 ⟨rfl, h12⟩; have H12 := Lib.hid h12; clear h12)
  go_upto_region 14 with (go_at_call 36; refine (ex_write H12.out stable_emp (by omega) 384 [120] _ rfl (N' := exN5) rfl 8 rfl 1 HX.out.2.2.2.2.2.1).mono ?_; rintro e w13 ⟨rfl, h13⟩; have H13 := Lib.hid h13; clear h13)
  go_upto_region 15 with (go_at_call 39; refine (ex_cut H13.out stable_emp (by omega) 320 (N' := exN6) rfl 0 HX.out.2.2.2.2.2.2.1).mono ?_; rintro e w14 ⟨rfl, h14⟩; have H14 := Lib.hid h14; clear h14)
  go_wp2_with (go_at_call 25; refine (ex_room (N := exN6) H14.out stable_emp 2 HX.out.2.2.2.2.2.2.2).mono ?_; rintro e w15 ⟨rfl, h15⟩; have H15 := Lib.hid h15.sub; clear h15)
  go_ret
  exact ⟨rfl, H15.out⟩
end Go.Proofs.YtlpcccpagmipnaaGreat.P
namespace Go.Proofs.YtlpcccpagmipnaaGreat.P
open Go.RowKit Go.ChangeMaps Go.MapKept
set_option maxHeartbeats 6400000 in
theorem l_nil8 (nn : Int) (s : ByteArray) (w : World) : Calls Tryz.prog 6 #[.int .i64 nn, .string s] w fun e w' => e = .returned (.bool true) ∧ Gr w w' := by
  have CS := Lib.hid (c_shown8 w)
  have HZ := Lib.hid stat_zero
  go_enter Tryz.func6, Tryz.ntmps6
  go_upto_region 3 with (go_at_call 11; refine CS.out.mono ?_; rintro e w1 ⟨rfl, g1⟩; have G1 := Lib.hid g1; clear g1)
  go_upto_region 5 with (first
    | (go_at_call 35; refine (c_new_nil nn w1).mono ?_; rintro e w' ⟨rfl, hw'⟩; rw [hw']; clear hw' w')
    | (go_at_call 37; refine (c_free_nil nn w1).mono ?_; rintro e w2 ⟨rfl, g2⟩; have G2 := Lib.hid (gtrans G1.out g2); clear g2))
  go_upto_region 6 with (first
    | (go_at_call 31; refine (c_stat_nil nn w2).mono ?_; rintro e w3 ⟨rfl, g3⟩; have G3 := Lib.hid (gtrans G2.out g3); clear g3)
    | (refine wpList_alloc_blk rfl 56 stat0 rfl (stat_zero _) ?_)
    | (refine wpList_store_row rfl _ _ _ rfl w3.heap.size stat0 rfl rfl _ _ (blk_new w3 _) (stat_info i0) rfl (stat_one i0) ?_))
  have G4 : Hid (Gr w ((w3.alloc (.cells stat0 56)).setRow w3.heap.size stat0)) := Lib.hid (below_setRow (G3.out.alloc G3.out.size _) G3.out.size _)
  generalize (World.setRow _ _ _) = w4 at *
  generalize w3.heap.size = g at *
  clear G1 G2 G3 CS
  go_wp2_with (first
    | (go_at_call 38; refine (c_link_nil nn 1 w4).mono ?_; rintro e w5 ⟨rfl, g5⟩; have G5 := Lib.hid (gtrans G4.out g5); clear g5)
    | (go_at_call 33; refine (c_read_nil nn 0 1 w5).mono ?_; rintro e w6 ⟨rfl, g6⟩; have G6 := Lib.hid (gtrans G5.out g6); clear g6)
    | (go_at_call 36; refine (c_write_nil nn 0 s w6).mono ?_; rintro e w7 ⟨rfl, g7⟩; have G7 := Lib.hid (gtrans G6.out g7); clear g7)
    | (go_at_call 39; refine (c_cut_nil nn 0 w7).mono ?_; rintro e w8 ⟨rfl, g8⟩; have G8 := Lib.hid (gtrans G7.out g8); clear g8)
    | (go_at_call 25; refine (c_room_nil w8).mono ?_; rintro e w' ⟨rfl, hw'⟩; rw [hw']; clear hw' w')
    | (go_at_call 13; refine (c_format_nil w8).mono ?_; rintro e w' ⟨rfl, hw'⟩; rw [hw']; clear hw' w')
    | (go_at_call 24; refine (c_mount_nil w8).mono ?_; rintro e w' ⟨rfl, hw'⟩; rw [hw']; clear hw' w'))
  go_ret
  exact ⟨rfl, G8.out⟩
end Go.Proofs.YtlpcccpagmipnaaGreat.P
