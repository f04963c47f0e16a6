/- Stage 8: an act on a volume and on the reference's. No condition. -/
import Derived.Test.YtlpcccpagmipnaaGreatYS
import Derived.Test.YtlpcccpagmipnaaGreatYO
set_option linter.unusedVariables false
set_option linter.unusedSimpArgs false
set_option maxRecDepth 100000
namespace Go.Proofs.YtlpcccpagmipnaaGreat.P
open Go.RowKit Go.ChangeMaps Go.MapKept
theorem statV_is (N : Nat → NodeA) (k : Int) : ∃ x : Ino, statV N k = statL x := by
  unfold statV
  split
  · exact ⟨i0, rfl⟩
  · exact ⟨⟨(N k.toNat).kind, (N k.toNat).links, (N k.toNat).data.length, []⟩, rfl⟩
theorem eqS_self (x : Ino) (w : World) : (Op.equalIn 10000 56 (.agg (statL x)) (.agg (statL x))).run Tryz.prog w = .ok true w := by
  have h1 : Tryz.prog.stoodInHeld 56 = false := by kernel_rfl
  have p0 : (part 3 (statL x) 0).run Tryz.prog w = .ok (.int .i64 (x.kind : Int)) w := run_part_plain w (by kernel_rfl) rfl
  have p1 : (part 3 (statL x) 1).run Tryz.prog w = .ok (.int .i64 (x.links : Int)) w := run_part_plain w (by kernel_rfl) rfl
  have p2 : (part 3 (statL x) 2).run Tryz.prog w = .ok (.int .i64 (x.size : Int)) w := run_part_plain w (by kernel_rfl) rfl
  have e0 := int_eq (x.kind : Int) (x.kind : Int) 9998 w
  have e1 := int_eq (x.links : Int) (x.links : Int) 9998 w
  have e2 := int_eq (x.size : Int) (x.size : Int) 9998 w
  rw [beq_self_eq_true] at e0 e1 e2
  generalize statL x = X at *
  generalize (x.kind : Int) = a at *
  generalize (x.links : Int) = b at *
  generalize (x.size : Int) = s at *
  unfold Op.equalIn
  simp [Sem.run_bind, run_underlying Tryz.underlying56, h1, p0, p1, p2, e0, e1, e2]
theorem wpList_eqStS {ops : Array Oper} {rest : List Oper} {o : Oper} {a : Act} {w : World} {Q : Exit → Act → World → Prop} (hg : o.guard = none) (x y : Operand) (t2 : TypeId) (hop : o.op = .binOp .eql 56 x y t2) (X : Ino) (ex : a.eval x = .agg (statL X)) (ey : a.eval y = .agg (statL X))
    (h : wpList Tryz.prog ops Q rest (a.put o.dst (.bool true)) w) : wpList Tryz.prog ops Q (o :: rest) a w := by
  have hm : Tryz.prog.eqGuardType Tryz.prog.depth 56 = false := Tryz.eqGuardType56
  have h1 := run_eqGuard_agg (P := Tryz.prog) w .eql 56 x y (statL X) (statL X) hm
  have h2 := run_eql_struct (P := Tryz.prog) w 56 (statL X) (statL X)
  rw [eqS_self X w] at h2
  generalize statL X = XA at *
  refine wpList_plain hg fun K' hK' => ?_
  unfold Oper.wp
  have e : (execOp a.eval o).run Tryz.prog w = .ok (.value (.bool true)) w := by
    unfold execOp
    simp [hop, ex, ey, Sem.run_bind, h1, h2]
  rw [e]
  exact hK' _ _ h
/-- A volume and a reference's, side by side. -/
def MS (w0 : World) (d : Nat) (z : DState) (l ml n V r g c : Nat) (R : Asn) (N' N : Nat → NodeA) (w : World) : Prop := ∃ st cs, okSt (n + 32) st ∧ IsVol (Vw z st) n N' ∧ RefOk cs N ∧ Own w0 w (VL d z l ml st V (Star (rfA r g c n) (Star (rnA g cs) R)))
section
variable {w0 w : World} {d : Nat} {z : DState} {l ml n V r g c : Nat} {R : Asn} {N N' : Nat → NodeA}
theorem ms_volp {cs : Array Value} {m : Nat} (hc : RefOk cs N) (h : VolP w0 d z l ml n V (Star (rfA r g c n) (Star (rnA g cs) R)) m N' w) : MS w0 d z l ml n V r g c R N' N w := by
  obtain ⟨st, h1, h2, h3, _⟩ := h
  exact ⟨st, cs, h1, h3, hc, h2⟩
theorem ms_ref {f : FuncId} {args : Array Value} {v : Value} {M : Nat → NodeA} (h : MS w0 d z l ml n V r g c R N' N w) (hs : Stable R) (hc : ∀ R0, Stable R0 → RfP w0 r g c n N R0 w → Calls Tryz.prog f args w fun e w' => e = .returned v ∧ RfP w0 r g c n M R0 w') :
    Calls Tryz.prog f args w fun e w' => e = .returned v ∧ MS w0 d z l ml n V r g c R N' M w' := by
  obtain ⟨st, cs, h1, h2, h3, h4⟩ := h
  have h5 : Own w0 w (Star (rfA r g c n) (Star (rnA g cs) (VL d z l ml st V R))) := h4.ac (by unfold VL DL; ac_rfl)
  have hsV : Stable (VL d z l ml st V R) := stable_dl _ _ _ _ _ _ (stable_star (stable_blk _ _) hs)
  refine (hc _ hsV ⟨cs, h3, h5⟩).mono ?_
  rintro e w' ⟨rfl, cs', k1, k2⟩
  exact ⟨rfl, st, cs', h1, h2, k1, k2.ac (by unfold VL DL; ac_rfl)⟩
theorem ms_at (h : MS w0 d z l ml n V r g c R N' N w) : RefAt w r g c n N := by
  obtain ⟨st, cs, h1, h2, h3, h4⟩ := h
  have h5 : Own w0 w (Star (rfA r g c n) (Star (rnA g cs) (VL d z l ml st V R))) := h4.ac (by unfold VL DL; ac_rfl)
  exact RfP.rf ⟨cs, h3, h5⟩
theorem MS.gr (h : MS w0 d z l ml n V r g c R N' N w) (hs : Stable R) {w' : World} (k : Gr w w') : MS w0 d z l ml n V r g c R N' N w' := by
  obtain ⟨st, cs, h1, h2, h3, h4⟩ := h
  exact ⟨st, cs, h1, h2, h3, h4.gr (stable_dl _ _ _ _ _ _ (stable_star (stable_blk _ _) (stable_star (stable_blk _ _) (stable_star (stable_blk _ _) hs)))) k⟩
theorem ms_rest (h : MS w0 d z l ml n V r g c R N' N w) : Own w0 w R := by
  obtain ⟨st, cs, h1, h2, h3, h4⟩ := h
  exact h4.right.right.right.right.right
theorem ms_drop {A : Asn} (h : MS w0 d z l ml n V r g c (Star A R) N' N w) : MS w0 d z l ml n V r g c R N' N w := by
  obtain ⟨st, cs, h1, h2, h3, h4⟩ := h
  have h5 : Own w0 w (Star A (VL d z l ml st V (Star (rfA r g c n) (Star (rnA g cs) R)))) := h4.ac (by unfold VL DL; ac_rfl)
  exact ⟨st, cs, h1, h2, h3, h5.right⟩
theorem ms_box (h : MS w0 d z l ml n V r g c R N' N w) (hs : Stable R) (o : Obj) : MS w0 d z l ml n V r g c (Star (blkA w.heap.size o) R) N' N (w.alloc o) := by
  obtain ⟨st, cs, h1, h2, h3, h4⟩ := h
  have h5 := h4.alloc (stable_dl _ _ _ _ _ _ (stable_star (stable_blk _ _) (stable_star (stable_blk _ _) (stable_star (stable_blk _ _) hs)))) o
  exact ⟨st, cs, h1, h2, h3, h5.ac (by unfold VL DL; ac_rfl)⟩
theorem ms_set {B : Nat} {xs : Array Value} {T : TypeId} (h : MS w0 d z l ml n V r g c (Star (blkA B (.cells xs T)) R) N' N w) (hs : Stable R) (ys : Array Value) : MS w0 d z l ml n V r g c (Star (blkA B (.cells ys T)) R) N' N (w.setRow B ys) := by
  obtain ⟨st, cs, h1, h2, h3, h4⟩ := h
  have h5 : Own w0 w (Star (blkA B (.cells xs T)) (VL d z l ml st V (Star (rfA r g c n) (Star (rnA g cs) R)))) := h4.ac (by unfold VL DL; ac_rfl)
  have h6 := h5.setRow (stable_dl _ _ _ _ _ _ (stable_star (stable_blk _ _) (stable_star (stable_blk _ _) (stable_star (stable_blk _ _) hs)))) ys
  exact ⟨st, cs, h1, h2, h3, h6.ac (by unfold VL DL; ac_rfl)⟩
set_option maxHeartbeats 6400000 in
theorem c_does8 {st : List (Int × ByteArray)} {cs : Array Value} (h : Own w0 w (VL d z l ml st V (Star (rfA r g c n) (Star (rnA g cs) R)))) (hc : RefOk cs N) (hs : Stable R) (hz : LI z n) (hst : okSt (n + 32) st) (hV : IsVol (Vw z st) n N) (ak an ao am : Int) (s : ByteArray) (ho : ao ≤ 9223372036854775807) (hm : am ≤ 9223372036854775807) (hss : s.size ≤ 9223372036854775807) :
    Calls Tryz.prog 19 #[.pointer (some ⟨V, 0, none⟩), .pointer (some ⟨r, 0, none⟩), .agg #[.int .i64 ak, .int .i64 an, .int .i64 ao, .int .i64 am, .string s], .bool (decide (16 < st.length))] w fun e w' => e = .returned (.bool true) ∧ ∃ N', MS w0 d z l ml n V r g c R N' N' w' := by
  have hhi := hz.hi
  have HND : Hid (∀ q, q < 32 → (N q).data.length ≤ 2368) := Lib.hid (fun q hq => (vol_node hV hq).1)
  have HNL : Hid (∀ q, q < 32 → (N q).links ≤ 255) := Lib.hid (fun q hq => (vol_node hV hq).2.1)
  have h0 : MS w0 d z l ml n V r g c R N N w := ⟨st, cs, hst, hV, hc, h⟩
  have h1 := ms_box h0 hs (.cells #[.int .i64 ak, .int .i64 an, .int .i64 ao, .int .i64 am, .string s] 39)
  have h4 := h.alloc (stable_dl _ _ _ _ _ _ (stable_star (stable_blk _ _) (stable_star (stable_blk _ _) (stable_star (stable_blk _ _) hs)))) (.cells #[.int .i64 ak, .int .i64 an, .int .i64 ao, .int .i64 am, .string s] 39)
  obtain ⟨A, hA⟩ : ∃ A, A = w.heap.size := ⟨_, rfl⟩
  rw [← hA] at h1 h4
  have H4 : Hid (Own w0 (w.alloc (.cells #[.int .i64 ak, .int .i64 an, .int .i64 ao, .int .i64 am, .string s] 39)) (VL d z l ml st V (Star (rfA r g c n) (Star (rnA g cs) (Star (blkA A (.cells #[.int .i64 ak, .int .i64 an, .int .i64 ao, .int .i64 am, .string s] 39)) R))))) := Lib.hid (h4.ac (by unfold VL DL; ac_rfl))
  have H1 := Lib.hid h1
  have HS1 : Hid (Stable (Star (blkA A (.cells #[.int .i64 ak, .int .i64 an, .int .i64 ao, .int .i64 am, .string s] 39)) R)) := Lib.hid (stable_star (stable_blk _ _) hs)
  have HSR : Hid (Stable (Star (rfA r g c n) (Star (rnA g cs) (Star (blkA A (.cells #[.int .i64 ak, .int .i64 an, .int .i64 ao, .int .i64 am, .string s] 39)) R)))) := Lib.hid (stable_star (stable_blk _ _) (stable_star (stable_blk _ _) HS1.out))
  have HCE : Hid (∀ wx M M', MS w0 d z l ml n V r g c (Star (blkA A (.cells #[.int .i64 ak, .int .i64 an, .int .i64 ao, .int .i64 am, .string s] 39)) R) M M' wx → wx.cell? ⟨A, 0, none⟩ = some (.int .i64 ak) ∧ wx.cell? ⟨A, 1, none⟩ = some (.int .i64 an) ∧ wx.cell? ⟨A, 2, none⟩ = some (.int .i64 ao) ∧ wx.cell? ⟨A, 3, none⟩ = some (.int .i64 am) ∧ wx.cell? ⟨A, 4, none⟩ = some (.string s)) := Lib.hid (fun wx M M' hw => ⟨blk_cell (ms_rest hw).blk 0 rfl, blk_cell (ms_rest hw).blk 1 rfl, blk_cell (ms_rest hw).blk 2 rfl, blk_cell (ms_rest hw).blk 3 rfl, blk_cell (ms_rest hw).blk 4 rfl⟩)
  have HD : Hid (∀ wx M, MS w0 d z l ml n V r g c (Star (blkA A (.cells #[.int .i64 ak, .int .i64 an, .int .i64 ao, .int .i64 am, .string s] 39)) R) M M wx → ∃ N', MS w0 d z l ml n V r g c R N' N' wx) := Lib.hid (fun wx M hw => ⟨M, ms_drop hw⟩)
  have HC := Lib.hid hc
  have HV := Lib.hid hV
  have HZ := Lib.hid hz
  have HST := Lib.hid hst
  have HA := Lib.hid hA
  have HFU : Hid (∃ full, full = decide (16 < st.length)) := Lib.hid ⟨_, rfl⟩
  clear h h0 h1 h4 hc hz hst hV hA hs
  generalize hgw : w.alloc (.cells #[.int .i64 ak, .int .i64 an, .int .i64 ao, .int .i64 am, .string s] 39) = w1 at *
  have HGW := Lib.hid hgw
  clear hgw
  obtain ⟨c0, c1, c2, c3, c4⟩ := HCE.out _ _ _ H1.out
  generalize hfu : decide (16 < st.length) = full at *
  have HF := Lib.hid hfu
  clear hfu HFU
  by_cases k1 : ak = 1
  · have b1 : (ak == 1) = true := beq_iff_eq.2 k1
    have CV0 := o_vnew H4.out HSR.out HZ.out HST.out HV.out an
    rw [HF.out] at CV0
    have CV := Lib.hid CV0
    clear CV0
    clear k1
    go_enter Tryz.func19, Tryz.ntmps19
    go_upto_region 1 with fail
    rw [HGW.out, ← HA.out]
    clear HGW HA
    go_upto_region 4 with (go_at_call 35; refine CV.out.mono ?_; rintro e w5 ⟨rfl, h5⟩; have H5 := Lib.hid (ms_volp HC.out h5); clear h5)
    clear c0 c1 c2 c3 c4 CV H4 H1
    obtain ⟨c0, c1, c2, c3, c4⟩ := HCE.out _ _ _ H5.out
    have CR := Lib.hid (ms_ref H5.out HS1.out fun R0 hs0 h0 => r_add h0 hs0 an full)
    go_wp2_with (go_at_call 50; refine CR.out.mono ?_; rintro e w6 ⟨rfl, h6⟩; have H6 := Lib.hid h6; clear h6)
    go_ret
    exact ⟨by first | rfl | simp, HD.out _ _ H6.out⟩
  · have b1 : (ak == 1) = false := beq_eq_false_iff_ne.2 k1
    clear k1
    by_cases k2 : ak = 2
    · have b2 : (ak == 2) = true := beq_iff_eq.2 k2
      have CV0 := o_vfree H4.out HSR.out HZ.out HST.out HV.out an
      rw [HF.out] at CV0
      have CV := Lib.hid CV0
      clear CV0
      clear k2
      go_enter Tryz.func19, Tryz.ntmps19
      go_upto_region 1 with fail
      rw [HGW.out, ← HA.out]
      clear HGW HA
      go_upto_region 8 with (go_at_call 37; refine CV.out.mono ?_; rintro e w5 ⟨rfl, h5⟩; have H5 := Lib.hid (ms_volp HC.out h5); clear h5)
      clear c0 c1 c2 c3 c4 CV H4 H1
      obtain ⟨c0, c1, c2, c3, c4⟩ := HCE.out _ _ _ H5.out
      have CR := Lib.hid (ms_ref H5.out HS1.out fun R0 hs0 h0 => r_free h0 hs0 an full)
      go_wp2_with (go_at_call 51; refine CR.out.mono ?_; rintro e w6 ⟨rfl, h6⟩; have H6 := Lib.hid h6; clear h6)
      go_ret
      exact ⟨by first | rfl | simp, HD.out _ _ H6.out⟩
    · have b2 : (ak == 2) = false := beq_eq_false_iff_ne.2 k2
      clear k2
      by_cases k3 : ak = 3
      · have b3 : (ak == 3) = true := beq_iff_eq.2 k3
        obtain ⟨x, hx⟩ := statV_is N an
        have CV0 := o_vstat H4.out HSR.out HZ.out HST.out HV.out an
        rw [hx] at CV0
        have CV := Lib.hid CV0
        have CST : Hid (∀ wx c', RefAt wx r g c' n N → Calls Tryz.prog 32 #[.pointer (some ⟨r, 0, none⟩), .int .i64 an] wx fun e w' => e = .returned (.tuple #[.agg (statL x), .int .i64 (findN N an)]) ∧ Gr wx w') := Lib.hid (fun wx c' hw => by
          have h := c_stat8 hw HND.out an
          rw [hx] at h
          exact h)
        have HI := Lib.hid (stat_info x)
        have HS := Lib.hid (stat_one x)
        have HZZ := Lib.hid stat_zero
        clear CV0 hx k3
        go_enter Tryz.func19, Tryz.ntmps19
        go_upto_region 1 with fail
        rw [HGW.out, ← HA.out]
        clear HGW HA
        go_upto_region 12 with (first
          | (go_at_call 31; refine CV.out.mono ?_; rintro e w5 ⟨rfl, h5⟩; have H5 := Lib.hid (⟨st, cs, HST.out, HV.out, HC.out, h5⟩ : MS w0 d z l ml n V r g c _ N N _); clear h5)
          | (refine wpList_alloc_blk rfl 56 stat0 rfl (HZZ.out _) ?_)
          | (refine wpList_store_row rfl _ _ _ rfl w5.heap.size (statL x) rfl rfl _ _ (blk_new w5 _) HI.out rfl HS.out ?_))
        have H6 := Lib.hid (ms_set (ms_box H5.out HS1.out (.cells stat0 56)) HS1.out (statL x))
        generalize (World.setRow _ _ _) = w6 at *
        generalize w5.heap.size = B1 at *
        clear c0 c1 c2 c3 c4 CV H4 H1 H5
        have c1 : w6.cell? ⟨A, 1, none⟩ = some (.int .i64 an) := blk_cell (ms_rest H6.out).right.blk 1 rfl
        have CR := Lib.hid (CST.out _ _ (ms_at H6.out))
        have HS2 : Hid (Stable (Star (blkA B1 (.cells (statL x) 56)) (Star (blkA A (.cells #[.int .i64 ak, .int .i64 an, .int .i64 ao, .int .i64 am, .string s] 39)) R))) := Lib.hid (stable_star (stable_blk _ _) HS1.out)
        go_upto_region 13 with (first
          | (go_at_call 32; refine CR.out.mono ?_; rintro e w7 ⟨rfl, g7⟩; have H7 := Lib.hid (H6.out.gr HS2.out g7); clear g7)
          | (refine wpList_alloc_blk rfl 56 stat0 rfl (HZZ.out _) ?_)
          | (refine wpList_store_row rfl _ _ _ rfl w7.heap.size (statL x) rfl rfl _ _ (blk_new w7 _) HI.out rfl HS.out ?_))
        have H8 := Lib.hid (ms_set (ms_box H7.out HS2.out (.cells stat0 56)) HS2.out (statL x))
        generalize (World.setRow _ _ _) = w8 at *
        generalize w7.heap.size = B2 at *
        clear c1 CR H6 H7
        have bB1 := (ms_rest H8.out).right.blk
        have bB2 := (ms_rest H8.out).blk
        go_wp2_with (first
          | (refine wpList_load_row rfl _ _ rfl B1 rfl _ (statL x) (0, 0) _ bB1 Tryz.underlying56 rfl HI.out ?_)
          | (refine wpList_load_row rfl _ _ rfl B2 rfl _ (statL x) (0, 0) _ bB2 Tryz.underlying56 rfl HI.out ?_)
          | (refine wpList_eqStS rfl _ _ _ rfl x rfl rfl ?_))
        go_ret
        exact ⟨by first | rfl | simp, HD.out _ _ (ms_drop (ms_drop H8.out))⟩
      · have b3 : (ak == 3) = false := beq_eq_false_iff_ne.2 k3
        clear k3
        by_cases k4 : ak = 4
        · have b4 : (ak == 4) = true := beq_iff_eq.2 k4
          have CV0 := o_vlink H4.out HSR.out HZ.out HST.out HV.out an ao
          rw [HF.out] at CV0
          have CV := Lib.hid CV0
          clear CV0
          clear k4
          go_enter Tryz.func19, Tryz.ntmps19
          go_upto_region 1 with fail
          rw [HGW.out, ← HA.out]
          clear HGW HA
          go_upto_region 16 with (go_at_call 38; refine CV.out.mono ?_; rintro e w5 ⟨rfl, h5⟩; have H5 := Lib.hid (ms_volp HC.out h5); clear h5)
          clear c0 c1 c2 c3 c4 CV H4 H1
          obtain ⟨c0, c1, c2, c3, c4⟩ := HCE.out _ _ _ H5.out
          have CR := Lib.hid (ms_ref H5.out HS1.out fun R0 hs0 h0 => r_link h0 hs0 HNL.out an ao full)
          go_wp2_with (go_at_call 52; refine CR.out.mono ?_; rintro e w6 ⟨rfl, h6⟩; have H6 := Lib.hid h6; clear h6)
          go_ret
          exact ⟨by first | rfl | simp, HD.out _ _ H6.out⟩
        · have b4 : (ak == 4) = false := beq_eq_false_iff_ne.2 k4
          clear k4
          by_cases k5 : ak = 5
          · have b5 : (ak == 5) = true := beq_iff_eq.2 k5
            have CV0 := o_vread H4.out HSR.out HZ.out HST.out HV.out an ao am ho hm
            have CV := Lib.hid CV0
            clear CV0
            clear k5
            go_enter Tryz.func19, Tryz.ntmps19
            go_upto_region 1 with fail
            rw [HGW.out, ← HA.out]
            clear HGW HA
            go_upto_region 20 with (go_at_call 33; refine CV.out.mono ?_; rintro e w5 ⟨rfl, h5⟩; have H5 := Lib.hid ((⟨st, cs, HST.out, HV.out, HC.out, h5⟩ : MS w0 d z l ml n V r g c _ N N _)); clear h5)
            clear c0 c1 c2 c3 c4 CV H4 H1
            obtain ⟨c0, c1, c2, c3, c4⟩ := HCE.out _ _ _ H5.out
            have CR := Lib.hid (c_read8 (ms_at H5.out) HND.out an ao am ho hm)
            go_wp2_with (go_at_call 34; refine CR.out.mono ?_; rintro e w6 ⟨rfl, hw6⟩; rw [hw6]; clear hw6 w6)
            go_ret
            exact ⟨by first | rfl | simp, HD.out _ _ H5.out⟩
          · have b5 : (ak == 5) = false := beq_eq_false_iff_ne.2 k5
            clear k5
            by_cases k6 : ak = 6
            · have b6 : (ak == 6) = true := beq_iff_eq.2 k6
              have CV0 := o_vwrite H4.out HSR.out HZ.out HST.out HV.out an ao s
              rw [HF.out] at CV0
              have CV := Lib.hid CV0
              clear CV0
              clear k6
              go_enter Tryz.func19, Tryz.ntmps19
              go_upto_region 1 with fail
              rw [HGW.out, ← HA.out]
              clear HGW HA
              go_upto_region 24 with (go_at_call 36; refine CV.out.mono ?_; rintro e w5 ⟨rfl, h5⟩; have H5 := Lib.hid (ms_volp HC.out h5); clear h5)
              clear c0 c1 c2 c3 c4 CV H4 H1
              obtain ⟨c0, c1, c2, c3, c4⟩ := HCE.out _ _ _ H5.out
              have CR := Lib.hid (ms_ref H5.out HS1.out fun R0 hs0 h0 => r_write h0 hs0 (by omega) HND.out an ao s full ho hss)
              go_wp2_with (go_at_call 53; refine CR.out.mono ?_; rintro e w6 ⟨rfl, h6⟩; have H6 := Lib.hid h6; clear h6)
              go_ret
              exact ⟨by first | rfl | simp, HD.out _ _ H6.out⟩
            · have b6 : (ak == 6) = false := beq_eq_false_iff_ne.2 k6
              clear k6
              by_cases k7 : ak = 7
              · have b7 : (ak == 7) = true := beq_iff_eq.2 k7
                have CV0 := o_vcut H4.out HSR.out HZ.out HST.out HV.out an ao
                rw [HF.out] at CV0
                have CV := Lib.hid CV0
                clear CV0
                clear k7
                go_enter Tryz.func19, Tryz.ntmps19
                go_upto_region 1 with fail
                rw [HGW.out, ← HA.out]
                clear HGW HA
                go_upto_region 28 with (go_at_call 39; refine CV.out.mono ?_; rintro e w5 ⟨rfl, h5⟩; have H5 := Lib.hid (ms_volp HC.out h5); clear h5)
                clear c0 c1 c2 c3 c4 CV H4 H1
                obtain ⟨c0, c1, c2, c3, c4⟩ := HCE.out _ _ _ H5.out
                have CR := Lib.hid (ms_ref H5.out HS1.out fun R0 hs0 h0 => r_cut h0 hs0 an ao full ho)
                go_wp2_with (go_at_call 54; refine CR.out.mono ?_; rintro e w6 ⟨rfl, h6⟩; have H6 := Lib.hid h6; clear h6)
                go_ret
                exact ⟨by first | rfl | simp, HD.out _ _ H6.out⟩
              · have b7 : (ak == 7) = false := beq_eq_false_iff_ne.2 k7
                clear k7
                go_enter Tryz.func19, Tryz.ntmps19
                go_upto_region 1 with fail
                rw [HGW.out, ← HA.out]
                clear HGW HA
                go_wp2_with fail
                go_ret
                exact ⟨rfl, HD.out _ _ H1.out⟩
end
end Go.Proofs.YtlpcccpagmipnaaGreat.P
namespace Go.Proofs.YtlpcccpagmipnaaGreat.P
open Go.RowKit Go.ChangeMaps Go.MapKept
abbrev rfP2 (r g c n : Nat) (cs : Array Value) (R : Asn) : Asn := Star (rfA r g c n) (Star (rnA g cs) R)
theorem stable_rf2 (r g c n : Nat) (cs : Array Value) {R : Asn} (hs : Stable R) : Stable (rfP2 r g c n cs R) := stable_star (stable_blk _ _) (stable_star (stable_blk _ _) hs)
/-- A volume with what is staged, the reference's, and the reference's as it was committed. -/
def LS (w : World) (d n l V r g c r2 g2 c2 : Nat) (wx : World) : Prop := ∃ z ml st cs cs2 N M, Clean z (n + 32) ∧ okSt (n + 32) st ∧ IsVol (Vw z st) n N ∧ IsVol (Vw z []) n M ∧ RefOk cs N ∧ RefOk cs2 M ∧ Own w wx (VL d z l ml st V (rfP2 r g c n cs (rfP2 r2 g2 c2 n cs2 emp)))
/-- The same, nothing staged. -/
def LT (w : World) (d n l V r g c r2 g2 c2 : Nat) (wx : World) : Prop := ∃ z ml cs cs2 N, Clean z (n + 32) ∧ IsVol (Vw z []) n N ∧ RefOk cs N ∧ RefOk cs2 N ∧ Own w wx (VL d z l ml [] V (rfP2 r g c n cs (rfP2 r2 g2 c2 n cs2 emp)))
/-- A volume, nothing staged, with one reference's. -/
def LA (w : World) (d n l V r g c : Nat) (wx : World) : Prop := ∃ z ml cs N, Clean z (n + 32) ∧ IsVol (Vw z []) n N ∧ RefOk cs N ∧ Own w wx (VL d z l ml [] V (rfP2 r g c n cs emp))
def homH (z : DState) : Nat → ByteArray := fun i => getB false z [] (i : Int)
def LH (w : World) (d n l V r g c gh : Nat) (wx : World) : Prop := ∃ z ml cs N, Clean z (n + 32) ∧ IsVol (Vw z []) n N ∧ RefOk cs N ∧ Own w wx (VL d z l ml [] V (rfP2 r g c n cs emp)) ∧ HomeAt wx gh 32 n (homH z)
def LX (w : World) (d n l V r g c rx gx : Nat) (wx : World) : Prop := ∃ z ml cs N M, Clean z (n + 32) ∧ IsVol (Vw z []) n N ∧ RefOk cs N ∧ Own w wx (VL d z l ml [] V (rfP2 r g c n cs emp)) ∧ RefAt wx rx gx 32 n M ∧ ∀ q, q < 32 → M q = N q
section
variable {w wx : World} {d n l V r g c r2 g2 c2 : Nat}
theorem stable_vl8 {z : DState} {ml : Nat} {st : List (Int × ByteArray)} {R : Asn} (hs : Stable R) : Stable (VL d z l ml st V R) := stable_dl _ _ _ _ _ _ (stable_star (stable_blk _ _) hs)
theorem LS.sub (h : LS w d n l V r g c r2 g2 c2 wx) : Gr w wx := by
  obtain ⟨z, ml, st, cs, cs2, N, M, a1, a2, a3, a4, a5, a6, a7⟩ := h
  exact a7.sub
theorem LT.ls (h : LT w d n l V r g c r2 g2 c2 wx) : LS w d n l V r g c r2 g2 c2 wx := by
  obtain ⟨z, ml, cs, cs2, N, a1, a2, a3, a4, a5⟩ := h
  exact ⟨z, ml, [], cs, cs2, N, N, a1, ok_nil _, a2, a2, a3, a4, a5⟩
theorem t_does (h : LS w d n l V r g c r2 g2 c2 wx) (h1 : 16 ≤ n) (h2 : n ≤ 512) : ∃ q : Nat, Calls Tryz.prog 18 #[.pointer (some ⟨l, 0, none⟩)] wx (fun e w' => e = .returned (.int .i64 (q : Int)) ∧ w' = wx) ∧ q ≤ 30 ∧ ∀ (ak an ao am : Int) (s : ByteArray), ao ≤ 9223372036854775807 → am ≤ 9223372036854775807 → s.size ≤ 9223372036854775807 →
    Calls Tryz.prog 19 #[.pointer (some ⟨V, 0, none⟩), .pointer (some ⟨r, 0, none⟩), .agg #[.int .i64 ak, .int .i64 an, .int .i64 ao, .int .i64 am, .string s], .bool (decide (16 < q))] wx fun e w' => e = .returned (.bool true) ∧ LS w d n l V r g c r2 g2 c2 w' := by
  obtain ⟨z, ml, st, cs, cs2, N, M, a1, a2, a3, a4, a5, a6, a7⟩ := h
  refine ⟨st.length, o_staged a7, a2.2.1, fun ak an ao am s b1 b2 b3 => ?_⟩
  refine (c_does8 a7 a5 (stable_rf2 _ _ _ _ _ stable_emp) (li_of a1 h1 h2) a2 a3 ak an ao am s b1 b2 b3).mono ?_
  rintro e w' ⟨rfl, N', st', cs', k1, k2, k3, k4⟩
  exact ⟨rfl, z, ml, st', cs', cs2, N', M, a1, k1, k2, a4, k3, a6, k4⟩
theorem t_abort (h : LS w d n l V r g c r2 g2 c2 wx) : Calls Tryz.prog 20 #[.pointer (some ⟨l, 0, none⟩)] wx fun e w' => e = .returned (.tuple #[]) ∧ LA w d n l V r2 g2 c2 w' := by
  obtain ⟨z, ml, st, cs, cs2, N, M, a1, a2, a3, a4, a5, a6, a7⟩ := h
  refine (o_abort a7 (stable_star (stable_blk _ _) (stable_rf2 _ _ _ _ _ (stable_rf2 _ _ _ _ _ stable_emp)))).mono ?_
  rintro e w' ⟨rfl, k1⟩
  have k2 : Own w w' (Star (rfA r g c n) (Star (rnA g cs) (VL d z l ml [] V (rfP2 r2 g2 c2 n cs2 emp)))) := k1.ac (by unfold rfP2 VL DL; ac_rfl)
  exact ⟨rfl, z, ml, cs2, M, a1, a4, a6, k2.right.right⟩
theorem t_copy (h : LA w d n l V r g c wx) : Calls Tryz.prog 17 #[.pointer (some ⟨r, 0, none⟩)] wx fun e w' => ∃ r2 g2 c2, e = .returned (.pointer (some ⟨r2, 0, none⟩)) ∧ LT w d n l V r2 g2 c2 r g c w' ∧ LT w d n l V r g c r2 g2 c2 w' := by
  obtain ⟨z, ml, cs, N, a1, a2, a3, a4⟩ := h
  have h5 : Own w wx (Star (rfA r g c n) (Star (rnA g cs) (VL d z l ml [] V emp))) := a4.ac (by unfold rfP2 VL DL; ac_rfl)
  refine (r_copy a3 h5 (stable_vl8 stable_emp)).mono ?_
  rintro e w' ⟨r2, g2, c2, cs2, rfl, k1, k2⟩
  exact ⟨r2, g2, c2, rfl, ⟨z, ml, cs2, cs, N, a1, a2, k1, a3, k2.ac (by unfold rfP2 VL DL; ac_rfl)⟩, ⟨z, ml, cs, cs2, N, a1, a2, a3, k1, k2.ac (by unfold rfP2 VL DL; ac_rfl)⟩⟩
theorem t_commit (h : LS w d n l V r g c r2 g2 c2 wx) (h1 : 16 ≤ n) (h2 : n ≤ 512) : Calls Tryz.prog 14 #[.pointer (some ⟨l, 0, none⟩)] wx fun e w' => e = .returned (.int .i64 0) ∧ LA w d n l V r g c w' := by
  obtain ⟨z, ml, st, cs, cs2, N, M, a1, a2, a3, a4, a5, a6, a7⟩ := h
  obtain ⟨v1, v2⟩ := vw_comm a1 h1 a2
  refine (o_comm a7 (stable_star (stable_blk _ _) (stable_rf2 _ _ _ _ _ (stable_rf2 _ _ _ _ _ stable_emp))) a1 (by omega) (by omega) a2).mono ?_
  rintro e w' ⟨rfl, k1⟩
  have k2 : Own w w' (Star (rfA r2 g2 c2 n) (Star (rnA g2 cs2) (VL d (commZ st z) l ml [] V (rfP2 r g c n cs emp)))) := k1.ac (by unfold rfP2 VL DL; ac_rfl)
  exact ⟨rfl, _, ml, cs, N, v1, by rw [v2]; exact a3, a5, k2.right.right⟩
theorem t_home (h : LA w d n l V r g c wx) (h1 : 16 ≤ n) : Calls Tryz.prog 22 #[.pointer (some ⟨d, 0, none⟩)] wx fun e w' => ∃ gh cp, e = .returned (.slice (some ⟨gh, 32, none⟩) n cp) ∧ LH w d n l V r g c gh w' := by
  obtain ⟨z, ml, cs, N, a1, a2, a3, a4⟩ := h
  have hl := a1.len
  refine (c_home8 (R := Star (lgA l d ml [] false) (Star (volA V l) (rfP2 r g c n cs emp))) a4 (stable_star (stable_lg _ _ _ _ _) (stable_star (stable_blk _ _) (stable_rf2 _ _ _ _ _ stable_emp))) (by omega)).mono ?_
  rintro e w' ⟨gh, cp, rfl, k1, k2⟩
  refine ⟨gh, cp, by rw [show z.safe.length - 32 = n by omega], z, ml, cs, N, a1, a2, a3, k2, ⟨fun i hi => ?_⟩⟩
  refine k1 i _ ?_
  unfold homH
  rw [get_clean a1 [] i (by omega)]
  have hlt : 32 + i < z.safe.length := by omega
  rw [List.getElem?_eq_getElem hlt]
  show some _ = some (getS z.safe (32 + i))
  unfold getS
  rw [List.getElem?_eq_getElem hlt]; rfl
theorem t_of {gh : Nat} (h : LH w d n l V r g c gh wx) (h1 : 16 ≤ n) (h2 : n ≤ 512) (cp : Nat) : Calls Tryz.prog 21 #[.slice (some ⟨gh, 32, none⟩) n cp] wx fun e w' => ∃ rx gx, e = .returned (.tuple #[.pointer (some ⟨rx, 0, none⟩), .bool true]) ∧ LX w d n l V r g c rx gx w' := by
  obtain ⟨z, ml, cs, N, a1, a2, a3, a4, a5⟩ := h
  obtain ⟨v1, v2⟩ := vol_of a2
  have hV : ∀ i, i < n → (homH z i).size = 64 := fun i hi => by
    obtain ⟨S, hr, _⟩ := a2
    have := hr.len i hi
    rw [← toL_size]
    exact this
  refine (c_of8 a5 hV (by omega) h2 cp).mono ?_
  rintro e w' (⟨_, rx, gx, rfl, k2⟩ | ⟨k1, _⟩)
  · refine ⟨rx, gx, rfl, z, ml, cs, N, ofN (Vw z []), a1, a2, a3, a4.gr (stable_vl8 (stable_rf2 _ _ _ _ _ stable_emp)) k2.sub, k2.rf, fun q hq => (v2 q hq).symm⟩
  · exact absurd v1 k1
theorem t_same {rx gx : Nat} (h : LX w d n l V r g c rx gx wx) : Calls Tryz.prog 23 #[.pointer (some ⟨rx, 0, none⟩), .pointer (some ⟨r, 0, none⟩)] wx fun e w' => e = .returned (.bool true) ∧ LA w d n l V r g c w' := by
  obtain ⟨z, ml, cs, N, M, a1, a2, a3, a4, a5, a6⟩ := h
  have h5 : Own w wx (Star (rfA r g c n) (Star (rnA g cs) (VL d z l ml [] V emp))) := a4.ac (by unfold rfP2 VL DL; ac_rfl)
  have h6 : RefAt wx r g c n N := RfP.rf ⟨cs, a3, h5⟩
  refine (c_same8R a5 h6 a6).mono ?_
  rintro e w' ⟨rfl, k1⟩
  exact ⟨rfl, z, ml, cs, N, a1, a2, a3, a4.gr (stable_vl8 (stable_rf2 _ _ _ _ _ stable_emp)) k1⟩
theorem t_mount (h : LT w d n l V r g c r2 g2 c2 wx) (h1 : 16 ≤ n) (h2 : n ≤ 512) : Calls Tryz.prog 24 #[.pointer (some ⟨l, 0, none⟩)] wx fun e w' => ∃ V2, e = .returned (.tuple #[.pointer (some ⟨V2, 0, none⟩), .int .i64 0]) ∧ LT w d n l V2 r g c r2 g2 c2 w' := by
  obtain ⟨z, ml, cs, cs2, N, a1, a2, a3, a4, a5⟩ := h
  have hw : wholeF (Vw z []) n = true := (whole_of h2 (by obtain ⟨S, hr, _⟩ := a2; exact hr.len 0 (by omega))).2 (vol_of a2).1
  have hsR : Stable (Star (volA V l) (rfP2 r g c n cs (rfP2 r2 g2 c2 n cs2 emp))) := stable_star (stable_blk _ _) (stable_rf2 _ _ _ _ _ (stable_rf2 _ _ _ _ _ stable_emp))
  refine (c_mount8 (R := Star (volA V l) (rfP2 r g c n cs (rfP2 r2 g2 c2 n cs2 emp))) a5 hsR (li_of a1 h1 h2) (ok_nil _) (Nat.zero_le _)).mono ?_
  rintro e w' (⟨_, V2, rfl, k1⟩ | ⟨k, _⟩)
  · have k2 : Own w w' (Star (volA V l) (VL d z l ml [] V2 (rfP2 r g c n cs (rfP2 r2 g2 c2 n cs2 emp)))) := k1.ac (by unfold rfP2 VL DL; ac_rfl)
    exact ⟨V2, rfl, z, ml, cs, cs2, N, a1, a2, a3, a4, k2.right⟩
  · rw [hw] at k; cases k
theorem t_room (h : LS w d n l V r g c r2 g2 c2 wx) (h1 : 16 ≤ n) (h2 : n ≤ 512) : ∃ q : Int, Calls Tryz.prog 25 #[.pointer (some ⟨V, 0, none⟩)] wx fun e w' => e = .returned (.tuple #[.int .i64 q, .int .i64 0]) ∧ LS w d n l V r g c r2 g2 c2 w' ∧ Calls Tryz.prog 26 #[.pointer (some ⟨r, 0, none⟩)] w' fun e w'' => e = .returned (.int .i64 q) ∧ w'' = w' := by
  obtain ⟨z, ml, st, cs, cs2, N, M, a1, a2, a3, a4, a5, a6, a7⟩ := h
  refine ⟨roomN N n, (o_vroom a7 (stable_rf2 _ _ _ _ _ (stable_rf2 _ _ _ _ _ stable_emp)) (li_of a1 h1 h2) a2 a3).mono ?_⟩
  rintro e w' ⟨rfl, k1⟩
  have h5 : Own w w' (Star (rfA r g c n) (Star (rnA g cs) (VL d z l ml st V (rfP2 r2 g2 c2 n cs2 emp)))) := k1.ac (by unfold rfP2 VL DL; ac_rfl)
  exact ⟨rfl, ⟨z, ml, st, cs, cs2, N, M, a1, a2, a3, a4, a5, a6, k1⟩, c_room8 (RfP.rf ⟨cs, a5, h5⟩) (by omega) (fun q hq => (vol_node a3 hq).1)⟩
theorem t_homes (h : VS w d n l V emp 0 exN0 wx) : ∃ z ml, Clean z (n + 32) ∧ IsVol (Vw z []) n exN0 ∧ Own w wx (VL d z l ml [] V emp) := by
  obtain ⟨z, ml, st, a1, a2, a3, a4, a5⟩ := h
  obtain rfl : st = [] := List.length_eq_zero_iff.1 (by omega)
  exact ⟨z, ml, a1, a4, a3⟩
theorem t_new (h : VS w d n l V emp 0 exN0 wx) : Calls Tryz.prog 16 #[.pointer (some ⟨l, 0, none⟩)] wx (fun e w' => e = .returned (.int .i64 (n : Int)) ∧ w' = wx) ∧ Calls Tryz.prog 15 #[.int .i64 (n : Int)] wx fun e w' => ∃ r g, e = .returned (.pointer (some ⟨r, 0, none⟩)) ∧ LA w d n l V r g 32 w' := by
  obtain ⟨z, ml, a1, a2, a3⟩ := t_homes h
  refine ⟨(o_home a3).mono ?_, (r_new a3 (stable_vl8 stable_emp) n).mono ?_⟩
  · rintro e w' ⟨rfl, rfl⟩
    rw [a1.len]
    exact ⟨ret_i (by omega), rfl⟩
  · rintro e w' ⟨r, g, rfl, cs, k1, k2⟩
    exact ⟨r, g, rfl, z, ml, cs, exN0, a1, a2, k1, k2.ac (by unfold rfP2 VL DL; ac_rfl)⟩
end
end Go.Proofs.YtlpcccpagmipnaaGreat.P
namespace Go.Proofs.YtlpcccpagmipnaaGreat.P
open Go.RowKit Go.ChangeMaps Go.MapKept
theorem e_takes (n : Int) (w : World) : Calls Tryz.prog 62 #[.int .i64 n] w fun e w' => e = .returned (.bool (decide (48 ≤ n) && decide (n ≤ 544))) ∧ w' = w := by
  by_cases h1 : 48 ≤ n
  · rw [decide_eq_true h1, Bool.true_and]
    go_enter Tryz.func62, Tryz.ntmps62
    go_wp2
    go_ret
    exact ⟨rfl, rfl⟩
  · rw [decide_eq_false h1, Bool.false_and]
    go_enter Tryz.func62, Tryz.ntmps62
    go_wp2
    go_ret
    exact ⟨rfl, rfl⟩
def CloneR (l : List ByteArray) (w : World) (e : Ending) (w' : World) : Prop := ∃ g cap, e = .returned (.slice (some ⟨g, 0, none⟩) l.length cap) ∧ w'.ownsRow 0 9 1 (.slice (some ⟨g, 0, none⟩) l.length cap) l.length (strs l) ∧ w.heap.size ≤ g ∧ Gr w w'
set_option maxHeartbeats 1600000 in
theorem c_clone2 (w : World) (o : Option Addr) (c : Nat) (l : List ByteArray) (hn : 1 ≤ l.length) (hn2 : l.length ≤ 1000000) (hc : RowS w o l) :
    Calls Tryz.prog 64 #[.slice o l.length c] w (CloneR l w) := by
  obtain ⟨i0, hi, hz0, hz1, hz2⟩ := info_parts strInfo
  obtain ⟨sb, off, ho, _⟩ := hc 0 _ (List.getElem?_eq_getElem hn)
  have hcs : ∀ j u, (strs l)[j]? = some u → w.cell? ⟨sb, off + j, none⟩ = some u := fun j u hu => by
    unfold strs at hu
    rw [List.getElem?_map] at hu
    cases hs : l[j]? with
    | none => rw [hs] at hu; cases hu
    | some s =>
      rw [hs] at hu
      injection hu with hu
      obtain ⟨b2, o2, e2, h2⟩ := hc j s hs
      rw [ho] at e2
      injection e2 with e2
      injection e2 with e2 e3
      subst e2; subst e3; rw [h2, ← hu]
  subst ho
  have HC := Lib.hid hcs
  have HLS := Lib.hid (strs_length l)
  clear hcs hc
  obtain ⟨n, hln⟩ : ∃ n, n = l.length := ⟨_, rfl⟩
  have HL := Lib.hid hln
  rw [← hln] at hn hn2
  rw [show l.length = n from hln.symm]
  clear hln
  have hq : ∀ (w : World) (a : Addr) (n c : Nat), (binOp .eql 42 (.slice (some a) n c) (.slice none 0 0)).run Tryz.prog w = .ok (.bool false) w := fun w a n c => Go.Lib.run_eql_slice_nil w _ _ (some a) n c 0 0 Tryz.underlying42
  go_enter Tryz.func64, Tryz.ntmps64
  go_wp2_with (at_builtin; refine wpList_append_grows _ rfl _ _ 42 rfl 9 i0 (.string ⟨#[]⟩) 1 16 Tryz.underlying42 hi hz0 hz1 hz2 rfl (by decide) (some ⟨w.heap.size, 0, none⟩) 0 0 [] rfl (by simp) rfl (by intro b _ j u h; simp at h) ⟨sb, off, none⟩ n c (strs l) rfl (by rw [HLS.out, HL.out]; omega) (fun j u h => by rw [Addr.add_lit]; exact calloc _ (HC.out j u h)) (strs_one l) (by omega) (by unfold maxLen; omega) (by omega) ?_; intro v' w1 hown hgrow)
  go_ret
  have hg0 : Gr w (w.alloc (.cells #[] 9)) := Below.alloc (Below.refl _ _) (Nat.le_refl _) _
  have hg1 : Gr (w.alloc (.cells #[] 9)) w1 := ⟨hgrow.os, hgrow.tape, hgrow.output, hgrow.size, fun k hk => hgrow.block k hk (fun e => by cases e)⟩
  obtain ⟨h1, ⟨rfl, h2⟩ | ⟨g, cap, cur, rfl, hb, hr⟩⟩ := hown
  · omega
  · rw [Nat.zero_add] at *
    have hHL := HL.out
    subst hHL
    exact ⟨g, cap, rfl, ⟨h1, .inr ⟨g, cap, cur, rfl, Nat.zero_le _, hr⟩⟩, by have := hg0.size; omega, gtrans hg0 hg1⟩
set_option maxHeartbeats 1600000 in
theorem c_of (w : World) (o : Option Addr) (c : Nat) (A : List ByteArray) (h1 : 48 ≤ A.length) (h2 : A.length ≤ 544) (hA : RowS w o A) (h64 : ∀ s ∈ A, s.size = 64) :
    Calls Tryz.prog 29 #[.slice o A.length c] w (MadeD A w) := by
  have CC := Lib.hid (fun w' (g : Gr w w') => c_clone2 w' o c A (by omega) (by omega) (hA.gr g))
  have HA := Lib.hid hA
  have H64 := Lib.hid h64
  have HZ := Lib.hid (newZ_wz A h1 h2)
  clear hA h64
  have hb : (decide (48 ≤ (A.length : Int)) && decide ((A.length : Int) ≤ 544)) = true := by
    rw [Bool.and_eq_true, decide_eq_true_eq, decide_eq_true_eq]; omega
  have CM := c_may (A.length : Int) w
  rw [hb] at CM
  have HM := Lib.hid CM
  clear hb CM
  obtain ⟨n, hn⟩ : ∃ n, n = A.length := ⟨_, rfl⟩
  have HN := Lib.hid hn
  rw [← hn] at h1 h2 HM CC
  rw [show A.length = n from hn.symm]
  clear hn
  go_enter Tryz.func29, Tryz.ntmps29
  go_wp2_with fail
  refine HM.out.mono ?_
  rintro e w' ⟨rfl, h9⟩
  subst h9
  go_wp2_with fail
  go_loop [12] (fun v => ∃ k : Nat, k ≤ n ∧ v = .int .i64 k) (fun v => n - (intOf v).toNat)
  case atStart => exact ⟨0, Nat.zero_le _, rfl⟩
  case round =>
    obtain ⟨k, hk, rfl⟩ := hrel
    by_cases hlt : k < n
    · have dl : decide (k < n) = true := decide_eq_true hlt
      have hx : A[k]? = some (A[k]'(by have := HN.out; omega)) := List.getElem?_eq_getElem _
      have hs : (A[k]'(by have := HN.out; omega)).size = 64 := H64.out _ (List.getElem_mem _)
      obtain ⟨b, off, rfl, hc⟩ := HA.out k _ hx
      generalize A[k]'_ = x at *
      have hs2 : ((x.size : Int) == 64) = true := by rw [beq_iff_eq]; omega
      have hs3 : ((x.size : Int) != 64) = false := by rw [bne_eq_false_iff_eq]; omega
      have hs4 : (x.size : Int) = 64 := by omega
      clear hs hx hs2 hs3
      go_wp2_with fail
      go_round
      case rel => exact ⟨k + 1, by omega, by go_num⟩
      case measure => simp [intOf]; omega
    · obtain rfl : k = n := by omega
      have dl : decide (k < k) = false := decide_eq_false (by omega)
      go_wp2_with fail
      refine (CC.out _ (Gr.refl _)).mono ?_
      rintro e w2 ⟨g, cap, rfl, hown, hge, hgr⟩
      have HOWN := Lib.hid hown
      have HGE := Lib.hid hge
      have HGR := Lib.hid hgr
      clear hown hge hgr
      rw [← HN.out]
      go_wp2_with fail
      go_ret2
      have hrow : (w2.alloc (.cells #[.slice (some ⟨g, 0, none⟩) k cap, .slice none 0 0, .bool false, .bool false, .int .i64 0] 126)).ownsRow 0 9 1 (.slice (some ⟨g, 0, none⟩) A.length cap) A.length (strs A) := HOWN.out.alloc _
      have hl := ownsRow_lt HOWN.out
      refine ⟨w2.heap.size, fun x => x = w2.heap.size ∨ x = g, rfl, ⟨HZ.out, g, none, ⟨cap, none, 0, ?_, hrow, ⟨rfl, .inl ⟨rfl, rfl⟩⟩, rfl, by omega, by simp, by simp⟩, fun x hx => ?_⟩, fun x hx => ?_, HGR.out.alloc HGR.out.size _⟩
      · have := blk_new w2 (.cells #[.slice (some ⟨g, 0, none⟩) k cap, .slice none 0 0, .bool false, .bool false, .int .i64 0] 126)
        rw [this, HN.out]; rfl
      · rcases hx with hx | hx | hx
        · exact .inl hx
        · exact .inr hx
        · cases hx
      · have := HGR.out.size
        have := HGE.out
        rcases hx with hx | hx
        · simp [hx]; omega
        · simp [hx]; omega
set_option maxHeartbeats 1600000 in
theorem e_of_no (w : World) (o : Option Addr) (c : Nat) (A : List ByteArray) (hl : A.length ≤ 4000000000000000) (hA : RowS w o A) (hn : okRow A = false) :
    Calls Tryz.prog 27 #[.slice o A.length c] w fun e w' => e = .returned (.pointer none) ∧ Gr w w' := by
  have CM := Lib.hid (e_takes (A.length : Int) w)
  obtain ⟨b0, hb0⟩ : ∃ b0, b0 = (decide (48 ≤ (A.length : Int)) && decide ((A.length : Int) ≤ 544)) := ⟨_, rfl⟩
  rw [← hb0] at CM
  have hb : (b0 && A.all (fun s => decide (s.size = 64))) = false := by
    rw [hb0]
    have e1 : decide (48 ≤ (A.length : Int)) = decide (48 ≤ A.length) := by rw [decide_eq_decide]; omega
    have e2 : decide ((A.length : Int) ≤ 544) = decide (A.length ≤ 544) := by rw [decide_eq_decide]; omega
    rw [e1, e2]; exact hn
  have HA := Lib.hid hA
  have HB := Lib.hid hb
  obtain ⟨n, hnn⟩ : ∃ n, n = A.length := ⟨_, rfl⟩
  have HN := Lib.hid hnn
  rw [← hnn] at CM hl
  rw [show A.length = n from hnn.symm]
  clear hnn hb hA hb0 hn
  go_enter Tryz.func27, Tryz.ntmps27
  go_wp2_with fail
  refine CM.out.mono ?_
  rintro e w' ⟨rfl, h9⟩
  subst h9
  go_wp2_with fail
  go_loop [3, 4] (fun v3 v4 => ∃ (k : Nat) (b : Bool), k ≤ n ∧ v4 = .int .i64 k ∧ v3 = .bool b ∧ b = (b0 && (A.take k).all (fun s => decide (s.size = 64)))) (fun _ v4 => n - (intOf v4).toNat)
  case atStart => exact ⟨0, b0, Nat.zero_le _, rfl, rfl, by rw [List.take_zero]; simp⟩
  case round =>
    obtain ⟨k, b, hk, rfl, rfl, hall⟩ := hrel
    have HALL := Lib.hid hall
    clear hall
    by_cases hlt : k < n
    · have dl : decide (k < n) = true := decide_eq_true hlt
      have hx : A[k]? = some (A[k]'(by have := HN.out; omega)) := List.getElem?_eq_getElem _
      obtain ⟨b, off, rfl, hc⟩ := HA.out k _ hx
      have hat := all_take A k _ hx
      generalize A[k]'_ = x at *
      have HAT := Lib.hid hat
      clear hx hat
      rename_i bb
      cases bb with
      | false =>
        go_wp2_with fail
        go_round
        case rel => exact ⟨k + 1, false, by omega, by go_num, rfl, by rw [HAT.out, ← Bool.and_assoc, ← HALL.out]; rfl⟩
        case measure => simp [intOf]; omega
      | true =>
        by_cases hs : x.size = 64
        · have hs4 : (x.size : Int) = 64 := by omega
          have hd : decide (x.size = 64) = true := decide_eq_true hs
          rw [hd] at HAT
          clear hs hd
          go_wp2_with fail
          go_round
          case rel => exact ⟨k + 1, true, by omega, by go_num, rfl, by rw [HAT.out, ← Bool.and_assoc, ← HALL.out]; rfl⟩
          case measure => simp [intOf]; omega
        · have hs4 : ¬ (x.size : Int) = 64 := by omega
          have hd : decide (x.size = 64) = false := decide_eq_false hs
          rw [hd] at HAT
          have hs3 : ((x.size : Int) == 64) = false := beq_eq_false_iff_ne.2 hs4
          clear hs hd
          go_wp2_with fail
          go_round
          case rel => exact ⟨k + 1, false, by omega, by go_num, rfl, by rw [HAT.out, ← Bool.and_assoc, ← HALL.out]; rfl⟩
          case measure => simp [intOf]; omega
    · obtain rfl : k = n := by omega
      have dl : decide (k < k) = false := decide_eq_false (by omega)
      obtain rfl : b = false := by
        have h1 := HALL.out
        rw [HN.out, List.take_of_length_le (Nat.le_refl _), HB.out] at h1
        exact h1
      go_wp2_with fail
      go_ret
      exact ⟨rfl, Gr.refl _⟩
def PtrP (w : World) (e : Ending) (w' : World) : Prop := ∃ d, e = .returned (.pointer (some ⟨d, 0, none⟩)) ∧ Gr w w'
set_option maxHeartbeats 1600000 in
theorem e_of (w : World) (o : Option Addr) (c : Nat) (A : List ByteArray) (hA : RowS w o A) (hn : okRow A = true) :
    Calls Tryz.prog 27 #[.slice o A.length c] w (PtrP w) := by
  unfold okRow at hn
  simp only [Bool.and_eq_true, decide_eq_true_eq] at hn
  obtain ⟨⟨h1, h2⟩, hall⟩ := hn
  have h64 : ∀ x ∈ A, x.size = 64 := fun x hx => of_decide_eq_true (List.all_eq_true.1 hall x hx)
  have CM := Lib.hid (e_takes (A.length : Int) w)
  rw [show (decide (48 ≤ (A.length : Int)) && decide ((A.length : Int) ≤ 544)) = true by rw [Bool.and_eq_true, decide_eq_true_eq, decide_eq_true_eq]; omega] at CM
  have HA := Lib.hid hA
  have H64 := Lib.hid h64
  have HZ := Lib.hid (newZ_wz A h1 h2)
  obtain ⟨i0, hi0, hz0, hz1, hz2⟩ := info_parts strInfo
  obtain ⟨sb, off, ho, _⟩ := hA 0 _ (List.getElem?_eq_getElem (show 0 < A.length by omega))
  have hcs : ∀ j u, (strs A)[j]? = some u → w.cell? ⟨sb, off + j, none⟩ = some u := fun j u hu => by
    unfold strs at hu
    rw [List.getElem?_map] at hu
    cases hs : A[j]? with
    | none => rw [hs] at hu; cases hu
    | some s =>
      rw [hs] at hu
      injection hu with hu
      obtain ⟨b2, o2, e2, h2⟩ := hA j s hs
      rw [ho] at e2
      injection e2 with e2
      injection e2 with e2 e3
      subst e2; subst e3; rw [h2, ← hu]
  have HCS := Lib.hid hcs
  have HLS := Lib.hid (strs_length A)
  clear hA h64 hall hcs
  subst ho
  obtain ⟨n, hnn⟩ : ∃ n, n = A.length := ⟨_, rfl⟩
  have HN := Lib.hid hnn
  rw [← hnn] at CM h1 h2
  rw [show A.length = n from hnn.symm]
  clear hnn
  go_enter Tryz.func27, Tryz.ntmps27
  go_wp2_with fail
  refine CM.out.mono ?_
  rintro e w' ⟨rfl, h9⟩
  subst h9
  go_wp2_with fail
  go_loop [3, 4] (fun v3 v4 => ∃ k : Nat, k ≤ n ∧ v4 = .int .i64 k ∧ v3 = .bool true) (fun _ v4 => n - (intOf v4).toNat)
  case atStart => exact ⟨0, Nat.zero_le _, rfl, rfl⟩
  case round =>
    obtain ⟨k, hk, rfl, rfl⟩ := hrel
    by_cases hlt : k < n
    · have dl : decide (k < n) = true := decide_eq_true hlt
      have hx : A[k]? = some (A[k]'(by have := HN.out; omega)) := List.getElem?_eq_getElem _
      have hs : (A[k]'(by have := HN.out; omega)).size = 64 := H64.out _ (List.getElem_mem _)
      have hc := HCS.out k (.string (A[k]'(by have := HN.out; omega))) (by unfold strs; rw [List.getElem?_map, hx]; rfl)
      generalize A[k]'_ = x at *
      have hs4 : (x.size : Int) = 64 := by omega
      clear hs hx
      go_wp2_with fail
      go_round
      case rel => exact ⟨k + 1, by omega, by go_num, rfl⟩
      case measure => simp [intOf]; omega
    · obtain rfl : k = n := by omega
      have dl : decide (k < k) = false := decide_eq_false (by omega)
      go_wp2_with (at_builtin; refine wpList_append_grows _ rfl _ _ 42 rfl 9 i0 (.string ⟨#[]⟩) 1 16 Tryz.underlying42 hi0 hz0 hz1 hz2 rfl (by decide) none 0 0 [] rfl (by simp) rfl (by intro b _ j u h; simp at h) ⟨sb, off, none⟩ k c (strs A) rfl (by rw [HLS.out, HN.out]; omega) (fun j u h => by rw [Addr.add_lit]; exact calloc _ (HCS.out j u h)) (strs_one A) (by omega) (by unfold maxLen; omega) (by omega) ?_; intro v' w1 hown hgrow; obtain ⟨g, cap, rfl, hbg, hlt1⟩ := hown.form (by omega); have HOWN := Lib.hid hown; have HGROW := Lib.hid hgrow; have hb1 := (Ch.of_grown hgrow).blk (blk_new _ _) (fun e => by cases e); have z0 := blk_frozen hb1 0; have d0 := blk_cell hb1 0 rfl; have HB1 := Lib.hid hb1; clear hown hgrow hb1)
      go_ret
      have hg0 : Gr w' (w'.alloc (.cells #[.slice none 0 0, .slice none 0 0, .int .i64 (-1), .bool false] 122)) := Below.alloc (Below.refl _ _) (Nat.le_refl _) _
      have hg1 := HGROW.out
      have h5 := HOWN.out
      rw [Nat.zero_add] at *
      have hHN := HN.out
      have hg2 : Gr w' w1 := gtrans hg0 ⟨hg1.os, hg1.tape, hg1.output, hg1.size, fun k hk => hg1.block k hk (fun e => by cases e)⟩
      simp only [World.size_alloc] at hbg
      exact ⟨_, rfl, hg2.setCell (Nat.le_refl _) _⟩
end Go.Proofs.YtlpcccpagmipnaaGreat.P
namespace Go.Proofs.YtlpcccpagmipnaaGreat.P
open Go.RowKit Go.ChangeMaps Go.MapKept
section
open Go.ChangeShapes Go.WideShapes Go.Deep
variable {H : Type} {enc : TypeId × Value → H} {w : World} {base : Nat} {spare : Nat → Bool} {held : Bool}
theorem open_capC {o : Option Addr} {l c : Nat} {d : DataW H} {ps : List MemPlace} (h : DataW.Trod enc Tryz.prog w base spare held 42 (.slice o l c) d ps) : l ≤ c ∧ c ≤ maxLen := by
  obtain ⟨fuel, hf⟩ := h
  rcases open_slice Tryz.underlying42 hf with ⟨hcs, _⟩ | ⟨a, len, cap, m, n, D, Pl, hcs, hb, hl, hm, hmm, hx, hi⟩
  · have e0 : Value.slice o l c = .slice none 0 0 := by simpa [Value.cells] using hcs
    injection e0 with e1 e2 e3
    rw [e2, e3]
    exact ⟨Nat.le_refl _, Nat.zero_le _⟩
  · have e0 : Value.slice o l c = .slice (some a) len cap := by simpa [Value.cells] using hcs
    injection e0 with e1 e2 e3
    rw [e2, e3]
    exact ⟨hl, hm⟩
end
theorem clean_row {A : List ByteArray} (hA : okRow A = true) (h1 : A[1]? = some z64) : Clean (newZ A) A.length ∧ 48 ≤ A.length ∧ A.length ≤ 544 ∧ ∀ s ∈ A, s.size = 64 := by
  unfold okRow at hA
  rw [Bool.and_eq_true, Bool.and_eq_true, decide_eq_true_eq, decide_eq_true_eq, List.all_eq_true] at hA
  have h64 : ∀ s ∈ A, s.size = 64 := fun s hs => of_decide_eq_true (hA.2 s hs)
  refine ⟨⟨⟨rfl, rfl⟩, rfl, rfl, ?_, ⟨h64, fun x hx => by cases hx⟩, newZ_wz _ hA.1.1 hA.1.2⟩, hA.1.1, hA.1.2, h64⟩
  unfold getS
  show (A[1]?).getD ⟨#[]⟩ = z64
  rw [h1]; rfl
section
variable {w0 w : World} {d : Nat} {z : DState} {l ml n V r g c : Nat} {R : Asn} {N : Nat → NodeA}
theorem m_stat (h : MS w0 d z l ml n V r g c R N N w) (hs : Stable R) (hz : LI z n) (k : Int) : Calls Tryz.prog 31 #[.pointer (some ⟨V, 0, none⟩), .int .i64 k] w fun e w' => e = .returned (.tuple #[.agg (statV N k), .int .i64 (findN N k)]) ∧ MS w0 d z l ml n V r g c R N N w' := by
  obtain ⟨st, cs, h1, h2, h3, h4⟩ := h
  refine (o_vstat h4 (stable_star (stable_blk _ _) (stable_star (stable_blk _ _) hs)) hz h1 h2 k).mono ?_
  rintro e w' ⟨rfl, k1⟩
  exact ⟨rfl, st, cs, h1, h2, h3, k1⟩
theorem m_read (h : MS w0 d z l ml n V r g c R N N w) (hs : Stable R) (hz : LI z n) (k off many : Int) (ho : off ≤ 9223372036854775807) (hm : many ≤ 9223372036854775807) : Calls Tryz.prog 33 #[.pointer (some ⟨V, 0, none⟩), .int .i64 k, .int .i64 off, .int .i64 many] w fun e w' => e = .returned (.tuple #[.string ⟨(readN N k off many).1.toArray⟩, .int .i64 (readN N k off many).2]) ∧ MS w0 d z l ml n V r g c R N N w' := by
  obtain ⟨st, cs, h1, h2, h3, h4⟩ := h
  refine (o_vread h4 (stable_star (stable_blk _ _) (stable_star (stable_blk _ _) hs)) hz h1 h2 k off many ho hm).mono ?_
  rintro e w' ⟨rfl, k1⟩
  exact ⟨rfl, st, cs, h1, h2, h3, k1⟩
theorem m_room (h : MS w0 d z l ml n V r g c R N N w) (hs : Stable R) (hz : LI z n) : Calls Tryz.prog 25 #[.pointer (some ⟨V, 0, none⟩)] w fun e w' => e = .returned (.tuple #[.int .i64 (roomN N n), .int .i64 0]) ∧ MS w0 d z l ml n V r g c R N N w' := by
  obtain ⟨st, cs, h1, h2, h3, h4⟩ := h
  refine (o_vroom h4 (stable_star (stable_blk _ _) (stable_star (stable_blk _ _) hs)) hz h1 h2).mono ?_
  rintro e w' ⟨rfl, k1⟩
  exact ⟨rfl, st, cs, h1, h2, h3, k1⟩
theorem ms_enter {w' : World} (h : Own w0 w (VL d z l ml [] V emp)) (hV : IsVol (Vw z []) n N) (h2 : RfP w r g c n N emp w') : MS w0 d z l ml n V r g c emp N N w' := by
  obtain ⟨cs, k1, k2⟩ := h2
  have h5 : Own w0 w' (Star (Star (rfA r g c n) (Star (rnA g cs) emp)) (VL d z l ml [] V emp)) := h.add (stable_dl _ _ _ _ _ _ (stable_star (stable_blk _ _) stable_emp)) k2.sub (by
    obtain ⟨F, x1, x2, _⟩ := k2
    exact ⟨F, x1, x2⟩)
  have h6 : Own w0 w' (Star emp (VL d z l ml [] V (Star (rfA r g c n) (Star (rnA g cs) emp)))) := h5.ac (by unfold VL DL; ac_rfl)
  exact ⟨[], cs, ok_nil _, hV, k1, h6.right⟩
end
theorem wpList_eqStG {ops : Array Oper} {rest : List Oper} {o : Oper} {a : Act} {w : World} {Q : Exit → Act → World → Prop} (hgd : Region.wanted o (yielded ops a.tmps) = true) (x y : Operand) (t2 : TypeId) (hop : o.op = .binOp .eql 56 x y t2) (X : Ino) (ex : a.eval x = .agg (statL X)) (ey : a.eval y = .agg (statL X))
    (h : wpList Tryz.prog ops Q rest (a.put o.dst (.bool true)) w) : wpList Tryz.prog ops Q (o :: rest) a w := by
  have hm : Tryz.prog.eqGuardType Tryz.prog.depth 56 = false := Tryz.eqGuardType56
  have h1 := run_eqGuard_agg (P := Tryz.prog) w .eql 56 x y (statL X) (statL X) hm
  have h2 := run_eql_struct (P := Tryz.prog) w 56 (statL X) (statL X)
  rw [eqS_self X w] at h2
  generalize statL X = XA at *
  rw [wpList, if_pos hgd]
  refine .inl ?_
  unfold Oper.wp
  have e : (execOp a.eval o).run Tryz.prog w = .ok (.value (.bool true)) w := by
    unfold execOp
    simp [hop, ex, ey, Sem.run_bind, h1, h2]
  rw [e]
  exact h
set_option maxHeartbeats 25600000 in
theorem l_mounts8 (w : World) (o : Option Addr) (cap : Nat) (A : List ByteArray) (hA : RowS w o A) (hlA : A.length ≤ 4000000000000000) (hcap : A.length ≤ cap) (hcm : cap ≤ maxLen) (k off : Int) (hoff : off ≤ 9223372036854775807) : Calls Tryz.prog 4 #[.slice o A.length cap, .int .i64 k, .int .i64 off] w fun e w' => e = .returned (.bool true) ∧ Gr w w' := by
  have CS := Lib.hid (c_shown8 w)
  have HA := Lib.hid hA
  by_cases hok : okRow A = true
  · have CO : Hid (∀ w1, Gr w w1 → Calls Tryz.prog 27 #[.slice o A.length cap] w1 fun e w' => ∃ d, e = .returned (.pointer (some ⟨d, 0, none⟩)) ∧ Gr w1 w') := Lib.hid (fun w1 g1 => e_of w1 o cap A (hA.gr g1) hok)
    have hlb : 48 ≤ A.length ∧ A.length ≤ 544 := by
      unfold okRow at hok
      rw [Bool.and_eq_true, Bool.and_eq_true, decide_eq_true_eq, decide_eq_true_eq] at hok
      exact hok.1
    obtain ⟨s1, hs1⟩ : ∃ s1, A[1]? = some s1 := ⟨A[1]'(by omega), List.getElem?_eq_getElem _⟩
    obtain ⟨b, off0, rfl, cS⟩ := hA 1 s1 hs1
    have HCA : Hid (∀ wx, Gr w wx → ∀ j s, A[j]? = some s → wx.cell? ⟨b, off0 + j, none⟩ = some (.string s)) := Lib.hid (fun wx gx j s hj => by
      obtain ⟨b2, off2, e2, c2⟩ := (hA.gr gx) j s hj
      injection e2 with e2
      injection e2 with e3 e4
      rw [e3, e4]
      exact c2)
    have HS1 := Lib.hid hs1
    have HOK := Lib.hid hok
    obtain ⟨len, hln⟩ : ∃ len, len = A.length := ⟨_, rfl⟩
    have HLN := Lib.hid hln
    rw [← hln] at hlb hlA hcap CO ⊢
    have hlen1 : (1 : Int) < (len : Int) := by omega
    clear hs1 hok hA cS hln
    go_enter Tryz.func4, Tryz.ntmps4
    go_upto_region 2 with (go_at_call 11; refine CS.out.mono ?_; rintro e w1 ⟨rfl, g1⟩; have G1 := Lib.hid g1; clear g1)
    go_upto_region 3 with (go_at_call 27; refine (CO.out _ G1.out).mono ?_; rintro e w2 ⟨ds, rfl, g2⟩; have G2 := Lib.hid (gtrans G1.out g2); clear g2)
    have GD : Hid (Gr w w2.drew) := Lib.hid (gtrans G2.out (Gr.drewN (Gr.refl _) 1))
    have HS0 : Hid (w2.drew.cell? ⟨b, off0 + 1, none⟩ = some (.string s1)) := Lib.hid (HCA.out _ GD.out 1 s1 HS1.out)
    have CN := Lib.hid (e_noughts w2.drew)
    refine wp_region_held_drew (S := fun w' => w'.cell? ⟨b, off0 + 1, none⟩ = some (.string s1)) (by kernel_rfl) (HS0.out) (fun hH => ?_)
    generalize w2.drew = wd at *
    try simp only [Act.put, List.setIfInBounds_toArray, List.set_cons_zero, List.set_cons_succ]
    refine wpAnyH_take (i := 0) (oi := { dst := some 30, op := Go.Op.move (Go.Operand.tmp 8), type := 48, pos := "law.go:154", after := #[], guard := none }) (v := .pointer (some ⟨ds, 0, none⟩)) rfl (by kernel_rfl) (by kernel_rfl) (by kernel_rfl) (fun _ _ _ h => h) (Or.inl ⟨by rfl, fun w' hS' => by first | rfl | (go_simp; done) | (go_simp; rfl)⟩) HS0.out ?_
    try simp only [Act.put, List.setIfInBounds_toArray, List.set_cons_zero, List.set_cons_succ]
    refine wpAnyH_take (i := 1) (oi := { dst := some 31, op := Go.Op.binOp Go.BinOp.eql 48 (Go.Operand.tmp 30) (Go.Operand.const (Go.Value.pointer none)) 48, type := 4, pos := "law.go:154", after := #[{ on := 0, ground := Go.Ground.data }], guard := none }) (v := .bool false) rfl (by kernel_rfl) (by kernel_rfl) (by kernel_rfl) (fun _ _ _ h => h) (Or.inl ⟨by rfl, fun w' hS' => by first | rfl | (go_simp; done) | (go_simp; rfl)⟩) HS0.out ?_
    try simp only [Act.put, List.setIfInBounds_toArray, List.set_cons_zero, List.set_cons_succ]
    refine wpAnyH_take (i := 2) (oi := { dst := some 32, op := Go.Op.move (Go.Operand.tmp 31), type := 4, pos := "law.go:154", after := #[{ on := 1, ground := Go.Ground.data }], guard := none }) (v := .bool false) rfl (by kernel_rfl) (by kernel_rfl) (by kernel_rfl) (fun _ _ _ h => h) (Or.inl ⟨by rfl, fun w' hS' => by first | rfl | (go_simp; done) | (go_simp; rfl)⟩) HS0.out ?_
    try simp only [Act.put, List.setIfInBounds_toArray, List.set_cons_zero, List.set_cons_succ]
    refine wpAnyH_take (i := 3) (oi := { dst := some 33, op := Go.Op.move (Go.Operand.tmp 0), type := 42, pos := "law.go:154", after := #[{ on := 2, ground := Go.Ground.guard }], guard := some (2, false) }) (v := .slice (some ⟨b, off0, none⟩) len cap) rfl (by kernel_rfl) (by kernel_rfl) (by kernel_rfl) (fun _ _ _ h => h) (Or.inl ⟨by rfl, fun w' hS' => by first | rfl | (go_simp; done) | (go_simp; rfl)⟩) HS0.out ?_
    try simp only [Act.put, List.setIfInBounds_toArray, List.set_cons_zero, List.set_cons_succ]
    refine wpAnyH_take (i := 4) (oi := { dst := some 34, op := Go.Op.indexAddr 42 (Go.Operand.tmp 33) (Go.Operand.const (Go.Value.int Go.IntKind.i64 1)), type := 0, pos := "law.go:154", after := #[{ on := 3, ground := Go.Ground.data }, { on := 2, ground := Go.Ground.guard }], guard := some (2, false) }) (v := .pointer (some ⟨b, off0 + 1, none⟩)) rfl (by kernel_rfl) (by kernel_rfl) (by kernel_rfl) (fun _ _ _ h => h) (Or.inl ⟨by rfl, fun w' hS' => by have c := hlen1; go_simp⟩) HS0.out ?_
    try simp only [Act.put, List.setIfInBounds_toArray, List.set_cons_zero, List.set_cons_succ]
    refine wpAnyH_take (i := 5) (oi := { dst := some 35, op := Go.Op.load 9 (Go.Operand.tmp 34), type := 9, pos := "law.go:154", after := #[{ on := 4, ground := Go.Ground.data }, { on := 2, ground := Go.Ground.guard }], guard := some (2, false) }) (v := .string s1) rfl (by kernel_rfl) (by kernel_rfl) (by kernel_rfl) (fun _ _ _ h => h) (Or.inl ⟨by rfl, fun w' hS' => by have c := hS'; go_simp⟩) HS0.out ?_
    try simp only [Act.put, List.setIfInBounds_toArray, List.set_cons_zero, List.set_cons_succ]
    refine wpAnyH_ready (rs := [6]) (by kernel_rfl) (by simp) ?_
    refine AllReadyH.cons (o := { dst := some 36, op := Go.Op.call { callee := Go.Callee.value (Go.Operand.func 28), args := #[], argTypes := #[] }, type := 9, pos := "law.go:154", after := #[{ on := 2, ground := Go.Ground.chain }, { on := 2, ground := Go.Ground.guard }], guard := some (2, false) }) rfl (fun K' hK => ?_) AllReadyH.nil
    rw [if_pos (by rfl)]
    go_wp2_with (go_at_call 28; refine CN.out.mono ?_; rintro e w3 ⟨rfl, g3⟩; have G3 := Lib.hid (gtrans GD.out g3); have HS3 := Lib.hid (kcell g3 HS0.out); clear g3)
    refine hK.out _ _ (HS3.out) (fun hH1 => ?_)
    clear hK K'
    try simp only [Act.put, List.setIfInBounds_toArray, List.set_cons_zero, List.set_cons_succ]
    refine wpAnyH_take (i := 7) (oi := { dst := some 37, op := Go.Op.binOp Go.BinOp.neq 9 (Go.Operand.tmp 35) (Go.Operand.tmp 36) 9, type := 4, pos := "law.go:154", after := #[{ on := 5, ground := Go.Ground.data }, { on := 6, ground := Go.Ground.data }, { on := 2, ground := Go.Ground.guard }], guard := some (2, false) }) (v := .bool (!decide (s1 = z64))) rfl (by kernel_rfl) (by kernel_rfl) (by kernel_rfl) (fun _ _ _ h => h) (Or.inl ⟨by rfl, fun w' hS' => by have c := toL_beq s1 z64; go_simp⟩) HS3.out ?_
    try simp only [Act.put, List.setIfInBounds_toArray, List.set_cons_zero, List.set_cons_succ]
    refine wpAnyH_take (i := 8) (oi := { dst := some 38, op := Go.Op.pick (Go.Operand.tmp 32) (Go.Operand.const (Go.Value.bool true)) (Go.Operand.tmp 37), type := 4, pos := "law.go:154", after := #[{ on := 2, ground := Go.Ground.data }, { on := 7, ground := Go.Ground.data }], guard := none }) (v := .bool (!decide (s1 = z64))) rfl (by kernel_rfl) (by kernel_rfl) (by kernel_rfl) (fun _ _ _ h => h) (Or.inl ⟨by rfl, fun w' hS' => by first | rfl | (go_simp; done) | (go_simp; rfl)⟩) HS3.out ?_
    try simp only [Act.put, List.setIfInBounds_toArray, List.set_cons_zero, List.set_cons_succ]
    refine wpAnyH_done (by kernel_rfl) ?_ _
    clear CN HS0 GD G2 CO CS G1
    obtain ⟨bz, hbz⟩ : ∃ bz, bz = (!decide (s1 = z64)) := ⟨_, rfl⟩
    rw [← hbz]
    have HBZ := Lib.hid hbz
    clear hbz
    cases bz with
    | false =>
      have hz : s1 = z64 := by
        have h := HBZ.out
        cases h2 : decide (s1 = z64) with
        | true => exact of_decide_eq_true h2
        | false => rw [h2] at h; cases h
      clear HBZ
      have HS1Z : Hid (A[1]? = some z64) := Lib.hid (by rw [HS1.out, hz])
      clear hz
      obtain ⟨hcl, hl1, hl2, h64⟩ := clean_row HOK.out HS1Z.out
      obtain ⟨n, hn⟩ : ∃ n, A.length = n + 32 := ⟨A.length - 32, by omega⟩
      rw [hn] at hcl
      have HCL := Lib.hid hcl
      have hn1 : 16 ≤ n := by omega
      have hn2 : n ≤ 512 := by omega
      have HLI := Lib.hid (li_of hcl hn1 hn2)
      have CD := c_of w3 (some ⟨b, off0, none⟩) cap A hl1 hl2 (HA.out.gr G3.out) h64
      rw [← HLN.out] at CD
      have CDH := Lib.hid CD
      have HAG : Hid (∀ i, i < n → A[32 + i]? = some (homH (newZ A) i)) := Lib.hid (fun i hi => by
        have hlt : 32 + i < A.length := by omega
        rw [List.getElem?_eq_getElem hlt]
        unfold homH
        rw [get_clean hcl [] i (by omega)]
        show some _ = some (getS A (32 + i))
        unfold getS
        rw [List.getElem?_eq_getElem hlt]; rfl)
      have HNL : Hid (len = n + 32) := Lib.hid (by rw [HLN.out, hn])
      have hlen32 : n + 32 ≤ len ∧ len ≤ n + 32 := by rw [HNL.out]; exact ⟨Nat.le_refl _, Nat.le_refl _⟩
      unfold MadeD at CDH
      clear CD hcl hl1 hl2 h64 hn
      go_upto_region 6 with (go_at_call 29; refine CDH.out.mono ?_; rintro e w4 ⟨d, F, rfl, x1, x2, x3⟩; have H4 : Hid (Own w w4 (Star (dsk d (newZ A)) emp)) := Lib.hid ((Own.start G3.out).add stable_emp x3 ⟨F, x1, x2⟩); clear x1 x2 x3)
      generalize newZ A = z at *
      have CLO := Lib.hid (o_open_ok H4.out stable_emp HCL.out.sz (by rw [HCL.out.still]; exact Nat.zero_le _) z (open_clean HCL.out (by omega)))
      clear CDH H4
      go_upto_region 9 with (go_at_call 30; refine CLO.out.mono ?_; rintro e w5 ⟨l, ml, rfl, h5⟩; have H5 := Lib.hid h5; clear h5)
      have CM0 := c_mount8 H5.out stable_emp HLI.out (ok_nil _) (Nat.zero_le _)
      have hw0 := whole_of (V := Vw z []) (n := n) hn2 (by
        show (homH z 0).data.toList.length = 64
        rw [toL_size]
        have h := HAG.out 0 (by omega)
        unfold okRow at HOK
        have hk := HOK.out
        rw [Bool.and_eq_true, List.all_eq_true] at hk
        exact of_decide_eq_true (hk.2 _ (List.mem_of_getElem? h)))
      have h64h : ∀ i, i < n → (homH z i).size = 64 := fun i hi => by
        have h := HAG.out i hi
        have hk := HOK.out
        unfold okRow at hk
        rw [Bool.and_eq_true, List.all_eq_true] at hk
        exact of_decide_eq_true (hk.2 _ (List.mem_of_getElem? h))
      have COF : Hid (∀ wx cp, Gr w wx → Calls Tryz.prog 21 #[.slice (some ⟨b, off0 + 32, none⟩) n cp] wx (OfP wx (Vw z []) n)) := Lib.hid (fun wx cp gx => c_of8 (H := homH z) ⟨fun i hi => by
        have h := HCA.out wx gx (32 + i) _ (HAG.out i hi)
        rw [← Nat.add_assoc] at h
        exact h⟩ h64h (by omega) hn2 cp)
      have e1 : ((len : Int) - 32).toNat = n := by omega
      have e2 : len - 32 = n := by omega
      have q5 : ¬ len < 32 := by omega
      have q6 : ¬ 32 = cap := by omega
      have q7 : ¬ cap = 32 := by omega
      have q8 : cap ≤ 9223372036854775807 := hcm
      have q9 : len ≤ 9223372036854775807 := by omega
      clear CLO HS1 HS1Z HCA HAG
      by_cases hof : OfOk (Vw z []) n
      · have hwt := hw0.2 hof
        have CM : Hid (Calls Tryz.prog 24 #[.pointer (some ⟨l, 0, none⟩)] w5 fun e w' => ∃ V, e = .returned (.tuple #[.pointer (some ⟨V, 0, none⟩), .int .i64 0]) ∧ Own w w' (VL d z l ml [] V emp)) := Lib.hid (CM0.mono (by
          rintro e w' (⟨_, k1⟩ | ⟨k1, _⟩)
          · exact k1
          · rw [hwt] at k1; cases k1))
        have COK : Hid (∀ wx cp, Gr w wx → Calls Tryz.prog 21 #[.slice (some ⟨b, off0 + 32, none⟩) n cp] wx fun e w' => ∃ r g, e = .returned (.tuple #[.pointer (some ⟨r, 0, none⟩), .bool true]) ∧ RfP wx r g 32 n (ofN (Vw z [])) emp w') := Lib.hid (fun wx cp gx => (COF.out wx cp gx).mono (by
          rintro e w' (⟨_, k1⟩ | ⟨k1, _⟩)
          · exact k1
          · exact absurd hof k1))
        have HVOL : Hid (IsVol (Vw z []) n (ofN (Vw z []))) := Lib.hid (of_vol (fun i hi => by
          show (homH z i).data.toList.length = 64
          rw [toL_size, h64h i hi]) hof)
        have HBD : Hid (∀ q, q < 32 → ((ofN (Vw z [])) q).data.length ≤ 2368) := Lib.hid (fun q hq => (vol_node HVOL.out hq).1)
        clear CM0 hw0 h64h COF hof hwt H5
        generalize ofN (Vw z []) = N at *
        go_upto_region 10 with (go_at_call 24; refine CM.out.mono ?_; rintro e w6 ⟨V, rfl, h6⟩; have H6 := Lib.hid h6; clear h6)
        go_upto_region 15 with (go_at_call 21; refine (COK.out _ _ H6.out.sub).mono ?_; rintro e w7 ⟨r, g, rfl, h7⟩; have H7 := Lib.hid (ms_enter H6.out HVOL.out h7); clear h7)
        clear CM COK H6 HVOL e1 e2 q5 q6 q7 q8 q9
        obtain ⟨x, hx⟩ := statV_is N k
        have CV0 := m_stat H7.out stable_emp HLI.out k
        rw [hx] at CV0
        have CV := Lib.hid CV0
        have CST : Hid (∀ wx R, MS w d z l ml n V r g 32 R N N wx → Calls Tryz.prog 32 #[.pointer (some ⟨r, 0, none⟩), .int .i64 k] wx fun e w' => e = .returned (.tuple #[.agg (statL x), .int .i64 (findN N k)]) ∧ Gr wx w') := Lib.hid (fun wx R hw => by
          have h := c_stat8 (ms_at hw) HBD.out k
          rw [hx] at h
          exact h)
        have HI := Lib.hid (stat_info x)
        have HSO := Lib.hid (stat_one x)
        have HZZ := Lib.hid stat_zero
        clear CV0 hx
        go_upto_region 16 with (first
          | (go_at_call 31; refine CV.out.mono ?_; rintro e w8 ⟨rfl, h8⟩; have H8 := Lib.hid h8; clear h8)
          | (refine wpList_alloc_blk rfl 56 stat0 rfl (HZZ.out _) ?_)
          | (refine wpList_store_row rfl _ _ _ rfl w8.heap.size (statL x) rfl rfl _ _ (blk_new w8 _) HI.out rfl HSO.out ?_))
        have H9 := Lib.hid (ms_set (ms_box H8.out stable_emp (.cells stat0 56)) stable_emp (statL x))
        generalize (World.setRow _ _ _) = w9 at *
        generalize w8.heap.size = B1 at *
        clear CV H7 H8
        have HT1 : Hid (Stable (Star (blkA B1 (.cells (statL x) 56)) emp)) := Lib.hid (stable_star (stable_blk _ _) stable_emp)
        go_upto_region 17 with (first
          | (go_at_call 32; refine (CST.out _ _ H9.out).mono ?_; rintro e wa ⟨rfl, ga⟩; have HA1 := Lib.hid (H9.out.gr HT1.out ga); clear ga)
          | (refine wpList_alloc_blk rfl 56 stat0 rfl (HZZ.out _) ?_)
          | (refine wpList_store_row rfl _ _ _ rfl wa.heap.size (statL x) rfl rfl _ _ (blk_new wa _) HI.out rfl HSO.out ?_))
        have HB := Lib.hid (ms_set (ms_box HA1.out HT1.out (.cells stat0 56)) HT1.out (statL x))
        generalize (World.setRow _ _ _) = wb at *
        generalize wa.heap.size = B2 at *
        clear CST H9 HA1
        have HT2 : Hid (Stable (Star (blkA B2 (.cells (statL x) 56)) (Star (blkA B1 (.cells (statL x) 56)) emp))) := Lib.hid (stable_star (stable_blk _ _) HT1.out)
        have CRD := Lib.hid (m_read HB.out HT2.out HLI.out k off 3000 hoff (by omega))
        go_upto_region 18 with (go_at_call 33; refine CRD.out.mono ?_; rintro e wc ⟨rfl, hc⟩; have HCC := Lib.hid hc; clear hc)
        clear CRD HB
        have CRR := Lib.hid (c_read8 (ms_at HCC.out) HBD.out k off 3000 hoff (by omega))
        go_upto_region 19 with (go_at_call 34; refine CRR.out.mono ?_; rintro e w' ⟨rfl, hw'⟩; rw [hw']; clear hw' w')
        clear CRR
        have CRM := Lib.hid (m_room HCC.out HT2.out HLI.out)
        go_upto_region 20 with (go_at_call 25; refine CRM.out.mono ?_; rintro e we ⟨rfl, he⟩; have HEE := Lib.hid he; clear he)
        clear CRM HCC
        have CRX := Lib.hid (c_room8 (ms_at HEE.out) (by omega) HBD.out)
        have bB1 := (ms_rest HEE.out).right.blk
        have bB2 := (ms_rest HEE.out).blk
        have HSB := Lib.hid (ms_rest HEE.out).sub
        clear HEE HBD
        generalize roomN N n = rm at *
        generalize readN N k off 3000 = rd at *
        generalize findN N k = fd at *
        go_wp2_with (first
          | (refine wpList_load_g8 (by first | rfl | fail) 56 _ rfl B1 rfl 56 _ (0, 0) _ bB1 Tryz.underlying56 rfl HI.out ?_)
          | (refine wpList_load_g8 (by first | rfl | fail) 56 _ rfl B2 rfl 56 _ (0, 0) _ bB2 Tryz.underlying56 rfl HI.out ?_)
          | (refine wpList_eqStG (by first | rfl | fail) _ _ _ rfl x rfl rfl ?_)
          | (go_at_call 26; refine CRX.out.mono ?_; rintro e w' ⟨rfl, hw'⟩; rw [hw']; clear hw' w'))
        go_ret
        exact ⟨by first | rfl | simp, HSB.out⟩
      · have hwt : wholeF (Vw z []) n = false := Bool.eq_false_iff.2 fun h => hof (hw0.1 h)
        have CM : Hid (Calls Tryz.prog 24 #[.pointer (some ⟨l, 0, none⟩)] w5 fun e w' => e = .returned (.tuple #[.pointer none, .int .i64 6]) ∧ Own w w' (DL d z l ml [] false emp)) := Lib.hid (CM0.mono (by
          rintro e w' (⟨k1, _⟩ | ⟨_, k1⟩)
          · rw [hwt] at k1; cases k1
          · exact k1))
        have COK : Hid (∀ wx cp, Gr w wx → Calls Tryz.prog 21 #[.slice (some ⟨b, off0 + 32, none⟩) n cp] wx fun e w' => e = .returned (.tuple #[.pointer none, .bool false]) ∧ Gr wx w') := Lib.hid (fun wx cp gx => (COF.out wx cp gx).mono (by
          rintro e w' (⟨k1, _⟩ | ⟨_, k1⟩)
          · exact absurd k1 hof
          · exact k1))
        clear CM0 hw0 h64h COF hof hwt H5
        go_upto_region 10 with (go_at_call 24; refine CM.out.mono ?_; rintro e w6 ⟨rfl, h6⟩; have H6 := Lib.hid h6.sub; clear h6)
        go_wp2_with (go_at_call 21; refine (COK.out _ _ H6.out).mono ?_; rintro e w7 ⟨rfl, g7⟩; have G7 := Lib.hid (gtrans H6.out g7); clear g7)
        go_ret
        exact ⟨rfl, G7.out⟩
    | true =>
      clear HBZ
      go_wp2_with fail
      go_ret
      exact ⟨rfl, G3.out⟩
  · have hokf : okRow A = false := by
      cases h : okRow A with
      | true => exact absurd h hok
      | false => rfl
    have CO : Hid (∀ w1, Gr w w1 → Calls Tryz.prog 27 #[.slice o A.length cap] w1 fun e w' => e = .returned (.pointer none) ∧ Gr w1 w') := Lib.hid (fun w1 g1 => e_of_no w1 o cap A hlA (hA.gr g1) hokf)
    clear hok hokf hA
    generalize A.length = len at *
    go_enter Tryz.func4, Tryz.ntmps4
    go_upto_region 2 with (go_at_call 11; refine CS.out.mono ?_; rintro e w1 ⟨rfl, g1⟩; have G1 := Lib.hid g1; clear g1)
    go_upto_region 3 with (go_at_call 27; refine (CO.out _ G1.out).mono ?_; rintro e w2 ⟨rfl, g2⟩; have G2 := Lib.hid (gtrans G1.out g2); clear g2)
    go_quiet (fail)
    go_wp2_with fail
    go_ret
    exact ⟨rfl, gtrans G2.out (Gr.drewN (Gr.refl _) _)⟩
end Go.Proofs.YtlpcccpagmipnaaGreat.P
