/- Stage 8: an act on a volume and on the reference's. No condition. -/
import Derived.Test.YtlpcccpagmipnaaGreatYS
import Derived.Test.YtlpcccpagmipnaaGreatYO
set_option linter.unusedVariables false
set_option linter.unusedSimpArgs false
set_option maxRecDepth 100000
namespace Go.Proofs.YtlpcccpagmipnaaGreat.P
open Go.RowKit Go.ChangeMaps Go.MapKept
theorem statV_is (N : Nat → NodeA) (k : Int) : ∃ x : Ino, statV N k = statL x := by
  unfold statV
  split
  · exact ⟨i0, rfl⟩
  · exact ⟨⟨(N k.toNat).kind, (N k.toNat).links, (N k.toNat).data.length, []⟩, rfl⟩
theorem eqS_self (x : Ino) (w : World) : (Op.equalIn 10000 56 (.agg (statL x)) (.agg (statL x))).run Tryz.prog w = .ok true w := by
  have h1 : Tryz.prog.stoodInHeld 56 = false := by kernel_rfl
  have p0 : (part 3 (statL x) 0).run Tryz.prog w = .ok (.int .i64 (x.kind : Int)) w := run_part_plain w (by kernel_rfl) rfl
  have p1 : (part 3 (statL x) 1).run Tryz.prog w = .ok (.int .i64 (x.links : Int)) w := run_part_plain w (by kernel_rfl) rfl
  have p2 : (part 3 (statL x) 2).run Tryz.prog w = .ok (.int .i64 (x.size : Int)) w := run_part_plain w (by kernel_rfl) rfl
  have e0 := int_eq (x.kind : Int) (x.kind : Int) 9998 w
  have e1 := int_eq (x.links : Int) (x.links : Int) 9998 w
  have e2 := int_eq (x.size : Int) (x.size : Int) 9998 w
  rw [beq_self_eq_true] at e0 e1 e2
  generalize statL x = X at *
  generalize (x.kind : Int) = a at *
  generalize (x.links : Int) = b at *
  generalize (x.size : Int) = s at *
  unfold Op.equalIn
  simp [Sem.run_bind, run_underlying Tryz.underlying56, h1, p0, p1, p2, e0, e1, e2]
theorem wpList_eqStS {ops : Array Oper} {rest : List Oper} {o : Oper} {a : Act} {w : World} {Q : Exit → Act → World → Prop} (hg : o.guard = none) (x y : Operand) (t2 : TypeId) (hop : o.op = .binOp .eql 56 x y t2) (X : Ino) (ex : a.eval x = .agg (statL X)) (ey : a.eval y = .agg (statL X))
    (h : wpList Tryz.prog ops Q rest (a.put o.dst (.bool true)) w) : wpList Tryz.prog ops Q (o :: rest) a w := by
  have hm : Tryz.prog.eqGuardType Tryz.prog.depth 56 = false := Tryz.eqGuardType56
  have h1 := run_eqGuard_agg (P := Tryz.prog) w .eql 56 x y (statL X) (statL X) hm
  have h2 := run_eql_struct (P := Tryz.prog) w 56 (statL X) (statL X)
  rw [eqS_self X w] at h2
  generalize statL X = XA at *
  refine wpList_plain hg fun K' hK' => ?_
  unfold Oper.wp
  have e : (execOp a.eval o).run Tryz.prog w = .ok (.value (.bool true)) w := by
    unfold execOp
    simp [hop, ex, ey, Sem.run_bind, h1, h2]
  rw [e]
  exact hK' _ _ h
/-- A volume and a reference's, side by side. -/
def MS (w0 : World) (d : Nat) (z : DState) (l ml n V r g c : Nat) (R : Asn) (N' N : Nat → NodeA) (w : World) : Prop := ∃ st cs, okSt (n + 32) st ∧ IsVol (Vw z st) n N' ∧ RefOk cs N ∧ Own w0 w (VL d z l ml st V (Star (rfA r g c n) (Star (rnA g cs) R)))
section
variable {w0 w : World} {d : Nat} {z : DState} {l ml n V r g c : Nat} {R : Asn} {N N' : Nat → NodeA}
theorem ms_volp {cs : Array Value} {m : Nat} (hc : RefOk cs N) (h : VolP w0 d z l ml n V (Star (rfA r g c n) (Star (rnA g cs) R)) m N' w) : MS w0 d z l ml n V r g c R N' N w := by
  obtain ⟨st, h1, h2, h3, _⟩ := h
  exact ⟨st, cs, h1, h3, hc, h2⟩
theorem ms_ref {f : FuncId} {args : Array Value} {v : Value} {M : Nat → NodeA} (h : MS w0 d z l ml n V r g c R N' N w) (hs : Stable R) (hc : ∀ R0, Stable R0 → RfP w0 r g c n N R0 w → Calls Tryz.prog f args w fun e w' => e = .returned v ∧ RfP w0 r g c n M R0 w') :
    Calls Tryz.prog f args w fun e w' => e = .returned v ∧ MS w0 d z l ml n V r g c R N' M w' := by
  obtain ⟨st, cs, h1, h2, h3, h4⟩ := h
  have h5 : Own w0 w (Star (rfA r g c n) (Star (rnA g cs) (VL d z l ml st V R))) := h4.ac (by unfold VL DL; ac_rfl)
  have hsV : Stable (VL d z l ml st V R) := stable_dl _ _ _ _ _ _ (stable_star (stable_blk _ _) hs)
  refine (hc _ hsV ⟨cs, h3, h5⟩).mono ?_
  rintro e w' ⟨rfl, cs', k1, k2⟩
  exact ⟨rfl, st, cs', h1, h2, k1, k2.ac (by unfold VL DL; ac_rfl)⟩
theorem ms_at (h : MS w0 d z l ml n V r g c R N' N w) : RefAt w r g c n N := by
  obtain ⟨st, cs, h1, h2, h3, h4⟩ := h
  have h5 : Own w0 w (Star (rfA r g c n) (Star (rnA g cs) (VL d z l ml st V R))) := h4.ac (by unfold VL DL; ac_rfl)
  exact RfP.rf ⟨cs, h3, h5⟩
theorem MS.gr (h : MS w0 d z l ml n V r g c R N' N w) (hs : Stable R) {w' : World} (k : Gr w w') : MS w0 d z l ml n V r g c R N' N w' := by
  obtain ⟨st, cs, h1, h2, h3, h4⟩ := h
  exact ⟨st, cs, h1, h2, h3, h4.gr (stable_dl _ _ _ _ _ _ (stable_star (stable_blk _ _) (stable_star (stable_blk _ _) (stable_star (stable_blk _ _) hs)))) k⟩
theorem ms_rest (h : MS w0 d z l ml n V r g c R N' N w) : Own w0 w R := by
  obtain ⟨st, cs, h1, h2, h3, h4⟩ := h
  exact h4.right.right.right.right.right
theorem ms_drop {A : Asn} (h : MS w0 d z l ml n V r g c (Star A R) N' N w) : MS w0 d z l ml n V r g c R N' N w := by
  obtain ⟨st, cs, h1, h2, h3, h4⟩ := h
  have h5 : Own w0 w (Star A (VL d z l ml st V (Star (rfA r g c n) (Star (rnA g cs) R)))) := h4.ac (by unfold VL DL; ac_rfl)
  exact ⟨st, cs, h1, h2, h3, h5.right⟩
theorem ms_box (h : MS w0 d z l ml n V r g c R N' N w) (hs : Stable R) (o : Obj) : MS w0 d z l ml n V r g c (Star (blkA w.heap.size o) R) N' N (w.alloc o) := by
  obtain ⟨st, cs, h1, h2, h3, h4⟩ := h
  have h5 := h4.alloc (stable_dl _ _ _ _ _ _ (stable_star (stable_blk _ _) (stable_star (stable_blk _ _) (stable_star (stable_blk _ _) hs)))) o
  exact ⟨st, cs, h1, h2, h3, h5.ac (by unfold VL DL; ac_rfl)⟩
theorem ms_set {B : Nat} {xs : Array Value} {T : TypeId} (h : MS w0 d z l ml n V r g c (Star (blkA B (.cells xs T)) R) N' N w) (hs : Stable R) (ys : Array Value) : MS w0 d z l ml n V r g c (Star (blkA B (.cells ys T)) R) N' N (w.setRow B ys) := by
  obtain ⟨st, cs, h1, h2, h3, h4⟩ := h
  have h5 : Own w0 w (Star (blkA B (.cells xs T)) (VL d z l ml st V (Star (rfA r g c n) (Star (rnA g cs) R)))) := h4.ac (by unfold VL DL; ac_rfl)
  have h6 := h5.setRow (stable_dl _ _ _ _ _ _ (stable_star (stable_blk _ _) (stable_star (stable_blk _ _) (stable_star (stable_blk _ _) hs)))) ys
  exact ⟨st, cs, h1, h2, h3, h6.ac (by unfold VL DL; ac_rfl)⟩
set_option maxHeartbeats 6400000 in
theorem c_does8 {st : List (Int × ByteArray)} {cs : Array Value} (h : Own w0 w (VL d z l ml st V (Star (rfA r g c n) (Star (rnA g cs) R)))) (hc : RefOk cs N) (hs : Stable R) (hz : LI z n) (hst : okSt (n + 32) st) (hV : IsVol (Vw z st) n N) (ak an ao am : Int) (s : ByteArray) (ho : ao ≤ 9223372036854775807) (hm : am ≤ 9223372036854775807) (hss : s.size ≤ 9223372036854775807) :
    Calls Tryz.prog 19 #[.pointer (some ⟨V, 0, none⟩), .pointer (some ⟨r, 0, none⟩), .agg #[.int .i64 ak, .int .i64 an, .int .i64 ao, .int .i64 am, .string s], .bool (decide (16 < st.length))] w fun e w' => e = .returned (.bool true) ∧ ∃ N', MS w0 d z l ml n V r g c R N' N' w' := by
  have hhi := hz.hi
  have HND : Hid (∀ q, q < 32 → (N q).data.length ≤ 2368) := Lib.hid (fun q hq => (vol_node hV hq).1)
  have HNL : Hid (∀ q, q < 32 → (N q).links ≤ 255) := Lib.hid (fun q hq => (vol_node hV hq).2.1)
  have h0 : MS w0 d z l ml n V r g c R N N w := ⟨st, cs, hst, hV, hc, h⟩
  have h1 := ms_box h0 hs (.cells #[.int .i64 ak, .int .i64 an, .int .i64 ao, .int .i64 am, .string s] 39)
  have h4 := h.alloc (stable_dl _ _ _ _ _ _ (stable_star (stable_blk _ _) (stable_star (stable_blk _ _) (stable_star (stable_blk _ _) hs)))) (.cells #[.int .i64 ak, .int .i64 an, .int .i64 ao, .int .i64 am, .string s] 39)
  obtain ⟨A, hA⟩ : ∃ A, A = w.heap.size := ⟨_, rfl⟩
  rw [← hA] at h1 h4
  have H4 : Hid (Own w0 (w.alloc (.cells #[.int .i64 ak, .int .i64 an, .int .i64 ao, .int .i64 am, .string s] 39)) (VL d z l ml st V (Star (rfA r g c n) (Star (rnA g cs) (Star (blkA A (.cells #[.int .i64 ak, .int .i64 an, .int .i64 ao, .int .i64 am, .string s] 39)) R))))) := Lib.hid (h4.ac (by unfold VL DL; ac_rfl))
  have H1 := Lib.hid h1
  have HS1 : Hid (Stable (Star (blkA A (.cells #[.int .i64 ak, .int .i64 an, .int .i64 ao, .int .i64 am, .string s] 39)) R)) := Lib.hid (stable_star (stable_blk _ _) hs)
  have HSR : Hid (Stable (Star (rfA r g c n) (Star (rnA g cs) (Star (blkA A (.cells #[.int .i64 ak, .int .i64 an, .int .i64 ao, .int .i64 am, .string s] 39)) R)))) := Lib.hid (stable_star (stable_blk _ _) (stable_star (stable_blk _ _) HS1.out))
  have HCE : Hid (∀ wx M M', MS w0 d z l ml n V r g c (Star (blkA A (.cells #[.int .i64 ak, .int .i64 an, .int .i64 ao, .int .i64 am, .string s] 39)) R) M M' wx → wx.cell? ⟨A, 0, none⟩ = some (.int .i64 ak) ∧ wx.cell? ⟨A, 1, none⟩ = some (.int .i64 an) ∧ wx.cell? ⟨A, 2, none⟩ = some (.int .i64 ao) ∧ wx.cell? ⟨A, 3, none⟩ = some (.int .i64 am) ∧ wx.cell? ⟨A, 4, none⟩ = some (.string s)) := Lib.hid (fun wx M M' hw => ⟨blk_cell (ms_rest hw).blk 0 rfl, blk_cell (ms_rest hw).blk 1 rfl, blk_cell (ms_rest hw).blk 2 rfl, blk_cell (ms_rest hw).blk 3 rfl, blk_cell (ms_rest hw).blk 4 rfl⟩)
  have HD : Hid (∀ wx M, MS w0 d z l ml n V r g c (Star (blkA A (.cells #[.int .i64 ak, .int .i64 an, .int .i64 ao, .int .i64 am, .string s] 39)) R) M M wx → ∃ N', MS w0 d z l ml n V r g c R N' N' wx) := Lib.hid (fun wx M hw => ⟨M, ms_drop hw⟩)
  have HC := Lib.hid hc
  have HV := Lib.hid hV
  have HZ := Lib.hid hz
  have HST := Lib.hid hst
  have HA := Lib.hid hA
  have HFU : Hid (∃ full, full = decide (16 < st.length)) := Lib.hid ⟨_, rfl⟩
  clear h h0 h1 h4 hc hz hst hV hA hs
  generalize hgw : w.alloc (.cells #[.int .i64 ak, .int .i64 an, .int .i64 ao, .int .i64 am, .string s] 39) = w1 at *
  have HGW := Lib.hid hgw
  clear hgw
  obtain ⟨c0, c1, c2, c3, c4⟩ := HCE.out _ _ _ H1.out
  generalize hfu : decide (16 < st.length) = full at *
  have HF := Lib.hid hfu
  clear hfu HFU
  by_cases k1 : ak = 1
  · have b1 : (ak == 1) = true := beq_iff_eq.2 k1
    have CV0 := o_vnew H4.out HSR.out HZ.out HST.out HV.out an
    rw [HF.out] at CV0
    have CV := Lib.hid CV0
    clear CV0
    clear k1
    go_enter Tryz.func19, Tryz.ntmps19
    go_upto_region 1 with fail
    rw [HGW.out, ← HA.out]
    clear HGW HA
    go_upto_region 4 with (go_at_call 35; refine CV.out.mono ?_; rintro e w5 ⟨rfl, h5⟩; have H5 := Lib.hid (ms_volp HC.out h5); clear h5)
    clear c0 c1 c2 c3 c4 CV H4 H1
    obtain ⟨c0, c1, c2, c3, c4⟩ := HCE.out _ _ _ H5.out
    have CR := Lib.hid (ms_ref H5.out HS1.out fun R0 hs0 h0 => r_add h0 hs0 an full)
    go_wp2_with (go_at_call 50; refine CR.out.mono ?_; rintro e w6 ⟨rfl, h6⟩; have H6 := Lib.hid h6; clear h6)
    go_ret
    exact ⟨by first | rfl | simp, HD.out _ _ H6.out⟩
  · have b1 : (ak == 1) = false := beq_eq_false_iff_ne.2 k1
    clear k1
    by_cases k2 : ak = 2
    · have b2 : (ak == 2) = true := beq_iff_eq.2 k2
      have CV0 := o_vfree H4.out HSR.out HZ.out HST.out HV.out an
      rw [HF.out] at CV0
      have CV := Lib.hid CV0
      clear CV0
      clear k2
      go_enter Tryz.func19, Tryz.ntmps19
      go_upto_region 1 with fail
      rw [HGW.out, ← HA.out]
      clear HGW HA
      go_upto_region 8 with (go_at_call 37; refine CV.out.mono ?_; rintro e w5 ⟨rfl, h5⟩; have H5 := Lib.hid (ms_volp HC.out h5); clear h5)
      clear c0 c1 c2 c3 c4 CV H4 H1
      obtain ⟨c0, c1, c2, c3, c4⟩ := HCE.out _ _ _ H5.out
      have CR := Lib.hid (ms_ref H5.out HS1.out fun R0 hs0 h0 => r_free h0 hs0 an full)
      go_wp2_with (go_at_call 51; refine CR.out.mono ?_; rintro e w6 ⟨rfl, h6⟩; have H6 := Lib.hid h6; clear h6)
      go_ret
      exact ⟨by first | rfl | simp, HD.out _ _ H6.out⟩
    · have b2 : (ak == 2) = false := beq_eq_false_iff_ne.2 k2
      clear k2
      by_cases k3 : ak = 3
      · have b3 : (ak == 3) = true := beq_iff_eq.2 k3
        obtain ⟨x, hx⟩ := statV_is N an
        have CV0 := o_vstat H4.out HSR.out HZ.out HST.out HV.out an
        rw [hx] at CV0
        have CV := Lib.hid CV0
        have CST : Hid (∀ wx c', RefAt wx r g c' n N → Calls Tryz.prog 32 #[.pointer (some ⟨r, 0, none⟩), .int .i64 an] wx fun e w' => e = .returned (.tuple #[.agg (statL x), .int .i64 (findN N an)]) ∧ Gr wx w') := Lib.hid (fun wx c' hw => by
          have h := c_stat8 hw HND.out an
          rw [hx] at h
          exact h)
        have HI := Lib.hid (stat_info x)
        have HS := Lib.hid (stat_one x)
        have HZZ := Lib.hid stat_zero
        clear CV0 hx k3
        go_enter Tryz.func19, Tryz.ntmps19
        go_upto_region 1 with fail
        rw [HGW.out, ← HA.out]
        clear HGW HA
        go_upto_region 12 with (first
          | (go_at_call 31; refine CV.out.mono ?_; rintro e w5 ⟨rfl, h5⟩; have H5 := Lib.hid (⟨st, cs, HST.out, HV.out, HC.out, h5⟩ : MS w0 d z l ml n V r g c _ N N _); clear h5)
          | (refine wpList_alloc_blk rfl 56 stat0 rfl (HZZ.out _) ?_)
          | (refine wpList_store_row rfl _ _ _ rfl w5.heap.size (statL x) rfl rfl _ _ (blk_new w5 _) HI.out rfl HS.out ?_))
        have H6 := Lib.hid (ms_set (ms_box H5.out HS1.out (.cells stat0 56)) HS1.out (statL x))
        generalize (World.setRow _ _ _) = w6 at *
        generalize w5.heap.size = B1 at *
        clear c0 c1 c2 c3 c4 CV H4 H1 H5
        have c1 : w6.cell? ⟨A, 1, none⟩ = some (.int .i64 an) := blk_cell (ms_rest H6.out).right.blk 1 rfl
        have CR := Lib.hid (CST.out _ _ (ms_at H6.out))
        have HS2 : Hid (Stable (Star (blkA B1 (.cells (statL x) 56)) (Star (blkA A (.cells #[.int .i64 ak, .int .i64 an, .int .i64 ao, .int .i64 am, .string s] 39)) R))) := Lib.hid (stable_star (stable_blk _ _) HS1.out)
        go_upto_region 13 with (first
          | (go_at_call 32; refine CR.out.mono ?_; rintro e w7 ⟨rfl, g7⟩; have H7 := Lib.hid (H6.out.gr HS2.out g7); clear g7)
          | (refine wpList_alloc_blk rfl 56 stat0 rfl (HZZ.out _) ?_)
          | (refine wpList_store_row rfl _ _ _ rfl w7.heap.size (statL x) rfl rfl _ _ (blk_new w7 _) HI.out rfl HS.out ?_))
        have H8 := Lib.hid (ms_set (ms_box H7.out HS2.out (.cells stat0 56)) HS2.out (statL x))
        generalize (World.setRow _ _ _) = w8 at *
        generalize w7.heap.size = B2 at *
        clear c1 CR H6 H7
        have bB1 := (ms_rest H8.out).right.blk
        have bB2 := (ms_rest H8.out).blk
        go_wp2_with (first
          | (refine wpList_load_row rfl _ _ rfl B1 rfl _ (statL x) (0, 0) _ bB1 Tryz.underlying56 rfl HI.out ?_)
          | (refine wpList_load_row rfl _ _ rfl B2 rfl _ (statL x) (0, 0) _ bB2 Tryz.underlying56 rfl HI.out ?_)
          | (refine wpList_eqStS rfl _ _ _ rfl x rfl rfl ?_))
        go_ret
        exact ⟨by first | rfl | simp, HD.out _ _ (ms_drop (ms_drop H8.out))⟩
      · have b3 : (ak == 3) = false := beq_eq_false_iff_ne.2 k3
        clear k3
        by_cases k4 : ak = 4
        · have b4 : (ak == 4) = true := beq_iff_eq.2 k4
          have CV0 := o_vlink H4.out HSR.out HZ.out HST.out HV.out an ao
          rw [HF.out] at CV0
          have CV := Lib.hid CV0
          clear CV0
          clear k4
          go_enter Tryz.func19, Tryz.ntmps19
          go_upto_region 1 with fail
          rw [HGW.out, ← HA.out]
          clear HGW HA
          go_upto_region 16 with (go_at_call 38; refine CV.out.mono ?_; rintro e w5 ⟨rfl, h5⟩; have H5 := Lib.hid (ms_volp HC.out h5); clear h5)
          clear c0 c1 c2 c3 c4 CV H4 H1
          obtain ⟨c0, c1, c2, c3, c4⟩ := HCE.out _ _ _ H5.out
          have CR := Lib.hid (ms_ref H5.out HS1.out fun R0 hs0 h0 => r_link h0 hs0 HNL.out an ao full)
          go_wp2_with (go_at_call 52; refine CR.out.mono ?_; rintro e w6 ⟨rfl, h6⟩; have H6 := Lib.hid h6; clear h6)
          go_ret
          exact ⟨by first | rfl | simp, HD.out _ _ H6.out⟩
        · have b4 : (ak == 4) = false := beq_eq_false_iff_ne.2 k4
          clear k4
          by_cases k5 : ak = 5
          · have b5 : (ak == 5) = true := beq_iff_eq.2 k5
            have CV0 := o_vread H4.out HSR.out HZ.out HST.out HV.out an ao am ho hm
            have CV := Lib.hid CV0
            clear CV0
            clear k5
            go_enter Tryz.func19, Tryz.ntmps19
            go_upto_region 1 with fail
            rw [HGW.out, ← HA.out]
            clear HGW HA
            go_upto_region 20 with (go_at_call 33; refine CV.out.mono ?_; rintro e w5 ⟨rfl, h5⟩; have H5 := Lib.hid ((⟨st, cs, HST.out, HV.out, HC.out, h5⟩ : MS w0 d z l ml n V r g c _ N N _)); clear h5)
            clear c0 c1 c2 c3 c4 CV H4 H1
            obtain ⟨c0, c1, c2, c3, c4⟩ := HCE.out _ _ _ H5.out
            have CR := Lib.hid (c_read8 (ms_at H5.out) HND.out an ao am ho hm)
            go_wp2_with (go_at_call 34; refine CR.out.mono ?_; rintro e w6 ⟨rfl, hw6⟩; rw [hw6]; clear hw6 w6)
            go_ret
            exact ⟨by first | rfl | simp, HD.out _ _ H5.out⟩
          · have b5 : (ak == 5) = false := beq_eq_false_iff_ne.2 k5
            clear k5
            by_cases k6 : ak = 6
            · have b6 : (ak == 6) = true := beq_iff_eq.2 k6
              have CV0 := o_vwrite H4.out HSR.out HZ.out HST.out HV.out an ao s
              rw [HF.out] at CV0
              have CV := Lib.hid CV0
              clear CV0
              clear k6
              go_enter Tryz.func19, Tryz.ntmps19
              go_upto_region 1 with fail
              rw [HGW.out, ← HA.out]
              clear HGW HA
              go_upto_region 24 with (go_at_call 36; refine CV.out.mono ?_; rintro e w5 ⟨rfl, h5⟩; have H5 := Lib.hid (ms_volp HC.out h5); clear h5)
              clear c0 c1 c2 c3 c4 CV H4 H1
              obtain ⟨c0, c1, c2, c3, c4⟩ := HCE.out _ _ _ H5.out
              have CR := Lib.hid (ms_ref H5.out HS1.out fun R0 hs0 h0 => r_write h0 hs0 (by omega) HND.out an ao s full ho hss)
              go_wp2_with (go_at_call 53; refine CR.out.mono ?_; rintro e w6 ⟨rfl, h6⟩; have H6 := Lib.hid h6; clear h6)
              go_ret
              exact ⟨by first | rfl | simp, HD.out _ _ H6.out⟩
            · have b6 : (ak == 6) = false := beq_eq_false_iff_ne.2 k6
              clear k6
              by_cases k7 : ak = 7
              · have b7 : (ak == 7) = true := beq_iff_eq.2 k7
                have CV0 := o_vcut H4.out HSR.out HZ.out HST.out HV.out an ao
                rw [HF.out] at CV0
                have CV := Lib.hid CV0
                clear CV0
                clear k7
                go_enter Tryz.func19, Tryz.ntmps19
                go_upto_region 1 with fail
                rw [HGW.out, ← HA.out]
                clear HGW HA
                go_upto_region 28 with (go_at_call 39; refine CV.out.mono ?_; rintro e w5 ⟨rfl, h5⟩; have H5 := Lib.hid (ms_volp HC.out h5); clear h5)
                clear c0 c1 c2 c3 c4 CV H4 H1
                obtain ⟨c0, c1, c2, c3, c4⟩ := HCE.out _ _ _ H5.out
                have CR := Lib.hid (ms_ref H5.out HS1.out fun R0 hs0 h0 => r_cut h0 hs0 an ao full ho)
                go_wp2_with (go_at_call 54; refine CR.out.mono ?_; rintro e w6 ⟨rfl, h6⟩; have H6 := Lib.hid h6; clear h6)
                go_ret
                exact ⟨by first | rfl | simp, HD.out _ _ H6.out⟩
              · have b7 : (ak == 7) = false := beq_eq_false_iff_ne.2 k7
                clear k7
                go_enter Tryz.func19, Tryz.ntmps19
                go_upto_region 1 with fail
                rw [HGW.out, ← HA.out]
                clear HGW HA
                go_wp2_with fail
                go_ret
                exact ⟨rfl, HD.out _ _ H1.out⟩
end
end Go.Proofs.YtlpcccpagmipnaaGreat.P
namespace Go.Proofs.YtlpcccpagmipnaaGreat.P
open Go.RowKit Go.ChangeMaps Go.MapKept
abbrev rfP2 (r g c n : Nat) (cs : Array Value) (R : Asn) : Asn := Star (rfA r g c n) (Star (rnA g cs) R)
theorem stable_rf2 (r g c n : Nat) (cs : Array Value) {R : Asn} (hs : Stable R) : Stable (rfP2 r g c n cs R) := stable_star (stable_blk _ _) (stable_star (stable_blk _ _) hs)
/-- A volume with what is staged, the reference's, and the reference's as it was committed. -/
def LS (w : World) (d n l V r g c r2 g2 c2 : Nat) (wx : World) : Prop := ∃ z ml st cs cs2 N M, Clean z (n + 32) ∧ okSt (n + 32) st ∧ IsVol (Vw z st) n N ∧ IsVol (Vw z []) n M ∧ RefOk cs N ∧ RefOk cs2 M ∧ Own w wx (VL d z l ml st V (rfP2 r g c n cs (rfP2 r2 g2 c2 n cs2 emp)))
/-- The same, nothing staged. -/
def LT (w : World) (d n l V r g c r2 g2 c2 : Nat) (wx : World) : Prop := ∃ z ml cs cs2 N, Clean z (n + 32) ∧ IsVol (Vw z []) n N ∧ RefOk cs N ∧ RefOk cs2 N ∧ Own w wx (VL d z l ml [] V (rfP2 r g c n cs (rfP2 r2 g2 c2 n cs2 emp)))
/-- A volume, nothing staged, with one reference's. -/
def LA (w : World) (d n l V r g c : Nat) (wx : World) : Prop := ∃ z ml cs N, Clean z (n + 32) ∧ IsVol (Vw z []) n N ∧ RefOk cs N ∧ Own w wx (VL d z l ml [] V (rfP2 r g c n cs emp))
def homH (z : DState) : Nat → ByteArray := fun i => getB false z [] (i : Int)
def LH (w : World) (d n l V r g c gh : Nat) (wx : World) : Prop := ∃ z ml cs N, Clean z (n + 32) ∧ IsVol (Vw z []) n N ∧ RefOk cs N ∧ Own w wx (VL d z l ml [] V (rfP2 r g c n cs emp)) ∧ HomeAt wx gh 32 n (homH z)
def LX (w : World) (d n l V r g c rx gx : Nat) (wx : World) : Prop := ∃ z ml cs N M, Clean z (n + 32) ∧ IsVol (Vw z []) n N ∧ RefOk cs N ∧ Own w wx (VL d z l ml [] V (rfP2 r g c n cs emp)) ∧ RefAt wx rx gx 32 n M ∧ ∀ q, q < 32 → M q = N q
section
variable {w wx : World} {d n l V r g c r2 g2 c2 : Nat}
theorem stable_vl8 {z : DState} {ml : Nat} {st : List (Int × ByteArray)} {R : Asn} (hs : Stable R) : Stable (VL d z l ml st V R) := stable_dl _ _ _ _ _ _ (stable_star (stable_blk _ _) hs)
theorem LS.sub (h : LS w d n l V r g c r2 g2 c2 wx) : Gr w wx := by
  obtain ⟨z, ml, st, cs, cs2, N, M, a1, a2, a3, a4, a5, a6, a7⟩ := h
  exact a7.sub
theorem LT.ls (h : LT w d n l V r g c r2 g2 c2 wx) : LS w d n l V r g c r2 g2 c2 wx := by
  obtain ⟨z, ml, cs, cs2, N, a1, a2, a3, a4, a5⟩ := h
  exact ⟨z, ml, [], cs, cs2, N, N, a1, ok_nil _, a2, a2, a3, a4, a5⟩
theorem t_does (h : LS w d n l V r g c r2 g2 c2 wx) (h1 : 16 ≤ n) (h2 : n ≤ 512) : ∃ q : Nat, Calls Tryz.prog 18 #[.pointer (some ⟨l, 0, none⟩)] wx (fun e w' => e = .returned (.int .i64 (q : Int)) ∧ w' = wx) ∧ q ≤ 30 ∧ ∀ (ak an ao am : Int) (s : ByteArray), ao ≤ 9223372036854775807 → am ≤ 9223372036854775807 → s.size ≤ 9223372036854775807 →
    Calls Tryz.prog 19 #[.pointer (some ⟨V, 0, none⟩), .pointer (some ⟨r, 0, none⟩), .agg #[.int .i64 ak, .int .i64 an, .int .i64 ao, .int .i64 am, .string s], .bool (decide (16 < q))] wx fun e w' => e = .returned (.bool true) ∧ LS w d n l V r g c r2 g2 c2 w' := by
  obtain ⟨z, ml, st, cs, cs2, N, M, a1, a2, a3, a4, a5, a6, a7⟩ := h
  refine ⟨st.length, o_staged a7, a2.2.1, fun ak an ao am s b1 b2 b3 => ?_⟩
  refine (c_does8 a7 a5 (stable_rf2 _ _ _ _ _ stable_emp) (li_of a1 h1 h2) a2 a3 ak an ao am s b1 b2 b3).mono ?_
  rintro e w' ⟨rfl, N', st', cs', k1, k2, k3, k4⟩
  exact ⟨rfl, z, ml, st', cs', cs2, N', M, a1, k1, k2, a4, k3, a6, k4⟩
theorem t_abort (h : LS w d n l V r g c r2 g2 c2 wx) : Calls Tryz.prog 20 #[.pointer (some ⟨l, 0, none⟩)] wx fun e w' => e = .returned (.tuple #[]) ∧ LA w d n l V r2 g2 c2 w' := by
  obtain ⟨z, ml, st, cs, cs2, N, M, a1, a2, a3, a4, a5, a6, a7⟩ := h
  refine (o_abort a7 (stable_star (stable_blk _ _) (stable_rf2 _ _ _ _ _ (stable_rf2 _ _ _ _ _ stable_emp)))).mono ?_
  rintro e w' ⟨rfl, k1⟩
  have k2 : Own w w' (Star (rfA r g c n) (Star (rnA g cs) (VL d z l ml [] V (rfP2 r2 g2 c2 n cs2 emp)))) := k1.ac (by unfold rfP2 VL DL; ac_rfl)
  exact ⟨rfl, z, ml, cs2, M, a1, a4, a6, k2.right.right⟩
theorem t_copy (h : LA w d n l V r g c wx) : Calls Tryz.prog 17 #[.pointer (some ⟨r, 0, none⟩)] wx fun e w' => ∃ r2 g2 c2, e = .returned (.pointer (some ⟨r2, 0, none⟩)) ∧ LT w d n l V r2 g2 c2 r g c w' ∧ LT w d n l V r g c r2 g2 c2 w' := by
  obtain ⟨z, ml, cs, N, a1, a2, a3, a4⟩ := h
  have h5 : Own w wx (Star (rfA r g c n) (Star (rnA g cs) (VL d z l ml [] V emp))) := a4.ac (by unfold rfP2 VL DL; ac_rfl)
  refine (r_copy a3 h5 (stable_vl8 stable_emp)).mono ?_
  rintro e w' ⟨r2, g2, c2, cs2, rfl, k1, k2⟩
  exact ⟨r2, g2, c2, rfl, ⟨z, ml, cs2, cs, N, a1, a2, k1, a3, k2.ac (by unfold rfP2 VL DL; ac_rfl)⟩, ⟨z, ml, cs, cs2, N, a1, a2, a3, k1, k2.ac (by unfold rfP2 VL DL; ac_rfl)⟩⟩
theorem t_commit (h : LS w d n l V r g c r2 g2 c2 wx) (h1 : 16 ≤ n) (h2 : n ≤ 512) : Calls Tryz.prog 14 #[.pointer (some ⟨l, 0, none⟩)] wx fun e w' => e = .returned (.int .i64 0) ∧ LA w d n l V r g c w' := by
  obtain ⟨z, ml, st, cs, cs2, N, M, a1, a2, a3, a4, a5, a6, a7⟩ := h
  obtain ⟨v1, v2⟩ := vw_comm a1 h1 a2
  refine (o_comm a7 (stable_star (stable_blk _ _) (stable_rf2 _ _ _ _ _ (stable_rf2 _ _ _ _ _ stable_emp))) a1 (by omega) (by omega) a2).mono ?_
  rintro e w' ⟨rfl, k1⟩
  have k2 : Own w w' (Star (rfA r2 g2 c2 n) (Star (rnA g2 cs2) (VL d (commZ st z) l ml [] V (rfP2 r g c n cs emp)))) := k1.ac (by unfold rfP2 VL DL; ac_rfl)
  exact ⟨rfl, _, ml, cs, N, v1, by rw [v2]; exact a3, a5, k2.right.right⟩
theorem t_home (h : LA w d n l V r g c wx) (h1 : 16 ≤ n) : Calls Tryz.prog 22 #[.pointer (some ⟨d, 0, none⟩)] wx fun e w' => ∃ gh cp, e = .returned (.slice (some ⟨gh, 32, none⟩) n cp) ∧ LH w d n l V r g c gh w' := by
  obtain ⟨z, ml, cs, N, a1, a2, a3, a4⟩ := h
  have hl := a1.len
  refine (c_home8 (R := Star (lgA l d ml [] false) (Star (volA V l) (rfP2 r g c n cs emp))) a4 (stable_star (stable_lg _ _ _ _ _) (stable_star (stable_blk _ _) (stable_rf2 _ _ _ _ _ stable_emp))) (by omega)).mono ?_
  rintro e w' ⟨gh, cp, rfl, k1, k2⟩
  refine ⟨gh, cp, by rw [show z.safe.length - 32 = n by omega], z, ml, cs, N, a1, a2, a3, k2, ⟨fun i hi => ?_⟩⟩
  refine k1 i _ ?_
  unfold homH
  rw [get_clean a1 [] i (by omega)]
  have hlt : 32 + i < z.safe.length := by omega
  rw [List.getElem?_eq_getElem hlt]
  show some _ = some (getS z.safe (32 + i))
  unfold getS
  rw [List.getElem?_eq_getElem hlt]; rfl
theorem t_of {gh : Nat} (h : LH w d n l V r g c gh wx) (h1 : 16 ≤ n) (h2 : n ≤ 512) (cp : Nat) : Calls Tryz.prog 21 #[.slice (some ⟨gh, 32, none⟩) n cp] wx fun e w' => ∃ rx gx, e = .returned (.tuple #[.pointer (some ⟨rx, 0, none⟩), .bool true]) ∧ LX w d n l V r g c rx gx w' := by
  obtain ⟨z, ml, cs, N, a1, a2, a3, a4, a5⟩ := h
  obtain ⟨v1, v2⟩ := vol_of a2
  have hV : ∀ i, i < n → (homH z i).size = 64 := fun i hi => by
    obtain ⟨S, hr, _⟩ := a2
    have := hr.len i hi
    rw [← toL_size]
    exact this
  refine (c_of8 a5 hV (by omega) h2 cp).mono ?_
  rintro e w' (⟨_, rx, gx, rfl, k2⟩ | ⟨k1, _⟩)
  · refine ⟨rx, gx, rfl, z, ml, cs, N, ofN (Vw z []), a1, a2, a3, a4.gr (stable_vl8 (stable_rf2 _ _ _ _ _ stable_emp)) k2.sub, k2.rf, fun q hq => (v2 q hq).symm⟩
  · exact absurd v1 k1
theorem t_same {rx gx : Nat} (h : LX w d n l V r g c rx gx wx) : Calls Tryz.prog 23 #[.pointer (some ⟨rx, 0, none⟩), .pointer (some ⟨r, 0, none⟩)] wx fun e w' => e = .returned (.bool true) ∧ LA w d n l V r g c w' := by
  obtain ⟨z, ml, cs, N, M, a1, a2, a3, a4, a5, a6⟩ := h
  have h5 : Own w wx (Star (rfA r g c n) (Star (rnA g cs) (VL d z l ml [] V emp))) := a4.ac (by unfold rfP2 VL DL; ac_rfl)
  have h6 : RefAt wx r g c n N := RfP.rf ⟨cs, a3, h5⟩
  refine (c_same8R a5 h6 a6).mono ?_
  rintro e w' ⟨rfl, k1⟩
  exact ⟨rfl, z, ml, cs, N, a1, a2, a3, a4.gr (stable_vl8 (stable_rf2 _ _ _ _ _ stable_emp)) k1⟩
theorem t_mount (h : LT w d n l V r g c r2 g2 c2 wx) (h1 : 16 ≤ n) (h2 : n ≤ 512) : Calls Tryz.prog 24 #[.pointer (some ⟨l, 0, none⟩)] wx fun e w' => ∃ V2, e = .returned (.tuple #[.pointer (some ⟨V2, 0, none⟩), .int .i64 0]) ∧ LT w d n l V2 r g c r2 g2 c2 w' := by
  obtain ⟨z, ml, cs, cs2, N, a1, a2, a3, a4, a5⟩ := h
  have hw : wholeF (Vw z []) n = true := (whole_of h2 (by obtain ⟨S, hr, _⟩ := a2; exact hr.len 0 (by omega))).2 (vol_of a2).1
  have hsR : Stable (Star (volA V l) (rfP2 r g c n cs (rfP2 r2 g2 c2 n cs2 emp))) := stable_star (stable_blk _ _) (stable_rf2 _ _ _ _ _ (stable_rf2 _ _ _ _ _ stable_emp))
  refine (c_mount8 (R := Star (volA V l) (rfP2 r g c n cs (rfP2 r2 g2 c2 n cs2 emp))) a5 hsR (li_of a1 h1 h2) (ok_nil _) (Nat.zero_le _)).mono ?_
  rintro e w' (⟨_, V2, rfl, k1⟩ | ⟨k, _⟩)
  · have k2 : Own w w' (Star (volA V l) (VL d z l ml [] V2 (rfP2 r g c n cs (rfP2 r2 g2 c2 n cs2 emp)))) := k1.ac (by unfold rfP2 VL DL; ac_rfl)
    exact ⟨V2, rfl, z, ml, cs, cs2, N, a1, a2, a3, a4, k2.right⟩
  · rw [hw] at k; cases k
theorem t_room (h : LS w d n l V r g c r2 g2 c2 wx) (h1 : 16 ≤ n) (h2 : n ≤ 512) : ∃ q : Int, Calls Tryz.prog 25 #[.pointer (some ⟨V, 0, none⟩)] wx fun e w' => e = .returned (.tuple #[.int .i64 q, .int .i64 0]) ∧ LS w d n l V r g c r2 g2 c2 w' ∧ Calls Tryz.prog 26 #[.pointer (some ⟨r, 0, none⟩)] w' fun e w'' => e = .returned (.int .i64 q) ∧ w'' = w' := by
  obtain ⟨z, ml, st, cs, cs2, N, M, a1, a2, a3, a4, a5, a6, a7⟩ := h
  refine ⟨roomN N n, (o_vroom a7 (stable_rf2 _ _ _ _ _ (stable_rf2 _ _ _ _ _ stable_emp)) (li_of a1 h1 h2) a2 a3).mono ?_⟩
  rintro e w' ⟨rfl, k1⟩
  have h5 : Own w w' (Star (rfA r g c n) (Star (rnA g cs) (VL d z l ml st V (rfP2 r2 g2 c2 n cs2 emp)))) := k1.ac (by unfold rfP2 VL DL; ac_rfl)
  exact ⟨rfl, ⟨z, ml, st, cs, cs2, N, M, a1, a2, a3, a4, a5, a6, k1⟩, c_room8 (RfP.rf ⟨cs, a5, h5⟩) (by omega) (fun q hq => (vol_node a3 hq).1)⟩
theorem t_homes (h : VS w d n l V emp 0 exN0 wx) : ∃ z ml, Clean z (n + 32) ∧ IsVol (Vw z []) n exN0 ∧ Own w wx (VL d z l ml [] V emp) := by
  obtain ⟨z, ml, st, a1, a2, a3, a4, a5⟩ := h
  obtain rfl : st = [] := List.length_eq_zero_iff.1 (by omega)
  exact ⟨z, ml, a1, a4, a3⟩
theorem t_new (h : VS w d n l V emp 0 exN0 wx) : Calls Tryz.prog 16 #[.pointer (some ⟨l, 0, none⟩)] wx (fun e w' => e = .returned (.int .i64 (n : Int)) ∧ w' = wx) ∧ Calls Tryz.prog 15 #[.int .i64 (n : Int)] wx fun e w' => ∃ r g, e = .returned (.pointer (some ⟨r, 0, none⟩)) ∧ LA w d n l V r g 32 w' := by
  obtain ⟨z, ml, a1, a2, a3⟩ := t_homes h
  refine ⟨(o_home a3).mono ?_, (r_new a3 (stable_vl8 stable_emp) n).mono ?_⟩
  · rintro e w' ⟨rfl, rfl⟩
    rw [a1.len]
    exact ⟨ret_i (by omega), rfl⟩
  · rintro e w' ⟨r, g, rfl, cs, k1, k2⟩
    exact ⟨r, g, rfl, z, ml, cs, exN0, a1, a2, k1, k2.ac (by unfold rfP2 VL DL; ac_rfl)⟩
end
end Go.Proofs.YtlpcccpagmipnaaGreat.P
namespace Go.Proofs.YtlpcccpagmipnaaGreat.P
open Go.RowKit Go.ChangeMaps Go.MapKept
set_option maxHeartbeats 25600000 in
theorem l_plays8 (w : World) (sectors : Int) (o : Option Addr) (len cap bl off : Nat) (f : Nat → V8ActV) (hlen : len ≤ 4000000000000000) (ho0 : 0 < len → o = some ⟨bl, off, none⟩) (hA : V8Acts w bl off len f) : Calls Tryz.prog 3 #[.int .i64 sectors, .slice o len cap] w fun e w' => e = .returned (.bool true) ∧ Gr w w' := by
  have CS := Lib.hid (c_shown8 w)
  obtain ⟨n, hn⟩ : ∃ n, freshN sectors = n + 32 := ⟨freshN sectors - 32, by unfold freshN; split <;> omega⟩
  have hnb : 16 ≤ n ∧ n ≤ 512 := by unfold freshN at hn; split at hn <;> omega
  obtain ⟨hn1, hn2⟩ := hnb
  have CF : Hid (∀ w1, Gr w w1 → Calls Tryz.prog 12 #[.int .i64 sectors] w1 (FreshP w (n + 32) emp)) := Lib.hid (fun w1 g => by
    have := c_fresh8 (Own.start g) stable_emp sectors
    rw [hn] at this
    exact this)
  unfold FreshP at CF
  clear hn
  have HACT := Lib.hid hA
  have HO0 := Lib.hid ho0
  clear hA ho0
  go_enter Tryz.func3, Tryz.ntmps3
  go_upto_region 2 with (go_at_call 11; refine CS.out.mono ?_; rintro e w1 ⟨rfl, g1⟩; have G1 := Lib.hid g1; clear g1)
  go_upto_region 3 with (go_at_call 12; refine (CF.out _ G1.out).mono ?_; rintro e w2 ⟨d, l, ml, rfl, h2⟩; have H2 := Lib.hid h2; clear h2)
  go_upto_region 6 with (go_at_call 13; refine (k_format H2.out stable_emp hn1 hn2).mono ?_; rintro e w3 ⟨V0, rfl, h3⟩; have H3 := Lib.hid h3; clear h3)
  go_upto_region 7 with (go_at_call 14; refine (k_commit H3.out stable_emp hn1 hn2).mono ?_; rintro e w4 ⟨rfl, h4⟩; have H4 := Lib.hid (t_new h4); clear h4)
  clear CS CF G1 H2 H3
  go_upto_region 8 with (first
    | (go_at_call 16; refine H4.out.1.mono ?_; rintro e w' ⟨rfl, hw'⟩; rw [hw']; clear hw' w')
    | (go_at_call 15; refine H4.out.2.mono ?_; rintro e w5 ⟨ra, ga, rfl, h5⟩; have H5 := Lib.hid h5; clear h5))
  clear H4
  go_wp2_with (go_at_call 17; refine (t_copy H5.out).mono ?_; rintro e w6 ⟨rb, gb, cb, rfl, _, h6⟩; have H6 := Lib.hid h6.ls; clear h6)
  clear H5
  go_loopw [8, 10, 11, 12] (fun v8 v10 v11 v12 wx => ∃ (k V r g c r2 g2 c2 : Nat), k ≤ len ∧ v12 = .int .i64 (k : Int) ∧ v8 = .pointer (some ⟨V, 0, none⟩) ∧ v10 = .pointer (some ⟨r, 0, none⟩) ∧ v11 = .pointer (some ⟨r2, 0, none⟩) ∧ LS w d n l V r g c r2 g2 c2 wx) (fun _ _ _ v _ => len - (intOf v).toNat)
  case atStart => exact ⟨0, V0, ra, ga, 32, rb, gb, cb, Nat.zero_le _, rfl, rfl, rfl, rfl, H6.out⟩
  case round =>
    clear H6
    obtain ⟨k, V, r, g, c, r2, g2, c2, hk, rfl, rfl, rfl, rfl, ho⟩ := hrel
    have HO := Lib.hid ho
    clear ho
    by_cases hlt : k < len
    · have dl : decide (k < len) = true := decide_eq_true hlt
      have dl2 : decide ((k : Int) < (len : Int)) = true := decide_eq_true (by omega)
      have hkl : (k : Int) < (len : Int) := by omega
      obtain rfl := HO0.out (by omega)
      have HKC : Hid (∀ wx, Gr w wx → _) := Lib.hid (fun wx g => V8cells HACT.out hlt g)
      have HOK := Lib.hid (HACT.out k hlt).1
      generalize f k = x at HKC HOK
      obtain ⟨ak, an, ao, am, ac⟩ := x
      dsimp only at HKC
      obtain ⟨i1, i2, i3, i4, i5⟩ := HOK.out
      dsimp only at i1 i2 i3 i4 i5
      obtain ⟨q, hsg, hq30, hdo⟩ := t_does HO.out hn1 hn2
      have SG := Lib.hid hsg
      have DO0 := hdo ak an ao am ac i3.2 i4.2 (by omega)
      obtain ⟨full, hfull⟩ : ∃ full, full = decide (16 < q) := ⟨_, rfl⟩
      rw [← hfull] at DO0
      have DO := Lib.hid DO0
      have f1 : decide (16 < q) = full := hfull.symm
      have f2 : decide ((16 : Int) < (q : Int)) = full := by rw [hfull]; exact decide_eq_decide.2 (by omega)
      have HOS := Lib.hid HO.out.sub
      clear hsg hdo DO0 hfull HO HOK i1 i2 i3 i4 i5
      go_upto_region 13 with (go_at_call 18; refine SG.out.mono ?_; rintro e w' ⟨rfl, hw'⟩; rw [hw']; clear hw' w')
      clear SG f1 f2
      obtain ⟨c0, c1, c2x, c3, c4⟩ := HKC.out _ HOS.out
      go_upto_region 14 with (go_at_call 19; refine DO.out.mono ?_; rintro e w5 ⟨rfl, h5⟩; have H5 := Lib.hid h5; clear h5)
      clear c0 c1 c2x c3 c4 DO HOS
      have c0 := (HKC.out _ H5.out.sub).1
      by_cases a9 : ak = 9
      · subst a9
        go_upto_region 18 with (go_at_call 20; refine (t_abort H5.out).mono ?_; rintro e w6 ⟨rfl, h6⟩; have H6 := Lib.hid h6; clear h6)
        clear c0 H5
        go_upto_region 19 with (go_at_call 17; refine (t_copy H6.out).mono ?_; rintro e w7 ⟨r3, g3, c3, rfl, h7, _⟩; have H7 := Lib.hid h7.ls; clear h7)
        clear H6
        have c0 := (HKC.out _ H7.out.sub).1
        go_upto_region 32 with fail
        clear c0 HKC
        obtain ⟨q2, hrm⟩ := t_room H7.out hn1 hn2
        have CRM := Lib.hid hrm
        clear hrm
        go_wp2_with (first
          | (go_at_call 25; refine CRM.out.mono ?_; rintro e wa ⟨rfl, ha, hb⟩; have HRA := Lib.hid ha; have HRB := Lib.hid hb; clear ha hb)
          | (go_at_call 26; refine HRB.out.mono ?_; rintro e w' ⟨rfl, hw'⟩; rw [hw']; clear hw' w'))
        go_roundw
        case rel => exact ⟨k + 1, V, r3, g3, c3, r2, g2, c2, by omega, by go_num, rfl, rfl, rfl, HRA.out⟩
        case measure => simp [intOf]; omega
      · by_cases a8 : ak = 8
        · subst a8
          go_upto_region 21 with (go_at_call 14; refine (t_commit H5.out hn1 hn2).mono ?_; rintro e w6 ⟨rfl, h6⟩; have H6 := Lib.hid (t_home h6 hn1); clear h6)
          clear c0 H5
          go_upto_region 24 with (first
            | (go_at_call 22; refine H6.out.mono ?_; rintro e w7 ⟨gh, cp, rfl, h7⟩; have H7 := Lib.hid (t_of h7 hn1 hn2 cp); clear h7)
            | (go_at_call 21; refine H7.out.mono ?_; rintro e w8 ⟨rx, gx, rfl, h8⟩; have H8 := Lib.hid (t_same h8); clear h8))
          clear H6 H7
          go_upto_region 27 with (go_at_call 23; refine H8.out.mono ?_; rintro e w9 ⟨rfl, h9⟩; have H9 := Lib.hid (t_copy h9); clear h9)
          clear H8
          go_upto_region 28 with (go_at_call 17; refine H9.out.mono ?_; rintro e wb ⟨r3, g3, c3, rfl, _, hb⟩; have HB := Lib.hid hb; clear hb)
          clear H9
          have c0 := (HKC.out _ HB.out.ls.sub).1
          go_upto_region 32 with fail
          clear c0 HKC
          obtain ⟨q2, hrm⟩ := t_room HB.out.ls hn1 hn2
          have CRM := Lib.hid hrm
          clear hrm
          go_wp2_with (first
            | (go_at_call 25; refine CRM.out.mono ?_; rintro e wa ⟨rfl, ha, hb⟩; have HRA := Lib.hid ha; have HRB := Lib.hid hb; clear ha hb)
            | (go_at_call 26; refine HRB.out.mono ?_; rintro e w' ⟨rfl, hw'⟩; rw [hw']; clear hw' w'))
          go_roundw
          case rel => exact ⟨k + 1, V, r, g, c, r3, g3, c3, by omega, by go_num, rfl, rfl, rfl, HRA.out⟩
          case measure => simp [intOf]; omega
        · by_cases a10 : ak = 10
          · subst a10
            go_upto_region 21 with (go_at_call 14; refine (t_commit H5.out hn1 hn2).mono ?_; rintro e w6 ⟨rfl, h6⟩; have H6 := Lib.hid (t_home h6 hn1); clear h6)
            clear c0 H5
            go_upto_region 24 with (first
              | (go_at_call 22; refine H6.out.mono ?_; rintro e w7 ⟨gh, cp, rfl, h7⟩; have H7 := Lib.hid (t_of h7 hn1 hn2 cp); clear h7)
              | (go_at_call 21; refine H7.out.mono ?_; rintro e w8 ⟨rx, gx, rfl, h8⟩; have H8 := Lib.hid (t_same h8); clear h8))
            clear H6 H7
            go_upto_region 27 with (go_at_call 23; refine H8.out.mono ?_; rintro e w9 ⟨rfl, h9⟩; have H9 := Lib.hid (t_copy h9); clear h9)
            clear H8
            go_upto_region 28 with (go_at_call 17; refine H9.out.mono ?_; rintro e wb ⟨r3, g3, c3, rfl, _, hb⟩; have HB := Lib.hid hb; clear hb)
            clear H9
            have c0 := (HKC.out _ HB.out.ls.sub).1
            have CM := Lib.hid (t_mount HB.out hn1 hn2)
            go_upto_region 32 with (go_at_call 24; refine CM.out.mono ?_; rintro e wc ⟨V2, rfl, hc⟩; have HCC := Lib.hid hc; clear hc)
            clear c0 HKC CM HB
            obtain ⟨q2, hrm⟩ := t_room HCC.out.ls hn1 hn2
            have CRM := Lib.hid hrm
            clear hrm
            go_wp2_with (first
              | (go_at_call 25; refine CRM.out.mono ?_; rintro e wa ⟨rfl, ha, hb⟩; have HRA := Lib.hid ha; have HRB := Lib.hid hb; clear ha hb)
              | (go_at_call 26; refine HRB.out.mono ?_; rintro e w' ⟨rfl, hw'⟩; rw [hw']; clear hw' w'))
            go_roundw
            case rel => exact ⟨k + 1, V2, r, g, c, r3, g3, c3, by omega, by go_num, rfl, rfl, rfl, HRA.out⟩
            case measure => simp [intOf]; omega
          · have b9 : (ak == 9) = false := beq_eq_false_iff_ne.2 a9
            have b8 : (ak == 8) = false := beq_eq_false_iff_ne.2 a8
            have b10 : (ak == 10) = false := beq_eq_false_iff_ne.2 a10
            go_upto_region 32 with fail
            clear c0 HKC b9 b8 b10
            obtain ⟨q2, hrm⟩ := t_room H5.out hn1 hn2
            have CRM := Lib.hid hrm
            clear hrm
            go_wp2_with (first
              | (go_at_call 25; refine CRM.out.mono ?_; rintro e wa ⟨rfl, ha, hb⟩; have HRA := Lib.hid ha; have HRB := Lib.hid hb; clear ha hb)
              | (go_at_call 26; refine HRB.out.mono ?_; rintro e w' ⟨rfl, hw'⟩; rw [hw']; clear hw' w'))
            go_roundw
            case rel => exact ⟨k + 1, V, r, g, c, r2, g2, c2, by omega, by go_num, rfl, rfl, rfl, HRA.out⟩
            case measure => simp [intOf]; omega
    · have HK := Lib.hid (show k = len by omega)
      have dl : decide (k < len) = false := decide_eq_false hlt
      have dl2 : decide ((k : Int) < (len : Int)) = false := decide_eq_false (by omega)
      have HSB := Lib.hid HO.out.sub
      clear HO HK
      go_wp2_with fail
      go_ret
      exact ⟨rfl, HSB.out⟩
end Go.Proofs.YtlpcccpagmipnaaGreat.P
