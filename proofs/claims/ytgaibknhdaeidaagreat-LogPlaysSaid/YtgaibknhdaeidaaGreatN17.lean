/- Stage 7: LogPlays. No condition. -/
import Derived.Test.YtgaibknhdaeidaaGreatN16
import Derived.Test.YtgaibknhdaeidaaGreatA23
import Derived.Test.YtgaibknhdaeidaaGreatI11
import Derived.Deep.CutBlock
import Derived.Deep.QuietTactic
import Derived.BigQuiet
set_option linter.unusedVariables false
set_option linter.unusedSimpArgs false
set_option maxRecDepth 100000
namespace Go.Proofs.YtgaibknhdaeidaaGreat.P
open Go.RowKit
set_option maxHeartbeats 12800000 in
theorem l_plays7 (w : World) (o : Option Addr) (c : Nat) (A : List ByteArray) (hA : RowS w o A) (hlA : A.length ≤ 4000000000000000) (sectors : Int) (oa : Option Addr) (len cap bl off : Nat) (f : Nat → QActV) (hlen : len * 40 ≤ 140737488351232) (hoa : 0 < len → oa = some ⟨bl, off, none⟩ ∧ bl < w.heap.size) (hl : QActs w bl off len f) :
    Calls Tryz.prog 3 #[.slice o A.length c, .int .i64 sectors, .slice oa len cap] w fun e w' => e = .returned (.bool true) ∧ Gr w w' := by
  have CS := Lib.hid (c_shown7 w)
  have CO : Hid (∀ w1, Gr w w1 → Calls Tryz.prog 5 #[.slice o A.length c, .int .i64 sectors] w1 (OpenedP w1)) := Lib.hid (fun w1 g => by
    cases hok : okRow A with
    | true => exact c_opened_yes w1 o c A (hA.gr g) hok sectors
    | false => exact c_opened_no w1 o c A hlA (hA.gr g) hok sectors)
  have HOA := Lib.hid hoa
  have HL := Lib.hid hl
  clear hA hlA hoa hl
  have hlen2 : len ≤ 4000000000000 := by omega
  clear hlen
  generalize A.length = lA at *
  go_enter Tryz.func3, Tryz.ntmps3
  go_upto_region 3 with (first
    | (go_at_call 4; refine CS.out.mono ?_; rintro e w1 ⟨rfl, g1⟩; have G1 := Lib.hid g1; clear g1)
    | (go_at_call 5; refine (CO.out _ G1.out).mono ?_; rintro e w2 ⟨d, r, n, z, rfl, n1, n2, hi, hzw, ho⟩; have HO := Lib.hid ho; have HI := Lib.hid hi; have HZW := Lib.hid hzw; clear hi hzw ho))
  obtain ⟨bad, Q, C1, C2⟩ := st_open_v HO.out stable_emp HI.out n1 HZW.out
  have CP := Lib.hid C1
  have CQ := Lib.hid C2
  clear C1 C2 CS CO HO HI HZW
  go_upto_region 7 with (first
    | (go_at_call 6; refine CP.out.mono ?_; rintro e w3 ⟨p1, rfl, h3⟩; have H3 := Lib.hid h3; clear h3)
    | (go_at_call 7; refine (CQ.out _ _ H3.out).mono ?_; rintro e w4 ⟨p2, rfl, hp, h4⟩; have H4 := Lib.hid h4; clear h4))
  clear CP CQ H3
  go_wp2_with fail
  have HAC : Hid (∀ k, k < len → oa = some ⟨bl, off, none⟩ ∧ (f k).ok ∧ ∀ wr, Gr w1 wr → wr.cell? ⟨bl, off + k * 4, none⟩ = some (.int .i64 (f k).kind) ∧ wr.cell? ⟨bl, off + k * 4 + 1, none⟩ = some (.int .i64 (f k).i) ∧ wr.cell? ⟨bl, off + k * 4 + 2, none⟩ = some (.string (f k).s) ∧ wr.cell? ⟨bl, off + k * 4 + 3, none⟩ = some (.int .u64 (f k).keep)) := Lib.hid (fun k hk => by
    obtain ⟨h1, h2, h3, h4, h5⟩ := HL.out k hk
    exact ⟨(HOA.out (by omega)).1, h1, fun wr g => ⟨kcell g (kcell G1.out h2), kcell g (kcell G1.out h3), kcell g (kcell G1.out h4), kcell g (kcell G1.out h5)⟩⟩)
  clear HL HOA
  go_loopw [10, 12, 14] (fun v10 v12 v14 wr => ∃ (k : Nat) (p1 p2 : Option Addr), k ≤ len ∧ v14 = .int .i64 k ∧ v10 = .pointer p1 ∧ v12 = .pointer p2 ∧ ST w1 wr n d r (.pointer p1) (.pointer p2) emp) (fun _ _ v _ => len - (intOf v).toNat)
  case atStart => exact ⟨0, p1, p2, Nat.zero_le _, rfl, rfl, rfl, H4.out⟩
  case round =>
    clear H4 hp
    obtain ⟨k, a1p, a2p, hk, rfl, rfl, rfl, hst⟩ := hrel
    have HST := Lib.hid hst
    clear hst
    by_cases hlt : k < len
    · obtain ⟨rfl, hok, hcells⟩ := HAC.out k hlt
      obtain ⟨a0, a1, a2, a3⟩ := hcells wr (st_sub HST.out)
      have HOK := Lib.hid hok
      clear hcells hok
      obtain ⟨a, ha⟩ : ∃ a, f k = a := ⟨_, rfl⟩
      rw [ha] at HOK a0 a1 a2 a3
      clear ha
      obtain ⟨kk, ii, ss, kp⟩ := a
      dsimp only at a0 a1 a2 a3
      have m1 : (k : Int) < (len : Int) := by omega
      have m3 : 0 ≤ (k : Int) := by omega
      go_upto_block 2 with fail
      have HB : Hid (ST w1 (wr.alloc (.cells #[.int .i64 kk, .int .i64 ii, .string ss, .int .u64 kp] 38)) n d r (.pointer a1p) (.pointer a2p) (Star (blkA wr.heap.size (.cells (actC kk ii ss kp) 38)) emp)) := Lib.hid (st_box HST.out stable_emp _)
      clear a0 a1 a2 a3 HST HAC
      generalize wr.alloc _ = wA at *
      generalize wr.heap.size = B at *
      obtain ⟨ok1, ok2, ok3, ok4⟩ := HOK.out
      dsimp only at ok1 ok2 ok3 ok4
      have HBC : Hid (∀ wx : World, wx.heap[B]? = some (.cells (actC kk ii ss kp) 38) → wx.cell? ⟨B, 0, none⟩ = some (.int .i64 kk) ∧ wx.cell? ⟨B, 1, none⟩ = some (.int .i64 ii) ∧ wx.cell? ⟨B, 2, none⟩ = some (.string ss) ∧ wx.cell? ⟨B, 3, none⟩ = some (.int .u64 kp)) := Lib.hid (fun (wx : World) h => ⟨blk_cell h 0 rfl, blk_cell h 1 rfl, blk_cell h 2 rfl, blk_cell h 3 rfl⟩)
      go_cut [10, 12] (fun v10 v12 wx => ∃ q1 q2 : Option Addr, v10 = .pointer q1 ∧ v12 = .pointer q2 ∧ ST w1 wx n d r (.pointer q1) (.pointer q2) (Star (blkA B (.cells (actC kk ii ss kp) 38)) emp))
      case first =>
        obtain ⟨b0, b1, b2, b3⟩ := HBC.out _ (st_blk HB.out)
        by_cases k5 : kk = 5
        · subst k5
          obtain ⟨Q5, C1, C2⟩ := st_power HB.out stable_emp ii ok2.2
          have CP := Lib.hid C1
          have CQ := Lib.hid C2
          clear C1 C2
          go_upto_region 16 with (go_at_call 8; refine CP.out.mono ?_; rintro e w5 ⟨rfl, h5⟩; have H5 := Lib.hid h5; clear h5)
          obtain ⟨hb5, C3⟩ := CQ.out _ H5.out
          have CR := Lib.hid C3
          clear b0 b1 b2 b3 C3 CP CQ
          obtain ⟨b0, b1, b2, b3⟩ := HBC.out _ hb5
          clear hb5
          go_wp2_with (go_at_call 9; refine CR.out.mono ?_; rintro e w6 ⟨rfl, h6⟩; have H6 := Lib.hid h6; clear h6)
          go_meet
          exact ⟨_, _, rfl, rfl, H6.out⟩
        · have e5 : (kk == 5) = false := beq_eq_false_iff_ne.2 k5
          clear k5
          by_cases k6 : kk = 6
          · subst k6
            obtain ⟨Q5, C1, C2⟩ := st_crash HB.out stable_emp kp ok4
            have CP := Lib.hid C1
            have CQ := Lib.hid C2
            clear C1 C2
            go_upto_region 19 with (go_at_call 10; refine CP.out.mono ?_; rintro e w5 ⟨rfl, h5⟩; have H5 := Lib.hid h5; clear h5)
            obtain ⟨hb5, C3⟩ := CQ.out _ H5.out
            have CR := Lib.hid C3
            clear b0 b1 b2 b3 C3 CP CQ
            obtain ⟨b0, b1, b2, b3⟩ := HBC.out _ hb5
            clear hb5
            go_upto_region 20 with (go_at_call 11; refine CR.out.mono ?_; rintro e w6 ⟨rfl, z6, i6, z60, h6⟩; have H6 := Lib.hid h6; have I6 := Lib.hid i6; have Z6 := Lib.hid z60; clear h6 i6 z60)
            obtain ⟨bad7, Q7, C1, C2⟩ := st_open_v H6.out (stable_star (stable_blk _ _) stable_emp) I6.out n1 Z6.out
            have CP := Lib.hid C1
            have CQ := Lib.hid C2
            clear C1 C2 b0 b1 b2 b3 CR
            go_upto_region 21 with (go_at_call 6; refine CP.out.mono ?_; rintro e w7 ⟨p7, rfl, h7⟩; have H7 := Lib.hid h7; clear h7)
            go_wp2_with (go_at_call 7; refine (CQ.out _ _ H7.out).mono ?_; rintro e w8 ⟨p8, rfl, hp8, h8⟩; have H8 := Lib.hid h8; clear h8)
            go_meet
            exact ⟨_, _, rfl, rfl, H8.out⟩
          · have e6 : (kk == 6) = false := beq_eq_false_iff_ne.2 k6
            clear k6
            go_wp2_with fail
            go_meet
            exact ⟨_, _, rfl, rfl, HB.out⟩
      case rest =>
        obtain ⟨q1, q2, rfl, rfl, hst⟩ := hcut
        clear HB
        rcases hst with ⟨e1, e2, z5, hi5, ho5⟩ | ⟨l, l2, mb, z5, st, st2, dead, e1, e2, hi5, ho5⟩
        · injection e1 with e1
          injection e2 with e2
          subst e1
          subst e2
          have HN : Hid (ST w1 _ n d r (.pointer none) (.pointer none) emp) := Lib.hid (st_unbox (.inl ⟨rfl, rfl, z5, hi5, ho5⟩))
          clear hi5 ho5
          go_wp2_with fail
          go_roundw
          case rel => exact ⟨k + 1, _, _, by omega, by go_num, rfl, rfl, HN.out⟩
          case measure => simp [intOf]; omega
        · injection e1 with e1
          injection e2 with e2
          subst e1
          subst e2
          have CD := Lib.hid (c_does7 ho5 (stable_star (stable_blk _ _) stable_emp) hi5 n2 kk ii ss kp (Nat.le_trans ok3 (by decide)))
          obtain ⟨b0, b1, b2, b3⟩ := HBC.out _ ho5.boxed
          clear hi5 ho5
          go_upto_region 26 with (go_at_call 12; refine CD.out.mono ?_; rintro e w5 ⟨rfl, z1, st1, st3, dd, hi6, ho6⟩; have H5 := Lib.hid ho6; have I5 := Lib.hid hi6; clear hi6 ho6)
          clear CD b0 b1 b2 b3
          obtain ⟨FD, hD⟩ := H5.out.left.get
          obtain ⟨FR, hRz, sb, wb, hRD, _⟩ := H5.out.right.right.left.get
          have CIM := Lib.hid (fun w' (g : Gr w5 w') => w_image w' d z1 FD (DD.gr hD g))
          obtain ⟨sc, wo, wc, hrb, hrs, hrw, _⟩ := hRD
          have HSF := Lib.hid (rowS_own hrs)
          have r0 := blk_cell hrb 0 (v := .slice (some ⟨sb, 0, none⟩) z1.safe.length sc) rfl
          have r1 := blk_cell hrb 1 (v := .slice wo z1.wait.length wc) rfl
          have R1 := Lib.hid r1
          have R0 := Lib.hid r0
          have HZ1 := Lib.hid I5.out.2.2.1
          rw [HZ1.out] at R0
          clear hD hRz hrb hrs hrw r0 r1
          have hS : Gr w5 w5 := Gr.refl _
          go_cut [17] (fun v wx => v = .bool true ∧ Gr w5 wx)
          case first =>
            have hS1 : Gr w5 w5.drew := Gr.drewN (Gr.refl _) 1
            have c1 := R0.out
            have c1d : w5.drew.cell? ⟨r, 0, none⟩ = some (.slice (some ⟨sb, 0, none⟩) n sc) := c1
            go_region_held3 (fun w' => Gr w5 w' ∧ w'.cell? ⟨r, 0, none⟩ = some (.slice (some ⟨sb, 0, none⟩) n sc))
              ((refine ⟨?_, ?_⟩ <;> (with_reducible assumption)))
              (first
                | (go_at_call 14; refine (CIM.out _ (by assumption)).mono ?_; rintro e w7 ⟨g7, c7, rfl, hrow7, hge7, hq7⟩; have HROW7 := Lib.hid (rowS_own hrow7); rw [HZ1.out]; have hS2 : Gr w5 w7 := gtrans (by assumption) hq7; have c17 : w7.cell? ⟨r, 0, none⟩ = some (.slice (some ⟨sb, 0, none⟩) n sc) := kcell hq7 (by assumption); clear hq7 hrow7 hge7)
                | (go_at_call 13; have CS := Lib.hid (e_same w7 _ _ c7 sc z1.safe z1.safe HROW7.out (HSF.out.gr (by assumption)) (by rw [HZ1.out]; omega)); rw [show sameB z1.safe z1.safe = true from decide_eq_true rfl, HZ1.out] at CS; refine CS.out.mono ?_; rintro e w8 ⟨rfl, hq8⟩; have hS3 : Gr w5 w8 := gtrans (by assumption) hq8; have c18 : w8.cell? ⟨r, 0, none⟩ = some (.slice (some ⟨sb, 0, none⟩) n sc) := kcell hq8 (by assumption); clear hq8 CS))
            all_goals
              go_wp2_with fail
              go_meet
              exact ⟨rfl, by assumption⟩
          case rest =>
            obtain ⟨rfl, hq⟩ := hcut
            have H9 := Lib.hid (H5.out.gr (stable_bl _ _ _ _ _ _ _ _ _ _ _ (stable_star (stable_blk _ _) stable_emp)) hq)
            have r1 := kcell hq R1.out
            clear hq hS CIM HSF R0 R1 H5
            have ES : (bif dd then 0 else (st3.length : Int)) = (st1.length : Int) := by
              cases dd with
              | true => rw [I5.out.2.2.2.2.2.1 rfl]; rfl
              | false => rw [(I5.out.2.2.2.2.1 rfl).2]; rfl
            have SBL : Hid (Stable (BL d r z1 l mb l2 st1 st3 dd (Star (blkA B (.cells (actC kk ii ss kp) 38)) emp))) := Lib.hid (stable_bl _ _ _ _ _ _ _ _ _ _ _ (stable_star (stable_blk _ _) stable_emp))
            have HQ := Lib.hid (fun q => H9.out.gr SBL.out (Gr.drewN (Gr.refl _) q))
            have HN := Lib.hid (fun q => (st_unbox (.inr ⟨l, l2, mb, z1, st1, st3, dd, rfl, rfl, I5.out, HQ.out q⟩) : ST w1 _ n d r (.pointer (some ⟨l, 0, none⟩)) (.pointer (some ⟨l2, 0, none⟩)) emp))
            have CQS : Hid (∀ w', Own w1 w' (BL d r z1 l mb l2 st1 st3 dd (Star (blkA B (.cells (actC kk ii ss kp) 38)) emp)) → Calls Tryz.prog 16 #[.pointer (some ⟨l2, 0, none⟩)] w' fun e w2 => e = .returned (.int .i64 (st1.length : Int)) ∧ w2 = w') := Lib.hid (fun w' h' => by
              have := q_staged h'.flip4 (by have := I5.out.2.2.2.2.2.2.2.1; omega)
              rw [ES] at this
              exact this)
            have CQ1 : Hid (∀ w', Own w1 w' (BL d r z1 l mb l2 st1 st3 dd (Star (blkA B (.cells (actC kk ii ss kp) 38)) emp)) → Calls Tryz.prog 17 #[.pointer (some ⟨l, 0, none⟩)] w' (fun e w2 => e = .returned (.int .i64 ((n : Int) - 32)) ∧ w2 = w') ∧ Calls Tryz.prog 18 #[.pointer (some ⟨l2, 0, none⟩)] w' (fun e w2 => e = .returned (.int .i64 ((n : Int) - 32)) ∧ w2 = w')) := Lib.hid (fun w' h' => by
              have m1 := o_home h'
              have m2 := q_home h'.flip4
              rw [HZ1.out] at m1 m2
              exact ⟨m1, m2⟩)
            have CWT := Lib.hid (fun q => o_waiting (HQ.out q))
            have CST := Lib.hid (fun q => o_staged (HQ.out q))
            have hnn : ∀ x : Int, (x != x) = false := fun x => by simp
            have hn1 := hnn (st1.length : Int)
            have hn2 := hnn ((n : Int) - 32)
            have hn3 := hnn (z1.wait.length : Int)
            clear ES H9 SBL I5 HZ1
            generalize z1.wait.length = m at *
            generalize (st1.length : Int) = sl at *
            generalize (n : Int) - 32 = hm at *
            go_upto_region 27 with fail
            go_quiet (first
              | (go_at_call 15; exact Calls.quiet_of_same (CST.out _))
              | (go_at_call 16; exact Calls.quiet_of_same (CQS.out _ (HQ.out _)))
              | (go_at_call 17; exact Calls.quiet_of_same (CQ1.out _ (HQ.out _)).1)
              | (go_at_call 18; exact Calls.quiet_of_same (CQ1.out _ (HQ.out _)).2)
              | (go_at_call 19; exact Calls.quiet_of_same (CWT.out _)))
            clear hnn hn1 hn2 hn3
            go_wp2_with fail
            go_roundw
            case rel => exact ⟨k + 1, _, _, by omega, by go_num, rfl, rfl, HN.out _⟩
            case measure => simp [intOf]; omega
    · obtain rfl : k = len := by omega
      have dl : decide (k < k) = false := decide_eq_false (by omega)
      go_wp2_with fail
      go_ret
      exact ⟨rfl, gtrans G1.out (st_sub HST.out)⟩
end Go.Proofs.YtgaibknhdaeidaaGreat.P
