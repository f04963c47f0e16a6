/- Stage 6: DiskPlays. No condition. -/
import Derived.Test.YtipnmffcfloglaaJ5
import Derived.Test.YtipnmffcfloglaaI5
set_option linter.unusedVariables false
namespace Go.Proofs.Ytipnmffcfloglaa.P
open Go.RowKit
theorem pow_keeps (z : DState) (k : Int) : (powZ z k).safe = z.safe ∧ (powZ z k).wait = z.wait := ⟨rfl, rfl⟩
theorem doZ_keeps (z : DState) (kk ik : Int) (sk : ByteArray) (kp : Int) : (doZ z kk ik sk kp).safe.length = z.safe.length ∧ (doZ z kk ik sk kp).wait.length ≤ z.wait.length + 1 := by
  unfold doZ
  split
  · exact ⟨by rw [write_safe], write_wait _ _ _⟩
  · split
    · exact ⟨flush_len z, Nat.le_succ_of_le (flush_wait z)⟩
    · split
      · exact ⟨rfl, Nat.le_succ _⟩
      · split
        · exact ⟨crash_len z kp, Nat.zero_le _⟩
        · split
          · exact ⟨by rw [write_safe], write_wait _ _ _⟩
          · exact ⟨rfl, Nat.le_succ _⟩
theorem l_plays6_no (w : World) (n : Int) (hn : ¬ (48 ≤ n ∧ n ≤ 544)) (v : Value) : Calls Try.prog 3 #[.int .i64 n, v] w fun e w' => e = .returned (.bool true) ∧ Gr w w' := by
  have CT := Lib.hid (fun w => e_takes n w)
  have CN := Lib.hid (fun w => c_new_no n hn w)
  rw [show (decide (48 ≤ n) && decide (n ≤ 544)) = false by rw [Bool.and_eq_false_iff, decide_eq_false_iff_not, decide_eq_false_iff_not]; omega] at CT
  clear hn
  go_enter Try.func3, Try.ntmps3
  go_wp2_with fail
  refine (c_shown _).mono ?_
  rintro e w1 ⟨rfl, g1⟩
  have G1 := Lib.hid g1
  clear g1
  go_wp2_with fail
  refine (CN.out _).mono ?_
  rintro e w2 ⟨rfl, g2⟩
  have G2 := Lib.hid (gtrans G1.out g2)
  clear g2
  go_wp2_with fail
  refine (CT.out _).mono ?_
  rintro e w3 ⟨rfl, h3⟩
  subst h3
  go_wp2_with fail
  go_ret
  exact ⟨rfl, G2.out⟩
set_option maxRecDepth 100000 in
set_option maxHeartbeats 4000000 in
theorem l_plays6 (n : Nat) (h1 : 48 ≤ n) (h2 : n ≤ 544) (w : World) (o : Option Addr) (len cap bl off : Nat) (f : Nat → KActV) (hlen : len * 40 ≤ 140737488351232) (ho : 0 < len → o = some ⟨bl, off, none⟩ ∧ bl < w.heap.size) (hl : KActs w bl off len f) :
    Calls Try.prog 3 #[.int .i64 (n : Int), .slice o len cap] w fun e w' => e = .returned (.bool true) ∧ Gr w w' := by
  have HO := Lib.hid ho
  have HL := Lib.hid hl
  have hlen2 : len ≤ 4000000000000 := by omega
  have CT := Lib.hid (fun w => e_takes (n : Int) w)
  rw [show (decide (48 ≤ (n : Int)) && decide ((n : Int) ≤ 544)) = true by rw [Bool.and_eq_true, decide_eq_true_eq, decide_eq_true_eq]; omega] at CT
  have sR : Stable emp := stable_emp
  clear ho hl hlen
  go_enter Try.func3, Try.ntmps3
  go_wp2_with fail
  refine (c_shown _).mono ?_
  rintro e w1 ⟨rfl, g1⟩
  have G1 := Lib.hid (Own.start g1)
  clear g1
  go_wp2_with fail
  refine (o_new G1.out stable_emp n h1 h2).mono ?_
  rintro e w2 ⟨d, rfl, k2⟩
  have H2 := Lib.hid k2
  clear k2
  go_wp2_with fail
  refine (CT.out _).mono ?_
  rintro e w3 ⟨rfl, h3⟩
  subst h3
  go_wp2_with fail
  refine (e_new n h1 h2 _).mono ?_
  rintro e w4 ⟨r, F4, rfl, k41, k42, k43⟩
  have H4 := Lib.hid (H2.out.add (by repeat (first | exact stable_emp | exact stable_dsk _ _ | exact stable_rdk _ _ | exact stable_row _ _ _ _ _ | exact stable_blk _ _ | apply stable_star)) k43 ⟨F4, k41, k42⟩ : Own w w4 (Star (rdk r (newZ (List.replicate n z64))) _)).swap2
  clear k41 k42 k43
  go_wp2_with fail
  go_loopw [10] (fun v wr => ∃ (k : Nat) (z : DState), k ≤ len ∧ v = .int .i64 k ∧ z.safe.length = n ∧ z.wait.length ≤ k ∧ Own w wr (Star (dsk d z) (Star (rdk r z) emp))) (fun v _ => len - (intOf v).toNat)
  case atStart => exact ⟨0, _, Nat.zero_le _, rfl, List.length_replicate .., Nat.le_refl _, H4.out⟩
  case round =>
    obtain ⟨k, z, hk, rfl, hzl, hwl, hss⟩ := hrel
    have HSS := Lib.hid hss
    have HZL := Lib.hid hzl
    have HWL := Lib.hid hwl
    clear hss hzl hwl
    by_cases hlt : k < len
    · obtain ⟨rfl, hbl⟩ := HO.out (by omega)
      obtain ⟨hok, a0, a1, a2, a3⟩ := HL.out k hlt
      have dl : decide (k < len) = true := decide_eq_true hlt
      have c0 := HSS.out.cell a0
      have c1 := HSS.out.cell a1
      have c2 := HSS.out.cell a2
      have c3 := HSS.out.cell a3
      obtain ⟨z1, hz1⟩ : ∃ z1, z1 = doZ z (f k).kind (f k).i (f k).s (f k).keep := ⟨_, rfl⟩
      have CD := Lib.hid (c_does stable_emp HSS.out (f k).kind (f k).i (f k).s (f k).keep hok.2.1 hok.2.2.2 (Nat.le_trans hok.2.2.1 (by decide)) (by have := HWL.out; omega))
      rw [← hz1] at CD
      have HZ1 : RowKit.Hid (z1.safe.length = n) := Lib.hid (by rw [hz1, (doZ_keeps _ _ _ _ _).1]; exact HZL.out)
      have HW1 : RowKit.Hid (z1.wait.length ≤ k + 1) := Lib.hid (by rw [hz1]; exact Nat.le_trans (doZ_keeps _ _ _ _ _).2 (by have := HWL.out; omega))
      clear hok a0 a1 a2 a3 hz1
      generalize (f k).s = sk at *
      generalize (f k).i = ik at *
      generalize (f k).kind = kk at *
      generalize (f k).keep = kp at *
      go_wp2_with fail
      refine CD.out.mono ?_
      rintro e w5 ⟨rfl, h5⟩
      have H5 := Lib.hid h5
      clear h5 c0 c1 c2 c3
      go_wp2_with fail
      refine (o_waiting H5.out).mono ?_
      rintro e w6 ⟨rfl, h6⟩
      subst h6
      obtain ⟨FD, hD⟩ := H5.out.left.get
      obtain ⟨FR, hRz, sb, wb, hRD, _⟩ := H5.out.swap2.left.get
      have CIM := Lib.hid (fun w' (g : Gr w6 w') => w_image w' d z1 FD (DD.gr hD g))
      obtain ⟨sc, wo, wc, hrb, hrs, hrw, _⟩ := hRD
      have hsf := rowS_own hrs
      have HSF := Lib.hid hsf
      have r0 := blk_cell hrb 0 (v := .slice (some ⟨sb, 0, none⟩) z1.safe.length sc) rfl
      have r1 := blk_cell hrb 1 (v := .slice wo z1.wait.length wc) rfl
      have R1 := Lib.hid r1
      have R0 := Lib.hid r0
      obtain ⟨m, hm⟩ : ∃ m, m = z1.wait.length := ⟨_, rfl⟩
      have HM := Lib.hid hm
      rw [← hm] at R1 HW1 ⊢
      have hm9 : m ≤ k + 1 := HW1.out
      rw [HZ1.out] at R0
      clear hD hRz hrb hrs hrw hsf r0 r1 hm
      have hS : Gr w6 w6 := Gr.refl _
      go_upto_region 14 with fail
      go_cut [13] (fun v wx => v = .bool true ∧ Gr w6 wx)
      case first =>
        have hS1 := gr_drew6 hS
        have c1 := R0.out
        have c1d := cell_drew6 c1
        go_region_held3 (fun w' => Gr w6 w' ∧ w'.cell? ⟨r, 0, none⟩ = some (.slice (some ⟨sb, 0, none⟩) n sc))
          ((refine ⟨?_, ?_⟩ <;> first | (with_reducible assumption) | (with_reducible exact gr_drew6 (by assumption)) | (with_reducible exact cell_drew6 (by assumption))))
          (first
            | (go_at_call 16; refine (CIM.out _ (by assumption)).mono ?_; rintro e w7 ⟨g7, c7, rfl, hrow7, hge7, hq7⟩; have HROW7 := Lib.hid (rowS_own hrow7); rw [HZ1.out]; have hS2 : Gr w6 w7 := gtrans (by assumption) hq7; have c17 : w7.cell? ⟨r, 0, none⟩ = some (.slice (some ⟨sb, 0, none⟩) n sc) := kcell hq7 (by assumption); clear hq7 hrow7 hge7)
            | (go_at_call 15; have CS := Lib.hid (e_same w7 _ _ c7 sc z1.safe z1.safe HROW7.out (HSF.out.gr (by assumption)) (by rw [HZ1.out]; omega)); rw [show sameB z1.safe z1.safe = true from decide_eq_true rfl, HZ1.out] at CS; refine CS.out.mono ?_; rintro e w8 ⟨rfl, hq8⟩; have hS3 : Gr w6 w8 := gtrans (by assumption) hq8; have c18 : w8.cell? ⟨r, 0, none⟩ = some (.slice (some ⟨sb, 0, none⟩) n sc) := kcell hq8 (by assumption); clear hq8 CS))
        all_goals
          go_wp2_with fail
          go_meet
          exact ⟨rfl, by assumption⟩
      case rest =>
        obtain ⟨rfl, hq⟩ := hcut
        have H9 := Lib.hid (H5.out.gr (by repeat (first | exact stable_emp | exact stable_dsk _ _ | exact stable_rdk _ _ | exact stable_row _ _ _ _ _ | exact stable_blk _ _ | apply stable_star)) hq)
        have r1 := kcell hq R1.out
        clear hq hS
        go_wp2_with fail
        go_roundw
        case rel => exact ⟨k + 1, z1, by omega, by go_num, HZ1.out, by rw [← HM.out]; omega, H9.out⟩
        case measure => simp [intOf]; omega
    · obtain rfl : k = len := by omega
      have dl : decide (k < k) = false := decide_eq_false (by omega)
      have CSS := Lib.hid (o_sectors HSS.out)
      rw [HZL.out] at CSS
      go_wp2_with fail
      refine CSS.out.mono ?_
      rintro e w6 ⟨rfl, h6⟩
      subst h6
      go_wp2_with fail
      go_ret
      exact ⟨rfl, HSS.out.sub⟩
end Go.Proofs.Ytipnmffcfloglaa.P
