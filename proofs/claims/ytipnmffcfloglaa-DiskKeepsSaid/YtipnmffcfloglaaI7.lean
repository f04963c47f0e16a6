/- Stage 6: DiskKeeps. No condition. -/
import Derived.Test.YtipnmffcfloglaaI6
import Derived.Test.YtipnmffcfloglaaI2
set_option linter.unusedVariables false
namespace Go.Proofs.Ytipnmffcfloglaa.P
open Go.RowKit
/-- All sectors and writes have 64 bytes. -/
def SZ (z : DState) : Prop := (∀ s ∈ z.safe, s.size = 64) ∧ ∀ x ∈ z.wait, x.2.size = 64
theorem sz_new (n : Nat) : SZ (newZ (List.replicate n z64)) := ⟨fun s hs => by rw [List.eq_of_mem_replicate hs]; exact z64_size, fun x hx => by cases hx⟩
theorem sz_write (z : DState) (hl : Live z) (h : SZ z) (i : Int) (s : ByteArray) : SZ (writeZ z i s) := by
  refine ⟨fun x hx => by rw [write_safe] at hx; exact h.1 x hx, fun x hx => ?_⟩
  rw [hl.writeZ] at hx
  cases hh : (hasB z i && decide (s.size = 64)) with
  | false => rw [hh] at hx; exact h.2 x hx
  | true =>
    rw [hh] at hx
    rcases List.mem_append.1 hx with hx | hx
    · exact h.2 x hx
    · rw [List.mem_singleton.1 hx]; exact of_decide_eq_true (Bool.and_eq_true_iff.1 hh).2
theorem sz_set (P : Nat → Bool) (safe : List ByteArray) (wait : List (Int × ByteArray)) (h : ∀ s ∈ safe, s.size = 64) (h2 : ∀ x ∈ wait, x.2.size = 64) : ∀ k, ∀ s ∈ setN P safe wait k, s.size = 64
  | 0 => h
  | k + 1 => by
    have ih := sz_set P safe wait h h2 k
    rw [setN]
    cases hx : wait[k]? with
    | none => exact ih
    | some x =>
      cases P k with
      | false => exact ih
      | true =>
        intro s hs
        rcases List.mem_or_eq_of_mem_set hs with hs | hs
        · exact ih s hs
        · rw [hs]; exact h2 x (List.mem_of_getElem? hx)
theorem sz_flush (z : DState) (hl : Live z) (h : SZ z) : SZ (flushZ z) := by
  rw [hl.flushZ]; exact ⟨sz_set _ _ _ h.1 h.2 _, fun x hx => by cases hx⟩
theorem keep_all (k : Nat) : keepB 18446744073709551615 k = true := by
  unfold keepB
  have h : ∀ r, r < 64 → decide ((18446744073709551615 : Int) / 2 ^ r % 2 = 1) = true := by decide
  exact h _ (by omega)
theorem keep_none (k : Nat) : keepB 0 k = false := by
  unfold keepB; rw [Int.zero_ediv]; rfl
theorem setN_no (P : Nat → Bool) (hP : ∀ k, P k = false) (safe : List ByteArray) (wait : List (Int × ByteArray)) : ∀ k, setN P safe wait k = safe
  | 0 => rfl
  | k + 1 => by
    rw [setN]
    cases wait[k]? with
    | none => exact setN_no P hP safe wait k
    | some x => rw [hP k]; exact setN_no P hP safe wait k
theorem crash_all (z : DState) (hl : Live z) : (crashZ z 18446744073709551615).safe = (flushZ z).safe := by
  rw [hl.flushZ]
  show setN (keepB 18446744073709551615) _ _ _ = setN _ _ _ _
  rw [show keepB 18446744073709551615 = fun _ => true from funext keep_all]
theorem crash_none (z : DState) : (crashZ z 0).safe = z.safe := setN_no _ keep_none _ _ _
theorem stable_star_r {A B : Asn} (h : Stable A ∧ Stable B) : Stable B := h.2
def two (a b : Nat) (za zb : DState) : Asn := Star (dsk a za) (Star (dsk b zb) emp)
theorem stable_two (a b : Nat) (za zb : DState) : Stable (two a b za zb) := stable_star (stable_dsk _ _) (stable_star (stable_dsk _ _) stable_emp)
set_option maxRecDepth 100000 in
set_option maxHeartbeats 4000000 in
theorem l_keeps6 (w : World) (o : Option Addr) (len cap bl off : Nat) (f : Nat → KActV) (hlen : len * 40 ≤ 140737488351232) (ho : 0 < len → o = some ⟨bl, off, none⟩ ∧ bl < w.heap.size) (hl : KActs w bl off len f) :
    Calls Try.prog 7 #[.slice o len cap] w fun e w' => e = .returned (.bool true) ∧ Gr w w' := by
  have HO := Lib.hid ho
  have HL := Lib.hid hl
  have hlen2 : len ≤ 4000000000000 := by omega
  clear ho hl hlen
  have sE : Stable emp := stable_emp
  go_enter Try.func7, Try.ntmps7
  go_wp2_with fail
  refine (c_shown _).mono ?_
  rintro e w1 ⟨rfl, g1⟩
  have G1 := Lib.hid (Own.start g1)
  clear g1
  go_wp2_with fail
  refine (o_new G1.out stable_emp 48 (by omega) (by omega)).mono ?_
  rintro e w2 ⟨a, rfl, h2⟩
  have H2 := Lib.hid h2
  clear h2
  go_wp2_with fail
  refine (o_new H2.out (stable_star (stable_dsk _ _) stable_emp) 48 (by omega) (by omega)).mono ?_
  rintro e w3 ⟨b, rfl, h3⟩
  have H3 := Lib.hid h3.swap2
  clear h3
  go_wp2_with fail
  go_loopw [8] (fun v wr => ∃ (k : Nat) (z : DState), k ≤ len ∧ v = .int .i64 k ∧ Live z ∧ z.safe.length = 48 ∧ z.wait.length ≤ k ∧ SZ z ∧ Own w wr (two a b z z)) (fun v _ => len - (intOf v).toNat)
  case atStart => exact ⟨0, _, Nat.zero_le _, rfl, live_new _, List.length_replicate .., Nat.le_refl _, sz_new 48, H3.out⟩
  case round =>
    obtain ⟨k, z, hk, rfl, hlv, h48, hwl, hsz0, hss⟩ := hrel
    have HSS := Lib.hid hss
    have HLV := Lib.hid hlv
    have H48 := Lib.hid h48
    have HWL := Lib.hid hwl
    have HS64 := Lib.hid hsz0
    have hw : z.wait.length ≤ 4000000000000 := by omega
    have HW := Lib.hid hw
    clear hss hlv h48 hwl hsz0 hw
    by_cases hlt : k < len
    · obtain ⟨rfl, hbl⟩ := HO.out (by omega)
      obtain ⟨hok, a0, a1, a2, a3⟩ := HL.out k hlt
      have A := Lib.hid (And.intro a0 (And.intro a1 (And.intro a2 a3)))
      have hsz : (f k).s.size ≤ 9223372036854770000 := Nat.le_trans hok.2.2.1 (by decide)
      have HSZ := Lib.hid hsz
      clear hsz hok a0 a1 a2 a3
      have dl : decide (k < len) = true := decide_eq_true hlt
      have c0 := HSS.out.cell A.out.1
      generalize (f k).s = sk at *
      generalize (f k).i = ik at *
      generalize (f k).kind = kk at *
      generalize (f k).keep = kp at *
      by_cases hk2 : kk = 2
      · subst hk2
        by_cases h64 : z.wait.length < 64
        · have hd : decide ((z.wait.length : Int) < 64) = true := decide_eq_true (by omega)
          have CW := Lib.hid (o_waiting HSS.out)
          obtain ⟨z1, hz1⟩ : ∃ z1, z1 = writeZ z ik (secF sk) := ⟨_, rfl⟩
          obtain ⟨m, hm⟩ : ∃ m, m = z.wait.length := ⟨_, rfl⟩
          rw [← hm] at hd CW
          have hm0 : (0 : Int) ≤ m := by omega
          have hm1 : (m : Int) < 64 := by omega
          clear hm h64 hd
          go_upto_region 10 with (go_at_call 14; refine CW.out.mono ?_; rintro e w4 ⟨rfl, h9⟩; subst h9)
          go_upto_region 10 with fail
          go_cut [] (fun wx => Own w wx (two a b (writeZ z ik (secF sk)) z))
          case first =>
            have hS : Own w _ (two a b z z) := HSS.out
            have hS1 := hS.drew (stable_two _ _ _ _)
            have c1 := hS.cell A.out.2.1
            have c2 := hS.cell A.out.2.2.1
            have c1d := cell_drew6 c1
            have c2d := cell_drew6 c2
            go_region_held3 (fun w' => w'.cell? ⟨bl, off + k * 4 + 1, none⟩ = some (.int .i64 ik) ∧ w'.cell? ⟨bl, off + k * 4 + 2, none⟩ = some (.string sk))
              ((refine ⟨?_, ?_⟩ <;> first | (with_reducible assumption) | (with_reducible exact cell_drew6 (by assumption))))
              (first
                | (go_at_call 21; refine (c_sector _ HSZ.out _).mono ?_; rintro e w5 ⟨rfl, hq5⟩; have hS2 : Own w w5 (two a b z z) := Own.gr (by assumption) (stable_two _ _ _ _) hq5; have c15 : w5.cell? ⟨bl, off + k * 4 + 1, none⟩ = some (.int .i64 ik) := kcell hq5 (by assumption); have c25 : w5.cell? ⟨bl, off + k * 4 + 2, none⟩ = some (.string sk) := kcell hq5 (by assumption); clear hq5)
                | (go_at_call 20; refine (o_write (by assumption : Own w _ (two a b z z)) (stable_star (stable_dsk _ _) stable_emp) ik (secF sk) HW.out).mono ?_; rintro e w6 ⟨rfl, hq6⟩; have hS3 : Own w w6 (two a b (writeZ z ik (secF sk)) z) := hq6; have c16 : w6.cell? ⟨bl, off + k * 4 + 1, none⟩ = some (.int .i64 ik) := hS3.cell A.out.2.1; have c26 : w6.cell? ⟨bl, off + k * 4 + 2, none⟩ = some (.string sk) := hS3.cell A.out.2.2.1; clear hq6))
            all_goals
              go_wp2_with fail
              go_meet
              assumption
          case rest =>
            have H5 := Lib.hid hcut
            clear hcut c0
            go_upto_region 11 with fail
            go_cut [] (fun wx => Own w wx (two b a (writeZ z ik (secF sk)) (writeZ z ik (secF sk))))
            case first =>
              have hS : Own w _ (two b a z (writeZ z ik (secF sk))) := H5.out.swap2
              have hS1 := hS.drew (stable_two _ _ _ _)
              have c1 := hS.cell A.out.2.1
              have c2 := hS.cell A.out.2.2.1
              have c1d := cell_drew6 c1
              have c2d := cell_drew6 c2
              go_region_held3 (fun w' => w'.cell? ⟨bl, off + k * 4 + 1, none⟩ = some (.int .i64 ik) ∧ w'.cell? ⟨bl, off + k * 4 + 2, none⟩ = some (.string sk))
                ((refine ⟨?_, ?_⟩ <;> first | (with_reducible assumption) | (with_reducible exact cell_drew6 (by assumption))))
                (first
                  | (go_at_call 21; refine (c_sector _ HSZ.out _).mono ?_; rintro e w5 ⟨rfl, hq5⟩; have hS2 : Own w w5 (two b a z (writeZ z ik (secF sk))) := Own.gr (by assumption) (stable_two _ _ _ _) hq5; have c15 : w5.cell? ⟨bl, off + k * 4 + 1, none⟩ = some (.int .i64 ik) := kcell hq5 (by assumption); have c25 : w5.cell? ⟨bl, off + k * 4 + 2, none⟩ = some (.string sk) := kcell hq5 (by assumption); clear hq5)
                  | (go_at_call 20; refine (o_write (by assumption : Own w _ (two b a z (writeZ z ik (secF sk)))) (stable_star (stable_dsk _ _) stable_emp) ik (secF sk) HW.out).mono ?_; rintro e w6 ⟨rfl, hq6⟩; have hS3 : Own w w6 (two b a (writeZ z ik (secF sk)) (writeZ z ik (secF sk))) := hq6; have c16 : w6.cell? ⟨bl, off + k * 4 + 1, none⟩ = some (.int .i64 ik) := hS3.cell A.out.2.1; have c26 : w6.cell? ⟨bl, off + k * 4 + 2, none⟩ = some (.string sk) := hS3.cell A.out.2.2.1; clear hq6))
              all_goals
                go_wp2_with fail
                go_meet
                assumption
            case rest =>
              have H6 := Lib.hid hcut.swap2
              rw [← hz1] at H6
              have c0 := H6.out.cell A.out.1
              have hlv1 : Live z1 := by rw [hz1]; exact HLV.out.write _ _
              have h481 : z1.safe.length = 48 := by rw [hz1, write_safe]; exact H48.out
              have hwl1 : z1.wait.length ≤ k + 1 := by rw [hz1]; exact Nat.le_trans (write_wait _ _ _) (by have := HWL.out; omega)
              have hsz1 : SZ z1 := by rw [hz1]; exact sz_write z HLV.out HS64.out ik _
              have HLV1 := Lib.hid hlv1
              have H481 := Lib.hid h481
              have HWL1 := Lib.hid hwl1
              have HSZ1 := Lib.hid hsz1
              clear hlv1 h481 hwl1 hsz1 hz1 hcut
              go_wp2_with fail
              go_roundw
              case rel => exact ⟨k + 1, z1, by omega, by go_num, HLV1.out, H481.out, HWL1.out, HSZ1.out, H6.out⟩
              case measure => simp [intOf]; omega
        · have CW := Lib.hid (o_waiting HSS.out)
          obtain ⟨m, hm⟩ : ∃ m, m = z.wait.length := ⟨_, rfl⟩
          rw [← hm] at CW
          have hm1 : (64 : Int) ≤ m := by omega
          clear hm h64
          go_wp2_with (go_at_call 14; refine CW.out.mono ?_; rintro e w4 ⟨rfl, h9⟩; subst h9)
          go_roundw
          case rel => exact ⟨k + 1, z, by omega, by go_num, HLV.out, H48.out, by have := HWL.out; omega, HS64.out, HSS.out⟩
          case measure => simp [intOf]; omega
      · by_cases hk3 : kk = 3
        · subst hk3
          obtain ⟨z1, hz1⟩ : ∃ z1, z1 = flushZ z := ⟨_, rfl⟩
          have hlv1 : Live z1 := by rw [hz1]; exact HLV.out.flush
          have h481 : z1.safe.length = 48 := by rw [hz1, flush_len]; exact H48.out
          have hwl1 : z1.wait.length ≤ k + 1 := by rw [hz1]; exact Nat.le_trans (flush_wait _) (by have := HWL.out; omega)
          have hsz1 : SZ z1 := by rw [hz1]; exact sz_flush z HLV.out HS64.out
          have CF := Lib.hid (o_flush HSS.out (stable_star (stable_dsk _ _) stable_emp) HW.out)
          have CG := Lib.hid (fun w' (h : Own w w' (Star (dsk b z) (Star (dsk a z1) emp))) => o_flush h (stable_star (stable_dsk _ _) stable_emp) HW.out)
          rw [← hz1] at CF CG
          generalize flushR z = fr at *
          have HLV1 := Lib.hid hlv1
          have H481 := Lib.hid h481
          have HWL1 := Lib.hid hwl1
          have HSZ1 := Lib.hid hsz1
          clear hlv1 h481 hwl1 hsz1 hz1 hk2
          go_wp2_with fail
          refine CF.out.mono ?_
          rintro e w7 ⟨rfl, h7⟩
          have H7 := Lib.hid h7.swap2
          clear h7
          go_wp2_with fail
          refine (CG.out _ H7.out).mono ?_
          rintro e w8 ⟨rfl, h8⟩
          have H8 := Lib.hid h8.swap2
          clear h8
          go_wp2_with fail
          go_roundw
          case rel => exact ⟨k + 1, z1, by omega, by go_num, HLV1.out, H481.out, HWL1.out, HSZ1.out, H8.out⟩
          case measure => simp [intOf]; omega
        · have hk2b : (kk == 2) = false := beq_eq_false_iff_ne.2 hk2
          have hk3b : (kk == 3) = false := beq_eq_false_iff_ne.2 hk3
          clear hk2 hk3
          go_wp2_with fail
          go_roundw
          case rel => exact ⟨k + 1, z, by omega, by go_num, HLV.out, H48.out, by have := HWL.out; omega, HS64.out, HSS.out⟩
          case measure => simp [intOf]; omega
    · obtain rfl : k = len := by omega
      have dl : decide (k < k) = false := decide_eq_false (by omega)
      go_wp2_with fail
      have hsz0 := HS64.out.1
      have HS0 := Lib.hid hsz0
      have hwz := own_wz HSS.out
      have HWZ := Lib.hid hwz
      clear hsz0 hwz
      obtain ⟨za, hza⟩ : ∃ za, za = crashZ z 18446744073709551615 := ⟨_, rfl⟩
      obtain ⟨zb, hzb⟩ : ∃ zb, zb = flushZ z := ⟨_, rfl⟩
      have hlva : Live za := by rw [hza]; exact live_crash _ _
      have hwa : za.wait = [] := by rw [hza]; rfl
      have hab : za.safe = zb.safe := by rw [hza, hzb]; exact crash_all z HLV.out
      have h48a : za.safe.length = 48 := by rw [hza, crash_len]; exact H48.out
      have HAB := Lib.hid hab
      have HWA := Lib.hid hwa
      have HA48 := Lib.hid h48a
      have CI := Lib.hid (o_image HSS.out (by repeat (first | exact stable_emp | exact stable_dsk _ _ | exact stable_row _ _ _ _ _ | exact stable_blk _ _ | apply stable_star)))
      have CC := Lib.hid (fun (R : Asn) (hR : Stable R) w' (h : Own w w' (Star (dsk a z) R)) => o_crash h hR 18446744073709551615 ⟨by decide, by decide⟩ HW.out)
      have CF := Lib.hid (fun (R : Asn) (hR : Stable R) w' (h : Own w w' (Star (dsk b z) R)) => o_flush h hR HW.out)
      rw [← hza] at CC
      rw [← hzb] at CF
      generalize flushR z = fr at *
      clear hlva hwa hab h48a hza hzb
      refine CI.out.mono ?_
      rintro e w10 ⟨g0, cap0, rfl, h10⟩
      have H10 := Lib.hid h10.swap2
      clear h10 CI
      obtain ⟨S0, hS0⟩ : ∃ S0, S0 = z.safe := ⟨_, rfl⟩
      have HS0E := Lib.hid hS0
      rw [← hS0] at H10 HS0
      rw [← hS0]
      have hS0l : S0.length = 48 := by rw [hS0]; exact H48.out
      have HS0L := Lib.hid hS0l
      clear hS0 hS0l
      go_wp2_with fail
      refine (CC.out _ (by repeat (first | exact stable_emp | exact stable_dsk _ _ | exact stable_row _ _ _ _ _ | exact stable_blk _ _ | apply stable_star)) _ H10.out).mono ?_
      rintro e w11 ⟨rfl, h11⟩
      have H11 := Lib.hid h11.rot3
      clear h11
      go_wp2_with fail
      refine (CF.out _ (by repeat (first | exact stable_emp | exact stable_dsk _ _ | exact stable_row _ _ _ _ _ | exact stable_blk _ _ | apply stable_star)) _ H11.out).mono ?_
      rintro e w12 ⟨rfl, h12⟩
      have H12 := Lib.hid h12.swap2
      clear h12
      go_wp2_with fail
      refine (o_image H12.out (by repeat (first | exact stable_emp | exact stable_dsk _ _ | exact stable_row _ _ _ _ _ | exact stable_blk _ _ | apply stable_star))).mono ?_
      rintro e w13 ⟨g1, cap1, rfl, h13⟩
      have H13 := Lib.hid h13.rot3
      clear h13
      go_wp2_with fail
      refine (o_image H13.out (by repeat (first | exact stable_emp | exact stable_dsk _ _ | exact stable_row _ _ _ _ _ | exact stable_blk _ _ | apply stable_star))).mono ?_
      rintro e w14 ⟨g2, cap2, rfl, h14⟩
      have H14 := Lib.hid h14
      have r2 := rowS_own h14.row
      have r1 := rowS_own h14.rot3.row
      have HR2 := Lib.hid r2
      have HR1 := Lib.hid r1
      clear h14 r1 r2
      go_wp2_with fail
      refine (e_same w14 _ _ cap1 cap2 za.safe zb.safe HR1.out HR2.out (by rw [HA48.out]; omega)).mono ?_
      rintro e w15 ⟨rfl, g15⟩
      have H15 : RowKit.Hid (Own w w15 (Star (rowA 9 1 (.slice (some ⟨g0, 0, none⟩) S0.length cap0) S0.length (strs S0)) (Star (dsk a za) (Star (dsk b zb) emp)))) := Lib.hid ((H14.out.gr (by repeat (first | exact stable_emp | exact stable_dsk _ _ | exact stable_row _ _ _ _ _ | exact stable_blk _ _ | apply stable_star)) g15).right.drop2'.rot3.mono (fun F hF => star_mono_r (fun F h => star_swap2 h) hF))
      have hsm : sameB za.safe zb.safe = true := by rw [HAB.out]; exact decide_eq_true rfl
      have HSM := Lib.hid hsm
      rw [hsm]
      have r0 := rowS_own H15.out.row
      have HR0 := Lib.hid r0
      clear g15 hsm r0
      go_wp2_with fail
      refine (c_of w15 _ cap0 S0 (by rw [HS0L.out]; omega) (by rw [HS0L.out]; omega) HR0.out HS0.out).mono ?_
      rintro e w16 ⟨c, F, rfl, k1, k2, k3⟩
      have H16 := Lib.hid (H15.out.add (by repeat (first | exact stable_emp | exact stable_dsk _ _ | exact stable_row _ _ _ _ _ | exact stable_blk _ _ | apply stable_star)) k3 ⟨F, k1, k2⟩ : Own w w16 (Star (dsk c (newZ S0)) _))
      clear k1 k2 k3
      have sR : Stable (Star (rowA 9 1 (.slice (some ⟨g0, 0, none⟩) S0.length cap0) S0.length (strs S0)) (Star (dsk a za) (Star (dsk b zb) emp))) := (by repeat (first | exact stable_emp | exact stable_dsk _ _ | exact stable_row _ _ _ _ _ | exact stable_blk _ _ | apply stable_star))
      generalize hRR : Star (rowA 9 1 (.slice (some ⟨g0, 0, none⟩) S0.length cap0) S0.length (strs S0)) (Star (dsk a za) (Star (dsk b zb) emp)) = RR at *
      have HRR := Lib.hid hRR
      clear hRR
      go_wp2_with fail
      go_loopw [13] (fun v wr => ∃ (m : Nat) (y : DState), m ≤ k ∧ v = .int .i64 m ∧ Live y ∧ y.safe = S0 ∧ y.wait.length ≤ m ∧ Own w wr (Star (dsk c y) RR)) (fun v _ => k - (intOf v).toNat)
      case atStart => exact ⟨0, _, Nat.zero_le _, rfl, live_new _, rfl, Nat.le_refl _, H16.out⟩
      case round =>
        obtain ⟨m, y, hm, rfl, hlv2, hys, hyw, hss2⟩ := hrel
        have HSS2 := Lib.hid hss2
        have HLV2 := Lib.hid hlv2
        have HYS := Lib.hid hys
        have HYW := Lib.hid hyw
        have hw2 : y.wait.length ≤ 4000000000000 := by omega
        have HW2 := Lib.hid hw2
        clear hss2 hlv2 hys hyw hw2
        by_cases hlt2 : m < k
        · obtain ⟨rfl, hbl⟩ := HO.out (by omega)
          obtain ⟨hok, a0, a1, a2, a3⟩ := HL.out m hlt2
          have A := Lib.hid (And.intro a0 (And.intro a1 (And.intro a2 a3)))
          have hsz : (f m).s.size ≤ 9223372036854770000 := Nat.le_trans hok.2.2.1 (by decide)
          have HSZ := Lib.hid hsz
          clear hsz hok a0 a1 a2 a3
          have dl2 : decide (m < k) = true := decide_eq_true hlt2
          have c0 := HSS2.out.cell A.out.1
          generalize (f m).s = sk at *
          generalize (f m).i = ik at *
          generalize (f m).kind = kk at *
          generalize (f m).keep = kp at *
          by_cases hk2 : kk = 2
          · subst hk2
            obtain ⟨z1, hz1⟩ : ∃ z1, z1 = writeZ y ik (secF sk) := ⟨_, rfl⟩
            go_upto_region 26 with fail
            have hS : Own w _ (Star (dsk c y) RR) := HSS2.out
            have hS1 := hS.drew (stable_star (stable_dsk _ _) sR)
            have c1 := hS.cell A.out.2.1
            have c2 := hS.cell A.out.2.2.1
            have c1d := cell_drew6 c1
            have c2d := cell_drew6 c2
            go_region_held3 (fun w' => w'.cell? ⟨bl, off + m * 4 + 1, none⟩ = some (.int .i64 ik) ∧ w'.cell? ⟨bl, off + m * 4 + 2, none⟩ = some (.string sk))
              ((refine ⟨?_, ?_⟩ <;> first | (with_reducible assumption) | (with_reducible exact cell_drew6 (by assumption))))
              (first
                | (go_at_call 21; refine (c_sector _ HSZ.out _).mono ?_; rintro e w5 ⟨rfl, hq5⟩; have hS2 : Own w w5 (Star (dsk c y) RR) := Own.gr (by assumption) (stable_star (stable_dsk _ _) sR) hq5; have c15 : w5.cell? ⟨bl, off + m * 4 + 1, none⟩ = some (.int .i64 ik) := kcell hq5 (by assumption); have c25 : w5.cell? ⟨bl, off + m * 4 + 2, none⟩ = some (.string sk) := kcell hq5 (by assumption); clear hq5)
                | (go_at_call 20; refine (o_write (by assumption : Own w _ (Star (dsk c y) RR)) (sR) ik (secF sk) HW2.out).mono ?_; rintro e w6 ⟨rfl, hq6⟩; have hS3 : Own w w6 (Star (dsk c (writeZ y ik (secF sk))) RR) := hq6; have c16 : w6.cell? ⟨bl, off + m * 4 + 1, none⟩ = some (.int .i64 ik) := hS3.cell A.out.2.1; have c26 : w6.cell? ⟨bl, off + m * 4 + 2, none⟩ = some (.string sk) := hS3.cell A.out.2.2.1; clear hq6))
            all_goals
            all_goals
              have H6 : RowKit.Hid (Own w _ (Star (dsk c (writeZ y ik (secF sk))) RR)) := Lib.hid (by assumption)
              rw [← hz1] at H6
              have HLV1 : RowKit.Hid (Live z1) := Lib.hid (by rw [hz1]; exact HLV2.out.write _ _)
              have HS1 : RowKit.Hid (z1.safe = S0) := Lib.hid (by rw [hz1, write_safe]; exact HYS.out)
              have HWL1 : RowKit.Hid (z1.wait.length ≤ m + 1) := Lib.hid (by rw [hz1]; exact Nat.le_trans (write_wait _ _ _) (by have := HYW.out; omega))
              clear hz1 hS3
              go_wp2_with fail
              go_roundw
              case rel => exact ⟨m + 1, z1, by omega, by go_num, HLV1.out, HS1.out, HWL1.out, H6.out⟩
              case measure => simp [intOf]; omega
          · have hk2b : (kk == 2) = false := beq_eq_false_iff_ne.2 hk2
            clear hk2
            go_wp2_with fail
            go_roundw
            case rel => exact ⟨m + 1, y, by omega, by go_num, HLV2.out, HYS.out, by have := HYW.out; omega, HSS2.out⟩
            case measure => simp [intOf]; omega
        · obtain rfl : m = k := by omega
          have dl2 : decide (m < m) = false := decide_eq_false (by omega)
          have CZ := Lib.hid (o_crash HSS2.out sR 0 ⟨by decide, by decide⟩ HW2.out)
          obtain ⟨zc, hzc⟩ : ∃ zc, zc = crashZ y 0 := ⟨_, rfl⟩
          have hcs : zc.safe = S0 := by rw [hzc, crash_none]; exact HYS.out
          have HCS := Lib.hid hcs
          rw [← hzc] at CZ
          clear hzc hcs
          go_wp2_with fail
          refine CZ.out.mono ?_
          rintro e w20 ⟨rfl, h20⟩
          have H20 := Lib.hid h20
          clear h20
          go_wp2_with fail
          refine (o_image H20.out sR).mono ?_
          rintro e w21 ⟨g3, cap3, rfl, h21⟩
          rw [HCS.out] at h21 ⊢
          have hRR := HRR.out
          subst hRR
          have H21 := Lib.hid h21
          have r3 := rowS_own h21.row
          have r4 := rowS_own h21.rot3.row
          have HR3 := Lib.hid r3
          have HR4 := Lib.hid r4
          clear h21 r3 r4
          go_wp2_with fail
          refine (e_same w21 _ _ cap3 cap0 S0 S0 HR3.out HR4.out (by rw [HS0L.out]; omega)).mono ?_
          rintro e w22 ⟨rfl, g22⟩
          rw [show sameB S0 S0 = true from decide_eq_true rfl]
          have H22 := Lib.hid ((H21.out.gr (by repeat (first | exact stable_emp | exact stable_dsk _ _ | exact stable_row _ _ _ _ _ | exact stable_blk _ _ | apply stable_star)) g22).right.right.right)
          have CWT := Lib.hid (o_waiting H22.out)
          rw [HWA.out] at CWT
          clear g22
          go_wp2_with (go_at_call 14; refine CWT.out.mono ?_; rintro e w23 ⟨rfl, h9⟩; subst h9)
          go_ret
          exact ⟨rfl, H22.out.sub⟩
end Go.Proofs.Ytipnmffcfloglaa.P
