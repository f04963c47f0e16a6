/- Stage 6: DiskSafe. No condition. -/
import Derived.Test.YtipnmffcfloglaaI3
import Derived.Test.YtipnmffcfloglaaI2
set_option linter.unusedVariables false
namespace Go.Proofs.Ytipnmffcfloglaa.P
open Go.RowKit
def seenA (g : Nat) (L : List ByteArray) (c : Nat) : Asn := rowA 9 1 (.slice (some ⟨g, 0, none⟩) L.length c) L.length (strs L)
set_option maxRecDepth 100000 in
set_option maxHeartbeats 4000000 in
theorem l_safe6 (w : World) (o : Option Addr) (len cap bl off : Nat) (f : Nat → KActV) (hlen : len * 40 ≤ 140737488351232) (ho : 0 < len → o = some ⟨bl, off, none⟩ ∧ bl < w.heap.size) (hl : KActs w bl off len f) (i K : Int) (hi : i64 i) (hK : u64 K) :
    Calls Try.prog 5 #[.slice o len cap, .int .i64 i, .int .u64 K] w fun e w' => e = .returned (.bool true) ∧ Gr w w' := by
  have HO := Lib.hid ho
  have HL := Lib.hid hl
  have HI := Lib.hid hi
  have HK := Lib.hid hK
  have hlen2 : len ≤ 4000000000000 := by omega
  clear ho hl hlen hi hK
  have hs0 : (⟨#[]⟩ : ByteArray).size ≤ 9223372036854770000 := by decide
  have HS0 := Lib.hid hs0
  clear hs0
  go_enter Try.func5, Try.ntmps5
  go_wp2_with fail
  refine (c_shown _).mono ?_
  rintro e w1 ⟨rfl, g1⟩
  have G1 := Lib.hid (Own.start g1)
  clear g1
  go_wp2_with fail
  refine (o_new G1.out stable_emp 48 (by omega) (by omega)).mono ?_
  rintro e w2 ⟨d, rfl, h2⟩
  have H2 := Lib.hid h2
  clear h2
  go_wp2_with fail
  refine (c_sector _ HS0.out _).mono ?_
  rintro e w3 ⟨rfl, g3⟩
  have H3 := Lib.hid (((H2.out.gr (stable_star (stable_dsk _ _) stable_emp) g3).alloc (stable_star (stable_dsk _ _) stable_emp) (.cells #[.string (secF ⟨#[]⟩)] 9)).conv (A' := rowA 9 1 (.slice (some ⟨w3.heap.size, 0, none⟩) 1 1) 1 (strs [secF ⟨#[]⟩])) (fun F hF => row_of_blk (xs := strs [secF ⟨#[]⟩]) rfl (by unfold maxLen; omega) hF))
  clear g3
  go_wp2_with fail
  have H3 := Lib.hid H3.out.swap2
  go_loopw [10, 11, 12] (fun v10 v11 v12 wr => ∃ (k : Nat) (z : DState) (u : ByteArray) (g c : Nat) (L : List ByteArray), k ≤ len ∧ v12 = .int .i64 k ∧ v10 = .string u ∧ v11 = .slice (some ⟨g, 0, none⟩) L.length c ∧ Live z ∧ z.safe.length = 48 ∧ z.wait.length ≤ k ∧ L.length ≤ k + 1 ∧ SeenOK z i L ∧ SureOK z i u ∧ Own w wr (Star (dsk d z) (Star (seenA g L c) emp))) (fun _ _ v12 _ => len - (intOf v12).toNat)
  case atStart => exact ⟨0, _, _, _, _, [secF ⟨#[]⟩], Nat.zero_le _, rfl, rfl, rfl, live_new _, List.length_replicate .., Nat.le_refl _, Nat.le_refl _, seen_new i, .inl rfl, H3.out⟩
  case round =>
    obtain ⟨k, z, u, g, c, L, hk, rfl, rfl, rfl, hlv, h48, hwl, hLl, hsn, hsu, hss⟩ := hrel
    have HSS := Lib.hid hss
    have HLV := Lib.hid hlv
    have H48 := Lib.hid h48
    have HWL := Lib.hid hwl
    have HLL := Lib.hid hLl
    have HSN := Lib.hid hsn
    have HSU := Lib.hid hsu
    have HWZ := Lib.hid (own_wz hss)
    have hw : z.wait.length ≤ 4000000000000 := by omega
    have HW := Lib.hid hw
    clear hss hlv h48 hwl hLl hsn hsu hw
    have sE : Stable (Star (seenA g L c) emp) := stable_star (stable_row _ _ _ _ _) stable_emp
    by_cases hlt : k < len
    · obtain ⟨rfl, hbl⟩ := HO.out (by omega)
      obtain ⟨hok, a0, a1, a2, a3⟩ := HL.out k hlt
      have hsz : (f k).s.size ≤ 9223372036854770000 := Nat.le_trans hok.2.2.1 (by decide)
      have HSZ := Lib.hid hsz
      have HKP : RowKit.Hid (Go.Proofs.Ytipnmffcfloglaa.P.u64 (f k).keep) := Lib.hid hok.2.2.2
      have dl : decide (k < len) = true := decide_eq_true hlt
      have c0 := HSS.out.cell a0
      have c1 := HSS.out.cell a1
      have c2 := HSS.out.cell a2
      have c3 := HSS.out.cell a3
      clear hsz hok a0 a1 a2 a3
      generalize (f k).s = sk at *
      generalize (f k).i = ik at *
      generalize (f k).kind = kk at *
      generalize (f k).keep = kp at *
      have H4 := Lib.hid (HSS.out.alloc (stable_star (stable_dsk _ _) sE) (.cells #[.int .i64 kk, .int .i64 ik, .string sk, .int .u64 kp] 34)).swap2
      have sB : Stable (Star (blkA wr.heap.size (.cells #[.int .i64 kk, .int .i64 ik, .string sk, .int .u64 kp] 34)) (Star (seenA g L c) emp)) := stable_star (stable_blk _ _) sE
      by_cases hk2 : kk = 2
      · subst hk2
        have e1 := secF_size sk
        obtain ⟨z1, hz1⟩ : ∃ z1, z1 = writeZ z ik (secF sk) := ⟨_, rfl⟩
        obtain ⟨r1, hr1⟩ : ∃ r1, r1 = writeR z ik (secF sk) := ⟨_, rfl⟩
        go_upto_region 13 with fail
        have hS : Own w _ (Star (dsk d z) (Star (blkA wr.heap.size (.cells #[.int .i64 2, .int .i64 ik, .string sk, .int .u64 kp] 34)) (Star (seenA g L c) emp))) := H4.out
        obtain ⟨B, hB⟩ : ∃ B, B = wr.heap.size := ⟨_, rfl⟩
        rw [← hB] at hS sB
        have b1 := blk_cell hS.swap2.blk 1 (v := .int .i64 ik) rfl
        have b2 := blk_cell hS.swap2.blk 2 (v := .string sk) rfl
        rw [show wr.heap.size = B from hB.symm]
        generalize wr.alloc (.cells #[.int .i64 2, .int .i64 ik, .string sk, .int .u64 kp] 34) = w4 at *
        clear H4 hB c0 c1 c2 c3
        have HS4 := Lib.hid hS
        go_cut [14] (fun v14 wx => v14 = .int .i64 r1 ∧ Own w wx (Star (dsk d z1) (Star (blkA B (.cells #[.int .i64 2, .int .i64 ik, .string sk, .int .u64 kp] 34)) (Star (seenA g L c) emp))))
        case first =>
          have hS1 := hS.drew (stable_star (stable_dsk _ _) sB)
          have c1d := cell_drew6 b1
          have c2d := cell_drew6 b2
          go_region_held3 (fun w' => w'.cell? ⟨B, 1, none⟩ = some (.int .i64 ik) ∧ w'.cell? ⟨B, 2, none⟩ = some (.string sk))
            ((refine ⟨?_, ?_⟩ <;> first | (with_reducible assumption) | (with_reducible exact cell_drew6 (by assumption))))
            (first
              | (go_at_call 21; refine (c_sector _ HSZ.out _).mono ?_; rintro e w5 ⟨rfl, hq5⟩; have hS2 : Own w w5 (Star (dsk d z) (Star (blkA B (.cells #[.int .i64 2, .int .i64 ik, .string sk, .int .u64 kp] 34)) (Star (seenA g L c) emp))) := Own.gr (by assumption) (stable_star (stable_dsk _ _) sB) hq5; have c15 : w5.cell? ⟨B, 1, none⟩ = some (.int .i64 ik) := kcell hq5 (by assumption); have c25 : w5.cell? ⟨B, 2, none⟩ = some (.string sk) := kcell hq5 (by assumption); clear hq5)
              | (go_at_call 20; refine (o_write (by assumption : Own w _ (Star (dsk d z) (Star (blkA B (.cells #[.int .i64 2, .int .i64 ik, .string sk, .int .u64 kp] 34)) (Star (seenA g L c) emp)))) sB ik (secF sk) HW.out).mono ?_; rintro e w6 ⟨rfl, hq6⟩; have hS3 : Own w w6 (Star (dsk d z1) (Star (blkA B (.cells #[.int .i64 2, .int .i64 ik, .string sk, .int .u64 kp] 34)) (Star (seenA g L c) emp))) := (by rw [hz1]; exact hq6); have c16 : w6.cell? ⟨B, 1, none⟩ = some (.int .i64 ik) := blk_cell hS3.swap2.blk 1 rfl; have c26 : w6.cell? ⟨B, 2, none⟩ = some (.string sk) := blk_cell hS3.swap2.blk 2 rfl; clear hq6))
          all_goals
            go_wp2_with fail
            go_meet
            exact ⟨by rw [hr1], by assumption⟩
        case rest =>
          obtain ⟨rfl, hq⟩ := hcut
          have H5 := Lib.hid hq
          have b1 := blk_cell hq.swap2.blk 1 (v := .int .i64 ik) rfl
          have b2 := blk_cell hq.swap2.blk 2 (v := .string sk) rfl
          clear hq
          have hlv1 : Live z1 := by rw [hz1]; exact HLV.out.write _ _
          have h481 : z1.safe.length = 48 := by rw [hz1, write_safe]; exact H48.out
          have hwl1 : z1.wait.length ≤ k + 1 := by rw [hz1]; exact Nat.le_trans (write_wait _ _ _) (by have := HWL.out; omega)
          have HLV1 := Lib.hid hlv1
          have H481 := Lib.hid h481
          have HWL1 := Lib.hid hwl1
          have HZ1 := Lib.hid hz1
          have HR1 := Lib.hid hr1
          have E1 := Lib.hid e1
          clear hlv1 h481 hwl1 hz1 hr1 e1
          cases hh : hasB z ik with
          | false =>
            have h1 : r1 = 1 := HR1.out.trans (write_no z HLV.out ik _ hh).2
            have h2 : z1 = z := HZ1.out.trans (write_no z HLV.out ik _ hh).1
            have H2' := Lib.hid h2
            subst h1
            clear h2 hh
            go_wp2_with fail
            go_roundw
            case rel => exact ⟨k + 1, z1, u, g, c, L, by omega, by go_num, rfl, rfl, HLV1.out, H481.out, HWL1.out, by have := HLL.out; omega, by rw [H2'.out]; exact HSN.out, by rw [H2'.out]; exact HSU.out, H5.out.drop2'⟩
            case measure => simp [intOf]; omega
          | true =>
            have h1 : r1 = 0 := HR1.out.trans (write_yes z HLV.out ik _ hh E1.out)
            subst h1
            clear hh
            by_cases hik : ik = i
            · subst hik
              obtain ⟨i0, hi0, hz0, hz1', hz2⟩ := info_parts strInfo
              go_wp2_with fail
              refine (c_sector _ HSZ.out _).mono ?_
              rintro e w7 ⟨rfl, g7⟩
              have H7 := Lib.hid ((H5.out.drop2'.gr (stable_star (stable_dsk _ _) sE) g7).alloc (stable_star (stable_dsk _ _) sE) (.cells #[.string (secF sk)] 9))
              clear g7
              have HROW := Lib.hid H7.out.rot3.row
              have HLL' := HLL.out
              have sH := sE
              clear b1 b2
              go_wp2_with (at_builtin; refine wpList_append_lies _ rfl _ _ _ rfl 0 9 i0 (.string ⟨#[]⟩) 1 16 Try.underlying37 hi0 hz0 hz1' hz2 rfl (by omega) (.slice (some ⟨g, 0, none⟩) L.length c) L.length (strs L) rfl HROW.out ⟨w7.heap.size, 0, none⟩ 1 1 [.string (secF sk)] rfl rfl (World.news_of_block (cs := #[.string (secF sk)]) (blk_new _ _)) (by simp [Value.oneCell']) (by omega) (by unfold maxLen; omega) (by omega) (by omega) (w7.heap.size + 1) (by simp) ?_; intro g2 cap2 w8 hown8 hgrow8 hat8 hlt8; have HO8 := Lib.hid hown8; have HG8 := Lib.hid hgrow8; have HA8 := Lib.hid hat8; have HT8 := Lib.hid hlt8; clear hown8 hgrow8 hat8 hlt8)
              have H8 : RowKit.Hid (Own w w8 (Star (dsk d z1) (Star (seenA g2 (L ++ [secF sk]) cap2) emp))) := by
                have h9 := H7.out.rot3.grown (g := g2) (stable_star (stable_blk _ _) (stable_star (stable_dsk _ _) stable_emp)) HO8.out rfl HG8.out (HA8.out.elim .inl (fun e => .inr (by simp; omega))) HT8.out
                have h10 := h9.drop2.swap2
                unfold seenA
                rw [List.length_append, strs_append]
                exact Lib.hid h10
              go_wp2_with fail
              go_roundw
              case rel => exact ⟨k + 1, z1, ⟨#[]⟩, g2, cap2, L ++ [secF sk], by omega, by go_num, rfl, by rw [List.length_append]; rfl, HLV1.out, H481.out, HWL1.out, by rw [List.length_append]; have := HLL.out; simp; omega, by rw [HZ1.out]; exact seen_mine z HLV.out _ _ L HSN.out, .inl rfl, H8.out⟩
              case measure => simp [intOf]; omega
            · have hik2 : (ik == i) = false := beq_eq_false_iff_ne.2 hik
              have HIK := Lib.hid hik
              clear hik
              go_wp2_with fail
              go_roundw
              case rel => exact ⟨k + 1, z1, u, g, c, L, by omega, by go_num, rfl, rfl, HLV1.out, H481.out, HWL1.out, by have := HLL.out; omega, by rw [HZ1.out]; exact seen_write z HLV.out i ik _ L HIK.out HSN.out, by rw [HZ1.out]; exact sure_write z HLV.out i ik _ u HIK.out HSU.out, H5.out.drop2'⟩
              case measure => simp [intOf]; omega
      · by_cases hk3 : kk = 3
        · subst hk3
          obtain ⟨z1, hz1⟩ : ∃ z1, z1 = flushZ z := ⟨_, rfl⟩
          have hlv1 : Live z1 := by rw [hz1]; exact HLV.out.flush
          have h481 : z1.safe.length = 48 := by rw [hz1, flush_len]; exact H48.out
          have hwl1 : z1.wait.length ≤ k + 1 := by rw [hz1]; exact Nat.le_trans (flush_wait _) (by have := HWL.out; omega)
          have CF := Lib.hid (o_flush H4.out sB HW.out)
          rw [← hz1, HLV.out.flushR] at CF
          have HLV1 := Lib.hid hlv1
          have H481 := Lib.hid h481
          have HWL1 := Lib.hid hwl1
          have HZ1 := Lib.hid hz1
          clear hlv1 h481 hwl1 hz1 hk2
          go_wp2_with fail
          refine CF.out.mono ?_
          rintro e w7 ⟨rfl, h7⟩
          have H7 := Lib.hid h7.drop2'
          clear h7
          go_wp2_with fail
          have HR := Lib.hid (o_read H7.out sE i (by have := HWL1.out; omega))
          by_cases hq : 0 ≤ i ∧ i < 48
          · obtain ⟨q, rfl⟩ : ∃ q : Nat, i = (q : Int) := ⟨i.toNat, by omega⟩
            have hq2 : q < 48 := by omega
            rw [(readB_live z1 HLV1.out q (by rw [H481.out]; exact hq2)).1, (readB_live z1 HLV1.out q (by rw [H481.out]; exact hq2)).2] at HR
            clear hq
            refine HR.out.mono ?_
            rintro e w8 ⟨rfl, h8⟩
            have H8 := Lib.hid h8
            clear h8 HR
            go_wp2_with fail
            go_roundw
            case rel => exact ⟨k + 1, z1, _, g, c, L, by omega, by go_num, rfl, rfl, HLV1.out, H481.out, HWL1.out, by have := HLL.out; omega, by rw [HZ1.out]; exact seen_flush z HLV.out HWZ.out H48.out _ L HSN.out, by rw [HZ1.out]; exact sure_flush z HLV.out HWZ.out H48.out q hq2, H8.out⟩
            case measure => simp [intOf]; omega
          · rw [(readB_bad z1 HLV1.out i (by rw [H481.out]; omega)).1, (readB_bad z1 HLV1.out i (by rw [H481.out]; omega)).2] at HR
            refine HR.out.mono ?_
            rintro e w8 ⟨rfl, h8⟩
            have H8 := Lib.hid h8
            have HQ := Lib.hid hq
            clear h8 HR hq
            go_wp2_with fail
            go_roundw
            case rel => exact ⟨k + 1, z1, u, g, c, L, by omega, by go_num, rfl, rfl, HLV1.out, H481.out, HWL1.out, by have := HLL.out; omega, by rw [HZ1.out]; exact seen_flush z HLV.out HWZ.out H48.out _ L HSN.out, HSU.out.elim .inl (fun ⟨q, e, h, _⟩ => absurd ⟨by omega, by omega⟩ HQ.out), H8.out⟩
            case measure => simp [intOf]; omega
        · by_cases hk5 : kk = 5
          · subst hk5
            obtain ⟨z1, hz1⟩ : ∃ z1, z1 = crashZ z kp := ⟨_, rfl⟩
            have CF := Lib.hid (o_crash H4.out sB kp HKP.out HW.out)
            rw [← hz1] at CF
            have HZ1 := Lib.hid hz1
            clear hz1 hk2 hk3
            go_wp2_with fail
            refine CF.out.mono ?_
            rintro e w7 ⟨rfl, h7⟩
            have H7 := Lib.hid h7.drop2'
            clear h7
            go_wp2_with fail
            go_roundw
            case rel => exact ⟨k + 1, z1, u, g, c, L, by omega, by go_num, rfl, rfl, by rw [HZ1.out]; exact live_crash _ _, by rw [HZ1.out, crash_len]; exact H48.out, by rw [HZ1.out]; exact Nat.zero_le _, by have := HLL.out; omega, by rw [HZ1.out]; exact seen_crash z HWZ.out H48.out i kp L HSN.out, by rw [HZ1.out]; exact sure_crash z HWZ.out H48.out i kp u HSU.out, H7.out⟩
            case measure => simp [intOf]; omega
          · have hk2b : (kk == 2) = false := beq_eq_false_iff_ne.2 hk2
            have hk3b : (kk == 3) = false := beq_eq_false_iff_ne.2 hk3
            have hk5b : (kk == 5) = false := beq_eq_false_iff_ne.2 hk5
            clear hk2 hk3 hk5
            go_wp2_with fail
            go_roundw
            case rel => exact ⟨k + 1, z, u, g, c, L, by omega, by go_num, rfl, rfl, HLV.out, H48.out, by have := HWL.out; omega, by have := HLL.out; omega, HSN.out, HSU.out, H4.out.drop2'⟩
            case measure => simp [intOf]; omega
    · obtain rfl : k = len := by omega
      have dl : decide (k < k) = false := decide_eq_false (by omega)
      obtain ⟨z1, hz1⟩ : ∃ z1, z1 = crashZ z K := ⟨_, rfl⟩
      have CF := Lib.hid (o_crash HSS.out sE K HK.out HW.out)
      rw [← hz1] at CF
      have hlv1 : Live z1 := by rw [hz1]; exact live_crash _ _
      have h481 : z1.safe.length = 48 := by rw [hz1, crash_len]; exact H48.out
      have hwl1 : z1.wait = [] := by rw [hz1]; rfl
      have HSN1 : RowKit.Hid (SeenOK z1 i L) := Lib.hid (by rw [hz1]; exact seen_crash z HWZ.out H48.out i K L HSN.out)
      have HSU1 : RowKit.Hid (SureOK z1 i u) := Lib.hid (by rw [hz1]; exact sure_crash z HWZ.out H48.out i K u HSU.out)
      have HLV1 := Lib.hid hlv1
      have H481 := Lib.hid h481
      have HWL1 := Lib.hid hwl1
      clear hlv1 h481 hwl1 hz1
      go_wp2_with fail
      refine CF.out.mono ?_
      rintro e w7 ⟨rfl, h7⟩
      have H7 := Lib.hid h7
      clear h7
      go_wp2_with fail
      have HR := Lib.hid (o_read H7.out sE i (by rw [HWL1.out]; exact Nat.zero_le _))
      by_cases hq : 0 ≤ i ∧ i < 48
      · obtain ⟨q, rfl⟩ : ∃ q : Nat, i = (q : Int) := ⟨i.toNat, by omega⟩
        have hq2 : q < 48 := by omega
        have e2 : readS z1 q = getS z1.safe q := by unfold readS; rw [HWL1.out]; rfl
        rw [(readB_live z1 HLV1.out q (by rw [H481.out]; exact hq2)).1, (readB_live z1 HLV1.out q (by rw [H481.out]; exact hq2)).2, e2] at HR
        have hin : getS z1.safe q ∈ L := HSN1.out.1 q rfl hq2
        have hsu : u = ⟨#[]⟩ ∨ getS z1.safe q = u := sure_get z1 q u HSU1.out
        generalize getS z1.safe q = s at *
        obtain ⟨j0, hj0, hj1⟩ := List.getElem_of_mem hin
        have HJ := Lib.hid hj1
        have HSUR := Lib.hid hsu
        clear hq e2 hin hsu hj1
        refine HR.out.mono ?_
        rintro e w8 ⟨rfl, h8⟩
        have H8 := Lib.hid h8
        clear h8 HR
        go_wp2_with fail
        have HROW := Lib.hid H8.out.swap2.row
        have hj0b : j0 < L.length := hj0
        have hLlen : L.length ≤ 4000000000001 := by have := HLL.out; omega
        go_loop [20, 21] (fun v20 v21 => ∃ (m : Nat) (b : Bool), m ≤ L.length ∧ v21 = .int .i64 m ∧ v20 = .bool b ∧ (j0 < m → b = true)) (fun _ v21 => L.length - (intOf v21).toNat)
        case atStart => exact ⟨0, false, Nat.zero_le _, rfl, rfl, fun h => absurd h (by omega)⟩
        case round =>
          obtain ⟨m, b, hm, rfl, rfl, hb⟩ := hrel
          have HB := Lib.hid hb
          clear hb
          by_cases hml : m < L.length
          · have dm : decide (m < L.length) = true := decide_eq_true hml
            have cm : w8.cell? ⟨g, m, none⟩ = some (.string L[m]) := by
              rw [World.ownsRow.cellAt HROW.out m (by omega)]
              unfold strs
              rw [List.getElem?_map, List.getElem?_eq_getElem hml]; rfl
            have hjm : m = j0 → L[m] = s := by rintro rfl; exact HJ.out
            have HJM := Lib.hid hjm
            clear hjm
            generalize L[m] = x at *
            cases b with
            | true =>
              go_wp2_with fail
              go_round
              case rel => exact ⟨m + 1, true, by omega, by go_num, rfl, fun _ => rfl⟩
              case measure => simp [intOf]; omega
            | false =>
              by_cases hx : x = s
              · subst hx
                go_wp2_with fail
                go_round
                case rel => exact ⟨m + 1, true, by omega, by go_num, rfl, fun _ => rfl⟩
                case measure => simp [intOf]; omega
              · have hxb := tl_ne hx
                have HX := Lib.hid hx
                clear hx
                go_wp2_with fail
                go_round
                case rel => exact ⟨m + 1, false, by omega, by go_num, rfl, fun h => by
                  rcases Nat.lt_or_ge j0 m with h2 | h2
                  · exact HB.out h2
                  · exact absurd (HJM.out (by omega)) HX.out⟩
                case measure => simp [intOf]; omega
          · obtain rfl : m = L.length := by omega
            have dm : decide (L.length < L.length) = false := decide_eq_false (by omega)
            obtain rfl : b = true := HB.out hj0b
            rcases HSUR.out with rfl | rfl
            · go_wp2_with fail
              go_ret
              exact ⟨rfl, H8.out.sub⟩
            · by_cases hu : s = ⟨#[]⟩
              · subst hu
                go_wp2_with fail
                go_ret
                exact ⟨rfl, H8.out.sub⟩
              · clear hu
                go_wp2_with fail
                all_goals
                  go_ret
                  exact ⟨rfl, H8.out.sub⟩
      · rw [(readB_bad z1 HLV1.out i (by rw [H481.out]; omega)).1, (readB_bad z1 HLV1.out i (by rw [H481.out]; omega)).2] at HR
        refine HR.out.mono ?_
        rintro e w8 ⟨rfl, h8⟩
        have H8 := Lib.hid h8
        clear h8 HR
        have hc : i < 0 ∨ (0 ≤ i ∧ 48 ≤ i) := by omega
        clear hq
        rcases hc with h0 | ⟨h0, h1⟩
        all_goals
          go_wp2_with fail
          go_ret
          exact ⟨rfl, H8.out.sub⟩
end Go.Proofs.Ytipnmffcfloglaa.P
