/- Stage 6: DiskReads. No condition. -/
import Derived.Test.YtipnmffcfloglaaI1
import Derived.Test.YtipnmffcfloglaaH4
import Derived.Deep.RegionHeld3
import Derived.Deep.DeepCutAuto
set_option linter.unusedVariables false
namespace Go.Proofs.Ytipnmffcfloglaa.P
open Go.RowKit
theorem SS.cell {w0 w : World} {d : Nat} {z : DState} (h : SS w0 w d z) {p : Addr} {v : Value} (hc : w0.cell? p = some v) : w.cell? p = some v := kcell h.2 hc
theorem SS.drew {w0 w : World} {d : Nat} {z : DState} (h : SS w0 w d z) : SS w0 w.drew d z := h.gr (Gr.drewN (Gr.refl _) 1)
theorem secF_nil : secF ⟨#[]⟩ = z64 := by decide +kernel
theorem new_read (q : Nat) (hq : q < 48) : readS (newZ (List.replicate 48 z64)) q = secF ⟨#[]⟩ := by
  rw [secF_nil]
  show getS (List.replicate 48 z64) q = z64
  unfold getS; rw [List.getElem?_replicate, if_pos hq]; rfl
set_option maxRecDepth 100000 in
set_option maxHeartbeats 2000000 in
theorem l_reads6 (w : World) (o : Option Addr) (len cap bl off : Nat) (f : Nat → KActV) (hlen : len * 40 ≤ 140737488351232) (ho : 0 < len → o = some ⟨bl, off, none⟩ ∧ bl < w.heap.size) (hl : KActs w bl off len f) (q : Nat) (hq : q < 48) :
    Calls Try.prog 8 #[.slice o len cap, .int .i64 (q : Int)] w fun e w' => e = .returned (.bool true) ∧ Gr w w' := by
  have HO := Lib.hid ho
  have HL := Lib.hid hl
  have hlen2 : len ≤ 4000000000000 := by omega
  clear ho hl hlen
  have hs0 : (⟨#[]⟩ : ByteArray).size ≤ 9223372036854770000 := by decide
  have HS0 := Lib.hid hs0
  have d1 : decide ((q : Int) < 0) = false := decide_eq_false (by omega)
  have d2 : decide ((48 : Int) ≤ q) = false := decide_eq_false (by omega)
  clear hs0
  go_enter Try.func8, Try.ntmps8
  go_wp2_with fail
  refine (c_shown _).mono ?_
  rintro e w1 ⟨rfl, g1⟩
  have G1 := Lib.hid g1
  clear g1
  go_wp2_with fail
  refine (s_new w w1 G1.out 48 (by omega) (by omega)).mono ?_
  rintro e w2 ⟨d, rfl, h2⟩
  have H2 := Lib.hid h2
  clear h2
  go_wp2_with fail
  refine (c_sector _ HS0.out _).mono ?_
  rintro e w3 ⟨rfl, g3⟩
  have H3 := Lib.hid (H2.out.gr g3)
  clear g3
  go_wp2_with fail
  go_loopw [8, 9] (fun v8 v9 wr => ∃ (k : Nat) (z : DState), k ≤ len ∧ v9 = .int .i64 k ∧ Live z ∧ z.safe.length = 48 ∧ z.wait.length ≤ k ∧ v8 = .string (readS z q) ∧ SS w wr d z) (fun _ v9 _ => len - (intOf v9).toNat)
  case atStart => exact ⟨0, _, Nat.zero_le _, rfl, live_new _, List.length_replicate .., Nat.le_refl _, by rw [new_read q hq], H3.out⟩
  case round =>
    obtain ⟨k, z, hk, rfl, hlv, h48, hwl, rfl, hss⟩ := hrel
    have HSS := Lib.hid hss
    have HLV := Lib.hid hlv
    have H48 := Lib.hid h48
    have HWL := Lib.hid hwl
    clear hss hlv h48 hwl
    by_cases hlt : k < len
    · obtain ⟨rfl, hbl⟩ := HO.out (by omega)
      obtain ⟨hok, a0, a1, a2, a3⟩ := HL.out k hlt
      have A := Lib.hid (And.intro a0 (And.intro a1 (And.intro a2 a3)))
      have hsz : (f k).s.size ≤ 9223372036854770000 := Nat.le_trans hok.2.2.1 (by decide)
      have HSZ := Lib.hid hsz
      have HOK := Lib.hid hok
      clear hsz hok a0 a1 a2 a3
      have dl : decide (k < len) = true := decide_eq_true hlt
      have c0 := HSS.out.cell A.out.1
      have c1 := HSS.out.cell A.out.2.1
      have c2 := HSS.out.cell A.out.2.2.1
      generalize (f k).s = sk at *
      generalize (f k).i = ik at *
      generalize (f k).kind = kk at *
      generalize (f k).keep = kp at *
      by_cases hk2 : kk = 2
      · subst hk2
        have e1 := secF_size sk
        obtain ⟨z1, hz1⟩ : ∃ z1, z1 = writeZ z ik (secF sk) := ⟨_, rfl⟩
        have hw : z.wait.length ≤ 4000000000000 := by have := HWL.out; omega
        go_upto_region 10 with fail
        go_cut [] (fun wx => SS w wx d z1)
        case first =>
          have hS : SS w _ d z := HSS.out
          have hS1 := hS.drew
          have c1d := cell_drew6 c1
          have c2d := cell_drew6 c2
          go_region_held3 (fun w' => w'.cell? ⟨bl, off + k * 4 + 1, none⟩ = some (.int .i64 ik) ∧ w'.cell? ⟨bl, off + k * 4 + 2, none⟩ = some (.string sk))
            ((refine ⟨?_, ?_⟩ <;> first | (with_reducible assumption) | (with_reducible exact cell_drew6 (by assumption))))
            (first
              | (go_at_call 21; refine (c_sector _ HSZ.out _).mono ?_; rintro e w5 ⟨rfl, hq5⟩; have hS2 : SS w w5 d z := SS.gr (by assumption) hq5; have c15 : w5.cell? ⟨bl, off + k * 4 + 1, none⟩ = some (.int .i64 ik) := kcell hq5 (by assumption); have c25 : w5.cell? ⟨bl, off + k * 4 + 2, none⟩ = some (.string sk) := kcell hq5 (by assumption); clear hq5)
              | (go_at_call 20; refine (s_write w _ d z (by assumption) ik (secF sk) hw).mono ?_; rintro e w6 ⟨rfl, hq6⟩; have hS3 : SS w w6 d z1 := (by rw [hz1]; exact hq6); have c16 : w6.cell? ⟨bl, off + k * 4 + 1, none⟩ = some (.int .i64 ik) := SS.cell hS3 A.out.2.1; have c26 : w6.cell? ⟨bl, off + k * 4 + 2, none⟩ = some (.string sk) := SS.cell hS3 A.out.2.2.1; clear hq6))
          all_goals
            go_wp2_with fail
            go_meet
            assumption
        case rest =>
          have H5 := Lib.hid hcut
          have c1 := H5.out.cell A.out.2.1
          have c2 := H5.out.cell A.out.2.2.1
          have c0 := H5.out.cell A.out.1
          clear hcut
          have hlv1 : Live z1 := by rw [hz1]; exact HLV.out.write _ _
          have h481 : z1.safe.length = 48 := by rw [hz1, write_safe]; exact H48.out
          have hwl1 : z1.wait.length ≤ k + 1 := by rw [hz1]; exact Nat.le_trans (write_wait _ _ _) (by have := HWL.out; omega)
          have hrd : readS z1 q = bif decide (ik = (q : Int)) then secF sk else readS z q := by rw [hz1]; exact readS_write z HLV.out ik _ e1 q (by rw [H48.out]; exact hq)
          have hrb := readB_live z1 hlv1 q (by rw [h481]; exact hq)
          have HLV1 := Lib.hid hlv1
          have H481 := Lib.hid h481
          have HWL1 := Lib.hid hwl1
          have HRD := Lib.hid hrd
          have HRB := Lib.hid hrb
          clear hlv1 h481 hwl1 hrd hz1 e1 hw hrb
          by_cases hiq : ik = (q : Int)
          · subst hiq
            have HRD2 : RowKit.Hid (readS z1 q = secF sk) := Lib.hid (by rw [HRD.out, decide_eq_true rfl]; rfl)
            clear HRD
            go_wp2_with fail
            refine (c_sector _ HSZ.out _).mono ?_
            rintro e w7 ⟨rfl, g7⟩
            have H7 := Lib.hid (H5.out.gr g7)
            have c0 := H7.out.cell A.out.1
            clear g7
            go_wp2_with fail
            have HR := Lib.hid (s_read w w7 d z1 H7.out q (by have := HWL1.out; omega))
            rw [HRB.out.1, HRB.out.2, HRD2.out] at HR
            refine HR.out.mono ?_
            rintro e w8 ⟨rfl, h8⟩
            have H8 := Lib.hid h8
            clear h8 HR
            go_wp2_with fail
            go_roundw
            case rel => exact ⟨k + 1, z1, by omega, by go_num, HLV1.out, H481.out, HWL1.out, by rw [HRD2.out], H8.out⟩
            case measure => simp [intOf]; omega
          · have HRD2 : RowKit.Hid (readS z1 q = readS z q) := Lib.hid (by rw [HRD.out, decide_eq_false hiq]; rfl)
            have hiq2 : (ik == (q : Int)) = false := beq_eq_false_iff_ne.2 hiq
            clear HRD
            go_wp2_with fail
            have HR := Lib.hid (s_read w _ d z1 H5.out q (by have := HWL1.out; omega))
            rw [HRB.out.1, HRB.out.2, HRD2.out] at HR
            refine HR.out.mono ?_
            rintro e w8 ⟨rfl, h8⟩
            have H8 := Lib.hid h8
            clear h8 HR
            go_wp2_with fail
            go_roundw
            case rel => exact ⟨k + 1, z1, by omega, by go_num, HLV1.out, H481.out, HWL1.out, by rw [HRD2.out], H8.out⟩
            case measure => simp [intOf]; omega
      · by_cases hk3 : kk = 3
        · subst hk3
          obtain ⟨z1, hz1⟩ : ∃ z1, z1 = flushZ z := ⟨_, rfl⟩
          have hlv1 : Live z1 := by rw [hz1]; exact HLV.out.flush
          have h481 : z1.safe.length = 48 := by rw [hz1, flush_len]; exact H48.out
          have hwl1 : z1.wait.length ≤ k + 1 := by rw [hz1]; exact Nat.le_trans (flush_wait _) (by have := HWL.out; omega)
          have hrd : readS z1 q = readS z q := by rw [hz1]; exact readS_flush z HLV.out HSS.out.1.1 q (by rw [H48.out]; exact hq)
          have hrb := readB_live z1 hlv1 q (by rw [h481]; exact hq)
          rw [hrd] at hrb
          have CF := Lib.hid (s_flush w wr d z HSS.out (by have := HWL.out; omega))
          rw [← hz1] at CF
          have HLV1 := Lib.hid hlv1
          have H481 := Lib.hid h481
          have HWL1 := Lib.hid hwl1
          have HRD := Lib.hid hrd
          have HRB := Lib.hid hrb
          clear hlv1 h481 hwl1 hrd hz1 hrb hk2
          generalize flushR z = fr at *
          go_wp2_with fail
          refine CF.out.mono ?_
          rintro e w7 ⟨rfl, h7⟩
          have H7 := Lib.hid h7
          clear h7
          go_wp2_with fail
          have HR := Lib.hid (s_read w w7 d z1 H7.out q (by have := HWL1.out; omega))
          rw [HRB.out.1, HRB.out.2] at HR
          refine HR.out.mono ?_
          rintro e w8 ⟨rfl, h8⟩
          have H8 := Lib.hid h8
          clear h8 HR
          go_wp2_with fail
          go_roundw
          case rel => exact ⟨k + 1, z1, by omega, by go_num, HLV1.out, H481.out, HWL1.out, by rw [HRD.out], H8.out⟩
          case measure => simp [intOf]; omega
        · have hk2b : (kk == 2) = false := beq_eq_false_iff_ne.2 hk2
          have hk3b : (kk == 3) = false := beq_eq_false_iff_ne.2 hk3
          have HR := Lib.hid (s_read w wr d z HSS.out q (by have := HWL.out; omega))
          rw [(readB_live z HLV.out q (by rw [H48.out]; exact hq)).1, (readB_live z HLV.out q (by rw [H48.out]; exact hq)).2] at HR
          go_wp2_with fail
          refine HR.out.mono ?_
          rintro e w8 ⟨rfl, h8⟩
          have H8 := Lib.hid h8
          clear h8 HR
          go_wp2_with fail
          go_roundw
          case rel => exact ⟨k + 1, z, by omega, by go_num, HLV.out, H48.out, by have := HWL.out; omega, rfl, H8.out⟩
          case measure => simp [intOf]; omega
    · obtain rfl : k = len := by omega
      have dl : decide (k < k) = false := decide_eq_false (by omega)
      go_wp2_with fail
      go_ret
      exact ⟨rfl, HSS.out.2⟩
theorem l_reads6_no (w : World) (v : Value) (i : Int) (hi : ¬ (0 ≤ i ∧ i < 48)) : Calls Try.prog 8 #[v, .int .i64 i] w fun e w' => e = .returned (.bool true) ∧ Gr w w' := by
  have hc : i < 0 ∨ (0 ≤ i ∧ 48 ≤ i) := by omega
  clear hi
  rcases hc with h0 | ⟨h0, h1⟩
  all_goals
    go_enter Try.func8, Try.ntmps8
    go_wp2_with fail
    refine (c_shown _).mono ?_
    rintro e w1 ⟨rfl, g1⟩
    have G1 := Lib.hid g1
    clear g1
    go_wp2_with fail
    refine (s_new w w1 G1.out 48 (by omega) (by omega)).mono ?_
    rintro e w2 ⟨d, rfl, h2⟩
    have H2 := Lib.hid h2
    clear h2
    go_wp2_with fail
    go_ret
    exact ⟨rfl, H2.out.2⟩
end Go.Proofs.Ytipnmffcfloglaa.P
