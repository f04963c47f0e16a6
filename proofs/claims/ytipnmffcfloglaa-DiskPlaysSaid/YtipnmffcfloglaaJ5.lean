/- Stage 6: the document's disk among other objects: each call in one contract; an act on both. No condition. -/
import Derived.Test.YtipnmffcfloglaaJ4
import Derived.Test.YtipnmffcfloglaaI3
import Derived.Test.YtipnmffcfloglaaI2
set_option linter.unusedVariables false
namespace Go.Proofs.Ytipnmffcfloglaa.P
open Go.RowKit
theorem rout {w w' : World} {d sb : Nat} {wb wb' : Option Nat} {z' : DState} {F : Nat → Prop} (hz : WZ z') (hF : ∀ x, (x = d ∨ x = sb ∨ wb = some x) → F x) (h : RDiskO w' d sb wb' z') (hc : Ch F w w') (hb : wb' = wb ∨ wb' = none ∨ ∃ g, wb' = some g ∧ w.heap.size ≤ g) : Out (rdk d z') w w' F := by
  refine ⟨fun x => x = d ∨ x = sb ∨ wb' = some x, ⟨hz, sb, wb', h, fun x hx => hx⟩, fun x hx => ⟨?_, h.lts x hx⟩, hc⟩
  rcases hx with hx | hx | hx
  · exact .inl (hF x (.inl hx))
  · exact .inl (hF x (.inr (.inl hx)))
  · rcases hb with e | e | ⟨g, e, hg⟩
    · exact .inl (hF x (.inr (.inr (by rw [← e]; exact hx))))
    · rw [e] at hx; cases hx
    · rw [e] at hx; injection hx with hx; exact .inr (by omega)
theorem wz_write (z : DState) (hz : WZ z) (i : Int) (s : ByteArray) : WZ (writeZ z i s) := by
  unfold writeZ
  cases z.off with
  | true => exact hz
  | false =>
    cases hh : (hasB z i && decide (s.size = 64)) with
    | false => exact hz
    | true =>
      have hzz := hz.act (.inr trivial)
      cases actB z with
      | false => exact hzz
      | true =>
        obtain ⟨hh1, hh2⟩ := Bool.and_eq_true_iff.1 hh
        refine ⟨hzz.1, hzz.2.1, hzz.2.2.1, hzz.2.2.2.1, fun x hx => ?_⟩
        rcases List.mem_append.1 hx with hx | hx
        · exact hzz.2.2.2.2 x hx
        · rw [List.mem_singleton.1 hx]
          have e3 := (actZ_keeps z).2
          show 0 ≤ i ∧ i < (actZ z).safe.length
          rw [e3]
          unfold hasB at hh1
          simpa [Bool.and_eq_true, decide_eq_true_eq] using hh1
theorem wz_flush (z : DState) (hz : WZ z) : WZ (flushZ z) := by
  unfold flushZ
  cases z.off with
  | true => exact hz
  | false =>
    have hzz := hz.act (.inr trivial)
    cases actB z with
    | false => exact hzz
    | true => exact ⟨by show 48 ≤ (setN _ _ _ _).length; rw [setN_len]; exact hz.1, by show (setN _ _ _ _).length ≤ 544; rw [setN_len]; exact hz.2.1, hzz.2.2.1, hzz.2.2.2.1, fun x hx => by cases hx⟩
theorem wz_crash (z : DState) (hz : WZ z) (K : Int) : WZ (crashZ z K) :=
  ⟨by show 48 ≤ (setN _ _ _ _).length; rw [setN_len]; exact hz.1, by show (setN _ _ _ _).length ≤ 544; rw [setN_len]; exact hz.2.1, Int.le_refl _, (show (0 : Int) ≤ _ by omega), fun x hx => by cases hx⟩
theorem r_write {w0 w : World} {R : Asn} {d : Nat} {z : DState} (h : Own w0 w (Star (rdk d z) R)) (hs : Stable R) (i : Int) (s : ByteArray) (hl : z.wait.length ≤ 4000000000000) :
    Calls Try.prog 31 #[.pointer (some ⟨d, 0, none⟩), .int .i64 i, .string s] w fun e w' => e = .returned (.int .i64 (writeR z i s)) ∧ Own w0 w' (Star (rdk d (writeZ z i s)) R) := by
  refine h.call hs fun F hF => ?_
  obtain ⟨hz, sb, wb, ho, hFF⟩ := hF
  have hd := hFF d (.inl rfl)
  have hsub : ∀ x, (x = d ∨ wb = some x) → F x := fun x hx => hx.elim (fun e => by rw [e]; exact hd) (fun e => hFF x (.inr (.inr e)))
  have hwz := wz_write z hz i s
  cases hoff : z.off with
  | true =>
    have e : writeZ z i s = z := by unfold writeZ; rw [hoff]; rfl
    rw [e] at hwz ⊢
    refine (e_write_no w d sb wb z ho i s (.inl hoff)).mono ?_
    rintro e w' ⟨rfl, wb', h1, h2, h3⟩
    exact ⟨rfl, rout hwz hFF h1 (h2.mono hsub) (h3.elim .inl (fun h => .inr (.inr h)))⟩
  | false =>
    cases hh : (hasB z i && decide (s.size = 64)) with
    | false =>
      have e : writeZ z i s = z := by unfold writeZ; rw [hoff, hh]; rfl
      rw [e] at hwz ⊢
      refine (e_write_no w d sb wb z ho i s (.inr hh)).mono ?_
      rintro e w' ⟨rfl, wb', h1, h2, h3⟩
      exact ⟨rfl, rout hwz hFF h1 (h2.mono hsub) (h3.elim .inl (fun h => .inr (.inr h)))⟩
    | true =>
      obtain ⟨hh1, hh2⟩ := Bool.and_eq_true_iff.1 hh
      cases ha : actB z with
      | false =>
        have e : writeZ z i s = actZ z := by unfold writeZ; rw [hoff, hh, ha]; rfl
        have e2 : writeR z i s = 7 := by unfold writeR; rw [hoff, hh, ha]; rfl
        rw [e] at hwz
        rw [e, e2]
        refine (e_write_dead w d sb wb z ho hz.2.2.1 hz.2.2.2.1 i s hoff hh1 (of_decide_eq_true hh2) ha).mono ?_
        rintro e w' ⟨rfl, wb', h1, h2, h3⟩
        exact ⟨rfl, rout hwz hFF h1 (h2.mono hsub) (h3.elim .inl (fun h => .inr (.inr h)))⟩
      | true =>
        have e : writeZ z i s = { actZ z with wait := (actZ z).wait ++ [(i, s)] } := by unfold writeZ; rw [hoff, hh, ha]; rfl
        have e2 : writeR z i s = 0 := by unfold writeR; rw [hoff, hh, ha]; rfl
        rw [e] at hwz
        rw [e, e2]
        refine (e_write_ok w d sb wb z ho hz.2.2.1 hz.2.2.2.1 i s hoff hh1 (of_decide_eq_true hh2) ha hl).mono ?_
        rintro e w' ⟨rfl, wb', h1, h2, h3⟩
        exact ⟨rfl, rout hwz hFF h1 (h2.mono hsub) (h3.elim .inl (fun h => .inr (.inr h)))⟩
theorem r_read {w0 w : World} {R : Asn} {d : Nat} {z : DState} (h : Own w0 w (Star (rdk d z) R)) (i : Int) (hl : z.wait.length ≤ 4000000000000) :
    Calls Try.prog 30 #[.pointer (some ⟨d, 0, none⟩), .int .i64 i] w fun e w' => e = .returned (.tuple #[.string (readB z i), .int .i64 (readR z i)]) ∧ w' = w := by
  obtain ⟨F, hz, sb, wb, ho, hFF⟩ := h.left.get
  cases hoff : z.off with
  | true => exact e_read_no w d sb wb z ho i (.inl hoff)
  | false =>
    cases hh : hasB z i with
    | false => exact e_read_no w d sb wb z ho i (.inr hh)
    | true =>
      have h2 := hh
      unfold hasB at h2
      simp only [Bool.and_eq_true, decide_eq_true_eq] at h2
      obtain ⟨q, rfl⟩ : ∃ q : Nat, i = (q : Int) := ⟨i.toNat, by omega⟩
      have e : readB z (q : Int) = readS z q ∧ readR z (q : Int) = 0 := by unfold readB readR; rw [hoff, hh, Int.toNat_natCast]; exact ⟨rfl, rfl⟩
      rw [e.1, e.2]
      exact e_read_yes w d sb wb z ho hoff q (by omega) hl
theorem r_flush {w0 w : World} {R : Asn} {d : Nat} {z : DState} (h : Own w0 w (Star (rdk d z) R)) (hs : Stable R) (hl : z.wait.length ≤ 4000000000000) :
    Calls Try.prog 32 #[.pointer (some ⟨d, 0, none⟩)] w fun e w' => e = .returned (.int .i64 (flushR z)) ∧ Own w0 w' (Star (rdk d (flushZ z)) R) := by
  refine h.call hs fun F hF => ?_
  obtain ⟨hz, sb, wb, ho, hFF⟩ := hF
  have hd := hFF d (.inl rfl)
  have hsb := hFF sb (.inr (.inl rfl))
  have hwz := wz_flush z hz
  cases hoff : z.off with
  | true =>
    have e : flushR z = 7 := by unfold flushR; rw [hoff]; rfl
    rw [e]
    refine (e_flush_no w d sb wb z ho hz (.inl hoff)).mono ?_
    rintro e w' ⟨rfl, h1, h2⟩
    exact ⟨rfl, rout hwz hFF h1 (h2.mono (fun x hx => by rw [hx]; exact hd)) (.inl rfl)⟩
  | false =>
    cases ha : actB z with
    | false =>
      have e : flushR z = 7 := by unfold flushR; rw [hoff, ha]; rfl
      rw [e]
      refine (e_flush_no w d sb wb z ho hz (.inr ha)).mono ?_
      rintro e w' ⟨rfl, h1, h2⟩
      exact ⟨rfl, rout hwz hFF h1 (h2.mono (fun x hx => by rw [hx]; exact hd)) (.inl rfl)⟩
    | true =>
      have e : flushR z = 0 := by unfold flushR; rw [hoff, ha]; rfl
      rw [e]
      refine (e_flush_ok w d sb wb z ho hz hoff ha hl).mono ?_
      rintro e w' ⟨rfl, h1, h2⟩
      exact ⟨rfl, rout hwz hFF h1 (h2.mono (fun x hx => hx.elim (fun e => by rw [e]; exact hd) (fun e => by rw [e]; exact hsb))) (.inr (.inl rfl))⟩
theorem r_crash {w0 w : World} {R : Asn} {d : Nat} {z : DState} (h : Own w0 w (Star (rdk d z) R)) (hs : Stable R) (K : Int) (hK : u64 K) (hl : z.wait.length ≤ 4000000000000) :
    Calls Try.prog 34 #[.pointer (some ⟨d, 0, none⟩), .int .u64 K] w fun e w' => e = .returned (.tuple #[]) ∧ Own w0 w' (Star (rdk d (crashZ z K)) R) := by
  refine h.call hs fun F hF => ?_
  obtain ⟨hz, sb, wb, ho, hFF⟩ := hF
  have hd := hFF d (.inl rfl)
  have hsb := hFF sb (.inr (.inl rfl))
  refine (e_crash w d sb wb z ho hz K hK hl).mono ?_
  rintro e w' ⟨rfl, h1, h2⟩
  exact ⟨rfl, rout (wz_crash z hz K) hFF h1 (h2.mono (fun x hx => hx.elim (fun e => by rw [e]; exact hd) (fun e => by rw [e]; exact hsb))) (.inr (.inl rfl))⟩
theorem r_power {w0 w : World} {R : Asn} {d : Nat} {z : DState} (h : Own w0 w (Star (rdk d z) R)) (hs : Stable R) (k : Int) (hk : k ≤ 9223372036854775807) :
    Calls Try.prog 33 #[.pointer (some ⟨d, 0, none⟩), .int .i64 k] w fun e w' => e = .returned (.tuple #[]) ∧ Own w0 w' (Star (rdk d (powZ z k)) R) := by
  refine h.call hs fun F hF => ?_
  obtain ⟨hz, sb, wb, ho, hFF⟩ := hF
  have hd := hFF d (.inl rfl)
  refine (e_power w d sb wb z ho k).mono ?_
  rintro e w' ⟨rfl, h1, h2⟩
  exact ⟨rfl, rout ⟨hz.1, hz.2.1, by show 0 ≤ max k 0; omega, by show max k 0 ≤ _; omega, hz.2.2.2.2⟩ hFF h1 (h2.mono (fun x hx => by rw [hx]; exact hd)) (.inl rfl)⟩
def doZ (z : DState) (kind i : Int) (s : ByteArray) (K : Int) : DState :=
  if kind = 2 then writeZ z i (secF s) else if kind = 3 then flushZ z else if kind = 4 then powZ z i else if kind = 5 then crashZ z K else if kind = 6 then writeZ z i s else z
set_option maxRecDepth 100000 in
set_option maxHeartbeats 4000000 in
theorem c_does {w0 w : World} {R : Asn} (sR : Stable R) {d r : Nat} {z : DState} (h : Own w0 w (Star (dsk d z) (Star (rdk r z) R))) (kk ik : Int) (sk : ByteArray) (kp : Int) (hik : i64 ik) (hkp : u64 kp) (hsz : sk.size ≤ 9223372036854770000) (hl : z.wait.length ≤ 4000000000000) :
    Calls Try.prog 13 #[.pointer (some ⟨d, 0, none⟩), .pointer (some ⟨r, 0, none⟩), .agg #[.int .i64 kk, .int .i64 ik, .string sk, .int .u64 kp]] w fun e w' => e = .returned (.bool true) ∧ Own w0 w' (Star (dsk d (doZ z kk ik sk kp)) (Star (rdk r (doZ z kk ik sk kp)) R)) := by
  have HSZ := Lib.hid hsz
  have HL := Lib.hid hl
  have HK := Lib.hid hkp
  have HI := Lib.hid hik.2
  have H0 := Lib.hid (h.alloc (by repeat (first | exact sR | exact stable_emp | exact stable_dsk _ _ | exact stable_rdk _ _ | exact stable_row _ _ _ _ _ | exact stable_blk _ _ | apply stable_star)) (.cells #[.int .i64 kk, .int .i64 ik, .string sk, .int .u64 kp] 34)).rot3'
  obtain ⟨B, hB⟩ : ∃ B, B = w.heap.size := ⟨_, rfl⟩
  have b0 := blk_cell (blk_new w (.cells #[.int .i64 kk, .int .i64 ik, .string sk, .int .u64 kp] 34)) 0 (v := .int .i64 kk) rfl
  have b1 := blk_cell (blk_new w (.cells #[.int .i64 kk, .int .i64 ik, .string sk, .int .u64 kp] 34)) 1 (v := .int .i64 ik) rfl
  have b2 := blk_cell (blk_new w (.cells #[.int .i64 kk, .int .i64 ik, .string sk, .int .u64 kp] 34)) 2 (v := .string sk) rfl
  have b3 := blk_cell (blk_new w (.cells #[.int .i64 kk, .int .i64 ik, .string sk, .int .u64 kp] 34)) 3 (v := .int .u64 kp) rfl
  have HB := Lib.hid hB
  clear hsz hl hkp hik h hB
  by_cases k1 : kk = 1
  · have hZ : doZ z kk ik sk kp = z := by rw [k1]; rfl
    rw [hZ]
    subst k1
    clear hZ
    go_enter Try.func13, Try.ntmps13
    go_wp2_with fail
    refine (o_read H0.out (by repeat (first | exact sR | exact stable_emp | exact stable_dsk _ _ | exact stable_rdk _ _ | exact stable_row _ _ _ _ _ | exact stable_blk _ _ | apply stable_star)) ik HL.out).mono ?_
    rintro e w1 ⟨rfl, h1⟩
    have H1 := Lib.hid h1
    have e1 := blk_cell h1.rot3.blk 1 (v := .int .i64 ik) rfl
    clear h1
    go_wp2_with fail
    refine (r_read H1.out.swap2 ik HL.out).mono ?_
    rintro e w2 ⟨rfl, h2⟩
    subst h2
    generalize readB z ik = rb at *
    generalize readR z ik = rr at *
    go_wp2_with fail
    go_ret
    exact ⟨rfl, H1.out.rot3.right⟩
  · by_cases k2 : kk = 2
    · have hZ : doZ z kk ik sk kp = writeZ z ik (secF sk) := by rw [k2]; rfl
      rw [hZ]
      subst k2
      clear hZ k1
      have f1 : ((2 : Int) == 1) = false := by decide
      have hsB : Stable (Star (blkA w.heap.size (.cells #[.int .i64 2, .int .i64 ik, .string sk, .int .u64 kp] 34)) R) := (by repeat (first | exact sR | exact stable_emp | exact stable_dsk _ _ | exact stable_rdk _ _ | exact stable_row _ _ _ _ _ | exact stable_blk _ _ | apply stable_star))
      go_enter Try.func13, Try.ntmps13
      go_upto_region 7 with fail
      have hS : Own w0 _ (Star (dsk d z) (Star (rdk r z) (Star (blkA w.heap.size (.cells #[.int .i64 2, .int .i64 ik, .string sk, .int .u64 kp] 34)) R))) := H0.out
      rw [← HB.out] at hS hsB b0 b1 b2 b3 ⊢
      generalize w.alloc (.cells #[.int .i64 2, .int .i64 ik, .string sk, .int .u64 kp] 34) = w1 at *
      clear H0
      have HS := Lib.hid hS
      obtain ⟨rv, hrv⟩ : ∃ rv, rv = writeR z ik (secF sk) := ⟨_, rfl⟩
      have HRV := Lib.hid hrv
      clear hrv
      go_cut [11] (fun v wx => v = .int .i64 rv ∧ Own w0 wx (Star (dsk d (writeZ z ik (secF sk))) (Star (rdk r z) (Star (blkA B (.cells #[.int .i64 2, .int .i64 ik, .string sk, .int .u64 kp] 34)) R))))
      case first =>
        have hS1 := hS.drew (by repeat (first | exact sR | exact stable_emp | exact stable_dsk _ _ | exact stable_rdk _ _ | exact stable_row _ _ _ _ _ | exact stable_blk _ _ | apply stable_star))
        have c1d := cell_drew6 b1
        have c2d := cell_drew6 b2
        go_region_held3 (fun w' => w'.cell? ⟨B, 1, none⟩ = some (.int .i64 ik) ∧ w'.cell? ⟨B, 2, none⟩ = some (.string sk))
          ((refine ⟨?_, ?_⟩ <;> first | (with_reducible assumption) | (with_reducible exact cell_drew6 (by assumption))))
          (first
            | (go_at_call 21; refine (c_sector _ HSZ.out _).mono ?_; rintro e w5 ⟨rfl, hq5⟩; have hS2 : Own w0 w5 (Star (dsk d z) (Star (rdk r z) (Star (blkA B (.cells #[.int .i64 2, .int .i64 ik, .string sk, .int .u64 kp] 34)) R))) := Own.gr (by assumption) (by repeat (first | exact sR | exact stable_emp | exact stable_dsk _ _ | exact stable_rdk _ _ | exact stable_row _ _ _ _ _ | exact stable_blk _ _ | apply stable_star)) hq5; have c15 : w5.cell? ⟨B, 1, none⟩ = some (.int .i64 ik) := kcell hq5 (by assumption); have c25 : w5.cell? ⟨B, 2, none⟩ = some (.string sk) := kcell hq5 (by assumption); clear hq5)
            | (go_at_call 20; refine (o_write (by assumption : Own w0 _ (Star (dsk d z) (Star (rdk r z) (Star (blkA B (.cells #[.int .i64 2, .int .i64 ik, .string sk, .int .u64 kp] 34)) R)))) (by repeat (first | exact sR | exact stable_emp | exact stable_dsk _ _ | exact stable_rdk _ _ | exact stable_row _ _ _ _ _ | exact stable_blk _ _ | apply stable_star)) ik (secF sk) HL.out).mono ?_; rintro e w6 ⟨rfl, hq6⟩; have hS3 : Own w0 w6 (Star (dsk d (writeZ z ik (secF sk))) (Star (rdk r z) (Star (blkA B (.cells #[.int .i64 2, .int .i64 ik, .string sk, .int .u64 kp] 34)) R))) := hq6; have c16 : w6.cell? ⟨B, 1, none⟩ = some (.int .i64 ik) := blk_cell hS3.rot3.blk 1 rfl; have c26 : w6.cell? ⟨B, 2, none⟩ = some (.string sk) := blk_cell hS3.rot3.blk 2 rfl; clear hq6))
        all_goals
          go_wp2_with fail
          go_meet
          exact ⟨by rw [HRV.out], by assumption⟩
      case rest =>
        obtain ⟨rfl, hq⟩ := hcut
        have H5 := Lib.hid hq.swap2
        clear hq HS hS b0 b1 b2 b3
        go_upto_region 8 with fail
        go_cut [12] (fun v wx => v = .int .i64 rv ∧ Own w0 wx (Star (rdk r (writeZ z ik (secF sk))) (Star (dsk d (writeZ z ik (secF sk))) (Star (blkA B (.cells #[.int .i64 2, .int .i64 ik, .string sk, .int .u64 kp] 34)) R))))
        case first =>
          have hS : Own w0 _ (Star (rdk r z) (Star (dsk d (writeZ z ik (secF sk))) (Star (blkA B (.cells #[.int .i64 2, .int .i64 ik, .string sk, .int .u64 kp] 34)) R))) := H5.out
          have hS1 := hS.drew (by repeat (first | exact sR | exact stable_emp | exact stable_dsk _ _ | exact stable_rdk _ _ | exact stable_row _ _ _ _ _ | exact stable_blk _ _ | apply stable_star))
          have c1 := blk_cell hS.rot3.blk 1 (v := .int .i64 ik) rfl
          have c2 := blk_cell hS.rot3.blk 2 (v := .string sk) rfl
          have c1d := cell_drew6 c1
          have c2d := cell_drew6 c2
          go_region_held3 (fun w' => w'.cell? ⟨B, 1, none⟩ = some (.int .i64 ik) ∧ w'.cell? ⟨B, 2, none⟩ = some (.string sk))
            ((refine ⟨?_, ?_⟩ <;> first | (with_reducible assumption) | (with_reducible exact cell_drew6 (by assumption))))
            (first
              | (go_at_call 21; refine (c_sector _ HSZ.out _).mono ?_; rintro e w5 ⟨rfl, hq5⟩; have hS2 : Own w0 w5 (Star (rdk r z) (Star (dsk d (writeZ z ik (secF sk))) (Star (blkA B (.cells #[.int .i64 2, .int .i64 ik, .string sk, .int .u64 kp] 34)) R))) := Own.gr (by assumption) (by repeat (first | exact sR | exact stable_emp | exact stable_dsk _ _ | exact stable_rdk _ _ | exact stable_row _ _ _ _ _ | exact stable_blk _ _ | apply stable_star)) hq5; have c15 : w5.cell? ⟨B, 1, none⟩ = some (.int .i64 ik) := kcell hq5 (by assumption); have c25 : w5.cell? ⟨B, 2, none⟩ = some (.string sk) := kcell hq5 (by assumption); clear hq5)
              | (go_at_call 31; refine (r_write (by assumption : Own w0 _ (Star (rdk r z) (Star (dsk d (writeZ z ik (secF sk))) (Star (blkA B (.cells #[.int .i64 2, .int .i64 ik, .string sk, .int .u64 kp] 34)) R)))) (by repeat (first | exact sR | exact stable_emp | exact stable_dsk _ _ | exact stable_rdk _ _ | exact stable_row _ _ _ _ _ | exact stable_blk _ _ | apply stable_star)) ik (secF sk) HL.out).mono ?_; rintro e w6 ⟨rfl, hq6⟩; have hS3 : Own w0 w6 (Star (rdk r (writeZ z ik (secF sk))) (Star (dsk d (writeZ z ik (secF sk))) (Star (blkA B (.cells #[.int .i64 2, .int .i64 ik, .string sk, .int .u64 kp] 34)) R))) := hq6; have c16 : w6.cell? ⟨B, 1, none⟩ = some (.int .i64 ik) := blk_cell hS3.rot3.blk 1 rfl; have c26 : w6.cell? ⟨B, 2, none⟩ = some (.string sk) := blk_cell hS3.rot3.blk 2 rfl; clear hq6))
          all_goals
            go_wp2_with fail
            go_meet
            exact ⟨by rw [HRV.out], by assumption⟩
        case rest =>
          obtain ⟨rfl, hq⟩ := hcut
          have H6 := Lib.hid hq.rot3.right.swap
          have H7 := Lib.hid hq.swap2
          clear hq
          go_wp2_with fail
          go_ret
          exact ⟨rfl, H7.out.rot3.right⟩
    · by_cases k3 : kk = 3
      · have hZ : doZ z kk ik sk kp = flushZ z := by rw [k3]; rfl
        rw [hZ]
        subst k3
        clear hZ k1 k2
        go_enter Try.func13, Try.ntmps13
        go_wp2_with fail
        refine (o_flush H0.out (by repeat (first | exact sR | exact stable_emp | exact stable_dsk _ _ | exact stable_rdk _ _ | exact stable_row _ _ _ _ _ | exact stable_blk _ _ | apply stable_star)) HL.out).mono ?_
        rintro e w1 ⟨rfl, h1⟩
        have H1 := Lib.hid h1.swap2
        clear h1
        go_wp2_with fail
        refine (r_flush H1.out (by repeat (first | exact sR | exact stable_emp | exact stable_dsk _ _ | exact stable_rdk _ _ | exact stable_row _ _ _ _ _ | exact stable_blk _ _ | apply stable_star)) HL.out).mono ?_
        rintro e w2 ⟨rfl, h2⟩
        have H2 := Lib.hid h2.swap2
        clear h2
        generalize flushR z = rr at *
        go_wp2_with fail
        go_ret
        exact ⟨rfl, H2.out.rot3.right⟩
      · by_cases k4 : kk = 4
        · have hZ : doZ z kk ik sk kp = powZ z ik := by rw [k4]; rfl
          rw [hZ]
          subst k4
          clear hZ k1 k2 k3
          go_enter Try.func13, Try.ntmps13
          go_wp2_with fail
          refine (o_power H0.out (by repeat (first | exact sR | exact stable_emp | exact stable_dsk _ _ | exact stable_rdk _ _ | exact stable_row _ _ _ _ _ | exact stable_blk _ _ | apply stable_star)) ik HI.out).mono ?_
          rintro e w1 ⟨rfl, h1⟩
          have H1 := Lib.hid h1.swap2
          have e1 := blk_cell h1.rot3.blk 1 (v := .int .i64 ik) rfl
          clear h1
          go_wp2_with fail
          refine (r_power H1.out (by repeat (first | exact sR | exact stable_emp | exact stable_dsk _ _ | exact stable_rdk _ _ | exact stable_row _ _ _ _ _ | exact stable_blk _ _ | apply stable_star)) ik HI.out).mono ?_
          rintro e w2 ⟨rfl, h2⟩
          have H2 := Lib.hid h2.swap2
          clear h2
          go_wp2_with fail
          go_ret
          exact ⟨rfl, H2.out.rot3.right⟩
        · by_cases k5 : kk = 5
          · have hZ : doZ z kk ik sk kp = crashZ z kp := by rw [k5]; rfl
            rw [hZ]
            subst k5
            clear hZ k1 k2 k3 k4
            go_enter Try.func13, Try.ntmps13
            go_wp2_with fail
            refine (o_crash H0.out (by repeat (first | exact sR | exact stable_emp | exact stable_dsk _ _ | exact stable_rdk _ _ | exact stable_row _ _ _ _ _ | exact stable_blk _ _ | apply stable_star)) kp HK.out HL.out).mono ?_
            rintro e w1 ⟨rfl, h1⟩
            have H1 := Lib.hid h1.swap2
            have e1 := blk_cell h1.rot3.blk 3 (v := .int .u64 kp) rfl
            clear h1
            go_wp2_with fail
            refine (r_crash H1.out (by repeat (first | exact sR | exact stable_emp | exact stable_dsk _ _ | exact stable_rdk _ _ | exact stable_row _ _ _ _ _ | exact stable_blk _ _ | apply stable_star)) kp HK.out HL.out).mono ?_
            rintro e w2 ⟨rfl, h2⟩
            have H2 := Lib.hid h2.swap2
            clear h2
            go_wp2_with fail
            go_ret
            exact ⟨rfl, H2.out.rot3.right⟩
          · by_cases k6 : kk = 6
            · have hZ : doZ z kk ik sk kp = writeZ z ik sk := by rw [k6]; rfl
              rw [hZ]
              subst k6
              clear hZ k1 k2 k3 k4 k5
              go_enter Try.func13, Try.ntmps13
              go_wp2_with fail
              refine (o_write H0.out (by repeat (first | exact sR | exact stable_emp | exact stable_dsk _ _ | exact stable_rdk _ _ | exact stable_row _ _ _ _ _ | exact stable_blk _ _ | apply stable_star)) ik sk HL.out).mono ?_
              rintro e w1 ⟨rfl, h1⟩
              have H1 := Lib.hid h1.swap2
              have e1 := blk_cell h1.rot3.blk 1 (v := .int .i64 ik) rfl
              have e2 := blk_cell h1.rot3.blk 2 (v := .string sk) rfl
              clear h1
              go_wp2_with fail
              refine (r_write H1.out (by repeat (first | exact sR | exact stable_emp | exact stable_dsk _ _ | exact stable_rdk _ _ | exact stable_row _ _ _ _ _ | exact stable_blk _ _ | apply stable_star)) ik sk HL.out).mono ?_
              rintro e w2 ⟨rfl, h2⟩
              have H2 := Lib.hid h2.swap2
              clear h2
              generalize writeR z ik sk = rr at *
              go_wp2_with fail
              go_ret
              exact ⟨rfl, H2.out.rot3.right⟩
            · have hZ : doZ z kk ik sk kp = z := by unfold doZ; rw [if_neg k2, if_neg k3, if_neg k4, if_neg k5, if_neg k6]
              rw [hZ]
              have f1 : (kk == 1) = false := beq_eq_false_iff_ne.2 k1
              have f2 : (kk == 2) = false := beq_eq_false_iff_ne.2 k2
              have f3 : (kk == 3) = false := beq_eq_false_iff_ne.2 k3
              have f4 : (kk == 4) = false := beq_eq_false_iff_ne.2 k4
              have f5 : (kk == 5) = false := beq_eq_false_iff_ne.2 k5
              have f6 : (kk == 6) = false := beq_eq_false_iff_ne.2 k6
              clear hZ k1 k2 k3 k4 k5 k6
              go_enter Try.func13, Try.ntmps13
              go_wp2_with fail
              go_ret
              exact ⟨rfl, H0.out.rot3.right⟩
end Go.Proofs.Ytipnmffcfloglaa.P
