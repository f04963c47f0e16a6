/- Stage 11: Map in the program. No condition. -/
import Derived.Test.YtbcnibnkojnpiaaE9
set_option linter.unusedVariables false
set_option linter.unusedSimpArgs false
set_option maxRecDepth 100000
namespace Go.Proofs.Ytbcnibnkojnpiaa.P
open Go.RowKit Go.MuLone Go.Maps
variable {w0 w : World} {pb b first : Nat} {L : List Bool} {s : List UInt8} {R : Asn}
theorem tkn_bd {L : List Bool} {fi : Nat} {k : Int} (h : tknB L fi k = true) : 0 ≤ k ∧ k < L.length ∧ (fi : Int) ≤ k := by
  unfold tknB at h
  simp only [Bool.and_eq_true, decide_eq_true_eq] at h; omega
theorem belowN_bd (fi : Nat) (z : Sp) (t a l : Int) (hl : z.L.length ≤ 256) : 0 ≤ belowN fi z t a l ∧ belowN fi z t a l < 18014398509481984 := by
  unfold belowN
  cases validB z.s (placeI t a l)
  · have := take_bd z.L fi hl; rw [cond_false]; omega
  · have := valid_bd z.s (placeI t a l); rw [cond_true]; omega
theorem and1 (x : Int) (h : u64 x) : bits .and .u64 x 1 = x % 2 := W.and_mask x 1 (by decide) ⟨h.1, by have := h.2; omega⟩
theorem takeL_len (L : List Bool) (fi : Nat) : (takeL L fi).length = L.length := by
  unfold takeL
  cases takeB L fi
  · rfl
  · exact List.length_set
theorem below_len (fi : Nat) (z : Sp) (t a l : Int) : (belowX fi z t a l).L.length = z.L.length := by
  unfold belowX
  cases validB z.s (placeI t a l)
  · exact takeL_len _ _
  · rfl
theorem o_map_bad (h : Own w0 w (Star (plA pb b first L s) R)) (hR : Stable R) (r pg bt : Int) (hr : i64 r) (hpg : i64 pg) (hbt : u64 bt) (hbad : mapBad first ⟨L, s⟩ r pg bt = true) :
    Calls Try.prog 10 #[.pointer (some ⟨pb, 0, none⟩), .int .i64 r, .int .i64 pg, .int .u64 bt] w fun e w' => e = .returned (.int .i64 1) ∧ Own w0 w' (Star (plA pb b first L s) R) := by
  obtain ⟨tk, htk⟩ : ∃ t, tknB L first r = t := ⟨_, rfl⟩
  have TK := Lib.hid (o_ptaken h hR r hr tk htk)
  unfold mapBad at hbad
  rw [show (⟨L, s⟩ : Sp).L = L from rfl, htk] at hbad
  have ha1 : bits .and .u64 bt 1 = bt % 2 := and1 bt hbt
  clear h hR hr htk
  cases tk with
  | false =>
    clear hbad
    go_enter Try.func10, Try.ntmps10
    go_wp2_with (go_at_call 23; refine TK.out.mono ?_; rintro e w2 ⟨rfl, h2⟩; have H2 := Lib.hid h2; clear h2)
    go_ret
    exact ⟨rfl, H2.out⟩
  | true =>
    rw [Bool.not_true, Bool.false_or] at hbad
    rcases (show pg < 0 ∨ (¬ pg < 0 ∧ 32768 ≤ pg) ∨ (¬ pg < 0 ∧ ¬ 32768 ≤ pg ∧ bt % 2 = 0) ∨ (¬ pg < 0 ∧ ¬ 32768 ≤ pg ∧ bt % 2 = 1 ∧ 31 < bt) by
      simp only [Bool.or_eq_true, decide_eq_true_eq] at hbad; omega) with c1 | ⟨c1, c2⟩ | ⟨c1, c2, c3⟩ | ⟨c1, c2, c3, c4⟩
    all_goals
      clear hbad
      try rw [c3] at ha1
      have hc := c1
      go_enter Try.func10, Try.ntmps10
      go_wp2_with (go_at_call 23; refine TK.out.mono ?_; rintro e w2 ⟨rfl, h2⟩; have H2 := Lib.hid h2; clear h2)
      go_ret
      exact ⟨rfl, H2.out⟩
set_option maxHeartbeats 1600000 in
theorem o_map_there (h : Own w0 w (Star (plA pb b first L s) R)) (hR : Stable R) (r pg bt : Int) (hr : i64 r) (hpg : i64 pg) (hbt : u64 bt) (hbad : mapBad first ⟨L, s⟩ r pg bt = false) (e0 : leafR L.length s r (pg * 256) = 0) (E : Int) (hE : entS s (leafV L.length s r (pg * 256)) = E) (hq : E % 2 = 1) :
    Calls Try.prog 10 #[.pointer (some ⟨pb, 0, none⟩), .int .i64 r, .int .i64 pg, .int .u64 bt] w fun e w' => e = .returned (.int .i64 9) ∧ Own w0 w' (Star (plA pb b first L s) R) := by
  have hbt0 := hbt
  have htk : tknB L first r = true := by
    unfold mapBad at hbad; cases q : tknB L first r
    · rw [show (⟨L, s⟩ : Sp).L = L from rfl, q] at hbad; cases hbad
    · rfl
  have hrb := tkn_bd htk
  have hlen := o_plen h
  have hc : ¬ pg < 0 ∧ ¬ 32768 ≤ pg ∧ bt % 2 = 1 ∧ ¬ 31 < bt := by
    unfold mapBad at hbad
    rw [show (⟨L, s⟩ : Sp).L = L from rfl, htk] at hbad
    simp only [Bool.not_true, Bool.false_or, Bool.or_eq_false_iff, decide_eq_false_iff_not] at hbad
    omega
  obtain ⟨c1, c2, c3, c4⟩ := hc
  have ha1 : bits .and .u64 bt 1 = 1 := by rw [and1 bt hbt, c3]
  have TK := Lib.hid (o_ptaken h hR r hr true htk)
  have k1 : IntKind.u64.wrap pg = pg := wrapU pg (by omega) (by omega)
  have k2 : IntKind.u64.wrap (pg * 256) = pg * 256 := wrapU (pg * 256) (by omega) (by omega)
  have haA : u64 (pg * 256) := ⟨by omega, by omega⟩
  have HR := Lib.hid hR
  have HA := Lib.hid haA
  have HRB : RowKit.Hid (0 ≤ r ∧ r < 18014398509481984) := Lib.hid ⟨by omega, by omega⟩
  obtain ⟨lv, elv⟩ : ∃ x, leafV L.length s r (pg * 256) = x := ⟨_, rfl⟩
  obtain ⟨lr, elr⟩ : ∃ x, leafR L.length s r (pg * 256) = x := ⟨_, rfl⟩
  have LF : RowKit.Hid (∀ w, Own w0 w (Star (plA pb b first L s) R) → _) := Lib.hid (fun w h => o_pleaf (w0 := w0) (w := w) h hR r (pg * 256) lv lr haA hr elv elr)
  have hw := ent_word s (leafV L.length s r (pg * 256))
  rw [hE] at hw
  rw [elv] at hE
  have eE : loadV s lv 8 = E := hE
  have hin := leaf_in (r := r) (a := pg * 256) hlen.1 e0
  rw [elv] at hin
  have LD : RowKit.Hid (∀ w, Own w0 w (Star (plA pb b first L s) R) → Calls Try.prog 26 #[.pointer (some ⟨b, 0, none⟩), .int .u64 lv, .int .i64 8] w fun e w' => e = .returned (.tuple #[.int .u64 E, .int .i64 0]) ∧ Own w0 w' (Star (plA pb b first L s) R)) := Lib.hid (fun w h => o_pload h hR lv 8 E 0 ⟨by omega, by omega⟩ eE (by unfold loadR inB; rw [if_pos (show sizedB 8 = true from rfl), if_pos (decide_eq_true (by omega))]))
  have ha2 : bits .and .u64 E 1 = 1 := (W.and_mask E 1 (by decide) hw).trans hq
  rw [e0] at elr; subst elr
  clear h hR hr hpg hbt hbt0 hbad e0 hE hq htk hrb hlen haA elv hin eE hw c3
  go_enter Try.func10, Try.ntmps10
  go_wp2_with
    (first
      | (go_at_call 23; refine TK.out.mono ?_; rintro e w2 ⟨rfl, h2⟩; have H2 := Lib.hid h2; clear h2)
      | (go_at_call 25; refine (o_pmem (by first | exact H4.out | exact H3.out | exact H2.out)).mono ?_; rintro e wm ⟨rfl, rfl⟩)
      | (go_at_call 24; refine (LF.out _ H2.out).mono ?_; rintro e w3 ⟨rfl, h3⟩; have H3 := Lib.hid h3; clear h3)
      | (go_at_call 26; refine (LD.out _ H3.out).mono ?_; rintro e w4 ⟨rfl, h4⟩; have H4 := Lib.hid h4; clear h4)
      | (go_at_call 27; refine (MS.out _ H3.out).mono ?_; rintro e w4 ⟨rfl, h4⟩; have H4 := Lib.hid h4; clear h4)
      | (go_at_call 8; refine (LE.out _ H4.out).mono ?_; rintro e wl ⟨rfl, rfl⟩))
  go_ret
  exact ⟨rfl, H4.out⟩
set_option maxHeartbeats 1600000 in
theorem o_map_fullA (h : Own w0 w (Star (plA pb b first L s) R)) (hR : Stable R) (r pg bt : Int) (hr : i64 r) (hpg : i64 pg) (hbt : u64 bt) (hbad : mapBad first ⟨L, s⟩ r pg bt = false) (e0 : leafR L.length s r (pg * 256) = 0) (E : Int) (hE : entS s (leafV L.length s r (pg * 256)) = E) (hq : E % 2 = 0) (lf : Int) (hlf : leftX first ⟨L, s⟩ = lf) (hc : lf ≤ 0) :
    Calls Try.prog 10 #[.pointer (some ⟨pb, 0, none⟩), .int .i64 r, .int .i64 pg, .int .u64 bt] w fun e w' => e = .returned (.int .i64 4) ∧ Own w0 w' (Star (plA pb b first L s) R) := by
  have hbt0 := hbt
  have htk : tknB L first r = true := by
    unfold mapBad at hbad; cases q : tknB L first r
    · rw [show (⟨L, s⟩ : Sp).L = L from rfl, q] at hbad; cases hbad
    · rfl
  have hrb := tkn_bd htk
  have hlen := o_plen h
  have hc : ¬ pg < 0 ∧ ¬ 32768 ≤ pg ∧ bt % 2 = 1 ∧ ¬ 31 < bt := by
    unfold mapBad at hbad
    rw [show (⟨L, s⟩ : Sp).L = L from rfl, htk] at hbad
    simp only [Bool.not_true, Bool.false_or, Bool.or_eq_false_iff, decide_eq_false_iff_not] at hbad
    omega
  obtain ⟨c1, c2, c3, c4⟩ := hc
  have ha1 : bits .and .u64 bt 1 = 1 := by rw [and1 bt hbt, c3]
  have TK := Lib.hid (o_ptaken h hR r hr true htk)
  have k1 : IntKind.u64.wrap pg = pg := wrapU pg (by omega) (by omega)
  have k2 : IntKind.u64.wrap (pg * 256) = pg * 256 := wrapU (pg * 256) (by omega) (by omega)
  have haA : u64 (pg * 256) := ⟨by omega, by omega⟩
  have HR := Lib.hid hR
  have HA := Lib.hid haA
  have HRB : RowKit.Hid (0 ≤ r ∧ r < 18014398509481984) := Lib.hid ⟨by omega, by omega⟩
  obtain ⟨lv, elv⟩ : ∃ x, leafV L.length s r (pg * 256) = x := ⟨_, rfl⟩
  obtain ⟨lr, elr⟩ : ∃ x, leafR L.length s r (pg * 256) = x := ⟨_, rfl⟩
  have LF : RowKit.Hid (∀ w, Own w0 w (Star (plA pb b first L s) R) → _) := Lib.hid (fun w h => o_pleaf (w0 := w0) (w := w) h hR r (pg * 256) lv lr haA hr elv elr)
  have hw := ent_word s (leafV L.length s r (pg * 256))
  rw [hE] at hw
  rw [elv] at hE
  have eE : loadV s lv 8 = E := hE
  have hin := leaf_in (r := r) (a := pg * 256) hlen.1 e0
  rw [elv] at hin
  have LD : RowKit.Hid (∀ w, Own w0 w (Star (plA pb b first L s) R) → Calls Try.prog 26 #[.pointer (some ⟨b, 0, none⟩), .int .u64 lv, .int .i64 8] w fun e w' => e = .returned (.tuple #[.int .u64 E, .int .i64 0]) ∧ Own w0 w' (Star (plA pb b first L s) R)) := Lib.hid (fun w h => o_pload h hR lv 8 E 0 ⟨by omega, by omega⟩ eE (by unfold loadR inB; rw [if_pos (show sizedB 8 = true from rfl), if_pos (decide_eq_true (by omega))]))
  have ha2 : bits .and .u64 E 1 = 0 := (W.and_mask E 1 (by decide) hw).trans hq
  rw [e0] at elr; subst elr
  have LE : RowKit.Hid (∀ w, Own w0 w (Star (plA pb b first L s) R) → _) := Lib.hid (fun w h => o_pleft (w0 := w0) (w := w) h lf hlf)
  clear h hR hr hpg hbt hbt0 hbad htk hrb hlen haA elv hlf c3 e0 hE hq hin eE hw
  go_enter Try.func10, Try.ntmps10
  go_wp2_with
    (first
      | (go_at_call 23; refine TK.out.mono ?_; rintro e w2 ⟨rfl, h2⟩; have H2 := Lib.hid h2; clear h2)
      | (go_at_call 25; refine (o_pmem (by first | exact H4.out | exact H3.out | exact H2.out)).mono ?_; rintro e wm ⟨rfl, rfl⟩)
      | (go_at_call 24; refine (LF.out _ H2.out).mono ?_; rintro e w3 ⟨rfl, h3⟩; have H3 := Lib.hid h3; clear h3)
      | (go_at_call 26; refine (LD.out _ H3.out).mono ?_; rintro e w4 ⟨rfl, h4⟩; have H4 := Lib.hid h4; clear h4)
      | (go_at_call 27; refine (MS.out _ H3.out).mono ?_; rintro e w4 ⟨rfl, h4⟩; have H4 := Lib.hid h4; clear h4)
      | (go_at_call 8; refine (LE.out _ H4.out).mono ?_; rintro e wl ⟨rfl, rfl⟩))
  go_ret
  exact ⟨rfl, H4.out⟩
set_option maxHeartbeats 1600000 in
theorem o_map_yesA (h : Own w0 w (Star (plA pb b first L s) R)) (hR : Stable R) (r pg bt : Int) (hr : i64 r) (hpg : i64 pg) (hbt : u64 bt) (hbad : mapBad first ⟨L, s⟩ r pg bt = false) (e0 : leafR L.length s r (pg * 256) = 0) (E : Int) (hE : entS s (leafV L.length s r (pg * 256)) = E) (hq : E % 2 = 0) (lf : Int) (hlf : leftX first ⟨L, s⟩ = lf) (hc : ¬ lf ≤ 0) :
    Calls Try.prog 10 #[.pointer (some ⟨pb, 0, none⟩), .int .i64 r, .int .i64 pg, .int .u64 bt] w fun e w' => e = .returned (.int .i64 (loadR (takeX first (mapZ first ⟨L, s⟩ r pg)).s (placeI (mapT first ⟨L, s⟩ r pg) (pg * 256) 0) 8)) ∧ Own w0 w' (Star (plA pb b first (putX (takeX first (mapZ first ⟨L, s⟩ r pg)) (placeI (mapT first ⟨L, s⟩ r pg) (pg * 256) 0) (entryI (takeN (mapZ first ⟨L, s⟩ r pg).L first) bt)).L (putX (takeX first (mapZ first ⟨L, s⟩ r pg)) (placeI (mapT first ⟨L, s⟩ r pg) (pg * 256) 0) (entryI (takeN (mapZ first ⟨L, s⟩ r pg).L first) bt)).s) R) := by
  have hbt0 := hbt
  have htk : tknB L first r = true := by
    unfold mapBad at hbad; cases q : tknB L first r
    · rw [show (⟨L, s⟩ : Sp).L = L from rfl, q] at hbad; cases hbad
    · rfl
  have hrb := tkn_bd htk
  have hlen := o_plen h
  have hc : ¬ pg < 0 ∧ ¬ 32768 ≤ pg ∧ bt % 2 = 1 ∧ ¬ 31 < bt := by
    unfold mapBad at hbad
    rw [show (⟨L, s⟩ : Sp).L = L from rfl, htk] at hbad
    simp only [Bool.not_true, Bool.false_or, Bool.or_eq_false_iff, decide_eq_false_iff_not] at hbad
    omega
  obtain ⟨c1, c2, c3, c4⟩ := hc
  have ha1 : bits .and .u64 bt 1 = 1 := by rw [and1 bt hbt, c3]
  have TK := Lib.hid (o_ptaken h hR r hr true htk)
  have k1 : IntKind.u64.wrap pg = pg := wrapU pg (by omega) (by omega)
  have k2 : IntKind.u64.wrap (pg * 256) = pg * 256 := wrapU (pg * 256) (by omega) (by omega)
  have haA : u64 (pg * 256) := ⟨by omega, by omega⟩
  have HR := Lib.hid hR
  have HA := Lib.hid haA
  have HRB : RowKit.Hid (0 ≤ r ∧ r < 18014398509481984) := Lib.hid ⟨by omega, by omega⟩
  obtain ⟨lv, elv⟩ : ∃ x, leafV L.length s r (pg * 256) = x := ⟨_, rfl⟩
  obtain ⟨lr, elr⟩ : ∃ x, leafR L.length s r (pg * 256) = x := ⟨_, rfl⟩
  have LF : RowKit.Hid (∀ w, Own w0 w (Star (plA pb b first L s) R) → _) := Lib.hid (fun w h => o_pleaf (w0 := w0) (w := w) h hR r (pg * 256) lv lr haA hr elv elr)
  have hw := ent_word s (leafV L.length s r (pg * 256))
  rw [hE] at hw
  rw [elv] at hE
  have eE : loadV s lv 8 = E := hE
  have hin := leaf_in (r := r) (a := pg * 256) hlen.1 e0
  rw [elv] at hin
  have LD : RowKit.Hid (∀ w, Own w0 w (Star (plA pb b first L s) R) → Calls Try.prog 26 #[.pointer (some ⟨b, 0, none⟩), .int .u64 lv, .int .i64 8] w fun e w' => e = .returned (.tuple #[.int .u64 E, .int .i64 0]) ∧ Own w0 w' (Star (plA pb b first L s) R)) := Lib.hid (fun w h => o_pload h hR lv 8 E 0 ⟨by omega, by omega⟩ eE (by unfold loadR inB; rw [if_pos (show sizedB 8 = true from rfl), if_pos (decide_eq_true (by omega))]))
  have ha2 : bits .and .u64 E 1 = 0 := (W.and_mask E 1 (by decide) hw).trans hq
  rw [e0] at elr; subst elr
  have LE : RowKit.Hid (∀ w, Own w0 w (Star (plA pb b first L s) R) → _) := Lib.hid (fun w h => o_pleft (w0 := w0) (w := w) h lf hlf)
  have hl1 : (belowX first ⟨L, s⟩ r (pg * 256) 2).L.length = L.length := below_len first ⟨L, s⟩ r _ 2
  have hl2 : (mapZ first ⟨L, s⟩ r pg).L.length = L.length := (below_len first _ _ _ 1).trans hl1
  have bt1 := belowN_bd first ⟨L, s⟩ r (pg * 256) 2 hlen.2.2.1
  have bt0 := belowN_bd first (belowX first ⟨L, s⟩ r (pg * 256) 2) (belowN first ⟨L, s⟩ r (pg * 256) 2) (pg * 256) 1 (by rw [hl1]; exact hlen.2.2.1)
  have btk := take_bd (mapZ first ⟨L, s⟩ r pg).L first (by rw [hl2]; exact hlen.2.2.1)
  have BL1 : RowKit.Hid (∀ w, Own w0 w (Star (plA pb b first L s) R) → _) := Lib.hid (fun w h => o_below (w0 := w0) (w := w) h hR r (pg * 256) 2 _ _ HRB.out haA rfl rfl)
  have BL2 : RowKit.Hid (∀ w, Own w0 w (Star (plA pb b first (belowX first ⟨L, s⟩ r (pg * 256) 2).L (belowX first ⟨L, s⟩ r (pg * 256) 2).s) R) → Calls Try.prog 28 #[.pointer (some ⟨pb, 0, none⟩), .int .i64 (belowN first ⟨L, s⟩ r (pg * 256) 2), .int .u64 (pg * 256), .int .i64 1] w fun e w' => e = .returned (.int .i64 (mapT first ⟨L, s⟩ r pg)) ∧ Own w0 w' (Star (plA pb b first (mapZ first ⟨L, s⟩ r pg).L (mapZ first ⟨L, s⟩ r pg).s) R)) :=
    Lib.hid (fun w h => o_below (w0 := w0) (w := w) h hR _ (pg * 256) 1 _ _ bt1 haA rfl rfl)
  have bt0' : 0 ≤ mapT first ⟨L, s⟩ r pg ∧ mapT first ⟨L, s⟩ r pg < 18014398509481984 := bt0
  have PL : RowKit.Hid (∀ w, _) := Lib.hid (fun w => c_place (mapT first ⟨L, s⟩ r pg) (pg * 256) 0 bt0' haA w)
  have hpu := place_u64 (mapT first ⟨L, s⟩ r pg) (pg * 256) 0 bt0'
  obtain ⟨TE, eTE⟩ : ∃ x, takeE (mapZ first ⟨L, s⟩ r pg).L first = x := ⟨_, rfl⟩
  have TKE : RowKit.Hid (∀ w, Own w0 w (Star (plA pb b first (mapZ first ⟨L, s⟩ r pg).L (mapZ first ⟨L, s⟩ r pg).s) R) → _) := Lib.hid (fun w h => o_ptake (w0 := w0) (w := w) h hR _ TE _ _ rfl eTE rfl rfl)
  have CE : RowKit.Hid (∀ w, _) := Lib.hid (fun w => c_kentry (takeN (mapZ first ⟨L, s⟩ r pg).L first) bt ⟨by omega, by omega⟩ hbt w)
  have hew := entryI_word (takeN (mapZ first ⟨L, s⟩ r pg).L first) bt btk.1 hbt.1 (by omega)
  have ST : RowKit.Hid (∀ w, Own w0 w (Star (plA pb b first (takeX first (mapZ first ⟨L, s⟩ r pg)).L (takeX first (mapZ first ⟨L, s⟩ r pg)).s) R) → _) := Lib.hid (fun w h => o_pstore (w0 := w0) (w := w) h hR (placeI (mapT first ⟨L, s⟩ r pg) (pg * 256) 0) 8 _ _ hpu hew _ rfl rfl)
  clear bt1 bt0 bt0' btk hl1 hl2 hpu hew eTE
  unfold takeX at ST ⊢
  unfold putX
  dsimp only at ST ⊢
  generalize placeI (mapT first ⟨L, s⟩ r pg) (pg * 256) 0 = PP at *
  generalize entryI (takeN (mapZ first ⟨L, s⟩ r pg).L first) bt = EE at *
  generalize loadR (takeS (mapZ first ⟨L, s⟩ r pg).L first (mapZ first ⟨L, s⟩ r pg).s) PP 8 = RR at *
  generalize storeS (takeS (mapZ first ⟨L, s⟩ r pg).L first (mapZ first ⟨L, s⟩ r pg).s) PP 8 EE = S8 at *
  generalize takeS (mapZ first ⟨L, s⟩ r pg).L first (mapZ first ⟨L, s⟩ r pg).s = S7 at *
  generalize takeL (mapZ first ⟨L, s⟩ r pg).L first = L7 at *
  generalize takeN (mapZ first ⟨L, s⟩ r pg).L first = N7 at *
  generalize (mapZ first ⟨L, s⟩ r pg).s = S6 at *
  generalize (mapZ first ⟨L, s⟩ r pg).L = L6 at *
  generalize mapT first ⟨L, s⟩ r pg = T0 at *
  generalize (belowX first ⟨L, s⟩ r (pg * 256) 2).s = S5 at *
  generalize (belowX first ⟨L, s⟩ r (pg * 256) 2).L = L5 at *
  generalize belowN first ⟨L, s⟩ r (pg * 256) 2 = T1 at *
  clear h hR hr hpg hbt hbt0 hbad htk hrb hlen haA elv hlf c3 e0 hE hq hin eE hw
  go_enter Try.func10, Try.ntmps10
  go_wp2_with
    (first
      | (go_at_call 23; refine TK.out.mono ?_; rintro e w2 ⟨rfl, h2⟩; have H2 := Lib.hid h2; clear h2)
      | (go_at_call 25; refine (o_pmem (by first | exact H4.out | exact H3.out | exact H2.out)).mono ?_; rintro e wm ⟨rfl, rfl⟩)
      | (go_at_call 24; refine (LF.out _ H2.out).mono ?_; rintro e w3 ⟨rfl, h3⟩; have H3 := Lib.hid h3; clear h3)
      | (go_at_call 26; refine (LD.out _ H3.out).mono ?_; rintro e w4 ⟨rfl, h4⟩; have H4 := Lib.hid h4; clear h4)
      | (go_at_call 27; refine (MS.out _ H3.out).mono ?_; rintro e w4 ⟨rfl, h4⟩; have H4 := Lib.hid h4; clear h4)
      | (go_at_call 8; refine (LE.out _ H4.out).mono ?_; rintro e wl ⟨rfl, rfl⟩))
  refine wp_loop_rounds 3 ?_
  rw [rounds_succ]
  go_wp2_with (go_at_call 28; refine (BL1.out _ H4.out).mono ?_; rintro e w5 ⟨rfl, h5⟩; have H5 := Lib.hid h5; clear h5)
  rw [rounds_succ]
  go_wp2_with (go_at_call 28; refine (BL2.out _ H5.out).mono ?_; rintro e w6 ⟨rfl, h6⟩; have H6 := Lib.hid h6; clear h6)
  rw [rounds_succ]
  go_wp2_with (first
    | (go_at_call 22; refine (TKE.out _ H6.out).mono ?_; rintro e w7 ⟨rfl, h7⟩; have H7 := Lib.hid h7; clear h7)
    | (go_at_call 25; refine (o_pmem H7.out).mono ?_; rintro e wm ⟨rfl, rfl⟩)
    | (go_at_call 30; refine (PL.out _).mono ?_; rintro e wp ⟨rfl, rfl⟩)
    | (go_at_call 31; refine (CE.out _).mono ?_; rintro e wq ⟨rfl, rfl⟩)
    | (go_at_call 29; refine (ST.out _ H7.out).mono ?_; rintro e w8 ⟨rfl, h8⟩; have H8 := Lib.hid h8; clear h8))
  try rw [Exit.noGoto_ret]
  go_ret
  exact ⟨rfl, H8.out⟩
set_option maxHeartbeats 1600000 in
theorem o_map_fullB (h : Own w0 w (Star (plA pb b first L s) R)) (hR : Stable R) (r pg bt : Int) (hr : i64 r) (hpg : i64 pg) (hbt : u64 bt) (hbad : mapBad first ⟨L, s⟩ r pg bt = false) (lr0 : Int) (e0 : leafR L.length s r (pg * 256) = lr0) (hl0 : lr0 ≠ 0) (M : Int) (hM : missI s r (pg * 256) = M) (lf : Int) (hlf : leftX first ⟨L, s⟩ = lf) (hc : lf ≤ M) :
    Calls Try.prog 10 #[.pointer (some ⟨pb, 0, none⟩), .int .i64 r, .int .i64 pg, .int .u64 bt] w fun e w' => e = .returned (.int .i64 4) ∧ Own w0 w' (Star (plA pb b first L s) R) := by
  have hbt0 := hbt
  have htk : tknB L first r = true := by
    unfold mapBad at hbad; cases q : tknB L first r
    · rw [show (⟨L, s⟩ : Sp).L = L from rfl, q] at hbad; cases hbad
    · rfl
  have hrb := tkn_bd htk
  have hlen := o_plen h
  have hc : ¬ pg < 0 ∧ ¬ 32768 ≤ pg ∧ bt % 2 = 1 ∧ ¬ 31 < bt := by
    unfold mapBad at hbad
    rw [show (⟨L, s⟩ : Sp).L = L from rfl, htk] at hbad
    simp only [Bool.not_true, Bool.false_or, Bool.or_eq_false_iff, decide_eq_false_iff_not] at hbad
    omega
  obtain ⟨c1, c2, c3, c4⟩ := hc
  have ha1 : bits .and .u64 bt 1 = 1 := by rw [and1 bt hbt, c3]
  have TK := Lib.hid (o_ptaken h hR r hr true htk)
  have k1 : IntKind.u64.wrap pg = pg := wrapU pg (by omega) (by omega)
  have k2 : IntKind.u64.wrap (pg * 256) = pg * 256 := wrapU (pg * 256) (by omega) (by omega)
  have haA : u64 (pg * 256) := ⟨by omega, by omega⟩
  have HR := Lib.hid hR
  have HA := Lib.hid haA
  have HRB : RowKit.Hid (0 ≤ r ∧ r < 18014398509481984) := Lib.hid ⟨by omega, by omega⟩
  obtain ⟨lv, elv⟩ : ∃ x, leafV L.length s r (pg * 256) = x := ⟨_, rfl⟩
  obtain ⟨lr, elr⟩ : ∃ x, leafR L.length s r (pg * 256) = x := ⟨_, rfl⟩
  have LF : RowKit.Hid (∀ w, Own w0 w (Star (plA pb b first L s) R) → _) := Lib.hid (fun w h => o_pleaf (w0 := w0) (w := w) h hR r (pg * 256) lv lr haA hr elv elr)
  have hlr : (lr == 0) = false := by rw [← elr, e0]; simpa using hl0
  have MS : RowKit.Hid (∀ w, Own w0 w (Star (plA pb b first L s) R) → _) := Lib.hid (fun w h => o_missing (w0 := w0) (w := w) h hR r (pg * 256) M HRB.out haA hM)
  have LE : RowKit.Hid (∀ w, Own w0 w (Star (plA pb b first L s) R) → _) := Lib.hid (fun w h => o_pleft (w0 := w0) (w := w) h lf hlf)
  clear h hR hr hpg hbt hbt0 hbad htk hrb hlen haA elv hlf c3 e0 hl0 hM elr
  go_enter Try.func10, Try.ntmps10
  go_wp2_with
    (first
      | (go_at_call 23; refine TK.out.mono ?_; rintro e w2 ⟨rfl, h2⟩; have H2 := Lib.hid h2; clear h2)
      | (go_at_call 25; refine (o_pmem (by first | exact H4.out | exact H3.out | exact H2.out)).mono ?_; rintro e wm ⟨rfl, rfl⟩)
      | (go_at_call 24; refine (LF.out _ H2.out).mono ?_; rintro e w3 ⟨rfl, h3⟩; have H3 := Lib.hid h3; clear h3)
      | (go_at_call 26; refine (LD.out _ H3.out).mono ?_; rintro e w4 ⟨rfl, h4⟩; have H4 := Lib.hid h4; clear h4)
      | (go_at_call 27; refine (MS.out _ H3.out).mono ?_; rintro e w4 ⟨rfl, h4⟩; have H4 := Lib.hid h4; clear h4)
      | (go_at_call 8; refine (LE.out _ H4.out).mono ?_; rintro e wl ⟨rfl, rfl⟩))
  go_ret
  exact ⟨rfl, H4.out⟩
set_option maxHeartbeats 1600000 in
theorem o_map_yesB (h : Own w0 w (Star (plA pb b first L s) R)) (hR : Stable R) (r pg bt : Int) (hr : i64 r) (hpg : i64 pg) (hbt : u64 bt) (hbad : mapBad first ⟨L, s⟩ r pg bt = false) (lr0 : Int) (e0 : leafR L.length s r (pg * 256) = lr0) (hl0 : lr0 ≠ 0) (M : Int) (hM : missI s r (pg * 256) = M) (lf : Int) (hlf : leftX first ⟨L, s⟩ = lf) (hc : ¬ lf ≤ M) :
    Calls Try.prog 10 #[.pointer (some ⟨pb, 0, none⟩), .int .i64 r, .int .i64 pg, .int .u64 bt] w fun e w' => e = .returned (.int .i64 (loadR (takeX first (mapZ first ⟨L, s⟩ r pg)).s (placeI (mapT first ⟨L, s⟩ r pg) (pg * 256) 0) 8)) ∧ Own w0 w' (Star (plA pb b first (putX (takeX first (mapZ first ⟨L, s⟩ r pg)) (placeI (mapT first ⟨L, s⟩ r pg) (pg * 256) 0) (entryI (takeN (mapZ first ⟨L, s⟩ r pg).L first) bt)).L (putX (takeX first (mapZ first ⟨L, s⟩ r pg)) (placeI (mapT first ⟨L, s⟩ r pg) (pg * 256) 0) (entryI (takeN (mapZ first ⟨L, s⟩ r pg).L first) bt)).s) R) := by
  have hbt0 := hbt
  have htk : tknB L first r = true := by
    unfold mapBad at hbad; cases q : tknB L first r
    · rw [show (⟨L, s⟩ : Sp).L = L from rfl, q] at hbad; cases hbad
    · rfl
  have hrb := tkn_bd htk
  have hlen := o_plen h
  have hc : ¬ pg < 0 ∧ ¬ 32768 ≤ pg ∧ bt % 2 = 1 ∧ ¬ 31 < bt := by
    unfold mapBad at hbad
    rw [show (⟨L, s⟩ : Sp).L = L from rfl, htk] at hbad
    simp only [Bool.not_true, Bool.false_or, Bool.or_eq_false_iff, decide_eq_false_iff_not] at hbad
    omega
  obtain ⟨c1, c2, c3, c4⟩ := hc
  have ha1 : bits .and .u64 bt 1 = 1 := by rw [and1 bt hbt, c3]
  have TK := Lib.hid (o_ptaken h hR r hr true htk)
  have k1 : IntKind.u64.wrap pg = pg := wrapU pg (by omega) (by omega)
  have k2 : IntKind.u64.wrap (pg * 256) = pg * 256 := wrapU (pg * 256) (by omega) (by omega)
  have haA : u64 (pg * 256) := ⟨by omega, by omega⟩
  have HR := Lib.hid hR
  have HA := Lib.hid haA
  have HRB : RowKit.Hid (0 ≤ r ∧ r < 18014398509481984) := Lib.hid ⟨by omega, by omega⟩
  obtain ⟨lv, elv⟩ : ∃ x, leafV L.length s r (pg * 256) = x := ⟨_, rfl⟩
  obtain ⟨lr, elr⟩ : ∃ x, leafR L.length s r (pg * 256) = x := ⟨_, rfl⟩
  have LF : RowKit.Hid (∀ w, Own w0 w (Star (plA pb b first L s) R) → _) := Lib.hid (fun w h => o_pleaf (w0 := w0) (w := w) h hR r (pg * 256) lv lr haA hr elv elr)
  have hlr : (lr == 0) = false := by rw [← elr, e0]; simpa using hl0
  have MS : RowKit.Hid (∀ w, Own w0 w (Star (plA pb b first L s) R) → _) := Lib.hid (fun w h => o_missing (w0 := w0) (w := w) h hR r (pg * 256) M HRB.out haA hM)
  have LE : RowKit.Hid (∀ w, Own w0 w (Star (plA pb b first L s) R) → _) := Lib.hid (fun w h => o_pleft (w0 := w0) (w := w) h lf hlf)
  have hl1 : (belowX first ⟨L, s⟩ r (pg * 256) 2).L.length = L.length := below_len first ⟨L, s⟩ r _ 2
  have hl2 : (mapZ first ⟨L, s⟩ r pg).L.length = L.length := (below_len first _ _ _ 1).trans hl1
  have bt1 := belowN_bd first ⟨L, s⟩ r (pg * 256) 2 hlen.2.2.1
  have bt0 := belowN_bd first (belowX first ⟨L, s⟩ r (pg * 256) 2) (belowN first ⟨L, s⟩ r (pg * 256) 2) (pg * 256) 1 (by rw [hl1]; exact hlen.2.2.1)
  have btk := take_bd (mapZ first ⟨L, s⟩ r pg).L first (by rw [hl2]; exact hlen.2.2.1)
  have BL1 : RowKit.Hid (∀ w, Own w0 w (Star (plA pb b first L s) R) → _) := Lib.hid (fun w h => o_below (w0 := w0) (w := w) h hR r (pg * 256) 2 _ _ HRB.out haA rfl rfl)
  have BL2 : RowKit.Hid (∀ w, Own w0 w (Star (plA pb b first (belowX first ⟨L, s⟩ r (pg * 256) 2).L (belowX first ⟨L, s⟩ r (pg * 256) 2).s) R) → Calls Try.prog 28 #[.pointer (some ⟨pb, 0, none⟩), .int .i64 (belowN first ⟨L, s⟩ r (pg * 256) 2), .int .u64 (pg * 256), .int .i64 1] w fun e w' => e = .returned (.int .i64 (mapT first ⟨L, s⟩ r pg)) ∧ Own w0 w' (Star (plA pb b first (mapZ first ⟨L, s⟩ r pg).L (mapZ first ⟨L, s⟩ r pg).s) R)) :=
    Lib.hid (fun w h => o_below (w0 := w0) (w := w) h hR _ (pg * 256) 1 _ _ bt1 haA rfl rfl)
  have bt0' : 0 ≤ mapT first ⟨L, s⟩ r pg ∧ mapT first ⟨L, s⟩ r pg < 18014398509481984 := bt0
  have PL : RowKit.Hid (∀ w, _) := Lib.hid (fun w => c_place (mapT first ⟨L, s⟩ r pg) (pg * 256) 0 bt0' haA w)
  have hpu := place_u64 (mapT first ⟨L, s⟩ r pg) (pg * 256) 0 bt0'
  obtain ⟨TE, eTE⟩ : ∃ x, takeE (mapZ first ⟨L, s⟩ r pg).L first = x := ⟨_, rfl⟩
  have TKE : RowKit.Hid (∀ w, Own w0 w (Star (plA pb b first (mapZ first ⟨L, s⟩ r pg).L (mapZ first ⟨L, s⟩ r pg).s) R) → _) := Lib.hid (fun w h => o_ptake (w0 := w0) (w := w) h hR _ TE _ _ rfl eTE rfl rfl)
  have CE : RowKit.Hid (∀ w, _) := Lib.hid (fun w => c_kentry (takeN (mapZ first ⟨L, s⟩ r pg).L first) bt ⟨by omega, by omega⟩ hbt w)
  have hew := entryI_word (takeN (mapZ first ⟨L, s⟩ r pg).L first) bt btk.1 hbt.1 (by omega)
  have ST : RowKit.Hid (∀ w, Own w0 w (Star (plA pb b first (takeX first (mapZ first ⟨L, s⟩ r pg)).L (takeX first (mapZ first ⟨L, s⟩ r pg)).s) R) → _) := Lib.hid (fun w h => o_pstore (w0 := w0) (w := w) h hR (placeI (mapT first ⟨L, s⟩ r pg) (pg * 256) 0) 8 _ _ hpu hew _ rfl rfl)
  clear bt1 bt0 bt0' btk hl1 hl2 hpu hew eTE
  unfold takeX at ST ⊢
  unfold putX
  dsimp only at ST ⊢
  generalize placeI (mapT first ⟨L, s⟩ r pg) (pg * 256) 0 = PP at *
  generalize entryI (takeN (mapZ first ⟨L, s⟩ r pg).L first) bt = EE at *
  generalize loadR (takeS (mapZ first ⟨L, s⟩ r pg).L first (mapZ first ⟨L, s⟩ r pg).s) PP 8 = RR at *
  generalize storeS (takeS (mapZ first ⟨L, s⟩ r pg).L first (mapZ first ⟨L, s⟩ r pg).s) PP 8 EE = S8 at *
  generalize takeS (mapZ first ⟨L, s⟩ r pg).L first (mapZ first ⟨L, s⟩ r pg).s = S7 at *
  generalize takeL (mapZ first ⟨L, s⟩ r pg).L first = L7 at *
  generalize takeN (mapZ first ⟨L, s⟩ r pg).L first = N7 at *
  generalize (mapZ first ⟨L, s⟩ r pg).s = S6 at *
  generalize (mapZ first ⟨L, s⟩ r pg).L = L6 at *
  generalize mapT first ⟨L, s⟩ r pg = T0 at *
  generalize (belowX first ⟨L, s⟩ r (pg * 256) 2).s = S5 at *
  generalize (belowX first ⟨L, s⟩ r (pg * 256) 2).L = L5 at *
  generalize belowN first ⟨L, s⟩ r (pg * 256) 2 = T1 at *
  clear h hR hr hpg hbt hbt0 hbad htk hrb hlen haA elv hlf c3 e0 hl0 hM elr
  go_enter Try.func10, Try.ntmps10
  go_wp2_with
    (first
      | (go_at_call 23; refine TK.out.mono ?_; rintro e w2 ⟨rfl, h2⟩; have H2 := Lib.hid h2; clear h2)
      | (go_at_call 25; refine (o_pmem (by first | exact H4.out | exact H3.out | exact H2.out)).mono ?_; rintro e wm ⟨rfl, rfl⟩)
      | (go_at_call 24; refine (LF.out _ H2.out).mono ?_; rintro e w3 ⟨rfl, h3⟩; have H3 := Lib.hid h3; clear h3)
      | (go_at_call 26; refine (LD.out _ H3.out).mono ?_; rintro e w4 ⟨rfl, h4⟩; have H4 := Lib.hid h4; clear h4)
      | (go_at_call 27; refine (MS.out _ H3.out).mono ?_; rintro e w4 ⟨rfl, h4⟩; have H4 := Lib.hid h4; clear h4)
      | (go_at_call 8; refine (LE.out _ H4.out).mono ?_; rintro e wl ⟨rfl, rfl⟩))
  refine wp_loop_rounds 3 ?_
  rw [rounds_succ]
  go_wp2_with (go_at_call 28; refine (BL1.out _ H4.out).mono ?_; rintro e w5 ⟨rfl, h5⟩; have H5 := Lib.hid h5; clear h5)
  rw [rounds_succ]
  go_wp2_with (go_at_call 28; refine (BL2.out _ H5.out).mono ?_; rintro e w6 ⟨rfl, h6⟩; have H6 := Lib.hid h6; clear h6)
  rw [rounds_succ]
  go_wp2_with (first
    | (go_at_call 22; refine (TKE.out _ H6.out).mono ?_; rintro e w7 ⟨rfl, h7⟩; have H7 := Lib.hid h7; clear h7)
    | (go_at_call 25; refine (o_pmem H7.out).mono ?_; rintro e wm ⟨rfl, rfl⟩)
    | (go_at_call 30; refine (PL.out _).mono ?_; rintro e wp ⟨rfl, rfl⟩)
    | (go_at_call 31; refine (CE.out _).mono ?_; rintro e wq ⟨rfl, rfl⟩)
    | (go_at_call 29; refine (ST.out _ H7.out).mono ?_; rintro e w8 ⟨rfl, h8⟩; have H8 := Lib.hid h8; clear h8))
  try rw [Exit.noGoto_ret]
  go_ret
  exact ⟨rfl, H8.out⟩
theorem o_map (h : Own w0 w (Star (plA pb b first L s) R)) (hR : Stable R) (r pg bt : Int) (hr : i64 r) (hpg : i64 pg) (hbt : u64 bt) (e : Int) (z : Sp) (he : mapE first ⟨L, s⟩ r pg bt = e) (hz : mapX first ⟨L, s⟩ r pg bt = z) :
    Calls Try.prog 10 #[.pointer (some ⟨pb, 0, none⟩), .int .i64 r, .int .i64 pg, .int .u64 bt] w fun x w' => x = .returned (.int .i64 e) ∧ Own w0 w' (Star (plA pb b first z.L z.s) R) := by
  subst he; subst hz
  unfold mapE mapX
  cases hbad : mapBad first ⟨L, s⟩ r pg bt with
  | true => exact o_map_bad h hR r pg bt hr hpg hbt hbad
  | false =>
    simp only [cond_false]
    unfold mapThere mapMiss
    show Calls _ _ _ _ (fun x w' => _)
    obtain ⟨lr, elr⟩ : ∃ x, leafR L.length s r (pg * 256) = x := ⟨_, rfl⟩
    simp only [show (⟨L, s⟩ : Sp).L = L from rfl, show (⟨L, s⟩ : Sp).s = s from rfl]
    by_cases h0 : lr = 0
    · subst h0
      rw [elr, decide_eq_true rfl, Bool.true_and]
      by_cases hq : entS s (leafV L.length s r (pg * 256)) % 2 = 1
      · rw [decide_eq_true hq]
        exact o_map_there h hR r pg bt hr hpg hbt hbad elr _ rfl hq
      · rw [decide_eq_false hq]
        simp only [cond_false, cond_true]
        by_cases hc : leftX first ⟨L, s⟩ ≤ 0
        · rw [decide_eq_true hc]
          exact o_map_fullA h hR r pg bt hr hpg hbt hbad elr _ rfl (by omega) _ rfl hc
        · rw [decide_eq_false hc]
          exact o_map_yesA h hR r pg bt hr hpg hbt hbad elr _ rfl (by omega) _ rfl hc
    · rw [elr, decide_eq_false h0, Bool.false_and]
      simp only [cond_false]
      by_cases hc : leftX first ⟨L, s⟩ ≤ missI s r (pg * 256)
      · rw [decide_eq_true hc]
        exact o_map_fullB h hR r pg bt hr hpg hbt hbad _ elr h0 _ rfl _ rfl hc
      · rw [decide_eq_false hc]
        exact o_map_yesB h hR r pg bt hr hpg hbt hbad _ elr h0 _ rfl _ rfl hc
end Go.Proofs.Ytbcnibnkojnpiaa.P
