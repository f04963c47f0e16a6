/- Stage 11: entries and tables in the program. No condition. -/
import Derived.Test.YtbcnibnkojnpiaaGreatE3
import Derived.OwnWalk
set_option linter.unusedVariables false
set_option linter.unusedSimpArgs false
set_option maxRecDepth 100000
namespace Go.Proofs.YtbcnibnkojnpiaaGreat.P
open Go.RowKit Go.MuLone Go.Maps
theorem wrapU (x : Int) (h0 : 0 ≤ x) (h1 : x < 18446744073709551616) : IntKind.u64.wrap x = x := by rw [IntKind.wrap_u64]; omega
theorem wrapI (x : Int) (h0 : -9223372036854775808 ≤ x) (h1 : x < 9223372036854775808) : IntKind.i64.wrap x = x := by rw [IntKind.wrap_i64]; omega
theorem c_place (t a l : Int) (ht : 0 ≤ t ∧ t < 18014398509481984) (ha : u64 a) (w : World) : Calls Tryz.prog 55 #[.int .i64 t, .int .u64 a, .int .i64 l] w fun e w' => e = .returned (.int .u64 (placeI t a l)) ∧ w' = w := by
  have hp := part_bd a l
  have C : ∀ w : World, Calls Tryz.prog 85 #[.int .u64 a, .int .i64 l] w fun e w' => e = .returned (.int .i64 (partI a l)) ∧ w' = w := fun w => c_kpart a l ha w
  unfold placeI
  generalize partI a l = q at *
  have k1 := wrapU t ht.1 (by omega)
  have k2 := wrapU (t * 256) (by omega) (by omega)
  have k3 := wrapU q (by omega) (by omega)
  have k4 := wrapU (q * 8) (by omega) (by omega)
  have k5 := wrapU (t * 256 + q * 8) (by omega) (by omega)
  clear hp
  go_enter Tryz.func55, Tryz.ntmps55
  go_wp2_with (go_at_call 85; refine (C _).mono ?_; rintro e w' ⟨rfl, rfl⟩)
  go_ret
  exact ⟨rfl, rfl⟩
theorem place_u64 (t a l : Int) (ht : 0 ≤ t ∧ t < 18014398509481984) : u64 (placeI t a l) := by
  have hp := part_bd a l
  unfold placeI u64; omega
theorem valid_bd (s : List UInt8) (p : Int) : 0 ≤ validF s p ∧ validF s p < 18014398509481984 ∧ 0 ≤ validG s p ∧ validG s p < 32 := by
  have := ent_word s p
  have h1 := this.1
  have h2 := this.2
  unfold validF validG
  cases validB s p
  · rw [cond_false, cond_false]; omega
  · rw [cond_true, cond_true]; omega
variable {w0 w : World} {pb b first : Nat} {L : List Bool} {s : List UInt8} {R : Asn}
theorem o_valid (h : Own w0 w (Star (plA pb b first L s) R)) (hR : Stable R) (p : Int) (hp : u64 p) (f g : Int) (v : Bool) (hf : validF s p = f) (hg : validG s p = g) (hv : validB s p = v) :
    Calls Tryz.prog 60 #[.pointer (some ⟨pb, 0, none⟩), .int .u64 p] w fun e w' => e = .returned (.tuple #[.int .i64 f, .int .u64 g, .bool v]) ∧ Own w0 w' (Star (plA pb b first L s) R) := by
  subst hf; subst hg; subst hv
  have H := Lib.hid h
  have HR := Lib.hid hR
  have HP := Lib.hid hp
  have hb0 := hp.1
  by_cases hin : p + 8 ≤ s.length
  · have eR : loadR s p 8 = 0 := by unfold loadR inB; rw [if_pos (show sizedB 8 = true from rfl), if_pos (decide_eq_true hin)]
    have hE := ent_word s p
    have hdi : decide (p + 8 ≤ (s.length : Int)) = true := decide_eq_true hin
    obtain ⟨E, eE⟩ : ∃ E, loadV s p 8 = E := ⟨_, rfl⟩
    have eE2 : entS s p = E := eE
    rw [eE2] at hE
    have C := Lib.hid (o_pload h hR p 8 E 0 hp eE eR)
    have ha1 : bits .and .u64 E 1 = E % 2 := W.and_mask E 1 (by decide) hE
    have ha5 : bits .and .u64 E 31 = E % 32 := W.and_mask E 5 (by decide) hE
    by_cases q : E % 2 = 1
    · have hvb : validB s p = true := by unfold validB; rw [hdi, eE2, decide_eq_true q]; rfl
      have hvf : validF s p = E / 1024 := by unfold validF; rw [hvb, eE2]; rfl
      have hvg : validG s p = E % 32 := by unfold validG; rw [hvb, eE2]; rfl
      rw [hvf, hvg, hvb]
      obtain ⟨F, hF⟩ : ∃ F, E / 1024 = F := ⟨_, rfl⟩
      have CF : ∀ w : World, Calls Tryz.prog 79 #[.int .u64 E] w fun e w' => e = .returned (.int .u64 F) ∧ w' = w := fun w => by rw [← hF]; exact c_kframe E ⟨hE.1, by have := hE.2; omega⟩ w
      have k1 : IntKind.i64.wrap F = F := wrapI F (by have := hE.1; omega) (by have := hE.2; omega)
      rw [q] at ha1
      obtain ⟨G, hG⟩ : ∃ G, E % 32 = G := ⟨_, rfl⟩
      rw [hG] at ha5 ⊢
      rw [hF]
      clear h hR hp hin eR eE eE2 hdi hvb hvf hvg hE q hF hG hb0
      go_enter Tryz.func60, Tryz.ntmps60
      go_wp2_with (first
        | (go_at_call 42; refine (o_pmem H.out).mono ?_; rintro e w' ⟨rfl, rfl⟩)
        | (go_at_call 45; refine C.out.mono ?_; rintro e w2 ⟨rfl, h2⟩; have H2 := Lib.hid h2; clear h2)
        | (go_at_call 79; refine (CF _).mono ?_; rintro e w3 ⟨rfl, rfl⟩))
      go_ret3
      exact ⟨rfl, H2.out⟩
    · have hvb : validB s p = false := by unfold validB; rw [eE2, decide_eq_false q, Bool.and_false]
      have hvf : validF s p = 0 := by unfold validF; rw [hvb]; rfl
      have hvg : validG s p = 0 := by unfold validG; rw [hvb]; rfl
      rw [hvf, hvg, hvb]
      rw [show E % 2 = 0 by omega] at ha1
      clear h hR hp hin eR eE eE2 hdi hvb hvf hvg hE q hb0 ha5
      go_enter Tryz.func60, Tryz.ntmps60
      go_wp2_with (first
        | (go_at_call 42; refine (o_pmem H.out).mono ?_; rintro e w' ⟨rfl, rfl⟩)
        | (go_at_call 45; refine C.out.mono ?_; rintro e w2 ⟨rfl, h2⟩; have H2 := Lib.hid h2; clear h2))
      go_ret3
      exact ⟨rfl, H2.out⟩
  · have hvb : validB s p = false := by unfold validB; rw [decide_eq_false hin]; rfl
    have hvf : validF s p = 0 := by unfold validF; rw [hvb]; rfl
    have hvg : validG s p = 0 := by unfold validG; rw [hvb]; rfl
    have eR : loadR s p 8 = 3 := by unfold loadR inB; rw [if_pos (show sizedB 8 = true from rfl), if_neg (fun q => hin (of_decide_eq_true q))]
    rw [hvf, hvg, hvb]
    obtain ⟨E, eE⟩ : ∃ E, loadV s p 8 = E := ⟨_, rfl⟩
    have C := Lib.hid (o_pload h hR p 8 E 3 hp eE eR)
    clear h hR hp hin eR eE hvb hvf hvg hb0
    go_enter Tryz.func60, Tryz.ntmps60
    go_wp2_with (first
      | (go_at_call 42; refine (o_pmem H.out).mono ?_; rintro e w' ⟨rfl, rfl⟩)
      | (go_at_call 45; refine C.out.mono ?_; rintro e w2 ⟨rfl, h2⟩; have H2 := Lib.hid h2; clear h2))
    go_ret3
    exact ⟨rfl, H2.out⟩
theorem o_missing (h : Own w0 w (Star (plA pb b first L s) R)) (hR : Stable R) (r a m : Int) (hr : 0 ≤ r ∧ r < 18014398509481984) (ha : u64 a) (hm : missI s r a = m) :
    Calls Tryz.prog 52 #[.pointer (some ⟨pb, 0, none⟩), .int .i64 r, .int .u64 a] w fun e w' => e = .returned (.int .i64 m) ∧ Own w0 w' (Star (plA pb b first L s) R) := by
  subst hm
  have H := Lib.hid h
  have C2 : ∀ w : World, Calls Tryz.prog 55 #[.int .i64 r, .int .u64 a, .int .i64 2] w fun e w' => e = .returned (.int .u64 (placeI r a 2)) ∧ w' = w := fun w => c_place r a 2 hr ha w
  have p2 := place_u64 r a 2 hr
  unfold missI
  generalize placeI r a 2 = P2 at *
  obtain ⟨f2, hf2⟩ : ∃ f, validF s P2 = f := ⟨_, rfl⟩
  obtain ⟨g2, hg2⟩ : ∃ f, validG s P2 = f := ⟨_, rfl⟩
  have b2 := valid_bd s P2
  rw [hf2] at b2 ⊢
  have C1 : ∀ w : World, Calls Tryz.prog 55 #[.int .i64 f2, .int .u64 a, .int .i64 1] w fun e w' => e = .returned (.int .u64 (placeI f2 a 1)) ∧ w' = w := fun w => c_place f2 a 1 ⟨b2.1, b2.2.1⟩ ha w
  have p1 := place_u64 f2 a 1 ⟨b2.1, b2.2.1⟩
  generalize placeI f2 a 1 = P1 at *
  obtain ⟨f1, hf1⟩ : ∃ f, validF s P1 = f := ⟨_, rfl⟩
  obtain ⟨g1, hg1⟩ : ∃ f, validG s P1 = f := ⟨_, rfl⟩
  have V2 : RowKit.Hid (∀ v, validB s P2 = v → ∀ w, Own w0 w (Star (plA pb b first L s) R) → Calls Tryz.prog 60 #[.pointer (some ⟨pb, 0, none⟩), .int .u64 P2] w fun e w' => e = .returned (.tuple #[.int .i64 f2, .int .u64 g2, .bool v]) ∧ Own w0 w' (Star (plA pb b first L s) R)) := Lib.hid (fun v hv w h => o_valid h hR P2 p2 f2 g2 v hf2 hg2 hv)
  have V1 : RowKit.Hid (∀ v, validB s P1 = v → ∀ w, Own w0 w (Star (plA pb b first L s) R) → Calls Tryz.prog 60 #[.pointer (some ⟨pb, 0, none⟩), .int .u64 P1] w fun e w' => e = .returned (.tuple #[.int .i64 f1, .int .u64 g1, .bool v]) ∧ Own w0 w' (Star (plA pb b first L s) R)) := Lib.hid (fun v hv w h => o_valid h hR P1 p1 f1 g1 v hf1 hg1 hv)
  clear h hR hr ha p2 p1 b2 hf2 hg2 hf1 hg1
  have H2 := Lib.hid H.out
  cases hv2 : validB s P2 with
  | false =>
    rw [cond_false]
    have W2 := Lib.hid (V2.out false hv2)
    clear V2 V1 hv2
    go_enter Tryz.func52, Tryz.ntmps52
    go_wp2_with fail
    refine wp_loop_rounds 3 ?_
    rw [rounds_succ]
    go_wp2_with (first
      | (go_at_call 55; refine (C2 _).mono ?_; rintro e w' ⟨rfl, rfl⟩)
      | (go_at_call 60; refine (W2.out _ H2.out).mono ?_; rintro e w3 ⟨rfl, h3⟩; have H3 := Lib.hid h3; clear h3))
    try rw [Exit.noGoto_ret]
    go_ret
    exact ⟨rfl, H3.out⟩
  | true =>
    rw [cond_true]
    have W2 := Lib.hid (V2.out true hv2)
    clear V2 hv2
    cases hv1 : validB s P1 with
    | false =>
      rw [cond_false]
      have W1 := Lib.hid (V1.out false hv1)
      clear V1 hv1
      go_enter Tryz.func52, Tryz.ntmps52
      go_wp2_with fail
      refine wp_loop_rounds 3 ?_
      rw [rounds_succ]
      go_wp2_with (first
        | (go_at_call 55; refine (C2 _).mono ?_; rintro e w' ⟨rfl, rfl⟩)
        | (go_at_call 60; refine (W2.out _ H2.out).mono ?_; rintro e w3 ⟨rfl, h3⟩; have H3 := Lib.hid h3; clear h3))
      rw [rounds_succ]
      go_wp2_with (first
        | (go_at_call 55; refine (C1 _).mono ?_; rintro e w' ⟨rfl, rfl⟩)
        | (go_at_call 60; refine (W1.out _ H3.out).mono ?_; rintro e w4 ⟨rfl, h4⟩; have H4 := Lib.hid h4; clear h4))
      try rw [Exit.noGoto_ret]
      go_ret
      exact ⟨rfl, H4.out⟩
    | true =>
      rw [cond_true]
      have W1 := Lib.hid (V1.out true hv1)
      clear V1 hv1
      go_enter Tryz.func52, Tryz.ntmps52
      go_wp2_with fail
      refine wp_loop_rounds 3 ?_
      rw [rounds_succ]
      go_wp2_with (first
        | (go_at_call 55; refine (C2 _).mono ?_; rintro e w' ⟨rfl, rfl⟩)
        | (go_at_call 60; refine (W2.out _ H2.out).mono ?_; rintro e w3 ⟨rfl, h3⟩; have H3 := Lib.hid h3; clear h3))
      rw [rounds_succ]
      go_wp2_with (first
        | (go_at_call 55; refine (C1 _).mono ?_; rintro e w' ⟨rfl, rfl⟩)
        | (go_at_call 60; refine (W1.out _ H3.out).mono ?_; rintro e w4 ⟨rfl, h4⟩; have H4 := Lib.hid h4; clear h4))
      rw [rounds_succ]
      go_wp2_with fail
      try rw [Exit.noGoto_ret]
      go_ret
      exact ⟨rfl, H4.out⟩
theorem take_bd (L : List Bool) (fi : Nat) (hl : L.length ≤ 256) : 0 ≤ takeN L fi ∧ takeN L fi < 256 := by
  unfold takeN
  cases q : takeB L fi
  · rw [cond_false]; omega
  · have := of_decide_eq_true q
    rw [cond_true]; omega
theorem entryI_word (f v : Int) (h0 : 0 ≤ f) (h1 : 0 ≤ v) (h2 : f < 18014398509481984) : W.word (entryI f v) := by
  unfold entryI; rw [if_neg (by omega)]; constructor <;> omega
theorem o_below (h : Own w0 w (Star (plA pb b first L s) R)) (hR : Stable R) (t a l n : Int) (z : Sp) (ht : 0 ≤ t ∧ t < 18014398509481984) (ha : u64 a) (hz : belowX first ⟨L, s⟩ t a l = z) (hn : belowN first ⟨L, s⟩ t a l = n) :
    Calls Tryz.prog 53 #[.pointer (some ⟨pb, 0, none⟩), .int .i64 t, .int .u64 a, .int .i64 l] w fun e w' => e = .returned (.int .i64 n) ∧ Own w0 w' (Star (plA pb b first z.L z.s) R) := by
  subst hz; subst hn
  have C : ∀ w : World, Calls Tryz.prog 55 #[.int .i64 t, .int .u64 a, .int .i64 l] w fun e w' => e = .returned (.int .u64 (placeI t a l)) ∧ w' = w := fun w => c_place t a l ht ha w
  have hpu := place_u64 t a l ht
  unfold belowX belowN
  generalize placeI t a l = P at *
  obtain ⟨f, hf⟩ : ∃ f, validF s P = f := ⟨_, rfl⟩
  obtain ⟨g, hg⟩ : ∃ f, validG s P = f := ⟨_, rfl⟩
  have hl := (o_plen h).2.2.1
  have htk := take_bd L first hl
  cases hv : validB s P with
  | true =>
    have V := Lib.hid (o_valid h hR P hpu f g true hf hg hv)
    simp only [cond_true]
    rw [hf]
    clear h hR ht ha hpu hf hg hv hl htk
    go_enter Tryz.func53, Tryz.ntmps53
    go_wp2_with (first
      | (go_at_call 55; refine (C _).mono ?_; rintro e w' ⟨rfl, rfl⟩)
      | (go_at_call 60; refine V.out.mono ?_; rintro e w3 ⟨rfl, h3⟩; have H3 := Lib.hid h3; clear h3))
    go_ret
    exact ⟨rfl, H3.out⟩
  | false =>
    have V := Lib.hid (o_valid h hR P hpu f g false hf hg hv)
    simp only [cond_false]
    obtain ⟨N, hN⟩ : ∃ N, takeN L first = N := ⟨_, rfl⟩
    obtain ⟨E, hE⟩ : ∃ E, takeE L first = E := ⟨_, rfl⟩
    have hew := entryI_word (takeN L first) 1 htk.1 (by decide) (by omega)
    have CE : ∀ w : World, Calls Tryz.prog 56 #[.int .i64 N, .int .u64 1] w fun e w' => e = .returned (.int .u64 (entryI N 1)) ∧ w' = w := fun w => c_kentry N 1 ⟨by omega, by omega⟩ ⟨by decide, by decide⟩ w
    have TK : RowKit.Hid (∀ w, Own w0 w (Star (plA pb b first L s) R) → _) := Lib.hid (fun w h => o_ptake (w0 := w0) (w := w) h hR N E _ _ hN hE rfl rfl)
    show Calls _ _ _ _ (fun e w' => e = .returned (.int .i64 (takeN L first)) ∧ Own w0 w' (Star (plA pb b first (takeL L first) (storeS (takeS L first s) P 8 (entryI (takeN L first) 1))) R))
    rw [hN] at hew ⊢
    generalize entryI N 1 = EN at *
    have ST : RowKit.Hid (∀ w, Own w0 w (Star (plA pb b first (takeL L first) (takeS L first s)) R) → _) := Lib.hid (fun w h => o_pstore (w0 := w0) (w := w) h hR P 8 EN _ hpu hew _ rfl rfl)
    generalize takeL L first = L2 at *
    generalize takeS L first s = s2 at *
    clear h hR ht ha hpu hf hg hv hl htk hN hE hew
    go_enter Tryz.func53, Tryz.ntmps53
    go_wp2_with (first
      | (go_at_call 55; refine (C _).mono ?_; rintro e w' ⟨rfl, rfl⟩)
      | (go_at_call 60; refine V.out.mono ?_; rintro e w3 ⟨rfl, h3⟩; have H3 := Lib.hid h3; clear h3)
      | (go_at_call 50; refine (TK.out _ H3.out).mono ?_; rintro e w4 ⟨rfl, h4⟩; have H4 := Lib.hid h4; clear h4)
      | (go_at_call 42; refine (o_pmem H4.out).mono ?_; rintro e w' ⟨rfl, rfl⟩)
      | (go_at_call 56; refine (CE _).mono ?_; rintro e w5 ⟨rfl, rfl⟩)
      | (go_at_call 54; refine (ST.out _ H4.out).mono ?_; rintro e w6 ⟨rfl, h6⟩; have H6 := Lib.hid h6; clear h6))
    go_ret
    exact ⟨rfl, H6.out⟩
end Go.Proofs.YtbcnibnkojnpiaaGreat.P
namespace Go.Proofs.YtbcnibnkojnpiaaGreat.P
open Go.RowKit Go.MuLone Go.Maps
variable {w0 w : World} {pb b first : Nat} {L : List Bool} {s : List UInt8} {R : Asn}
theorem tkn_bd {L : List Bool} {fi : Nat} {k : Int} (h : tknB L fi k = true) : 0 ≤ k ∧ k < L.length ∧ (fi : Int) ≤ k := by
  unfold tknB at h
  simp only [Bool.and_eq_true, decide_eq_true_eq] at h; omega
theorem belowN_bd (fi : Nat) (z : Sp) (t a l : Int) (hl : z.L.length ≤ 256) : 0 ≤ belowN fi z t a l ∧ belowN fi z t a l < 18014398509481984 := by
  unfold belowN
  cases validB z.s (placeI t a l)
  · have := take_bd z.L fi hl; rw [cond_false]; omega
  · have := valid_bd z.s (placeI t a l); rw [cond_true]; omega
theorem and1 (x : Int) (h : u64 x) : bits .and .u64 x 1 = x % 2 := W.and_mask x 1 (by decide) ⟨h.1, by have := h.2; omega⟩
theorem takeL_len (L : List Bool) (fi : Nat) : (takeL L fi).length = L.length := by
  unfold takeL
  cases takeB L fi
  · rfl
  · exact List.length_set
theorem below_len (fi : Nat) (z : Sp) (t a l : Int) : (belowX fi z t a l).L.length = z.L.length := by
  unfold belowX
  cases validB z.s (placeI t a l)
  · exact takeL_len _ _
  · rfl
theorem o_map_bad (h : Own w0 w (Star (plA pb b first L s) R)) (hR : Stable R) (r pg bt : Int) (hr : i64 r) (hpg : i64 pg) (hbt : u64 bt) (hbad : mapBad first ⟨L, s⟩ r pg bt = true) :
    Calls Tryz.prog 21 #[.pointer (some ⟨pb, 0, none⟩), .int .i64 r, .int .i64 pg, .int .u64 bt] w fun e w' => e = .returned (.int .i64 1) ∧ Own w0 w' (Star (plA pb b first L s) R) := by
  obtain ⟨tk, htk⟩ : ∃ t, tknB L first r = t := ⟨_, rfl⟩
  have TK := Lib.hid (o_ptaken h hR r hr tk htk)
  unfold mapBad at hbad
  rw [show (⟨L, s⟩ : Sp).L = L from rfl, htk] at hbad
  have ha1 : bits .and .u64 bt 1 = bt % 2 := and1 bt hbt
  clear h hR hr htk
  cases tk with
  | false =>
    clear hbad
    go_enter Tryz.func21, Tryz.ntmps21
    go_wp2_with (go_at_call 32; refine TK.out.mono ?_; rintro e w2 ⟨rfl, h2⟩; have H2 := Lib.hid h2; clear h2)
    go_ret
    exact ⟨rfl, H2.out⟩
  | true =>
    rw [Bool.not_true, Bool.false_or] at hbad
    rcases (show pg < 0 ∨ (¬ pg < 0 ∧ 32768 ≤ pg) ∨ (¬ pg < 0 ∧ ¬ 32768 ≤ pg ∧ bt % 2 = 0) ∨ (¬ pg < 0 ∧ ¬ 32768 ≤ pg ∧ bt % 2 = 1 ∧ 31 < bt) by
      simp only [Bool.or_eq_true, decide_eq_true_eq] at hbad; omega) with c1 | ⟨c1, c2⟩ | ⟨c1, c2, c3⟩ | ⟨c1, c2, c3, c4⟩
    all_goals
      clear hbad
      try rw [c3] at ha1
      have hc := c1
      go_enter Tryz.func21, Tryz.ntmps21
      go_wp2_with (go_at_call 32; refine TK.out.mono ?_; rintro e w2 ⟨rfl, h2⟩; have H2 := Lib.hid h2; clear h2)
      go_ret
      exact ⟨rfl, H2.out⟩
set_option maxHeartbeats 1600000 in
theorem o_map_there (h : Own w0 w (Star (plA pb b first L s) R)) (hR : Stable R) (r pg bt : Int) (hr : i64 r) (hpg : i64 pg) (hbt : u64 bt) (hbad : mapBad first ⟨L, s⟩ r pg bt = false) (e0 : leafR L.length s r (pg * 256) = 0) (E : Int) (hE : entS s (leafV L.length s r (pg * 256)) = E) (hq : E % 2 = 1) :
    Calls Tryz.prog 21 #[.pointer (some ⟨pb, 0, none⟩), .int .i64 r, .int .i64 pg, .int .u64 bt] w fun e w' => e = .returned (.int .i64 9) ∧ Own w0 w' (Star (plA pb b first L s) R) := by
  have hbt0 := hbt
  have htk : tknB L first r = true := by
    unfold mapBad at hbad; cases q : tknB L first r
    · rw [show (⟨L, s⟩ : Sp).L = L from rfl, q] at hbad; cases hbad
    · rfl
  have hrb := tkn_bd htk
  have hlen := o_plen h
  have hc : ¬ pg < 0 ∧ ¬ 32768 ≤ pg ∧ bt % 2 = 1 ∧ ¬ 31 < bt := by
    unfold mapBad at hbad
    rw [show (⟨L, s⟩ : Sp).L = L from rfl, htk] at hbad
    simp only [Bool.not_true, Bool.false_or, Bool.or_eq_false_iff, decide_eq_false_iff_not] at hbad
    omega
  obtain ⟨c1, c2, c3, c4⟩ := hc
  have ha1 : bits .and .u64 bt 1 = 1 := by rw [and1 bt hbt, c3]
  have TK := Lib.hid (o_ptaken h hR r hr true htk)
  have k1 : IntKind.u64.wrap pg = pg := wrapU pg (by omega) (by omega)
  have k2 : IntKind.u64.wrap (pg * 256) = pg * 256 := wrapU (pg * 256) (by omega) (by omega)
  have haA : u64 (pg * 256) := ⟨by omega, by omega⟩
  have HR := Lib.hid hR
  have HA := Lib.hid haA
  have HRB : RowKit.Hid (0 ≤ r ∧ r < 18014398509481984) := Lib.hid ⟨by omega, by omega⟩
  obtain ⟨lv, elv⟩ : ∃ x, leafV L.length s r (pg * 256) = x := ⟨_, rfl⟩
  obtain ⟨lr, elr⟩ : ∃ x, leafR L.length s r (pg * 256) = x := ⟨_, rfl⟩
  have LF : RowKit.Hid (∀ w, Own w0 w (Star (plA pb b first L s) R) → _) := Lib.hid (fun w h => o_pleaf (w0 := w0) (w := w) h hR r (pg * 256) lv lr haA hr elv elr)
  have hw := ent_word s (leafV L.length s r (pg * 256))
  rw [hE] at hw
  rw [elv] at hE
  have eE : loadV s lv 8 = E := hE
  have hin := leaf_in (r := r) (a := pg * 256) hlen.1 e0
  rw [elv] at hin
  have LD : RowKit.Hid (∀ w, Own w0 w (Star (plA pb b first L s) R) → Calls Tryz.prog 45 #[.pointer (some ⟨b, 0, none⟩), .int .u64 lv, .int .i64 8] w fun e w' => e = .returned (.tuple #[.int .u64 E, .int .i64 0]) ∧ Own w0 w' (Star (plA pb b first L s) R)) := Lib.hid (fun w h => o_pload h hR lv 8 E 0 ⟨by omega, by omega⟩ eE (by unfold loadR inB; rw [if_pos (show sizedB 8 = true from rfl), if_pos (decide_eq_true (by omega))]))
  have ha2 : bits .and .u64 E 1 = 1 := (W.and_mask E 1 (by decide) hw).trans hq
  rw [e0] at elr; subst elr
  clear h hR hr hpg hbt hbt0 hbad e0 hE hq htk hrb hlen haA elv hin eE hw c3
  go_enter Tryz.func21, Tryz.ntmps21
  go_wp2_with
    (first
      | (go_at_call 32; refine TK.out.mono ?_; rintro e w2 ⟨rfl, h2⟩; have H2 := Lib.hid h2; clear h2)
      | (go_at_call 42; refine (o_pmem (by first | exact H4.out | exact H3.out | exact H2.out)).mono ?_; rintro e wm ⟨rfl, rfl⟩)
      | (go_at_call 51; refine (LF.out _ H2.out).mono ?_; rintro e w3 ⟨rfl, h3⟩; have H3 := Lib.hid h3; clear h3)
      | (go_at_call 45; refine (LD.out _ H3.out).mono ?_; rintro e w4 ⟨rfl, h4⟩; have H4 := Lib.hid h4; clear h4)
      | (go_at_call 52; refine (MS.out _ H3.out).mono ?_; rintro e w4 ⟨rfl, h4⟩; have H4 := Lib.hid h4; clear h4)
      | (go_at_call 9; refine (LE.out _ H4.out).mono ?_; rintro e wl ⟨rfl, rfl⟩))
  go_ret
  exact ⟨rfl, H4.out⟩
set_option maxHeartbeats 1600000 in
theorem o_map_fullA (h : Own w0 w (Star (plA pb b first L s) R)) (hR : Stable R) (r pg bt : Int) (hr : i64 r) (hpg : i64 pg) (hbt : u64 bt) (hbad : mapBad first ⟨L, s⟩ r pg bt = false) (e0 : leafR L.length s r (pg * 256) = 0) (E : Int) (hE : entS s (leafV L.length s r (pg * 256)) = E) (hq : E % 2 = 0) (lf : Int) (hlf : leftX first ⟨L, s⟩ = lf) (hc : lf ≤ 0) :
    Calls Tryz.prog 21 #[.pointer (some ⟨pb, 0, none⟩), .int .i64 r, .int .i64 pg, .int .u64 bt] w fun e w' => e = .returned (.int .i64 4) ∧ Own w0 w' (Star (plA pb b first L s) R) := by
  have hbt0 := hbt
  have htk : tknB L first r = true := by
    unfold mapBad at hbad; cases q : tknB L first r
    · rw [show (⟨L, s⟩ : Sp).L = L from rfl, q] at hbad; cases hbad
    · rfl
  have hrb := tkn_bd htk
  have hlen := o_plen h
  have hc : ¬ pg < 0 ∧ ¬ 32768 ≤ pg ∧ bt % 2 = 1 ∧ ¬ 31 < bt := by
    unfold mapBad at hbad
    rw [show (⟨L, s⟩ : Sp).L = L from rfl, htk] at hbad
    simp only [Bool.not_true, Bool.false_or, Bool.or_eq_false_iff, decide_eq_false_iff_not] at hbad
    omega
  obtain ⟨c1, c2, c3, c4⟩ := hc
  have ha1 : bits .and .u64 bt 1 = 1 := by rw [and1 bt hbt, c3]
  have TK := Lib.hid (o_ptaken h hR r hr true htk)
  have k1 : IntKind.u64.wrap pg = pg := wrapU pg (by omega) (by omega)
  have k2 : IntKind.u64.wrap (pg * 256) = pg * 256 := wrapU (pg * 256) (by omega) (by omega)
  have haA : u64 (pg * 256) := ⟨by omega, by omega⟩
  have HR := Lib.hid hR
  have HA := Lib.hid haA
  have HRB : RowKit.Hid (0 ≤ r ∧ r < 18014398509481984) := Lib.hid ⟨by omega, by omega⟩
  obtain ⟨lv, elv⟩ : ∃ x, leafV L.length s r (pg * 256) = x := ⟨_, rfl⟩
  obtain ⟨lr, elr⟩ : ∃ x, leafR L.length s r (pg * 256) = x := ⟨_, rfl⟩
  have LF : RowKit.Hid (∀ w, Own w0 w (Star (plA pb b first L s) R) → _) := Lib.hid (fun w h => o_pleaf (w0 := w0) (w := w) h hR r (pg * 256) lv lr haA hr elv elr)
  have hw := ent_word s (leafV L.length s r (pg * 256))
  rw [hE] at hw
  rw [elv] at hE
  have eE : loadV s lv 8 = E := hE
  have hin := leaf_in (r := r) (a := pg * 256) hlen.1 e0
  rw [elv] at hin
  have LD : RowKit.Hid (∀ w, Own w0 w (Star (plA pb b first L s) R) → Calls Tryz.prog 45 #[.pointer (some ⟨b, 0, none⟩), .int .u64 lv, .int .i64 8] w fun e w' => e = .returned (.tuple #[.int .u64 E, .int .i64 0]) ∧ Own w0 w' (Star (plA pb b first L s) R)) := Lib.hid (fun w h => o_pload h hR lv 8 E 0 ⟨by omega, by omega⟩ eE (by unfold loadR inB; rw [if_pos (show sizedB 8 = true from rfl), if_pos (decide_eq_true (by omega))]))
  have ha2 : bits .and .u64 E 1 = 0 := (W.and_mask E 1 (by decide) hw).trans hq
  rw [e0] at elr; subst elr
  have LE : RowKit.Hid (∀ w, Own w0 w (Star (plA pb b first L s) R) → _) := Lib.hid (fun w h => o_pleft (w0 := w0) (w := w) h lf hlf)
  clear h hR hr hpg hbt hbt0 hbad htk hrb hlen haA elv hlf c3 e0 hE hq hin eE hw
  go_enter Tryz.func21, Tryz.ntmps21
  go_wp2_with
    (first
      | (go_at_call 32; refine TK.out.mono ?_; rintro e w2 ⟨rfl, h2⟩; have H2 := Lib.hid h2; clear h2)
      | (go_at_call 42; refine (o_pmem (by first | exact H4.out | exact H3.out | exact H2.out)).mono ?_; rintro e wm ⟨rfl, rfl⟩)
      | (go_at_call 51; refine (LF.out _ H2.out).mono ?_; rintro e w3 ⟨rfl, h3⟩; have H3 := Lib.hid h3; clear h3)
      | (go_at_call 45; refine (LD.out _ H3.out).mono ?_; rintro e w4 ⟨rfl, h4⟩; have H4 := Lib.hid h4; clear h4)
      | (go_at_call 52; refine (MS.out _ H3.out).mono ?_; rintro e w4 ⟨rfl, h4⟩; have H4 := Lib.hid h4; clear h4)
      | (go_at_call 9; refine (LE.out _ H4.out).mono ?_; rintro e wl ⟨rfl, rfl⟩))
  go_ret
  exact ⟨rfl, H4.out⟩
set_option maxHeartbeats 1600000 in
theorem o_map_yesA (h : Own w0 w (Star (plA pb b first L s) R)) (hR : Stable R) (r pg bt : Int) (hr : i64 r) (hpg : i64 pg) (hbt : u64 bt) (hbad : mapBad first ⟨L, s⟩ r pg bt = false) (e0 : leafR L.length s r (pg * 256) = 0) (E : Int) (hE : entS s (leafV L.length s r (pg * 256)) = E) (hq : E % 2 = 0) (lf : Int) (hlf : leftX first ⟨L, s⟩ = lf) (hc : ¬ lf ≤ 0) :
    Calls Tryz.prog 21 #[.pointer (some ⟨pb, 0, none⟩), .int .i64 r, .int .i64 pg, .int .u64 bt] w fun e w' => e = .returned (.int .i64 (loadR (takeX first (mapZ first ⟨L, s⟩ r pg)).s (placeI (mapT first ⟨L, s⟩ r pg) (pg * 256) 0) 8)) ∧ Own w0 w' (Star (plA pb b first (putX (takeX first (mapZ first ⟨L, s⟩ r pg)) (placeI (mapT first ⟨L, s⟩ r pg) (pg * 256) 0) (entryI (takeN (mapZ first ⟨L, s⟩ r pg).L first) bt)).L (putX (takeX first (mapZ first ⟨L, s⟩ r pg)) (placeI (mapT first ⟨L, s⟩ r pg) (pg * 256) 0) (entryI (takeN (mapZ first ⟨L, s⟩ r pg).L first) bt)).s) R) := by
  have hbt0 := hbt
  have htk : tknB L first r = true := by
    unfold mapBad at hbad; cases q : tknB L first r
    · rw [show (⟨L, s⟩ : Sp).L = L from rfl, q] at hbad; cases hbad
    · rfl
  have hrb := tkn_bd htk
  have hlen := o_plen h
  have hc : ¬ pg < 0 ∧ ¬ 32768 ≤ pg ∧ bt % 2 = 1 ∧ ¬ 31 < bt := by
    unfold mapBad at hbad
    rw [show (⟨L, s⟩ : Sp).L = L from rfl, htk] at hbad
    simp only [Bool.not_true, Bool.false_or, Bool.or_eq_false_iff, decide_eq_false_iff_not] at hbad
    omega
  obtain ⟨c1, c2, c3, c4⟩ := hc
  have ha1 : bits .and .u64 bt 1 = 1 := by rw [and1 bt hbt, c3]
  have TK := Lib.hid (o_ptaken h hR r hr true htk)
  have k1 : IntKind.u64.wrap pg = pg := wrapU pg (by omega) (by omega)
  have k2 : IntKind.u64.wrap (pg * 256) = pg * 256 := wrapU (pg * 256) (by omega) (by omega)
  have haA : u64 (pg * 256) := ⟨by omega, by omega⟩
  have HR := Lib.hid hR
  have HA := Lib.hid haA
  have HRB : RowKit.Hid (0 ≤ r ∧ r < 18014398509481984) := Lib.hid ⟨by omega, by omega⟩
  obtain ⟨lv, elv⟩ : ∃ x, leafV L.length s r (pg * 256) = x := ⟨_, rfl⟩
  obtain ⟨lr, elr⟩ : ∃ x, leafR L.length s r (pg * 256) = x := ⟨_, rfl⟩
  have LF : RowKit.Hid (∀ w, Own w0 w (Star (plA pb b first L s) R) → _) := Lib.hid (fun w h => o_pleaf (w0 := w0) (w := w) h hR r (pg * 256) lv lr haA hr elv elr)
  have hw := ent_word s (leafV L.length s r (pg * 256))
  rw [hE] at hw
  rw [elv] at hE
  have eE : loadV s lv 8 = E := hE
  have hin := leaf_in (r := r) (a := pg * 256) hlen.1 e0
  rw [elv] at hin
  have LD : RowKit.Hid (∀ w, Own w0 w (Star (plA pb b first L s) R) → Calls Tryz.prog 45 #[.pointer (some ⟨b, 0, none⟩), .int .u64 lv, .int .i64 8] w fun e w' => e = .returned (.tuple #[.int .u64 E, .int .i64 0]) ∧ Own w0 w' (Star (plA pb b first L s) R)) := Lib.hid (fun w h => o_pload h hR lv 8 E 0 ⟨by omega, by omega⟩ eE (by unfold loadR inB; rw [if_pos (show sizedB 8 = true from rfl), if_pos (decide_eq_true (by omega))]))
  have ha2 : bits .and .u64 E 1 = 0 := (W.and_mask E 1 (by decide) hw).trans hq
  rw [e0] at elr; subst elr
  have LE : RowKit.Hid (∀ w, Own w0 w (Star (plA pb b first L s) R) → _) := Lib.hid (fun w h => o_pleft (w0 := w0) (w := w) h lf hlf)
  have hl1 : (belowX first ⟨L, s⟩ r (pg * 256) 2).L.length = L.length := below_len first ⟨L, s⟩ r _ 2
  have hl2 : (mapZ first ⟨L, s⟩ r pg).L.length = L.length := (below_len first _ _ _ 1).trans hl1
  have bt1 := belowN_bd first ⟨L, s⟩ r (pg * 256) 2 hlen.2.2.1
  have bt0 := belowN_bd first (belowX first ⟨L, s⟩ r (pg * 256) 2) (belowN first ⟨L, s⟩ r (pg * 256) 2) (pg * 256) 1 (by rw [hl1]; exact hlen.2.2.1)
  have btk := take_bd (mapZ first ⟨L, s⟩ r pg).L first (by rw [hl2]; exact hlen.2.2.1)
  have BL1 : RowKit.Hid (∀ w, Own w0 w (Star (plA pb b first L s) R) → _) := Lib.hid (fun w h => o_below (w0 := w0) (w := w) h hR r (pg * 256) 2 _ _ HRB.out haA rfl rfl)
  have BL2 : RowKit.Hid (∀ w, Own w0 w (Star (plA pb b first (belowX first ⟨L, s⟩ r (pg * 256) 2).L (belowX first ⟨L, s⟩ r (pg * 256) 2).s) R) → Calls Tryz.prog 53 #[.pointer (some ⟨pb, 0, none⟩), .int .i64 (belowN first ⟨L, s⟩ r (pg * 256) 2), .int .u64 (pg * 256), .int .i64 1] w fun e w' => e = .returned (.int .i64 (mapT first ⟨L, s⟩ r pg)) ∧ Own w0 w' (Star (plA pb b first (mapZ first ⟨L, s⟩ r pg).L (mapZ first ⟨L, s⟩ r pg).s) R)) :=
    Lib.hid (fun w h => o_below (w0 := w0) (w := w) h hR _ (pg * 256) 1 _ _ bt1 haA rfl rfl)
  have bt0' : 0 ≤ mapT first ⟨L, s⟩ r pg ∧ mapT first ⟨L, s⟩ r pg < 18014398509481984 := bt0
  have PL : RowKit.Hid (∀ w, _) := Lib.hid (fun w => c_place (mapT first ⟨L, s⟩ r pg) (pg * 256) 0 bt0' haA w)
  have hpu := place_u64 (mapT first ⟨L, s⟩ r pg) (pg * 256) 0 bt0'
  obtain ⟨TE, eTE⟩ : ∃ x, takeE (mapZ first ⟨L, s⟩ r pg).L first = x := ⟨_, rfl⟩
  have TKE : RowKit.Hid (∀ w, Own w0 w (Star (plA pb b first (mapZ first ⟨L, s⟩ r pg).L (mapZ first ⟨L, s⟩ r pg).s) R) → _) := Lib.hid (fun w h => o_ptake (w0 := w0) (w := w) h hR _ TE _ _ rfl eTE rfl rfl)
  have CE : RowKit.Hid (∀ w, _) := Lib.hid (fun w => c_kentry (takeN (mapZ first ⟨L, s⟩ r pg).L first) bt ⟨by omega, by omega⟩ hbt w)
  have hew := entryI_word (takeN (mapZ first ⟨L, s⟩ r pg).L first) bt btk.1 hbt.1 (by omega)
  have ST : RowKit.Hid (∀ w, Own w0 w (Star (plA pb b first (takeX first (mapZ first ⟨L, s⟩ r pg)).L (takeX first (mapZ first ⟨L, s⟩ r pg)).s) R) → _) := Lib.hid (fun w h => o_pstore (w0 := w0) (w := w) h hR (placeI (mapT first ⟨L, s⟩ r pg) (pg * 256) 0) 8 _ _ hpu hew _ rfl rfl)
  clear bt1 bt0 bt0' btk hl1 hl2 hpu hew eTE
  unfold takeX at ST ⊢
  unfold putX
  dsimp only at ST ⊢
  generalize placeI (mapT first ⟨L, s⟩ r pg) (pg * 256) 0 = PP at *
  generalize entryI (takeN (mapZ first ⟨L, s⟩ r pg).L first) bt = EE at *
  generalize loadR (takeS (mapZ first ⟨L, s⟩ r pg).L first (mapZ first ⟨L, s⟩ r pg).s) PP 8 = RR at *
  generalize storeS (takeS (mapZ first ⟨L, s⟩ r pg).L first (mapZ first ⟨L, s⟩ r pg).s) PP 8 EE = S8 at *
  generalize takeS (mapZ first ⟨L, s⟩ r pg).L first (mapZ first ⟨L, s⟩ r pg).s = S7 at *
  generalize takeL (mapZ first ⟨L, s⟩ r pg).L first = L7 at *
  generalize takeN (mapZ first ⟨L, s⟩ r pg).L first = N7 at *
  generalize (mapZ first ⟨L, s⟩ r pg).s = S6 at *
  generalize (mapZ first ⟨L, s⟩ r pg).L = L6 at *
  generalize mapT first ⟨L, s⟩ r pg = T0 at *
  generalize (belowX first ⟨L, s⟩ r (pg * 256) 2).s = S5 at *
  generalize (belowX first ⟨L, s⟩ r (pg * 256) 2).L = L5 at *
  generalize belowN first ⟨L, s⟩ r (pg * 256) 2 = T1 at *
  clear h hR hr hpg hbt hbt0 hbad htk hrb hlen haA elv hlf c3 e0 hE hq hin eE hw
  go_enter Tryz.func21, Tryz.ntmps21
  go_wp2_with
    (first
      | (go_at_call 32; refine TK.out.mono ?_; rintro e w2 ⟨rfl, h2⟩; have H2 := Lib.hid h2; clear h2)
      | (go_at_call 42; refine (o_pmem (by first | exact H4.out | exact H3.out | exact H2.out)).mono ?_; rintro e wm ⟨rfl, rfl⟩)
      | (go_at_call 51; refine (LF.out _ H2.out).mono ?_; rintro e w3 ⟨rfl, h3⟩; have H3 := Lib.hid h3; clear h3)
      | (go_at_call 45; refine (LD.out _ H3.out).mono ?_; rintro e w4 ⟨rfl, h4⟩; have H4 := Lib.hid h4; clear h4)
      | (go_at_call 52; refine (MS.out _ H3.out).mono ?_; rintro e w4 ⟨rfl, h4⟩; have H4 := Lib.hid h4; clear h4)
      | (go_at_call 9; refine (LE.out _ H4.out).mono ?_; rintro e wl ⟨rfl, rfl⟩))
  refine wp_loop_rounds 3 ?_
  rw [rounds_succ]
  go_wp2_with (go_at_call 53; refine (BL1.out _ H4.out).mono ?_; rintro e w5 ⟨rfl, h5⟩; have H5 := Lib.hid h5; clear h5)
  rw [rounds_succ]
  go_wp2_with (go_at_call 53; refine (BL2.out _ H5.out).mono ?_; rintro e w6 ⟨rfl, h6⟩; have H6 := Lib.hid h6; clear h6)
  rw [rounds_succ]
  go_wp2_with (first
    | (go_at_call 50; refine (TKE.out _ H6.out).mono ?_; rintro e w7 ⟨rfl, h7⟩; have H7 := Lib.hid h7; clear h7)
    | (go_at_call 42; refine (o_pmem H7.out).mono ?_; rintro e wm ⟨rfl, rfl⟩)
    | (go_at_call 55; refine (PL.out _).mono ?_; rintro e wp ⟨rfl, rfl⟩)
    | (go_at_call 56; refine (CE.out _).mono ?_; rintro e wq ⟨rfl, rfl⟩)
    | (go_at_call 54; refine (ST.out _ H7.out).mono ?_; rintro e w8 ⟨rfl, h8⟩; have H8 := Lib.hid h8; clear h8))
  try rw [Exit.noGoto_ret]
  go_ret
  exact ⟨rfl, H8.out⟩
set_option maxHeartbeats 1600000 in
theorem o_map_fullB (h : Own w0 w (Star (plA pb b first L s) R)) (hR : Stable R) (r pg bt : Int) (hr : i64 r) (hpg : i64 pg) (hbt : u64 bt) (hbad : mapBad first ⟨L, s⟩ r pg bt = false) (lr0 : Int) (e0 : leafR L.length s r (pg * 256) = lr0) (hl0 : lr0 ≠ 0) (M : Int) (hM : missI s r (pg * 256) = M) (lf : Int) (hlf : leftX first ⟨L, s⟩ = lf) (hc : lf ≤ M) :
    Calls Tryz.prog 21 #[.pointer (some ⟨pb, 0, none⟩), .int .i64 r, .int .i64 pg, .int .u64 bt] w fun e w' => e = .returned (.int .i64 4) ∧ Own w0 w' (Star (plA pb b first L s) R) := by
  have hbt0 := hbt
  have htk : tknB L first r = true := by
    unfold mapBad at hbad; cases q : tknB L first r
    · rw [show (⟨L, s⟩ : Sp).L = L from rfl, q] at hbad; cases hbad
    · rfl
  have hrb := tkn_bd htk
  have hlen := o_plen h
  have hc : ¬ pg < 0 ∧ ¬ 32768 ≤ pg ∧ bt % 2 = 1 ∧ ¬ 31 < bt := by
    unfold mapBad at hbad
    rw [show (⟨L, s⟩ : Sp).L = L from rfl, htk] at hbad
    simp only [Bool.not_true, Bool.false_or, Bool.or_eq_false_iff, decide_eq_false_iff_not] at hbad
    omega
  obtain ⟨c1, c2, c3, c4⟩ := hc
  have ha1 : bits .and .u64 bt 1 = 1 := by rw [and1 bt hbt, c3]
  have TK := Lib.hid (o_ptaken h hR r hr true htk)
  have k1 : IntKind.u64.wrap pg = pg := wrapU pg (by omega) (by omega)
  have k2 : IntKind.u64.wrap (pg * 256) = pg * 256 := wrapU (pg * 256) (by omega) (by omega)
  have haA : u64 (pg * 256) := ⟨by omega, by omega⟩
  have HR := Lib.hid hR
  have HA := Lib.hid haA
  have HRB : RowKit.Hid (0 ≤ r ∧ r < 18014398509481984) := Lib.hid ⟨by omega, by omega⟩
  obtain ⟨lv, elv⟩ : ∃ x, leafV L.length s r (pg * 256) = x := ⟨_, rfl⟩
  obtain ⟨lr, elr⟩ : ∃ x, leafR L.length s r (pg * 256) = x := ⟨_, rfl⟩
  have LF : RowKit.Hid (∀ w, Own w0 w (Star (plA pb b first L s) R) → _) := Lib.hid (fun w h => o_pleaf (w0 := w0) (w := w) h hR r (pg * 256) lv lr haA hr elv elr)
  have hlr : (lr == 0) = false := by rw [← elr, e0]; simpa using hl0
  have MS : RowKit.Hid (∀ w, Own w0 w (Star (plA pb b first L s) R) → _) := Lib.hid (fun w h => o_missing (w0 := w0) (w := w) h hR r (pg * 256) M HRB.out haA hM)
  have LE : RowKit.Hid (∀ w, Own w0 w (Star (plA pb b first L s) R) → _) := Lib.hid (fun w h => o_pleft (w0 := w0) (w := w) h lf hlf)
  clear h hR hr hpg hbt hbt0 hbad htk hrb hlen haA elv hlf c3 e0 hl0 hM elr
  go_enter Tryz.func21, Tryz.ntmps21
  go_wp2_with
    (first
      | (go_at_call 32; refine TK.out.mono ?_; rintro e w2 ⟨rfl, h2⟩; have H2 := Lib.hid h2; clear h2)
      | (go_at_call 42; refine (o_pmem (by first | exact H4.out | exact H3.out | exact H2.out)).mono ?_; rintro e wm ⟨rfl, rfl⟩)
      | (go_at_call 51; refine (LF.out _ H2.out).mono ?_; rintro e w3 ⟨rfl, h3⟩; have H3 := Lib.hid h3; clear h3)
      | (go_at_call 45; refine (LD.out _ H3.out).mono ?_; rintro e w4 ⟨rfl, h4⟩; have H4 := Lib.hid h4; clear h4)
      | (go_at_call 52; refine (MS.out _ H3.out).mono ?_; rintro e w4 ⟨rfl, h4⟩; have H4 := Lib.hid h4; clear h4)
      | (go_at_call 9; refine (LE.out _ H4.out).mono ?_; rintro e wl ⟨rfl, rfl⟩))
  go_ret
  exact ⟨rfl, H4.out⟩
set_option maxHeartbeats 1600000 in
theorem o_map_yesB (h : Own w0 w (Star (plA pb b first L s) R)) (hR : Stable R) (r pg bt : Int) (hr : i64 r) (hpg : i64 pg) (hbt : u64 bt) (hbad : mapBad first ⟨L, s⟩ r pg bt = false) (lr0 : Int) (e0 : leafR L.length s r (pg * 256) = lr0) (hl0 : lr0 ≠ 0) (M : Int) (hM : missI s r (pg * 256) = M) (lf : Int) (hlf : leftX first ⟨L, s⟩ = lf) (hc : ¬ lf ≤ M) :
    Calls Tryz.prog 21 #[.pointer (some ⟨pb, 0, none⟩), .int .i64 r, .int .i64 pg, .int .u64 bt] w fun e w' => e = .returned (.int .i64 (loadR (takeX first (mapZ first ⟨L, s⟩ r pg)).s (placeI (mapT first ⟨L, s⟩ r pg) (pg * 256) 0) 8)) ∧ Own w0 w' (Star (plA pb b first (putX (takeX first (mapZ first ⟨L, s⟩ r pg)) (placeI (mapT first ⟨L, s⟩ r pg) (pg * 256) 0) (entryI (takeN (mapZ first ⟨L, s⟩ r pg).L first) bt)).L (putX (takeX first (mapZ first ⟨L, s⟩ r pg)) (placeI (mapT first ⟨L, s⟩ r pg) (pg * 256) 0) (entryI (takeN (mapZ first ⟨L, s⟩ r pg).L first) bt)).s) R) := by
  have hbt0 := hbt
  have htk : tknB L first r = true := by
    unfold mapBad at hbad; cases q : tknB L first r
    · rw [show (⟨L, s⟩ : Sp).L = L from rfl, q] at hbad; cases hbad
    · rfl
  have hrb := tkn_bd htk
  have hlen := o_plen h
  have hc : ¬ pg < 0 ∧ ¬ 32768 ≤ pg ∧ bt % 2 = 1 ∧ ¬ 31 < bt := by
    unfold mapBad at hbad
    rw [show (⟨L, s⟩ : Sp).L = L from rfl, htk] at hbad
    simp only [Bool.not_true, Bool.false_or, Bool.or_eq_false_iff, decide_eq_false_iff_not] at hbad
    omega
  obtain ⟨c1, c2, c3, c4⟩ := hc
  have ha1 : bits .and .u64 bt 1 = 1 := by rw [and1 bt hbt, c3]
  have TK := Lib.hid (o_ptaken h hR r hr true htk)
  have k1 : IntKind.u64.wrap pg = pg := wrapU pg (by omega) (by omega)
  have k2 : IntKind.u64.wrap (pg * 256) = pg * 256 := wrapU (pg * 256) (by omega) (by omega)
  have haA : u64 (pg * 256) := ⟨by omega, by omega⟩
  have HR := Lib.hid hR
  have HA := Lib.hid haA
  have HRB : RowKit.Hid (0 ≤ r ∧ r < 18014398509481984) := Lib.hid ⟨by omega, by omega⟩
  obtain ⟨lv, elv⟩ : ∃ x, leafV L.length s r (pg * 256) = x := ⟨_, rfl⟩
  obtain ⟨lr, elr⟩ : ∃ x, leafR L.length s r (pg * 256) = x := ⟨_, rfl⟩
  have LF : RowKit.Hid (∀ w, Own w0 w (Star (plA pb b first L s) R) → _) := Lib.hid (fun w h => o_pleaf (w0 := w0) (w := w) h hR r (pg * 256) lv lr haA hr elv elr)
  have hlr : (lr == 0) = false := by rw [← elr, e0]; simpa using hl0
  have MS : RowKit.Hid (∀ w, Own w0 w (Star (plA pb b first L s) R) → _) := Lib.hid (fun w h => o_missing (w0 := w0) (w := w) h hR r (pg * 256) M HRB.out haA hM)
  have LE : RowKit.Hid (∀ w, Own w0 w (Star (plA pb b first L s) R) → _) := Lib.hid (fun w h => o_pleft (w0 := w0) (w := w) h lf hlf)
  have hl1 : (belowX first ⟨L, s⟩ r (pg * 256) 2).L.length = L.length := below_len first ⟨L, s⟩ r _ 2
  have hl2 : (mapZ first ⟨L, s⟩ r pg).L.length = L.length := (below_len first _ _ _ 1).trans hl1
  have bt1 := belowN_bd first ⟨L, s⟩ r (pg * 256) 2 hlen.2.2.1
  have bt0 := belowN_bd first (belowX first ⟨L, s⟩ r (pg * 256) 2) (belowN first ⟨L, s⟩ r (pg * 256) 2) (pg * 256) 1 (by rw [hl1]; exact hlen.2.2.1)
  have btk := take_bd (mapZ first ⟨L, s⟩ r pg).L first (by rw [hl2]; exact hlen.2.2.1)
  have BL1 : RowKit.Hid (∀ w, Own w0 w (Star (plA pb b first L s) R) → _) := Lib.hid (fun w h => o_below (w0 := w0) (w := w) h hR r (pg * 256) 2 _ _ HRB.out haA rfl rfl)
  have BL2 : RowKit.Hid (∀ w, Own w0 w (Star (plA pb b first (belowX first ⟨L, s⟩ r (pg * 256) 2).L (belowX first ⟨L, s⟩ r (pg * 256) 2).s) R) → Calls Tryz.prog 53 #[.pointer (some ⟨pb, 0, none⟩), .int .i64 (belowN first ⟨L, s⟩ r (pg * 256) 2), .int .u64 (pg * 256), .int .i64 1] w fun e w' => e = .returned (.int .i64 (mapT first ⟨L, s⟩ r pg)) ∧ Own w0 w' (Star (plA pb b first (mapZ first ⟨L, s⟩ r pg).L (mapZ first ⟨L, s⟩ r pg).s) R)) :=
    Lib.hid (fun w h => o_below (w0 := w0) (w := w) h hR _ (pg * 256) 1 _ _ bt1 haA rfl rfl)
  have bt0' : 0 ≤ mapT first ⟨L, s⟩ r pg ∧ mapT first ⟨L, s⟩ r pg < 18014398509481984 := bt0
  have PL : RowKit.Hid (∀ w, _) := Lib.hid (fun w => c_place (mapT first ⟨L, s⟩ r pg) (pg * 256) 0 bt0' haA w)
  have hpu := place_u64 (mapT first ⟨L, s⟩ r pg) (pg * 256) 0 bt0'
  obtain ⟨TE, eTE⟩ : ∃ x, takeE (mapZ first ⟨L, s⟩ r pg).L first = x := ⟨_, rfl⟩
  have TKE : RowKit.Hid (∀ w, Own w0 w (Star (plA pb b first (mapZ first ⟨L, s⟩ r pg).L (mapZ first ⟨L, s⟩ r pg).s) R) → _) := Lib.hid (fun w h => o_ptake (w0 := w0) (w := w) h hR _ TE _ _ rfl eTE rfl rfl)
  have CE : RowKit.Hid (∀ w, _) := Lib.hid (fun w => c_kentry (takeN (mapZ first ⟨L, s⟩ r pg).L first) bt ⟨by omega, by omega⟩ hbt w)
  have hew := entryI_word (takeN (mapZ first ⟨L, s⟩ r pg).L first) bt btk.1 hbt.1 (by omega)
  have ST : RowKit.Hid (∀ w, Own w0 w (Star (plA pb b first (takeX first (mapZ first ⟨L, s⟩ r pg)).L (takeX first (mapZ first ⟨L, s⟩ r pg)).s) R) → _) := Lib.hid (fun w h => o_pstore (w0 := w0) (w := w) h hR (placeI (mapT first ⟨L, s⟩ r pg) (pg * 256) 0) 8 _ _ hpu hew _ rfl rfl)
  clear bt1 bt0 bt0' btk hl1 hl2 hpu hew eTE
  unfold takeX at ST ⊢
  unfold putX
  dsimp only at ST ⊢
  generalize placeI (mapT first ⟨L, s⟩ r pg) (pg * 256) 0 = PP at *
  generalize entryI (takeN (mapZ first ⟨L, s⟩ r pg).L first) bt = EE at *
  generalize loadR (takeS (mapZ first ⟨L, s⟩ r pg).L first (mapZ first ⟨L, s⟩ r pg).s) PP 8 = RR at *
  generalize storeS (takeS (mapZ first ⟨L, s⟩ r pg).L first (mapZ first ⟨L, s⟩ r pg).s) PP 8 EE = S8 at *
  generalize takeS (mapZ first ⟨L, s⟩ r pg).L first (mapZ first ⟨L, s⟩ r pg).s = S7 at *
  generalize takeL (mapZ first ⟨L, s⟩ r pg).L first = L7 at *
  generalize takeN (mapZ first ⟨L, s⟩ r pg).L first = N7 at *
  generalize (mapZ first ⟨L, s⟩ r pg).s = S6 at *
  generalize (mapZ first ⟨L, s⟩ r pg).L = L6 at *
  generalize mapT first ⟨L, s⟩ r pg = T0 at *
  generalize (belowX first ⟨L, s⟩ r (pg * 256) 2).s = S5 at *
  generalize (belowX first ⟨L, s⟩ r (pg * 256) 2).L = L5 at *
  generalize belowN first ⟨L, s⟩ r (pg * 256) 2 = T1 at *
  clear h hR hr hpg hbt hbt0 hbad htk hrb hlen haA elv hlf c3 e0 hl0 hM elr
  go_enter Tryz.func21, Tryz.ntmps21
  go_wp2_with
    (first
      | (go_at_call 32; refine TK.out.mono ?_; rintro e w2 ⟨rfl, h2⟩; have H2 := Lib.hid h2; clear h2)
      | (go_at_call 42; refine (o_pmem (by first | exact H4.out | exact H3.out | exact H2.out)).mono ?_; rintro e wm ⟨rfl, rfl⟩)
      | (go_at_call 51; refine (LF.out _ H2.out).mono ?_; rintro e w3 ⟨rfl, h3⟩; have H3 := Lib.hid h3; clear h3)
      | (go_at_call 45; refine (LD.out _ H3.out).mono ?_; rintro e w4 ⟨rfl, h4⟩; have H4 := Lib.hid h4; clear h4)
      | (go_at_call 52; refine (MS.out _ H3.out).mono ?_; rintro e w4 ⟨rfl, h4⟩; have H4 := Lib.hid h4; clear h4)
      | (go_at_call 9; refine (LE.out _ H4.out).mono ?_; rintro e wl ⟨rfl, rfl⟩))
  refine wp_loop_rounds 3 ?_
  rw [rounds_succ]
  go_wp2_with (go_at_call 53; refine (BL1.out _ H4.out).mono ?_; rintro e w5 ⟨rfl, h5⟩; have H5 := Lib.hid h5; clear h5)
  rw [rounds_succ]
  go_wp2_with (go_at_call 53; refine (BL2.out _ H5.out).mono ?_; rintro e w6 ⟨rfl, h6⟩; have H6 := Lib.hid h6; clear h6)
  rw [rounds_succ]
  go_wp2_with (first
    | (go_at_call 50; refine (TKE.out _ H6.out).mono ?_; rintro e w7 ⟨rfl, h7⟩; have H7 := Lib.hid h7; clear h7)
    | (go_at_call 42; refine (o_pmem H7.out).mono ?_; rintro e wm ⟨rfl, rfl⟩)
    | (go_at_call 55; refine (PL.out _).mono ?_; rintro e wp ⟨rfl, rfl⟩)
    | (go_at_call 56; refine (CE.out _).mono ?_; rintro e wq ⟨rfl, rfl⟩)
    | (go_at_call 54; refine (ST.out _ H7.out).mono ?_; rintro e w8 ⟨rfl, h8⟩; have H8 := Lib.hid h8; clear h8))
  try rw [Exit.noGoto_ret]
  go_ret
  exact ⟨rfl, H8.out⟩
theorem o_map (h : Own w0 w (Star (plA pb b first L s) R)) (hR : Stable R) (r pg bt : Int) (hr : i64 r) (hpg : i64 pg) (hbt : u64 bt) (e : Int) (z : Sp) (he : mapE first ⟨L, s⟩ r pg bt = e) (hz : mapX first ⟨L, s⟩ r pg bt = z) :
    Calls Tryz.prog 21 #[.pointer (some ⟨pb, 0, none⟩), .int .i64 r, .int .i64 pg, .int .u64 bt] w fun x w' => x = .returned (.int .i64 e) ∧ Own w0 w' (Star (plA pb b first z.L z.s) R) := by
  subst he; subst hz
  unfold mapE mapX
  cases hbad : mapBad first ⟨L, s⟩ r pg bt with
  | true => exact o_map_bad h hR r pg bt hr hpg hbt hbad
  | false =>
    simp only [cond_false]
    unfold mapThere mapMiss
    show Calls _ _ _ _ (fun x w' => _)
    obtain ⟨lr, elr⟩ : ∃ x, leafR L.length s r (pg * 256) = x := ⟨_, rfl⟩
    simp only [show (⟨L, s⟩ : Sp).L = L from rfl, show (⟨L, s⟩ : Sp).s = s from rfl]
    by_cases h0 : lr = 0
    · subst h0
      rw [elr, decide_eq_true rfl, Bool.true_and]
      by_cases hq : entS s (leafV L.length s r (pg * 256)) % 2 = 1
      · rw [decide_eq_true hq]
        exact o_map_there h hR r pg bt hr hpg hbt hbad elr _ rfl hq
      · rw [decide_eq_false hq]
        simp only [cond_false, cond_true]
        by_cases hc : leftX first ⟨L, s⟩ ≤ 0
        · rw [decide_eq_true hc]
          exact o_map_fullA h hR r pg bt hr hpg hbt hbad elr _ rfl (by omega) _ rfl hc
        · rw [decide_eq_false hc]
          exact o_map_yesA h hR r pg bt hr hpg hbt hbad elr _ rfl (by omega) _ rfl hc
    · rw [elr, decide_eq_false h0, Bool.false_and]
      simp only [cond_false]
      by_cases hc : leftX first ⟨L, s⟩ ≤ missI s r (pg * 256)
      · rw [decide_eq_true hc]
        exact o_map_fullB h hR r pg bt hr hpg hbt hbad _ elr h0 _ rfl _ rfl hc
      · rw [decide_eq_false hc]
        exact o_map_yesB h hR r pg bt hr hpg hbt hbad _ elr h0 _ rfl _ rfl hc
end Go.Proofs.YtbcnibnkojnpiaaGreat.P
