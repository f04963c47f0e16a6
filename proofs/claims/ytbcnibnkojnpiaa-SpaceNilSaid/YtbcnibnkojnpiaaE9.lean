/- Stage 11: entries and tables in the program. No condition. -/
import Derived.Test.YtbcnibnkojnpiaaE3
import Derived.OwnWalk
set_option linter.unusedVariables false
set_option linter.unusedSimpArgs false
set_option maxRecDepth 100000
namespace Go.Proofs.Ytbcnibnkojnpiaa.P
open Go.RowKit Go.MuLone Go.Maps
theorem wrapU (x : Int) (h0 : 0 ≤ x) (h1 : x < 18446744073709551616) : IntKind.u64.wrap x = x := by rw [IntKind.wrap_u64]; omega
theorem wrapI (x : Int) (h0 : -9223372036854775808 ≤ x) (h1 : x < 9223372036854775808) : IntKind.i64.wrap x = x := by rw [IntKind.wrap_i64]; omega
theorem c_place (t a l : Int) (ht : 0 ≤ t ∧ t < 18014398509481984) (ha : u64 a) (w : World) : Calls Try.prog 30 #[.int .i64 t, .int .u64 a, .int .i64 l] w fun e w' => e = .returned (.int .u64 (placeI t a l)) ∧ w' = w := by
  have hp := part_bd a l
  have C : ∀ w : World, Calls Try.prog 55 #[.int .u64 a, .int .i64 l] w fun e w' => e = .returned (.int .i64 (partI a l)) ∧ w' = w := fun w => c_kpart a l ha w
  unfold placeI
  generalize partI a l = q at *
  have k1 := wrapU t ht.1 (by omega)
  have k2 := wrapU (t * 256) (by omega) (by omega)
  have k3 := wrapU q (by omega) (by omega)
  have k4 := wrapU (q * 8) (by omega) (by omega)
  have k5 := wrapU (t * 256 + q * 8) (by omega) (by omega)
  clear hp
  go_enter Try.func30, Try.ntmps30
  go_wp2_with (go_at_call 55; refine (C _).mono ?_; rintro e w' ⟨rfl, rfl⟩)
  go_ret
  exact ⟨rfl, rfl⟩
theorem place_u64 (t a l : Int) (ht : 0 ≤ t ∧ t < 18014398509481984) : u64 (placeI t a l) := by
  have hp := part_bd a l
  unfold placeI u64; omega
theorem valid_bd (s : List UInt8) (p : Int) : 0 ≤ validF s p ∧ validF s p < 18014398509481984 ∧ 0 ≤ validG s p ∧ validG s p < 32 := by
  have := ent_word s p
  have h1 := this.1
  have h2 := this.2
  unfold validF validG
  cases validB s p
  · rw [cond_false, cond_false]; omega
  · rw [cond_true, cond_true]; omega
variable {w0 w : World} {pb b first : Nat} {L : List Bool} {s : List UInt8} {R : Asn}
theorem o_valid (h : Own w0 w (Star (plA pb b first L s) R)) (hR : Stable R) (p : Int) (hp : u64 p) (f g : Int) (v : Bool) (hf : validF s p = f) (hg : validG s p = g) (hv : validB s p = v) :
    Calls Try.prog 36 #[.pointer (some ⟨pb, 0, none⟩), .int .u64 p] w fun e w' => e = .returned (.tuple #[.int .i64 f, .int .u64 g, .bool v]) ∧ Own w0 w' (Star (plA pb b first L s) R) := by
  subst hf; subst hg; subst hv
  have H := Lib.hid h
  have HR := Lib.hid hR
  have HP := Lib.hid hp
  have hb0 := hp.1
  by_cases hin : p + 8 ≤ s.length
  · have eR : loadR s p 8 = 0 := by unfold loadR inB; rw [if_pos (show sizedB 8 = true from rfl), if_pos (decide_eq_true hin)]
    have hE := ent_word s p
    have hdi : decide (p + 8 ≤ (s.length : Int)) = true := decide_eq_true hin
    obtain ⟨E, eE⟩ : ∃ E, loadV s p 8 = E := ⟨_, rfl⟩
    have eE2 : entS s p = E := eE
    rw [eE2] at hE
    have C := Lib.hid (o_pload h hR p 8 E 0 hp eE eR)
    have ha1 : bits .and .u64 E 1 = E % 2 := W.and_mask E 1 (by decide) hE
    have ha5 : bits .and .u64 E 31 = E % 32 := W.and_mask E 5 (by decide) hE
    by_cases q : E % 2 = 1
    · have hvb : validB s p = true := by unfold validB; rw [hdi, eE2, decide_eq_true q]; rfl
      have hvf : validF s p = E / 1024 := by unfold validF; rw [hvb, eE2]; rfl
      have hvg : validG s p = E % 32 := by unfold validG; rw [hvb, eE2]; rfl
      rw [hvf, hvg, hvb]
      obtain ⟨F, hF⟩ : ∃ F, E / 1024 = F := ⟨_, rfl⟩
      have CF : ∀ w : World, Calls Try.prog 57 #[.int .u64 E] w fun e w' => e = .returned (.int .u64 F) ∧ w' = w := fun w => by rw [← hF]; exact c_kframe E ⟨hE.1, by have := hE.2; omega⟩ w
      have k1 : IntKind.i64.wrap F = F := wrapI F (by have := hE.1; omega) (by have := hE.2; omega)
      rw [q] at ha1
      obtain ⟨G, hG⟩ : ∃ G, E % 32 = G := ⟨_, rfl⟩
      rw [hG] at ha5 ⊢
      rw [hF]
      clear h hR hp hin eR eE eE2 hdi hvb hvf hvg hE q hF hG hb0
      go_enter Try.func36, Try.ntmps36
      go_wp2_with (first
        | (go_at_call 25; refine (o_pmem H.out).mono ?_; rintro e w' ⟨rfl, rfl⟩)
        | (go_at_call 26; refine C.out.mono ?_; rintro e w2 ⟨rfl, h2⟩; have H2 := Lib.hid h2; clear h2)
        | (go_at_call 57; refine (CF _).mono ?_; rintro e w3 ⟨rfl, rfl⟩))
      go_ret3
      exact ⟨rfl, H2.out⟩
    · have hvb : validB s p = false := by unfold validB; rw [eE2, decide_eq_false q, Bool.and_false]
      have hvf : validF s p = 0 := by unfold validF; rw [hvb]; rfl
      have hvg : validG s p = 0 := by unfold validG; rw [hvb]; rfl
      rw [hvf, hvg, hvb]
      rw [show E % 2 = 0 by omega] at ha1
      clear h hR hp hin eR eE eE2 hdi hvb hvf hvg hE q hb0 ha5
      go_enter Try.func36, Try.ntmps36
      go_wp2_with (first
        | (go_at_call 25; refine (o_pmem H.out).mono ?_; rintro e w' ⟨rfl, rfl⟩)
        | (go_at_call 26; refine C.out.mono ?_; rintro e w2 ⟨rfl, h2⟩; have H2 := Lib.hid h2; clear h2))
      go_ret3
      exact ⟨rfl, H2.out⟩
  · have hvb : validB s p = false := by unfold validB; rw [decide_eq_false hin]; rfl
    have hvf : validF s p = 0 := by unfold validF; rw [hvb]; rfl
    have hvg : validG s p = 0 := by unfold validG; rw [hvb]; rfl
    have eR : loadR s p 8 = 3 := by unfold loadR inB; rw [if_pos (show sizedB 8 = true from rfl), if_neg (fun q => hin (of_decide_eq_true q))]
    rw [hvf, hvg, hvb]
    obtain ⟨E, eE⟩ : ∃ E, loadV s p 8 = E := ⟨_, rfl⟩
    have C := Lib.hid (o_pload h hR p 8 E 3 hp eE eR)
    clear h hR hp hin eR eE hvb hvf hvg hb0
    go_enter Try.func36, Try.ntmps36
    go_wp2_with (first
      | (go_at_call 25; refine (o_pmem H.out).mono ?_; rintro e w' ⟨rfl, rfl⟩)
      | (go_at_call 26; refine C.out.mono ?_; rintro e w2 ⟨rfl, h2⟩; have H2 := Lib.hid h2; clear h2))
    go_ret3
    exact ⟨rfl, H2.out⟩
theorem o_missing (h : Own w0 w (Star (plA pb b first L s) R)) (hR : Stable R) (r a m : Int) (hr : 0 ≤ r ∧ r < 18014398509481984) (ha : u64 a) (hm : missI s r a = m) :
    Calls Try.prog 27 #[.pointer (some ⟨pb, 0, none⟩), .int .i64 r, .int .u64 a] w fun e w' => e = .returned (.int .i64 m) ∧ Own w0 w' (Star (plA pb b first L s) R) := by
  subst hm
  have H := Lib.hid h
  have C2 : ∀ w : World, Calls Try.prog 30 #[.int .i64 r, .int .u64 a, .int .i64 2] w fun e w' => e = .returned (.int .u64 (placeI r a 2)) ∧ w' = w := fun w => c_place r a 2 hr ha w
  have p2 := place_u64 r a 2 hr
  unfold missI
  generalize placeI r a 2 = P2 at *
  obtain ⟨f2, hf2⟩ : ∃ f, validF s P2 = f := ⟨_, rfl⟩
  obtain ⟨g2, hg2⟩ : ∃ f, validG s P2 = f := ⟨_, rfl⟩
  have b2 := valid_bd s P2
  rw [hf2] at b2 ⊢
  have C1 : ∀ w : World, Calls Try.prog 30 #[.int .i64 f2, .int .u64 a, .int .i64 1] w fun e w' => e = .returned (.int .u64 (placeI f2 a 1)) ∧ w' = w := fun w => c_place f2 a 1 ⟨b2.1, b2.2.1⟩ ha w
  have p1 := place_u64 f2 a 1 ⟨b2.1, b2.2.1⟩
  generalize placeI f2 a 1 = P1 at *
  obtain ⟨f1, hf1⟩ : ∃ f, validF s P1 = f := ⟨_, rfl⟩
  obtain ⟨g1, hg1⟩ : ∃ f, validG s P1 = f := ⟨_, rfl⟩
  have V2 : RowKit.Hid (∀ v, validB s P2 = v → ∀ w, Own w0 w (Star (plA pb b first L s) R) → Calls Try.prog 36 #[.pointer (some ⟨pb, 0, none⟩), .int .u64 P2] w fun e w' => e = .returned (.tuple #[.int .i64 f2, .int .u64 g2, .bool v]) ∧ Own w0 w' (Star (plA pb b first L s) R)) := Lib.hid (fun v hv w h => o_valid h hR P2 p2 f2 g2 v hf2 hg2 hv)
  have V1 : RowKit.Hid (∀ v, validB s P1 = v → ∀ w, Own w0 w (Star (plA pb b first L s) R) → Calls Try.prog 36 #[.pointer (some ⟨pb, 0, none⟩), .int .u64 P1] w fun e w' => e = .returned (.tuple #[.int .i64 f1, .int .u64 g1, .bool v]) ∧ Own w0 w' (Star (plA pb b first L s) R)) := Lib.hid (fun v hv w h => o_valid h hR P1 p1 f1 g1 v hf1 hg1 hv)
  clear h hR hr ha p2 p1 b2 hf2 hg2 hf1 hg1
  have H2 := Lib.hid H.out
  cases hv2 : validB s P2 with
  | false =>
    rw [cond_false]
    have W2 := Lib.hid (V2.out false hv2)
    clear V2 V1 hv2
    go_enter Try.func27, Try.ntmps27
    go_wp2_with fail
    refine wp_loop_rounds 3 ?_
    rw [rounds_succ]
    go_wp2_with (first
      | (go_at_call 30; refine (C2 _).mono ?_; rintro e w' ⟨rfl, rfl⟩)
      | (go_at_call 36; refine (W2.out _ H2.out).mono ?_; rintro e w3 ⟨rfl, h3⟩; have H3 := Lib.hid h3; clear h3))
    try rw [Exit.noGoto_ret]
    go_ret
    exact ⟨rfl, H3.out⟩
  | true =>
    rw [cond_true]
    have W2 := Lib.hid (V2.out true hv2)
    clear V2 hv2
    cases hv1 : validB s P1 with
    | false =>
      rw [cond_false]
      have W1 := Lib.hid (V1.out false hv1)
      clear V1 hv1
      go_enter Try.func27, Try.ntmps27
      go_wp2_with fail
      refine wp_loop_rounds 3 ?_
      rw [rounds_succ]
      go_wp2_with (first
        | (go_at_call 30; refine (C2 _).mono ?_; rintro e w' ⟨rfl, rfl⟩)
        | (go_at_call 36; refine (W2.out _ H2.out).mono ?_; rintro e w3 ⟨rfl, h3⟩; have H3 := Lib.hid h3; clear h3))
      rw [rounds_succ]
      go_wp2_with (first
        | (go_at_call 30; refine (C1 _).mono ?_; rintro e w' ⟨rfl, rfl⟩)
        | (go_at_call 36; refine (W1.out _ H3.out).mono ?_; rintro e w4 ⟨rfl, h4⟩; have H4 := Lib.hid h4; clear h4))
      try rw [Exit.noGoto_ret]
      go_ret
      exact ⟨rfl, H4.out⟩
    | true =>
      rw [cond_true]
      have W1 := Lib.hid (V1.out true hv1)
      clear V1 hv1
      go_enter Try.func27, Try.ntmps27
      go_wp2_with fail
      refine wp_loop_rounds 3 ?_
      rw [rounds_succ]
      go_wp2_with (first
        | (go_at_call 30; refine (C2 _).mono ?_; rintro e w' ⟨rfl, rfl⟩)
        | (go_at_call 36; refine (W2.out _ H2.out).mono ?_; rintro e w3 ⟨rfl, h3⟩; have H3 := Lib.hid h3; clear h3))
      rw [rounds_succ]
      go_wp2_with (first
        | (go_at_call 30; refine (C1 _).mono ?_; rintro e w' ⟨rfl, rfl⟩)
        | (go_at_call 36; refine (W1.out _ H3.out).mono ?_; rintro e w4 ⟨rfl, h4⟩; have H4 := Lib.hid h4; clear h4))
      rw [rounds_succ]
      go_wp2_with fail
      try rw [Exit.noGoto_ret]
      go_ret
      exact ⟨rfl, H4.out⟩
theorem take_bd (L : List Bool) (fi : Nat) (hl : L.length ≤ 256) : 0 ≤ takeN L fi ∧ takeN L fi < 256 := by
  unfold takeN
  cases q : takeB L fi
  · rw [cond_false]; omega
  · have := of_decide_eq_true q
    rw [cond_true]; omega
theorem entryI_word (f v : Int) (h0 : 0 ≤ f) (h1 : 0 ≤ v) (h2 : f < 18014398509481984) : W.word (entryI f v) := by
  unfold entryI; rw [if_neg (by omega)]; constructor <;> omega
theorem o_below (h : Own w0 w (Star (plA pb b first L s) R)) (hR : Stable R) (t a l n : Int) (z : Sp) (ht : 0 ≤ t ∧ t < 18014398509481984) (ha : u64 a) (hz : belowX first ⟨L, s⟩ t a l = z) (hn : belowN first ⟨L, s⟩ t a l = n) :
    Calls Try.prog 28 #[.pointer (some ⟨pb, 0, none⟩), .int .i64 t, .int .u64 a, .int .i64 l] w fun e w' => e = .returned (.int .i64 n) ∧ Own w0 w' (Star (plA pb b first z.L z.s) R) := by
  subst hz; subst hn
  have C : ∀ w : World, Calls Try.prog 30 #[.int .i64 t, .int .u64 a, .int .i64 l] w fun e w' => e = .returned (.int .u64 (placeI t a l)) ∧ w' = w := fun w => c_place t a l ht ha w
  have hpu := place_u64 t a l ht
  unfold belowX belowN
  generalize placeI t a l = P at *
  obtain ⟨f, hf⟩ : ∃ f, validF s P = f := ⟨_, rfl⟩
  obtain ⟨g, hg⟩ : ∃ f, validG s P = f := ⟨_, rfl⟩
  have hl := (o_plen h).2.2.1
  have htk := take_bd L first hl
  cases hv : validB s P with
  | true =>
    have V := Lib.hid (o_valid h hR P hpu f g true hf hg hv)
    simp only [cond_true]
    rw [hf]
    clear h hR ht ha hpu hf hg hv hl htk
    go_enter Try.func28, Try.ntmps28
    go_wp2_with (first
      | (go_at_call 30; refine (C _).mono ?_; rintro e w' ⟨rfl, rfl⟩)
      | (go_at_call 36; refine V.out.mono ?_; rintro e w3 ⟨rfl, h3⟩; have H3 := Lib.hid h3; clear h3))
    go_ret
    exact ⟨rfl, H3.out⟩
  | false =>
    have V := Lib.hid (o_valid h hR P hpu f g false hf hg hv)
    simp only [cond_false]
    obtain ⟨N, hN⟩ : ∃ N, takeN L first = N := ⟨_, rfl⟩
    obtain ⟨E, hE⟩ : ∃ E, takeE L first = E := ⟨_, rfl⟩
    have hew := entryI_word (takeN L first) 1 htk.1 (by decide) (by omega)
    have CE : ∀ w : World, Calls Try.prog 31 #[.int .i64 N, .int .u64 1] w fun e w' => e = .returned (.int .u64 (entryI N 1)) ∧ w' = w := fun w => c_kentry N 1 ⟨by omega, by omega⟩ ⟨by decide, by decide⟩ w
    have TK : RowKit.Hid (∀ w, Own w0 w (Star (plA pb b first L s) R) → _) := Lib.hid (fun w h => o_ptake (w0 := w0) (w := w) h hR N E _ _ hN hE rfl rfl)
    show Calls _ _ _ _ (fun e w' => e = .returned (.int .i64 (takeN L first)) ∧ Own w0 w' (Star (plA pb b first (takeL L first) (storeS (takeS L first s) P 8 (entryI (takeN L first) 1))) R))
    rw [hN] at hew ⊢
    generalize entryI N 1 = EN at *
    have ST : RowKit.Hid (∀ w, Own w0 w (Star (plA pb b first (takeL L first) (takeS L first s)) R) → _) := Lib.hid (fun w h => o_pstore (w0 := w0) (w := w) h hR P 8 EN _ hpu hew _ rfl rfl)
    generalize takeL L first = L2 at *
    generalize takeS L first s = s2 at *
    clear h hR ht ha hpu hf hg hv hl htk hN hE hew
    go_enter Try.func28, Try.ntmps28
    go_wp2_with (first
      | (go_at_call 30; refine (C _).mono ?_; rintro e w' ⟨rfl, rfl⟩)
      | (go_at_call 36; refine V.out.mono ?_; rintro e w3 ⟨rfl, h3⟩; have H3 := Lib.hid h3; clear h3)
      | (go_at_call 22; refine (TK.out _ H3.out).mono ?_; rintro e w4 ⟨rfl, h4⟩; have H4 := Lib.hid h4; clear h4)
      | (go_at_call 25; refine (o_pmem H4.out).mono ?_; rintro e w' ⟨rfl, rfl⟩)
      | (go_at_call 31; refine (CE _).mono ?_; rintro e w5 ⟨rfl, rfl⟩)
      | (go_at_call 29; refine (ST.out _ H4.out).mono ?_; rintro e w6 ⟨rfl, h6⟩; have H6 := Lib.hid h6; clear h6))
    go_ret
    exact ⟨rfl, H6.out⟩
end Go.Proofs.Ytbcnibnkojnpiaa.P
