/- Stage 11: the document's tables, read. No condition. -/
import Derived.Test.YtbcnibnkojnpiaaGreatE2
import Derived.Test.YtbcnibnkojnpiaaGreatEQ
import Derived.Test.YtbcnibnkojnpiaaGreatK1
import Derived.Test.YtbcnibnkojnpiaaGreatEA
import Derived.Deep.DeepCutAuto
import Derived.Laws.Rows
import Derived.Deep.RegionHeld3
set_option linter.unusedVariables false
set_option linter.unusedSimpArgs false
set_option maxRecDepth 100000
namespace Go.Proofs.YtbcnibnkojnpiaaGreat.P
open Go.RowKit Go.MuLone Go.Maps
variable {w0 w : World} {rp rb fi : Nat} {z : Sp} {R : Asn} {own : Who}
theorem o_qM (h : Own w0 w (Star (rpA rp rb fi z.L z.s) R)) : w.cell? ⟨rp, 0, none⟩ = some (.pointer (some ⟨rb, 0, none⟩)) := by
  obtain ⟨F, ib, vb, H, t, a, _⟩ := h.left.get
  exact blk_cell a.1 0 rfl
def kidI : Option Nat → Int
  | none => -1
  | some g => (g : Int)
theorem o_rld (h : Own w0 w (Star (rpA rp rb fi z.L z.s) R)) (hR : Stable R) (f k : Nat) (hf : f < 256) (hk : k < 32) :
    Calls Tryz.prog 37 #[.pointer (some ⟨rp, 0, none⟩), .int .i64 (f : Int), .int .i64 (k : Int)] w fun e w' => e = .returned (.int .u64 (T z f k)) ∧ Own w0 w' (Star (rpA rp rb fi z.L z.s) R) := by
  have c0 := o_qM h
  obtain ⟨A, hA⟩ : ∃ A : Int, 256 * (f : Int) + 8 * (k : Int) = A := ⟨_, rfl⟩
  have hT : loadV z.s A 8 = T z f k := by
    rw [← hA, show 256 * (f : Int) + 8 * (k : Int) = ((f * 256 + k * 8 : Nat) : Int) by omega]; rfl
  have LD := Lib.hid (o_qload h hR A 8 (T z f k) (loadR z.s A 8) ⟨by omega, by omega⟩ hT rfl)
  have k1 : IntKind.i64.wrap (256 * (f : Int)) = 256 * (f : Int) := wrapI _ (by omega) (by omega)
  have k2 : IntKind.i64.wrap (8 * (k : Int)) = 8 * (k : Int) := wrapI _ (by omega) (by omega)
  have k3 : IntKind.i64.wrap (256 * (f : Int) + 8 * (k : Int)) = A := by rw [hA]; exact wrapI _ (by omega) (by omega)
  have k4 : IntKind.u64.wrap A = A := wrapU _ (by omega) (by omega)
  generalize T z f k = V at *
  generalize loadR z.s A 8 = E at *
  clear hA hT h hR
  go_enter Tryz.func37, Tryz.ntmps37
  go_wp2_with (go_at_call 70; refine LD.out.mono ?_; rintro e w2 ⟨rfl, h2⟩; have H2 := Lib.hid h2; clear h2)
  go_ret
  exact ⟨rfl, H2.out⟩
theorem o_rnext_no (w : World) (rp : Nat) (k : Int) :
    Calls Tryz.prog 36 #[.pointer (some ⟨rp, 0, none⟩), .int .i64 (-1), .int .i64 k] w fun e w' => e = .returned (.int .i64 (-1)) ∧ w' = w := by
  go_enter Tryz.func36, Tryz.ntmps36
  go_wp2_with fail
  go_ret
  exact ⟨rfl, rfl⟩
theorem o_rnext (h : Own w0 w (Star (rpA rp rb fi z.L z.s) R)) (hR : Stable R) (hw : WF fi z own) {f hh p j : Nat} (hf : own f = some (hh + 1, p, j)) (k : Nat) (hk : k < 32) :
    Calls Tryz.prog 36 #[.pointer (some ⟨rp, 0, none⟩), .int .i64 (f : Int), .int .i64 (k : Int)] w fun e w' => e = .returned (.int .i64 (kidI (kid z f k))) ∧ Own w0 w' (Star (rpA rp rb fi z.L z.s) R) := by
  have hfl := (hw.lt hf).2.1
  have hhi := hw.sz.hi
  have LD := Lib.hid (o_rld h hR f k (by omega) hk)
  have d0 : ¬ (f : Int) < 0 := by omega
  rcases hw.ent hf hk with ⟨q0, _⟩ | ⟨g, b, q1, q2, q3, q4, q5, _⟩
  · rw [kid_zero q0]
    rw [q0] at LD
    clear h hR hw
    go_enter Tryz.func36, Tryz.ntmps36
    go_wp2_with (go_at_call 37; refine LD.out.mono ?_; rintro e w2 ⟨rfl, h2⟩; have H2 := Lib.hid h2; clear h2)
    go_ret
    exact ⟨rfl, H2.out⟩
  · have hg := (hw.lt q5).2.1
    have hkid : kid z f k = some g := (hw.kid_iff hf hk).2 q5
    rw [hkid]
    rw [q1] at LD
    obtain ⟨E, hE⟩ : ∃ E : Int, ((g * 1024 + b : Nat) : Int) = E := ⟨_, rfl⟩
    rw [hE] at LD
    have m1 : E % 2 = 1 := by omega
    have m2 : E.tmod 2 = 1 := by rw [Int.tmod_eq_emod_of_nonneg (by omega)]; omega
    have m3 : E / 1024 = (g : Int) := by omega
    have FR := Lib.hid (fun w => r_kframe E ⟨by omega, by omega⟩ w)
    rw [m3] at FR
    have k1 : IntKind.i64.wrap (g : Int) = (g : Int) := wrapI _ (by omega) (by omega)
    clear h hR hw hE q1 m3
    go_enter Tryz.func36, Tryz.ntmps36
    go_wp2_with (first
      | (go_at_call 37; refine LD.out.mono ?_; rintro e w2 ⟨rfl, h2⟩; have H2 := Lib.hid h2; clear h2)
      | (go_at_call 71; refine (FR.out _).mono ?_; rintro e w3 ⟨rfl, hw3⟩; rw [hw3]; clear hw3 w3))
    go_ret
    exact ⟨by go_num, H2.out⟩
end Go.Proofs.YtbcnibnkojnpiaaGreat.P
namespace Go.Proofs.YtbcnibnkojnpiaaGreat.P
open Go.RowKit Go.MuLone Go.Maps
variable {w0 w : World} {rp rb fi : Nat} {z : Sp} {R : Asn} {own : Who}
theorem below_kid {h : WF fi z own} {f hh p j k : Nat} (hf : own f = some (hh + 1, p, j)) (hk : k < 32) {a l : Int} (hpl : placeI f a l = ((f * 256 + k * 8 : Nat) : Int)) :
    (kid z f k = none → belowX fi z f a l = putX (takeX fi z) ((f * 256 + k * 8 : Nat) : Int) (entryI (takeN z.L fi) 1) ∧ belowN fi z f a l = takeN z.L fi) ∧
    (∀ g, kid z f k = some g → belowX fi z f a l = z ∧ belowN fi z f a l = (g : Int)) := by
  refine ⟨fun e => ?_, fun g e => ?_⟩
  · have v := valid_no h hf hk e hpl
    unfold belowX belowN
    rw [v, cond_false, cond_false, hpl]
    exact ⟨rfl, rfl⟩
  · have hg := (h.kid_iff hf hk).1 e
    rcases h.ent hf hk with ⟨q0, _⟩ | ⟨g', b, q1, q2, q3, q4, q5, v1, v2, v3⟩
    · rw [kid_zero q0] at e; cases e
    · have : g' = g := by
        have e2 := (h.kid_iff hf hk).2 q5
        rw [e] at e2; injection e2 with e2; exact e2.symm
      subst this
      unfold belowX belowN
      rw [hpl, v1, cond_true, cond_true, v2]
      exact ⟨rfl, rfl⟩
set_option maxHeartbeats 1600000 in
theorem o_rmap_bad (h : Own w0 w (Star (rpA rp rb fi z.L z.s) R)) (r pg bt : Int) (hpg : i64 pg) (hbt : u64 bt) (hbad : mapBad fi z r pg bt = true) :
    Calls Tryz.prog 68 #[.pointer (some ⟨rp, 0, none⟩), .int .i64 r, .int .i64 pg, .int .u64 bt] w fun e w' => e = .returned (.int .i64 1) ∧ w' = w := by
  obtain ⟨tk, htk⟩ : ∃ t, tknB z.L fi r = t := ⟨_, rfl⟩
  have TK := Lib.hid (o_qtaken h r tk htk)
  unfold mapBad at hbad
  rw [htk] at hbad
  obtain ⟨b0, b1⟩ := hbt
  have tm : bt.tmod 2 = bt % 2 := Int.tmod_eq_emod_of_nonneg b0
  clear htk h hpg
  cases tk with
  | false =>
    go_enter Tryz.func68, Tryz.ntmps68
    go_wp2_with (go_at_call 89; refine TK.out.mono ?_; rintro e w2 ⟨rfl, hw2⟩; rw [hw2]; clear hw2 w2)
    go_ret
    exact ⟨rfl, rfl⟩
  | true =>
    simp only [Bool.not_true, Bool.false_or, Bool.or_eq_true, decide_eq_true_eq] at hbad
    rcases (by omega : pg < 0 ∨ (¬ pg < 0 ∧ 32767 < pg) ∨ (¬ pg < 0 ∧ ¬ 32767 < pg ∧ bt % 2 = 0) ∨ (¬ pg < 0 ∧ ¬ 32767 < pg ∧ ¬ bt % 2 = 0 ∧ 31 < bt)) with h1 | ⟨h1, h2⟩ | ⟨h1, h2, h3⟩ | ⟨h1, h2, h3, h4⟩
    all_goals
      clear hbad
      first
        | (have t2 : ¬ bt.tmod 2 = 0 := by omega)
        | (have t2 : bt.tmod 2 = 0 := by omega)
        | skip
      try clear tm
      go_enter Tryz.func68, Tryz.ntmps68
      go_wp2_with (go_at_call 89; refine TK.out.mono ?_; rintro e w2 ⟨rfl, hw2⟩; rw [hw2]; clear hw2 w2)
      go_ret
      exact ⟨rfl, rfl⟩
set_option maxHeartbeats 6400000 in
theorem map_go (h : WF fi z own) {r p j P b : Nat} (hr : own r = some (3, p, j)) (hP : P < 32768) (hb : b % 2 = 1) (hb2 : b < 32) (hno : pth z r 3 P = none) (hleft : mapMiss z r P < leftX fi z) :
    ∃ (t1 t0 n : Nat) (z1 z2 : Sp), t1 < 256 ∧ t0 < 256 ∧ n < 256 ∧
      (pth z r 1 (P / 1024) = none → z1 = putX (takeX fi z) ((r * 256 + P / 1024 * 8 : Nat) : Int) (entryI (t1 : Int) 1) ∧ takeN z.L fi = (t1 : Int)) ∧ (∀ g, pth z r 1 (P / 1024) = some g → z1 = z ∧ g = t1) ∧
      (pth z r 2 (P / 32) = none → z2 = putX (takeX fi z1) ((t1 * 256 + P / 32 % 32 * 8 : Nat) : Int) (entryI (t0 : Int) 1) ∧ takeN z1.L fi = (t0 : Int)) ∧ (∀ g, pth z r 2 (P / 32) = some g → z2 = z1 ∧ g = t0) ∧
      takeN z2.L fi = (n : Int) ∧ mapX fi z r P b = putX (takeX fi z2) ((t0 * 256 + P % 32 * 8 : Nat) : Int) (entryI (n : Int) b) ∧ mapE fi z r P b = 0 := by
  have hth : mapThere z r P = false := by rw [there_eq h hr hP, hno]; rfl
  have hbad := bad_no h hr hP hb hb2
  have hlt : decide (leftX fi z ≤ mapMiss z r P) = false := decide_eq_false (by omega)
  have eX : mapX fi z r P b = putX (takeX fi (mapZ fi z r P)) (placeI (mapT fi z r P) ((P : Int) * 256) 0) (entryI (takeN (mapZ fi z r P).L fi) b) := by
    unfold mapX; rw [hbad, hth, hlt, cond_false, cond_false, cond_false]
  have hE := (map_ok h hr hP hb hb2 hno hleft).1
  rw [miss_eq h hr hP] at hleft
  have hl1 : 0 ≤ lack (pth z r 1 (P / 1024)) ∧ (pth z r 1 (P / 1024) = none → lack (pth z r 1 (P / 1024)) = 1) := by
    unfold lack; constructor
    · split <;> omega
    · intro e; rw [e]; rfl
  have hl2 : 0 ≤ lack (pth z r 2 (P / 32)) ∧ (pth z r 2 (P / 32) = none → lack (pth z r 2 (P / 32)) = 1) := by
    unfold lack; constructor
    · split <;> omega
    · intro e; rw [e]; rfl
  have pk1 : pth z r 1 (P / 1024) = kid z r (P / 1024) := by have := pth_kid (z := z) (r := r) (d := 0) (m := 0) (k := P / 1024) (f := r) (by omega) rfl; rw [show 0 * 32 + P / 1024 = P / 1024 by omega] at this; exact this
  obtain ⟨t1, o1, n1, g1, q1, k1, f1⟩ := below_step h hr (d := 0) (m := 0) (f := r) (k := P / 1024) (by omega) (by decide) rfl (by omega) (pl2 r hP) (fun e => by rw [show 0 * 32 + P / 1024 = P / 1024 by omega] at e; have := hl1.2 e; omega)
  rw [show 0 * 32 + P / 1024 = P / 1024 by omega] at q1 k1 f1
  replace q1 : pth (belowX fi z r ((P : Int) * 256) 2) r 1 (P / 1024) = some t1 := q1
  replace f1 : leftX fi (belowX fi z r ((P : Int) * 256) 2) = leftX fi z - lack (pth z r 1 (P / 1024)) := f1
  have hr1 := g1.old _ _ hr
  have s2 : pth (belowX fi z r ((P : Int) * 256) 2) r 2 (P / 32) = pth z r 2 (P / 32) := k1 2 (P / 32) (by decide) (by omega) (by omega)
  obtain ⟨t0, o2, n2, g2, q2, k2, f2⟩ := below_step g1.wf hr1 (d := 1) (m := P / 1024) (f := t1) (k := P / 32 % 32) (by omega) (by omega) q1 (by omega) (pl1 t1 hP) (fun e => by
    rw [show P / 1024 * 32 + P / 32 % 32 = P / 32 by omega] at e
    replace e : pth (belowX fi z r ((P : Int) * 256) 2) r 2 (P / 32) = none := e
    rw [s2] at e
    have := hl2.2 e
    rw [f1]; omega)
  rw [show P / 1024 * 32 + P / 32 % 32 = P / 32 by omega] at q2 f2
  replace q2 : pth (belowX fi (belowX fi z r ((P : Int) * 256) 2) t1 ((P : Int) * 256) 1) r 2 (P / 32) = some t0 := q2
  replace f2 : leftX fi (belowX fi (belowX fi z r ((P : Int) * 256) 2) t1 ((P : Int) * 256) 1) = leftX fi (belowX fi z r ((P : Int) * 256) 2) - lack (pth (belowX fi z r ((P : Int) * 256) 2) r 2 (P / 32)) := f2
  rw [s2] at f2
  have hr2 := g2.old _ _ hr1
  have eZ : mapZ fi z r P = belowX fi (belowX fi z r ((P : Int) * 256) 2) t1 ((P : Int) * 256) 1 := by unfold mapZ; rw [n1]
  have eT : mapT fi z r P = t0 := by unfold mapT; rw [n1]; exact n2
  rw [eT, eZ, pl0 t0 hP] at eX
  obtain ⟨p1, j1, ho1⟩ := pth_high g1.wf hr1 (show 1 ≤ 3 by decide) q1
  obtain ⟨p2, j2, ho2⟩ := pth_high g2.wf hr2 (show 2 ≤ 3 by decide) q2
  have hk1 := pth_kid (z := belowX fi z r ((P : Int) * 256) 2) (r := r) (k := P / 32 % 32) (by omega) q1
  rw [show P / 1024 * 32 + P / 32 % 32 = P / 32 by omega, s2] at hk1
  have B1 := below_kid (h := h) (f := r) (hh := 2) hr (k := P / 1024) (by omega) (pl2 r hP)
  have B2 := below_kid (h := g1.wf) (f := t1) (hh := 1) ho1 (k := P / 32 % 32) (by omega) (pl1 t1 hP)
  have l1 := (g1.wf.lt ho1).2.1
  have l0 := (g2.wf.lt ho2).2.1
  have h1 := g1.wf.sz.hi
  have h2 := g2.wf.sz.hi
  have hlf : 0 < leftX fi (belowX fi (belowX fi z r ((P : Int) * 256) 2) t1 ((P : Int) * 256) 1) := by rw [f2, f1]; omega
  obtain ⟨n, hn1, _, _, hn, _⟩ := take_b ((left_take g2.wf.fle).2 hlf)
  have b1 : t1 < 256 := Nat.lt_of_lt_of_le l1 h1
  have b0 : t0 < 256 := Nat.lt_of_lt_of_le l0 h2
  have bn : n < 256 := Nat.lt_of_lt_of_le hn1 h2
  refine ⟨t1, t0, n, belowX fi z r ((P : Int) * 256) 2, belowX fi (belowX fi z r ((P : Int) * 256) 2) t1 ((P : Int) * 256) 1, b1, b0, bn, fun e => ?_, fun g e => ?_, fun e => ?_, fun g e => ?_, hn, ?_, hE⟩
  · have := B1.1 (by rw [← pk1]; exact e)
    rw [n1] at this
    exact ⟨by rw [this.1, ← this.2], this.2.symm⟩
  · have := B1.2 g (by rw [← pk1]; exact e)
    rw [n1] at this
    exact ⟨this.1, Int.ofNat_inj.1 this.2.symm⟩
  · have := B2.1 (by rw [← hk1]; exact e)
    rw [n2] at this
    exact ⟨by rw [this.1, ← this.2], this.2.symm⟩
  · have := B2.2 g (by rw [← hk1]; exact e)
    rw [n2] at this
    exact ⟨this.1, Int.ofNat_inj.1 this.2.symm⟩
  · rw [eX, hn]
set_option maxHeartbeats 6400000 in
theorem o_rmap (h : Own w0 w (Star (rpA rp rb fi z.L z.s) R)) (hR : Stable R) (hw : WF fi z own) {r p j P b : Nat} (hr : own r = some (3, p, j)) (hP : P < 32768) (hb : b % 2 = 1) (hb2 : b < 32) (E : Int) (z' : Sp) (hE : mapE fi z r P b = E) (hz : mapX fi z r P b = z') :
    Calls Tryz.prog 68 #[.pointer (some ⟨rp, 0, none⟩), .int .i64 (r : Int), .int .i64 (P : Int), .int .u64 (b : Int)] w fun e w' => e = .returned (.int .i64 E) ∧ Own w0 w' (Star (rpA rp rb fi z'.L z'.s) R) := by
  have hhi := hw.sz.hi
  have hrl := (hw.lt hr).2.1
  have SQ := Lib.hid (fun (x : Sp) => stable_star (stable_rp rp rb fi x.L x.s) hR)
  have TK := Lib.hid (o_qtaken h (r : Int) true (hw.tkn hr))
  obtain ⟨A1, hA1⟩ : ∃ A, kidI (pth z r 1 (P / 1024)) = A := ⟨_, rfl⟩
  obtain ⟨A2, hA2⟩ : ∃ A, kidI (pth z r 2 (P / 32)) = A := ⟨_, rfl⟩
  obtain ⟨A3, hA3⟩ : ∃ A, kidI (pth z r 3 P) = A := ⟨_, rfl⟩
  have pk1 : pth z r 1 (P / 1024) = kid z r (P / 1024) := by have := pth_kid (z := z) (r := r) (d := 0) (m := 0) (k := P / 1024) (f := r) (by omega) rfl; rw [show 0 * 32 + P / 1024 = P / 1024 by omega] at this; exact this
  have N1 := Lib.hid (o_rnext h hR hw hr (P / 1024) (by omega))
  rw [← pk1, hA1] at N1
  have N2 : RowKit.Hid (∀ w, Own w0 w (Star (rpA rp rb fi z.L z.s) R) → Calls Tryz.prog 36 #[.pointer (some ⟨rp, 0, none⟩), .int .i64 A1, .int .i64 ((P / 32 % 32 : Nat) : Int)] w fun e w' => e = .returned (.int .i64 A2) ∧ Own w0 w' (Star (rpA rp rb fi z.L z.s) R)) := Lib.hid (fun w h => by
    cases e1 : pth z r 1 (P / 1024) with
    | none =>
      have e2 := pth_pre' (z := z) (r := r) (m := P / 32) (d := 1) (by rw [show P / 32 / 32 = P / 1024 by omega]; exact e1)
      rw [e1] at hA1; rw [e2] at hA2
      subst hA1; subst hA2
      refine (o_rnext_no w rp _).mono ?_
      rintro e w' ⟨rfl, rfl⟩
      exact ⟨rfl, h⟩
    | some t1 =>
      obtain ⟨p', j', ho⟩ := pth_high hw hr (show 1 ≤ 3 by decide) e1
      have e5 := pth_kid (z := z) (r := r) (k := P / 32 % 32) (by omega) e1
      rw [show P / 1024 * 32 + P / 32 % 32 = P / 32 by omega] at e5
      rw [e1] at hA1; rw [e5] at hA2
      subst hA1; subst hA2
      exact o_rnext h hR hw (hh := 1) ho (P / 32 % 32) (by omega))
  have N3 : RowKit.Hid (∀ w, Own w0 w (Star (rpA rp rb fi z.L z.s) R) → Calls Tryz.prog 36 #[.pointer (some ⟨rp, 0, none⟩), .int .i64 A2, .int .i64 ((P % 32 : Nat) : Int)] w fun e w' => e = .returned (.int .i64 A3) ∧ Own w0 w' (Star (rpA rp rb fi z.L z.s) R)) := Lib.hid (fun w h => by
    cases e1 : pth z r 2 (P / 32) with
    | none =>
      have e2 := pth_pre' (z := z) (r := r) (m := P) (d := 2) e1
      rw [e1] at hA2; rw [e2] at hA3
      subst hA2; subst hA3
      refine (o_rnext_no w rp _).mono ?_
      rintro e w' ⟨rfl, rfl⟩
      exact ⟨rfl, h⟩
    | some t1 =>
      obtain ⟨p', j', ho⟩ := pth_high hw hr (show 2 ≤ 3 by decide) e1
      have e5 := pth_kid (z := z) (r := r) (k := P % 32) (by omega) e1
      rw [show P / 32 * 32 + P % 32 = P by omega] at e5
      rw [e1] at hA2; rw [e5] at hA3
      subst hA2; subst hA3
      exact o_rnext h hR hw (hh := 0) ho (P % 32) (by omega))
  obtain ⟨ka, hka⟩ : ∃ k, P / 1024 = k := ⟨_, rfl⟩
  obtain ⟨kb, hkb⟩ : ∃ k, P / 32 % 32 = k := ⟨_, rfl⟩
  obtain ⟨kc, hkc⟩ : ∃ k, P % 32 = k := ⟨_, rfl⟩
  have t1 : (P : Int).tdiv 1024 = (ka : Int) := by rw [Int.tdiv_eq_ediv_of_nonneg (by omega)]; omega
  have t2 : (P : Int).tdiv 32 = ((P / 32 : Nat) : Int) := by rw [Int.tdiv_eq_ediv_of_nonneg (by omega)]; omega
  have t3 : ((P / 32 : Nat) : Int).tmod 32 = (kb : Int) := by rw [Int.tmod_eq_emod_of_nonneg (by omega)]; omega
  have t4 : (P : Int).tmod 32 = (kc : Int) := by rw [Int.tmod_eq_emod_of_nonneg (by omega)]; omega
  have w1 : IntKind.i64.wrap (ka : Int) = (ka : Int) := wrapI _ (by omega) (by omega)
  have w2 : IntKind.i64.wrap ((P / 32 : Nat) : Int) = ((P / 32 : Nat) : Int) := wrapI _ (by omega) (by omega)
  have w3 : IntKind.i64.wrap (kb : Int) = (kb : Int) := wrapI _ (by omega) (by omega)
  have w4 : IntKind.i64.wrap (kc : Int) = (kc : Int) := wrapI _ (by omega) (by omega)
  have u1 : (P : Int) / 1024 = (ka : Int) := by omega
  have u2 : (P : Int) / 32 = ((P / 32 : Nat) : Int) := by omega
  have u3 : ((P / 32 : Nat) : Int) % 32 = (kb : Int) := by omega
  have u4 : (P : Int) % 32 = (kc : Int) := by omega
  have d1 : ¬ (P : Int) < 0 := by omega
  have d2 : ¬ (32767 : Int) < (P : Int) := by omega
  have d3 : ¬ (b : Int).tmod 2 = 0 := by rw [Int.tmod_eq_emod_of_nonneg (by omega)]; omega
  have d4 : ¬ (31 : Int) < (b : Int) := by omega
  have dd1 : decide ((P : Int) < 0) = false := decide_eq_false d1
  have dd2 : decide ((32767 : Int) < (P : Int)) = false := decide_eq_false d2
  have dd4 : decide ((31 : Int) < (b : Int)) = false := decide_eq_false d4
  have hth := there_eq hw hr hP
  have hbad := bad_no hw hr hP hb hb2
  have hmiss := miss_eq hw hr hP
  rw [hka] at N1
  rw [hkb] at N2
  rw [hkc] at N3
  obtain ⟨q32, hq32⟩ : ∃ q, P / 32 = q := ⟨_, rfl⟩
  rw [hq32] at t2 t3 w2 u2 u3
  obtain ⟨LF, hLF⟩ : ∃ x, leftX fi z = x := ⟨_, rfl⟩
  have LFC : RowKit.Hid (∀ w, Own w0 w (Star (rpA rp rb fi z.L z.s) R) → Calls Tryz.prog 10 #[.pointer (some ⟨rp, 0, none⟩)] w fun e w' => e = .returned (.int .i64 LF) ∧ w' = w) := Lib.hid (fun w h => o_qleft h LF hLF)
  have ARM := Lib.hid True.intro
  by_cases h3 : 0 ≤ A3
  · have hs : (pth z r 3 P).isSome = true := by
      cases e : pth z r 3 P with
      | none => rw [e] at hA3; rw [← hA3] at h3; exact absurd h3 (by decide)
      | some g => rfl
    rw [hs] at hth
    have e1 : E = 9 := by rw [← hE]; unfold mapE; rw [hbad, hth]; rfl
    have e2 : z' = z := by rw [← hz]; unfold mapX; rw [hbad, hth]; rfl
    subst e1; subst e2
    clear hE hz hth hbad hmiss hA1 hA2 hA3 hs h hR hw pk1 hka hkb hkc hq32 LFC hLF
    go_enter Tryz.func68, Tryz.ntmps68
    go_upto_region 7 with (go_at_call 89; refine TK.out.mono ?_; rintro e wk ⟨rfl, hwk⟩; rw [hwk]; clear hwk wk)
    go_upto_region 8 with (go_at_call 36; refine N1.out.mono ?_; rintro e v2 ⟨rfl, h2⟩; have H2 := Lib.hid h2; clear h2)
    go_upto_region 9 with (go_at_call 36; refine (N2.out _ H2.out).mono ?_; rintro e v3 ⟨rfl, h3⟩; have H3 := Lib.hid h3; clear h3)
    go_wp2_with (go_at_call 36; refine (N3.out _ H3.out).mono ?_; rintro e v4 ⟨rfl, h4⟩; have H4 := Lib.hid h4; clear h4)
    go_ret
    exact ⟨rfl, H4.out⟩
  have hno : pth z r 3 P = none := by
    cases e : pth z r 3 P with
    | none => rfl
    | some g => rw [e] at hA3; exact absurd (show (0 : Int) ≤ A3 by rw [← hA3]; exact Int.natCast_nonneg g) h3
  rw [hno] at hth
  have a3 : A3 = -1 := by rw [← hA3, hno]; rfl
  subst a3
  have GO := Lib.hid (fun hl => map_go hw hr hP hb hb2 hno hl)
  rw [hka, hkb, hq32, hkc] at GO
  have hE2 : LF ≤ mapMiss z r P → E = 4 ∧ z' = z := fun hle => by
    refine ⟨?_, ?_⟩
    · rw [← hE]; unfold mapE; rw [hbad, hth, hLF, decide_eq_true hle]; rfl
    · rw [← hz]; unfold mapX; rw [hbad, hth, hLF, decide_eq_true hle]; rfl
  rw [hmiss, hka, hq32] at hE2 GO
  rw [hka] at hA1
  rw [hq32] at hA2
  have HE := Lib.hid hE
  have HZ := Lib.hid hz
  have TKX : RowKit.Hid (∀ (x : Sp) (n : Int), takeN x.L fi = n → ∀ w, Own w0 w (Star (rpA rp rb fi x.L x.s) R) → Calls Tryz.prog 28 #[.pointer (some ⟨rp, 0, none⟩)] w fun e w' => e = .returned (.tuple #[.int .i64 n, .int .i64 (takeE x.L fi)]) ∧ Own w0 w' (Star (rpA rp rb fi (takeX fi x).L (takeX fi x).s) R)) := Lib.hid (fun x n hn w h => o_qtake h hR n _ _ _ hn rfl rfl rfl)
  have ENX : RowKit.Hid (∀ (n v : Nat), n < 256 → v < 32 → ∀ w, Calls Tryz.prog 91 #[.int .i64 (n : Int), .int .u64 (v : Int)] w fun e w' => e = .returned (.int .u64 (entryI (n : Int) (v : Int))) ∧ w' = w) := Lib.hid (fun n v hn hv w => r_kentry _ _ ⟨by omega, by omega⟩ ⟨by omega, by omega⟩ w)
  have STX : RowKit.Hid (∀ (x : Sp) (t k n v : Nat) (A : Int), t < 256 → k < 32 → n < 256 → v < 32 → ((t * 256 + k * 8 : Nat) : Int) = A → ∀ w, Own w0 w (Star (rpA rp rb fi x.L x.s) R) → Calls Tryz.prog 90 #[.pointer (some ⟨rb, 0, none⟩), .int .u64 A, .int .i64 8, .int .u64 (entryI (n : Int) (v : Int))] w fun e w' => e = .returned (.int .i64 (loadR x.s A 8)) ∧ Own w0 w' (Star (rpA rp rb fi (putX x A (entryI (n : Int) (v : Int))).L (putX x A (entryI (n : Int) (v : Int))).s) R)) := Lib.hid (fun x t k n v A ht hk hn hv hA w h => o_qstore h hR A 8 _ _ ⟨by omega, by omega⟩ (by rw [entryI_nat n v hn hv]; exact ⟨by omega, by omega⟩) _ rfl rfl)
  clear hE hz hth hbad hmiss h hR hw hno h3 hA3
  have n3 : ¬ (0 : Int) ≤ -1 := by decide
  obtain ⟨e1⟩ | ⟨t1, e1⟩ : (pth z r 1 ka = none) ∨ (∃ t, pth z r 1 ka = some t) := by cases pth z r 1 ka with | none => exact .inl rfl | some t => exact .inr ⟨t, rfl⟩
  · have e2 : pth z r 2 q32 = none := pth_pre' (z := z) (r := r) (m := q32) (d := 1) (by rw [show q32 / 32 = ka by omega]; exact e1)
    have l1 := hA1
    have l2 := hA2
    rw [e1] at l1
    rw [e2] at l2
    replace l1 : _ = A1 := l1
    replace l2 : _ = A2 := l2
    subst l1; subst l2
    show Calls Tryz.prog _ _ w _
    rw [e1, e2] at hE2 GO
    clear hA1 hA2
    have s1 : (-1 : Int) < 0 := by decide
    rw [show lack none = 1 from rfl] at hE2 GO
    have N1 : RowKit.Hid (Calls Tryz.prog 36 #[.pointer (some ⟨rp, 0, none⟩), .int .i64 (r : Int), .int .i64 (ka : Int)] w fun e w' => e = .returned (.int .i64 (-1 : Int)) ∧ Own w0 w' (Star (rpA rp rb fi z.L z.s) R)) := Lib.hid N1.out
    have N2 : RowKit.Hid (∀ w, Own w0 w (Star (rpA rp rb fi z.L z.s) R) → Calls Tryz.prog 36 #[.pointer (some ⟨rp, 0, none⟩), .int .i64 (-1 : Int), .int .i64 (kb : Int)] w fun e w' => e = .returned (.int .i64 (-1 : Int)) ∧ Own w0 w' (Star (rpA rp rb fi z.L z.s) R)) := Lib.hid N2.out
    have N3 : RowKit.Hid (∀ w, Own w0 w (Star (rpA rp rb fi z.L z.s) R) → Calls Tryz.prog 36 #[.pointer (some ⟨rp, 0, none⟩), .int .i64 (-1 : Int), .int .i64 (kc : Int)] w fun e w' => e = .returned (.int .i64 (-1)) ∧ Own w0 w' (Star (rpA rp rb fi z.L z.s) R)) := Lib.hid N3.out
    by_cases hfull : LF < 3
    · obtain ⟨f1, f2⟩ := hE2 (by omega)
      subst f1; subst f2
      clear hE2 GO TKX ENX STX HE HZ
      go_enter Tryz.func68, Tryz.ntmps68
      go_upto_region 7 with (go_at_call 89; refine TK.out.mono ?_; rintro e wk ⟨rfl, hwk⟩; rw [hwk]; clear hwk wk)
      go_upto_region 8 with (go_at_call 36; refine N1.out.mono ?_; rintro e v2 ⟨rfl, h2⟩; have H2 := Lib.hid h2; clear h2)
      go_upto_region 9 with (go_at_call 36; refine (N2.out _ H2.out).mono ?_; rintro e v3 ⟨rfl, h3⟩; have H3 := Lib.hid h3; clear h3)
      go_upto_region 10 with (go_at_call 36; refine (N3.out _ H3.out).mono ?_; rintro e v4 ⟨rfl, h4⟩; have H4 := Lib.hid h4; clear h4)
      clear N1 N2 N3 H2 H3 TK
      go_wp2_with (go_at_call 10; refine (LFC.out _ H4.out).mono ?_; rintro e wk ⟨rfl, hwk⟩; rw [hwk]; clear hwk wk)
      go_ret
      exact ⟨rfl, H4.out⟩
    · obtain ⟨v1, v0, n, z1, z2, b1, b0, bn, c1, c2, c3, c4, hn, hX, hY⟩ := GO.out (by omega)
      obtain ⟨p1, p2⟩ := c1 rfl
      obtain ⟨p3, p4⟩ := c3 rfl
      have g1 := HE.out
      have g2 := HZ.out
      rw [hY] at g1
      rw [hX] at g2
      subst g1
      clear hE2 GO HE HZ c1 c2 c3 c4 hX hY
      obtain ⟨AA, hAA⟩ : ∃ A : Int, ((r * 256 + ka * 8 : Nat) : Int) = A := ⟨_, rfl⟩
      have aAA : 256 * (r : Int) + 8 * (ka : Int) = AA := by omega
      have xAA : IntKind.i64.wrap (256 * (r : Int)) = 256 * (r : Int) := wrapI _ (by omega) (by omega)
      have yAA : IntKind.i64.wrap (8 * (ka : Int)) = 8 * (ka : Int) := wrapI _ (by omega) (by omega)
      have zAA : IntKind.i64.wrap (256 * (r : Int) + 8 * (ka : Int)) = AA := by rw [aAA]; exact wrapI _ (by omega) (by omega)
      have uAA : IntKind.u64.wrap AA = AA := wrapU _ (by omega) (by omega)
      have qAA : IntKind.i64.wrap AA = AA := wrapI _ (by omega) (by omega)
      have T1C := Lib.hid (fun w h => TKX.out z (v1 : Int) p2 w h)
      have E1C := Lib.hid (fun w => ENX.out v1 1 b1 (by decide) w)
      have S1C := Lib.hid (fun w h => STX.out (takeX fi z) r ka v1 1 AA (by omega) (by omega) b1 (by decide) hAA w h)
      rw [hAA] at p1
      rw [show ((1 : Nat) : Int) = 1 from rfl, ← p1] at S1C
      obtain ⟨BB, hBB⟩ : ∃ A : Int, ((v1 * 256 + kb * 8 : Nat) : Int) = A := ⟨_, rfl⟩
      have aBB : 256 * (v1 : Int) + 8 * (kb : Int) = BB := by omega
      have xBB : IntKind.i64.wrap (256 * (v1 : Int)) = 256 * (v1 : Int) := wrapI _ (by omega) (by omega)
      have yBB : IntKind.i64.wrap (8 * (kb : Int)) = 8 * (kb : Int) := wrapI _ (by omega) (by omega)
      have zBB : IntKind.i64.wrap (256 * (v1 : Int) + 8 * (kb : Int)) = BB := by rw [aBB]; exact wrapI _ (by omega) (by omega)
      have uBB : IntKind.u64.wrap BB = BB := wrapU _ (by omega) (by omega)
      have qBB : IntKind.i64.wrap BB = BB := wrapI _ (by omega) (by omega)
      have T2C := Lib.hid (fun w h => TKX.out z1 (v0 : Int) p4 w h)
      have E2C := Lib.hid (fun w => ENX.out v0 1 b0 (by decide) w)
      have S2C := Lib.hid (fun w h => STX.out (takeX fi z1) v1 kb v0 1 BB (by omega) (by omega) b0 (by decide) hBB w h)
      rw [hBB] at p3
      rw [show ((1 : Nat) : Int) = 1 from rfl, ← p3] at S2C
      obtain ⟨CC, hCC⟩ : ∃ A : Int, ((v0 * 256 + kc * 8 : Nat) : Int) = A := ⟨_, rfl⟩
      have aCC : 256 * (v0 : Int) + 8 * (kc : Int) = CC := by omega
      have xCC : IntKind.i64.wrap (256 * (v0 : Int)) = 256 * (v0 : Int) := wrapI _ (by omega) (by omega)
      have yCC : IntKind.i64.wrap (8 * (kc : Int)) = 8 * (kc : Int) := wrapI _ (by omega) (by omega)
      have zCC : IntKind.i64.wrap (256 * (v0 : Int) + 8 * (kc : Int)) = CC := by rw [aCC]; exact wrapI _ (by omega) (by omega)
      have uCC : IntKind.u64.wrap CC = CC := wrapU _ (by omega) (by omega)
      have qCC : IntKind.i64.wrap CC = CC := wrapI _ (by omega) (by omega)
      have T3C := Lib.hid (fun w h => TKX.out z2 (n : Int) hn w h)
      have E3C := Lib.hid (fun w => ENX.out n b bn hb2 w)
      have S3C := Lib.hid (fun w h => STX.out (takeX fi z2) v0 kc n b CC (by omega) (by omega) bn hb2 hCC w h)
      rw [hCC] at g2
      rw [g2] at S3C
      have NN1 : ¬ (v1 : Int) < 0 := by omega
      clear TKX ENX STX g2
      go_enter Tryz.func68, Tryz.ntmps68
      go_upto_region 7 with (go_at_call 89; refine TK.out.mono ?_; rintro e wk ⟨rfl, hwk⟩; rw [hwk]; clear hwk wk)
      go_upto_region 8 with (go_at_call 36; refine N1.out.mono ?_; rintro e v2 ⟨rfl, h2⟩; have H2 := Lib.hid h2; clear h2)
      go_upto_region 9 with (go_at_call 36; refine (N2.out _ H2.out).mono ?_; rintro e v3 ⟨rfl, h3⟩; have H3 := Lib.hid h3; clear h3)
      go_upto_region 10 with (go_at_call 36; refine (N3.out _ H3.out).mono ?_; rintro e v4 ⟨rfl, h4⟩; have H4 := Lib.hid h4; clear h4)
      clear N1 N2 N3 H2 H3 TK
      go_upto_region 21 with (first
        | (go_at_call 10; refine (LFC.out _ H4.out).mono ?_; rintro e wk ⟨rfl, hwk⟩; rw [hwk]; clear hwk wk)
        | (go_at_call 28; refine (T1C.out _ H4.out).mono ?_; rintro e v5 ⟨rfl, h5⟩; have H5 := Lib.hid h5; clear h5))
      have H5D := Lib.hid (H5.out.drew (SQ.out (takeX fi z)))
      refine wp_region_held_drew (S := fun w' => w'.cell? ⟨rp, 0, none⟩ = some (.pointer (some ⟨rb, 0, none⟩))) (by kernel_rfl) (o_qM H5D.out) (fun hH => ?_)
      try simp only [Act.put, List.setIfInBounds_toArray, List.set_cons_zero, List.set_cons_succ]
      refine wpAnyH_take (i := 0) (oi := { dst := some 79, op := Go.Op.move (Go.Operand.tmp 0), type := 26, pos := "ref.go:62", after := #[], guard := none }) (v := .pointer (some ⟨rp, 0, none⟩)) rfl (by kernel_rfl) (by kernel_rfl) (by kernel_rfl) (fun _ _ _ h => h) (Or.inl ⟨by rfl, fun w' hS' => by first | rfl | (go_simp; done) | (go_simp; rfl)⟩) (o_qM H5D.out) ?_
      try simp only [Act.put, List.setIfInBounds_toArray, List.set_cons_zero, List.set_cons_succ]
      refine wpAnyH_take (i := 1) (oi := { dst := some 80, op := Go.Op.nilCheck (Go.Operand.tmp 79), type := 0, pos := "ref.go:62", after := #[{ on := 0, ground := Go.Ground.data }], guard := none }) (v := .pointer (some ⟨rp, 0, none⟩)) rfl (by kernel_rfl) (by kernel_rfl) (by kernel_rfl) (fun _ _ _ h => h) (Or.inl ⟨by rfl, fun w' hS' => by first | rfl | (go_simp; done) | (go_simp; rfl)⟩) (o_qM H5D.out) ?_
      try simp only [Act.put, List.setIfInBounds_toArray, List.set_cons_zero, List.set_cons_succ]
      refine wpAnyH_take (i := 2) (oi := { dst := some 81, op := Go.Op.fieldAddr 50 (Go.Operand.tmp 80) 0, type := 0, pos := "ref.go:62", after := #[{ on := 1, ground := Go.Ground.data }], guard := none }) (v := .pointer (some ⟨rp, 0, none⟩)) rfl (by kernel_rfl) (by kernel_rfl) (by kernel_rfl) (fun _ _ _ h => h) (Or.inl ⟨by rfl, fun w' hS' => by first | rfl | (go_simp; done) | (go_simp; rfl)⟩) (o_qM H5D.out) ?_
      try simp only [Act.put, List.setIfInBounds_toArray, List.set_cons_zero, List.set_cons_succ]
      refine wpAnyH_take (i := 3) (oi := { dst := some 82, op := Go.Op.load 47 (Go.Operand.tmp 81), type := 47, pos := "ref.go:62", after := #[{ on := 2, ground := Go.Ground.data }], guard := none }) (v := .pointer (some ⟨rb, 0, none⟩)) rfl (by kernel_rfl) (by kernel_rfl) (by kernel_rfl) (fun _ _ _ h => h) (Or.inl ⟨by rfl, fun w' hS' => by go_simp⟩) (o_qM H5D.out) ?_
      try simp only [Act.put, List.setIfInBounds_toArray, List.set_cons_zero, List.set_cons_succ]
      refine wpAnyH_take (i := 4) (oi := { dst := some 83, op := Go.Op.move (Go.Operand.tmp 1), type := 3, pos := "ref.go:62", after := #[], guard := none }) (v := .int .i64 (r : Int)) rfl (by kernel_rfl) (by kernel_rfl) (by kernel_rfl) (fun _ _ _ h => h) (Or.inl ⟨by rfl, fun w' hS' => by first | rfl | (go_simp; done) | (go_simp; rfl)⟩) (o_qM H5D.out) ?_
      try simp only [Act.put, List.setIfInBounds_toArray, List.set_cons_zero, List.set_cons_succ]
      refine wpAnyH_take (i := 5) (oi := { dst := some 84, op := Go.Op.binOp Go.BinOp.mul 3 (Go.Operand.const (Go.Value.int Go.IntKind.i64 256)) (Go.Operand.tmp 83) 3, type := 3, pos := "ref.go:62", after := #[{ on := 4, ground := Go.Ground.data }], guard := none }) (v := .int .i64 (256 * (r : Int))) rfl (by kernel_rfl) (by kernel_rfl) (by kernel_rfl) (fun _ _ _ h => h) (Or.inl ⟨by rfl, fun w' hS' => by first | rfl | (go_simp; done) | (go_simp; rfl)⟩) (o_qM H5D.out) ?_
      try simp only [Act.put, List.setIfInBounds_toArray, List.set_cons_zero, List.set_cons_succ]
      refine wpAnyH_take (i := 6) (oi := { dst := some 85, op := Go.Op.move (Go.Operand.tmp 10), type := 3, pos := "ref.go:62", after := #[], guard := none }) (v := .int .i64 (ka : Int)) rfl (by kernel_rfl) (by kernel_rfl) (by kernel_rfl) (fun _ _ _ h => h) (Or.inl ⟨by rfl, fun w' hS' => by first | rfl | (go_simp; done) | (go_simp; rfl)⟩) (o_qM H5D.out) ?_
      try simp only [Act.put, List.setIfInBounds_toArray, List.set_cons_zero, List.set_cons_succ]
      refine wpAnyH_take (i := 7) (oi := { dst := some 86, op := Go.Op.binOp Go.BinOp.mul 3 (Go.Operand.const (Go.Value.int Go.IntKind.i64 8)) (Go.Operand.tmp 85) 3, type := 3, pos := "ref.go:62", after := #[{ on := 6, ground := Go.Ground.data }], guard := none }) (v := .int .i64 (8 * (ka : Int))) rfl (by kernel_rfl) (by kernel_rfl) (by kernel_rfl) (fun _ _ _ h => h) (Or.inl ⟨by rfl, fun w' hS' => by first | rfl | (go_simp; done) | (go_simp; rfl)⟩) (o_qM H5D.out) ?_
      try simp only [Act.put, List.setIfInBounds_toArray, List.set_cons_zero, List.set_cons_succ]
      refine wpAnyH_take (i := 8) (oi := { dst := some 87, op := Go.Op.binOp Go.BinOp.add 3 (Go.Operand.tmp 84) (Go.Operand.tmp 86) 3, type := 3, pos := "ref.go:62", after := #[{ on := 5, ground := Go.Ground.data }, { on := 7, ground := Go.Ground.data }], guard := none }) (v := .int .i64 AA) rfl (by kernel_rfl) (by kernel_rfl) (by kernel_rfl) (fun _ _ _ h => h) (Or.inl ⟨by rfl, fun w' hS' => by first | rfl | (go_simp; done) | (go_simp; rfl)⟩) (o_qM H5D.out) ?_
      try simp only [Act.put, List.setIfInBounds_toArray, List.set_cons_zero, List.set_cons_succ]
      refine wpAnyH_take (i := 9) (oi := { dst := some 88, op := Go.Op.convert 3 39 (Go.Operand.tmp 87), type := 39, pos := "ref.go:62", after := #[{ on := 8, ground := Go.Ground.data }], guard := none }) (v := .int .u64 AA) rfl (by kernel_rfl) (by kernel_rfl) (by kernel_rfl) (fun _ _ _ h => h) (Or.inl ⟨by rfl, fun w' hS' => by first | rfl | (go_simp; done) | (go_simp; rfl)⟩) (o_qM H5D.out) ?_
      try simp only [Act.put, List.setIfInBounds_toArray, List.set_cons_zero, List.set_cons_succ]
      refine wpAnyH_take (i := 10) (oi := { dst := some 89, op := Go.Op.move (Go.Operand.tmp 13), type := 3, pos := "ref.go:62", after := #[], guard := none }) (v := .int .i64 (v1 : Int)) rfl (by kernel_rfl) (by kernel_rfl) (by kernel_rfl) (fun _ _ _ h => h) (Or.inl ⟨by rfl, fun w' hS' => by first | rfl | (go_simp; done) | (go_simp; rfl)⟩) (o_qM H5D.out) ?_
      try simp only [Act.put, List.setIfInBounds_toArray, List.set_cons_zero, List.set_cons_succ]
      refine wpAnyH_ready (rs := [11]) (by kernel_rfl) (by simp) ?_
      refine AllReadyH.cons (o := { dst := some 90, op := Go.Op.call { callee := Go.Callee.value (Go.Operand.func 91), args := #[Go.Operand.tmp 89, Go.Operand.const (Go.Value.int Go.IntKind.u64 1)], argTypes := #[3, 39] }, type := 39, pos := "ref.go:62", after := #[{ on := 10, ground := Go.Ground.data }], guard := none }) rfl (fun K' hK => ?_) AllReadyH.nil
      rw [if_pos (by rfl)]
      go_wp2_with (go_at_call 91; refine (E1C.out _).mono ?_; rintro e we ⟨rfl, hwe⟩; rw [hwe]; clear hwe we)
      refine hK.out _ _ ((o_qM H5D.out)) (fun hH1 => ?_)
      clear hK K'
      try simp only [Act.put, List.setIfInBounds_toArray, List.set_cons_zero, List.set_cons_succ]
      refine wpAnyH_ready (rs := [12]) (by kernel_rfl) (by simp) ?_
      refine AllReadyH.cons (o := { dst := some 91, op := Go.Op.call { callee := Go.Callee.value (Go.Operand.func 90), args := #[Go.Operand.tmp 82, Go.Operand.tmp 88, Go.Operand.const (Go.Value.int Go.IntKind.i64 8), Go.Operand.tmp 90], argTypes := #[47, 39, 3, 39] }, type := 3, pos := "ref.go:62", after := #[{ on := 3, ground := Go.Ground.data }, { on := 9, ground := Go.Ground.data }, { on := 11, ground := Go.Ground.data }, { on := 11, ground := Go.Ground.chain }], guard := none }) rfl (fun K' hK => ?_) AllReadyH.nil
      rw [if_pos (by rfl)]
      go_wp2_with (go_at_call 90; refine (S1C.out _ H5D.out).mono ?_; rintro e v6 ⟨rfl, hst⟩; have H6 := Lib.hid hst; clear hst)
      refine hK.out _ _ (o_qM H6.out) (fun hHs => ?_)
      clear hK K'
      try simp only [Act.put, List.setIfInBounds_toArray, List.set_cons_zero, List.set_cons_succ]
      refine wpAnyH_done (by kernel_rfl) ?_ _
      go_upto_region 24 with (first
        | (go_at_call 10; refine (LFC.out _ H6.out).mono ?_; rintro e wk ⟨rfl, hwk⟩; rw [hwk]; clear hwk wk)
        | (go_at_call 28; refine (T2C.out _ H6.out).mono ?_; rintro e v7 ⟨rfl, h7⟩; have H7 := Lib.hid h7; clear h7))
      have H7D := Lib.hid (H7.out.drew (SQ.out (takeX fi z1)))
      refine wp_region_held_drew (S := fun w' => w'.cell? ⟨rp, 0, none⟩ = some (.pointer (some ⟨rb, 0, none⟩))) (by kernel_rfl) (o_qM H7D.out) (fun hH => ?_)
      try simp only [Act.put, List.setIfInBounds_toArray, List.set_cons_zero, List.set_cons_succ]
      refine wpAnyH_take (i := 0) (oi := { dst := some 99, op := Go.Op.move (Go.Operand.tmp 0), type := 26, pos := "ref.go:66", after := #[], guard := none }) (v := .pointer (some ⟨rp, 0, none⟩)) rfl (by kernel_rfl) (by kernel_rfl) (by kernel_rfl) (fun _ _ _ h => h) (Or.inl ⟨by rfl, fun w' hS' => by first | rfl | (go_simp; done) | (go_simp; rfl)⟩) (o_qM H7D.out) ?_
      try simp only [Act.put, List.setIfInBounds_toArray, List.set_cons_zero, List.set_cons_succ]
      refine wpAnyH_take (i := 1) (oi := { dst := some 100, op := Go.Op.nilCheck (Go.Operand.tmp 99), type := 0, pos := "ref.go:66", after := #[{ on := 0, ground := Go.Ground.data }], guard := none }) (v := .pointer (some ⟨rp, 0, none⟩)) rfl (by kernel_rfl) (by kernel_rfl) (by kernel_rfl) (fun _ _ _ h => h) (Or.inl ⟨by rfl, fun w' hS' => by first | rfl | (go_simp; done) | (go_simp; rfl)⟩) (o_qM H7D.out) ?_
      try simp only [Act.put, List.setIfInBounds_toArray, List.set_cons_zero, List.set_cons_succ]
      refine wpAnyH_take (i := 2) (oi := { dst := some 101, op := Go.Op.fieldAddr 50 (Go.Operand.tmp 100) 0, type := 0, pos := "ref.go:66", after := #[{ on := 1, ground := Go.Ground.data }], guard := none }) (v := .pointer (some ⟨rp, 0, none⟩)) rfl (by kernel_rfl) (by kernel_rfl) (by kernel_rfl) (fun _ _ _ h => h) (Or.inl ⟨by rfl, fun w' hS' => by first | rfl | (go_simp; done) | (go_simp; rfl)⟩) (o_qM H7D.out) ?_
      try simp only [Act.put, List.setIfInBounds_toArray, List.set_cons_zero, List.set_cons_succ]
      refine wpAnyH_take (i := 3) (oi := { dst := some 102, op := Go.Op.load 47 (Go.Operand.tmp 101), type := 47, pos := "ref.go:66", after := #[{ on := 2, ground := Go.Ground.data }], guard := none }) (v := .pointer (some ⟨rb, 0, none⟩)) rfl (by kernel_rfl) (by kernel_rfl) (by kernel_rfl) (fun _ _ _ h => h) (Or.inl ⟨by rfl, fun w' hS' => by go_simp⟩) (o_qM H7D.out) ?_
      try simp only [Act.put, List.setIfInBounds_toArray, List.set_cons_zero, List.set_cons_succ]
      refine wpAnyH_take (i := 4) (oi := { dst := some 103, op := Go.Op.move (Go.Operand.tmp 13), type := 3, pos := "ref.go:66", after := #[], guard := none }) (v := .int .i64 (v1 : Int)) rfl (by kernel_rfl) (by kernel_rfl) (by kernel_rfl) (fun _ _ _ h => h) (Or.inl ⟨by rfl, fun w' hS' => by first | rfl | (go_simp; done) | (go_simp; rfl)⟩) (o_qM H7D.out) ?_
      try simp only [Act.put, List.setIfInBounds_toArray, List.set_cons_zero, List.set_cons_succ]
      refine wpAnyH_take (i := 5) (oi := { dst := some 104, op := Go.Op.binOp Go.BinOp.mul 3 (Go.Operand.const (Go.Value.int Go.IntKind.i64 256)) (Go.Operand.tmp 103) 3, type := 3, pos := "ref.go:66", after := #[{ on := 4, ground := Go.Ground.data }], guard := none }) (v := .int .i64 (256 * (v1 : Int))) rfl (by kernel_rfl) (by kernel_rfl) (by kernel_rfl) (fun _ _ _ h => h) (Or.inl ⟨by rfl, fun w' hS' => by first | rfl | (go_simp; done) | (go_simp; rfl)⟩) (o_qM H7D.out) ?_
      try simp only [Act.put, List.setIfInBounds_toArray, List.set_cons_zero, List.set_cons_succ]
      refine wpAnyH_take (i := 6) (oi := { dst := some 105, op := Go.Op.move (Go.Operand.tmp 11), type := 3, pos := "ref.go:66", after := #[], guard := none }) (v := .int .i64 (kb : Int)) rfl (by kernel_rfl) (by kernel_rfl) (by kernel_rfl) (fun _ _ _ h => h) (Or.inl ⟨by rfl, fun w' hS' => by first | rfl | (go_simp; done) | (go_simp; rfl)⟩) (o_qM H7D.out) ?_
      try simp only [Act.put, List.setIfInBounds_toArray, List.set_cons_zero, List.set_cons_succ]
      refine wpAnyH_take (i := 7) (oi := { dst := some 106, op := Go.Op.binOp Go.BinOp.mul 3 (Go.Operand.const (Go.Value.int Go.IntKind.i64 8)) (Go.Operand.tmp 105) 3, type := 3, pos := "ref.go:66", after := #[{ on := 6, ground := Go.Ground.data }], guard := none }) (v := .int .i64 (8 * (kb : Int))) rfl (by kernel_rfl) (by kernel_rfl) (by kernel_rfl) (fun _ _ _ h => h) (Or.inl ⟨by rfl, fun w' hS' => by first | rfl | (go_simp; done) | (go_simp; rfl)⟩) (o_qM H7D.out) ?_
      try simp only [Act.put, List.setIfInBounds_toArray, List.set_cons_zero, List.set_cons_succ]
      refine wpAnyH_take (i := 8) (oi := { dst := some 107, op := Go.Op.binOp Go.BinOp.add 3 (Go.Operand.tmp 104) (Go.Operand.tmp 106) 3, type := 3, pos := "ref.go:66", after := #[{ on := 5, ground := Go.Ground.data }, { on := 7, ground := Go.Ground.data }], guard := none }) (v := .int .i64 BB) rfl (by kernel_rfl) (by kernel_rfl) (by kernel_rfl) (fun _ _ _ h => h) (Or.inl ⟨by rfl, fun w' hS' => by first | rfl | (go_simp; done) | (go_simp; rfl)⟩) (o_qM H7D.out) ?_
      try simp only [Act.put, List.setIfInBounds_toArray, List.set_cons_zero, List.set_cons_succ]
      refine wpAnyH_take (i := 9) (oi := { dst := some 108, op := Go.Op.convert 3 39 (Go.Operand.tmp 107), type := 39, pos := "ref.go:66", after := #[{ on := 8, ground := Go.Ground.data }], guard := none }) (v := .int .u64 BB) rfl (by kernel_rfl) (by kernel_rfl) (by kernel_rfl) (fun _ _ _ h => h) (Or.inl ⟨by rfl, fun w' hS' => by first | rfl | (go_simp; done) | (go_simp; rfl)⟩) (o_qM H7D.out) ?_
      try simp only [Act.put, List.setIfInBounds_toArray, List.set_cons_zero, List.set_cons_succ]
      refine wpAnyH_take (i := 10) (oi := { dst := some 109, op := Go.Op.move (Go.Operand.tmp 14), type := 3, pos := "ref.go:66", after := #[], guard := none }) (v := .int .i64 (v0 : Int)) rfl (by kernel_rfl) (by kernel_rfl) (by kernel_rfl) (fun _ _ _ h => h) (Or.inl ⟨by rfl, fun w' hS' => by first | rfl | (go_simp; done) | (go_simp; rfl)⟩) (o_qM H7D.out) ?_
      try simp only [Act.put, List.setIfInBounds_toArray, List.set_cons_zero, List.set_cons_succ]
      refine wpAnyH_ready (rs := [11]) (by kernel_rfl) (by simp) ?_
      refine AllReadyH.cons (o := { dst := some 110, op := Go.Op.call { callee := Go.Callee.value (Go.Operand.func 91), args := #[Go.Operand.tmp 109, Go.Operand.const (Go.Value.int Go.IntKind.u64 1)], argTypes := #[3, 39] }, type := 39, pos := "ref.go:66", after := #[{ on := 10, ground := Go.Ground.data }], guard := none }) rfl (fun K' hK => ?_) AllReadyH.nil
      rw [if_pos (by rfl)]
      go_wp2_with (go_at_call 91; refine (E2C.out _).mono ?_; rintro e we ⟨rfl, hwe⟩; rw [hwe]; clear hwe we)
      refine hK.out _ _ ((o_qM H7D.out)) (fun hH1 => ?_)
      clear hK K'
      try simp only [Act.put, List.setIfInBounds_toArray, List.set_cons_zero, List.set_cons_succ]
      refine wpAnyH_ready (rs := [12]) (by kernel_rfl) (by simp) ?_
      refine AllReadyH.cons (o := { dst := some 111, op := Go.Op.call { callee := Go.Callee.value (Go.Operand.func 90), args := #[Go.Operand.tmp 102, Go.Operand.tmp 108, Go.Operand.const (Go.Value.int Go.IntKind.i64 8), Go.Operand.tmp 110], argTypes := #[47, 39, 3, 39] }, type := 3, pos := "ref.go:66", after := #[{ on := 3, ground := Go.Ground.data }, { on := 9, ground := Go.Ground.data }, { on := 11, ground := Go.Ground.data }, { on := 11, ground := Go.Ground.chain }], guard := none }) rfl (fun K' hK => ?_) AllReadyH.nil
      rw [if_pos (by rfl)]
      go_wp2_with (go_at_call 90; refine (S2C.out _ H7D.out).mono ?_; rintro e v8 ⟨rfl, hst⟩; have H8 := Lib.hid hst; clear hst)
      refine hK.out _ _ (o_qM H8.out) (fun hHs => ?_)
      clear hK K'
      try simp only [Act.put, List.setIfInBounds_toArray, List.set_cons_zero, List.set_cons_succ]
      refine wpAnyH_done (by kernel_rfl) ?_ _
      go_upto_region 26 with (first
        | (go_at_call 10; refine (LFC.out _ H8.out).mono ?_; rintro e wk ⟨rfl, hwk⟩; rw [hwk]; clear hwk wk)
        | (go_at_call 28; refine (T3C.out _ H8.out).mono ?_; rintro e v9 ⟨rfl, h9⟩; have H9 := Lib.hid h9; clear h9))
      have H9D := Lib.hid (H9.out.drew (SQ.out (takeX fi z2)))
      refine wp_region_held_drew (S := fun w' => w'.cell? ⟨rp, 0, none⟩ = some (.pointer (some ⟨rb, 0, none⟩))) (by kernel_rfl) (o_qM H9D.out) (fun hH => ?_)
      try simp only [Act.put, List.setIfInBounds_toArray, List.set_cons_zero, List.set_cons_succ]
      refine wpAnyH_take (i := 0) (oi := { dst := some 117, op := Go.Op.move (Go.Operand.tmp 0), type := 26, pos := "ref.go:69", after := #[], guard := none }) (v := .pointer (some ⟨rp, 0, none⟩)) rfl (by kernel_rfl) (by kernel_rfl) (by kernel_rfl) (fun _ _ _ h => h) (Or.inl ⟨by rfl, fun w' hS' => by first | rfl | (go_simp; done) | (go_simp; rfl)⟩) (o_qM H9D.out) ?_
      try simp only [Act.put, List.setIfInBounds_toArray, List.set_cons_zero, List.set_cons_succ]
      refine wpAnyH_take (i := 1) (oi := { dst := some 118, op := Go.Op.nilCheck (Go.Operand.tmp 117), type := 0, pos := "ref.go:69", after := #[{ on := 0, ground := Go.Ground.data }], guard := none }) (v := .pointer (some ⟨rp, 0, none⟩)) rfl (by kernel_rfl) (by kernel_rfl) (by kernel_rfl) (fun _ _ _ h => h) (Or.inl ⟨by rfl, fun w' hS' => by first | rfl | (go_simp; done) | (go_simp; rfl)⟩) (o_qM H9D.out) ?_
      try simp only [Act.put, List.setIfInBounds_toArray, List.set_cons_zero, List.set_cons_succ]
      refine wpAnyH_take (i := 2) (oi := { dst := some 119, op := Go.Op.fieldAddr 50 (Go.Operand.tmp 118) 0, type := 0, pos := "ref.go:69", after := #[{ on := 1, ground := Go.Ground.data }], guard := none }) (v := .pointer (some ⟨rp, 0, none⟩)) rfl (by kernel_rfl) (by kernel_rfl) (by kernel_rfl) (fun _ _ _ h => h) (Or.inl ⟨by rfl, fun w' hS' => by first | rfl | (go_simp; done) | (go_simp; rfl)⟩) (o_qM H9D.out) ?_
      try simp only [Act.put, List.setIfInBounds_toArray, List.set_cons_zero, List.set_cons_succ]
      refine wpAnyH_take (i := 3) (oi := { dst := some 120, op := Go.Op.load 47 (Go.Operand.tmp 119), type := 47, pos := "ref.go:69", after := #[{ on := 2, ground := Go.Ground.data }], guard := none }) (v := .pointer (some ⟨rb, 0, none⟩)) rfl (by kernel_rfl) (by kernel_rfl) (by kernel_rfl) (fun _ _ _ h => h) (Or.inl ⟨by rfl, fun w' hS' => by go_simp⟩) (o_qM H9D.out) ?_
      try simp only [Act.put, List.setIfInBounds_toArray, List.set_cons_zero, List.set_cons_succ]
      refine wpAnyH_take (i := 4) (oi := { dst := some 121, op := Go.Op.move (Go.Operand.tmp 14), type := 3, pos := "ref.go:69", after := #[], guard := none }) (v := .int .i64 (v0 : Int)) rfl (by kernel_rfl) (by kernel_rfl) (by kernel_rfl) (fun _ _ _ h => h) (Or.inl ⟨by rfl, fun w' hS' => by first | rfl | (go_simp; done) | (go_simp; rfl)⟩) (o_qM H9D.out) ?_
      try simp only [Act.put, List.setIfInBounds_toArray, List.set_cons_zero, List.set_cons_succ]
      refine wpAnyH_take (i := 5) (oi := { dst := some 122, op := Go.Op.binOp Go.BinOp.mul 3 (Go.Operand.const (Go.Value.int Go.IntKind.i64 256)) (Go.Operand.tmp 121) 3, type := 3, pos := "ref.go:69", after := #[{ on := 4, ground := Go.Ground.data }], guard := none }) (v := .int .i64 (256 * (v0 : Int))) rfl (by kernel_rfl) (by kernel_rfl) (by kernel_rfl) (fun _ _ _ h => h) (Or.inl ⟨by rfl, fun w' hS' => by first | rfl | (go_simp; done) | (go_simp; rfl)⟩) (o_qM H9D.out) ?_
      try simp only [Act.put, List.setIfInBounds_toArray, List.set_cons_zero, List.set_cons_succ]
      refine wpAnyH_take (i := 6) (oi := { dst := some 123, op := Go.Op.move (Go.Operand.tmp 12), type := 3, pos := "ref.go:69", after := #[], guard := none }) (v := .int .i64 (kc : Int)) rfl (by kernel_rfl) (by kernel_rfl) (by kernel_rfl) (fun _ _ _ h => h) (Or.inl ⟨by rfl, fun w' hS' => by first | rfl | (go_simp; done) | (go_simp; rfl)⟩) (o_qM H9D.out) ?_
      try simp only [Act.put, List.setIfInBounds_toArray, List.set_cons_zero, List.set_cons_succ]
      refine wpAnyH_take (i := 7) (oi := { dst := some 124, op := Go.Op.binOp Go.BinOp.mul 3 (Go.Operand.const (Go.Value.int Go.IntKind.i64 8)) (Go.Operand.tmp 123) 3, type := 3, pos := "ref.go:69", after := #[{ on := 6, ground := Go.Ground.data }], guard := none }) (v := .int .i64 (8 * (kc : Int))) rfl (by kernel_rfl) (by kernel_rfl) (by kernel_rfl) (fun _ _ _ h => h) (Or.inl ⟨by rfl, fun w' hS' => by first | rfl | (go_simp; done) | (go_simp; rfl)⟩) (o_qM H9D.out) ?_
      try simp only [Act.put, List.setIfInBounds_toArray, List.set_cons_zero, List.set_cons_succ]
      refine wpAnyH_take (i := 8) (oi := { dst := some 125, op := Go.Op.binOp Go.BinOp.add 3 (Go.Operand.tmp 122) (Go.Operand.tmp 124) 3, type := 3, pos := "ref.go:69", after := #[{ on := 5, ground := Go.Ground.data }, { on := 7, ground := Go.Ground.data }], guard := none }) (v := .int .i64 CC) rfl (by kernel_rfl) (by kernel_rfl) (by kernel_rfl) (fun _ _ _ h => h) (Or.inl ⟨by rfl, fun w' hS' => by first | rfl | (go_simp; done) | (go_simp; rfl)⟩) (o_qM H9D.out) ?_
      try simp only [Act.put, List.setIfInBounds_toArray, List.set_cons_zero, List.set_cons_succ]
      refine wpAnyH_take (i := 9) (oi := { dst := some 126, op := Go.Op.convert 3 39 (Go.Operand.tmp 125), type := 39, pos := "ref.go:69", after := #[{ on := 8, ground := Go.Ground.data }], guard := none }) (v := .int .u64 CC) rfl (by kernel_rfl) (by kernel_rfl) (by kernel_rfl) (fun _ _ _ h => h) (Or.inl ⟨by rfl, fun w' hS' => by first | rfl | (go_simp; done) | (go_simp; rfl)⟩) (o_qM H9D.out) ?_
      try simp only [Act.put, List.setIfInBounds_toArray, List.set_cons_zero, List.set_cons_succ]
      refine wpAnyH_take (i := 10) (oi := { dst := some 127, op := Go.Op.move (Go.Operand.tmp 15), type := 3, pos := "ref.go:69", after := #[], guard := none }) (v := .int .i64 (n : Int)) rfl (by kernel_rfl) (by kernel_rfl) (by kernel_rfl) (fun _ _ _ h => h) (Or.inl ⟨by rfl, fun w' hS' => by first | rfl | (go_simp; done) | (go_simp; rfl)⟩) (o_qM H9D.out) ?_
      try simp only [Act.put, List.setIfInBounds_toArray, List.set_cons_zero, List.set_cons_succ]
      refine wpAnyH_take (i := 11) (oi := { dst := some 128, op := Go.Op.move (Go.Operand.tmp 3), type := 39, pos := "ref.go:69", after := #[], guard := none }) (v := .int .u64 (b : Int)) rfl (by kernel_rfl) (by kernel_rfl) (by kernel_rfl) (fun _ _ _ h => h) (Or.inl ⟨by rfl, fun w' hS' => by first | rfl | (go_simp; done) | (go_simp; rfl)⟩) (o_qM H9D.out) ?_
      try simp only [Act.put, List.setIfInBounds_toArray, List.set_cons_zero, List.set_cons_succ]
      refine wpAnyH_ready (rs := [12]) (by kernel_rfl) (by simp) ?_
      refine AllReadyH.cons (o := { dst := some 129, op := Go.Op.call { callee := Go.Callee.value (Go.Operand.func 91), args := #[Go.Operand.tmp 127, Go.Operand.tmp 128], argTypes := #[3, 39] }, type := 39, pos := "ref.go:69", after := #[{ on := 10, ground := Go.Ground.data }, { on := 11, ground := Go.Ground.data }], guard := none }) rfl (fun K' hK => ?_) AllReadyH.nil
      rw [if_pos (by rfl)]
      go_wp2_with (go_at_call 91; refine (E3C.out _).mono ?_; rintro e we ⟨rfl, hwe⟩; rw [hwe]; clear hwe we)
      refine hK.out _ _ ((o_qM H9D.out)) (fun hH1 => ?_)
      clear hK K'
      try simp only [Act.put, List.setIfInBounds_toArray, List.set_cons_zero, List.set_cons_succ]
      refine wpAnyH_ready (rs := [13]) (by kernel_rfl) (by simp) ?_
      refine AllReadyH.cons (o := { dst := some 130, op := Go.Op.call { callee := Go.Callee.value (Go.Operand.func 90), args := #[Go.Operand.tmp 120, Go.Operand.tmp 126, Go.Operand.const (Go.Value.int Go.IntKind.i64 8), Go.Operand.tmp 129], argTypes := #[47, 39, 3, 39] }, type := 3, pos := "ref.go:69", after := #[{ on := 3, ground := Go.Ground.data }, { on := 9, ground := Go.Ground.data }, { on := 12, ground := Go.Ground.data }, { on := 12, ground := Go.Ground.chain }], guard := none }) rfl (fun K' hK => ?_) AllReadyH.nil
      rw [if_pos (by rfl)]
      go_wp2_with (go_at_call 90; refine (S3C.out _ H9D.out).mono ?_; rintro e vz ⟨rfl, hst⟩; have HZZ := Lib.hid hst; clear hst)
      refine hK.out _ _ (o_qM HZZ.out) (fun hHs => ?_)
      clear hK K'
      try simp only [Act.put, List.setIfInBounds_toArray, List.set_cons_zero, List.set_cons_succ]
      refine wpAnyH_done (by kernel_rfl) ?_ _
      go_wp2_with fail
      go_ret
      exact ⟨rfl, HZZ.out⟩
  obtain ⟨e2⟩ | ⟨t0, e2⟩ : (pth z r 2 q32 = none) ∨ (∃ t, pth z r 2 q32 = some t) := by cases pth z r 2 q32 with | none => exact .inl rfl | some t => exact .inr ⟨t, rfl⟩
  · skip
    have l1 := hA1
    have l2 := hA2
    rw [e1] at l1
    rw [e2] at l2
    replace l1 : _ = A1 := l1
    replace l2 : _ = A2 := l2
    subst l1; subst l2
    show Calls Tryz.prog _ _ w _
    rw [e1, e2] at hE2 GO
    clear hA1 hA2
    have s1 : ¬ (t1 : Int) < 0 := by omega
    have s2 : (-1 : Int) < 0 := by decide
    rw [show lack (some t1) = 0 from rfl, show lack none = 1 from rfl] at hE2 GO
    have N1 : RowKit.Hid (Calls Tryz.prog 36 #[.pointer (some ⟨rp, 0, none⟩), .int .i64 (r : Int), .int .i64 (ka : Int)] w fun e w' => e = .returned (.int .i64 (t1 : Int)) ∧ Own w0 w' (Star (rpA rp rb fi z.L z.s) R)) := Lib.hid N1.out
    have N2 : RowKit.Hid (∀ w, Own w0 w (Star (rpA rp rb fi z.L z.s) R) → Calls Tryz.prog 36 #[.pointer (some ⟨rp, 0, none⟩), .int .i64 (t1 : Int), .int .i64 (kb : Int)] w fun e w' => e = .returned (.int .i64 (-1 : Int)) ∧ Own w0 w' (Star (rpA rp rb fi z.L z.s) R)) := Lib.hid N2.out
    have N3 : RowKit.Hid (∀ w, Own w0 w (Star (rpA rp rb fi z.L z.s) R) → Calls Tryz.prog 36 #[.pointer (some ⟨rp, 0, none⟩), .int .i64 (-1 : Int), .int .i64 (kc : Int)] w fun e w' => e = .returned (.int .i64 (-1)) ∧ Own w0 w' (Star (rpA rp rb fi z.L z.s) R)) := Lib.hid N3.out
    by_cases hfull : LF < 2
    · obtain ⟨f1, f2⟩ := hE2 (by omega)
      subst f1; subst f2
      clear hE2 GO TKX ENX STX HE HZ
      go_enter Tryz.func68, Tryz.ntmps68
      go_upto_region 7 with (go_at_call 89; refine TK.out.mono ?_; rintro e wk ⟨rfl, hwk⟩; rw [hwk]; clear hwk wk)
      go_upto_region 8 with (go_at_call 36; refine N1.out.mono ?_; rintro e v2 ⟨rfl, h2⟩; have H2 := Lib.hid h2; clear h2)
      go_upto_region 9 with (go_at_call 36; refine (N2.out _ H2.out).mono ?_; rintro e v3 ⟨rfl, h3⟩; have H3 := Lib.hid h3; clear h3)
      go_upto_region 10 with (go_at_call 36; refine (N3.out _ H3.out).mono ?_; rintro e v4 ⟨rfl, h4⟩; have H4 := Lib.hid h4; clear h4)
      clear N1 N2 N3 H2 H3 TK
      go_wp2_with (go_at_call 10; refine (LFC.out _ H4.out).mono ?_; rintro e wk ⟨rfl, hwk⟩; rw [hwk]; clear hwk wk)
      go_ret
      exact ⟨rfl, H4.out⟩
    · obtain ⟨v1, v0, n, z1, z2, b1, b0, bn, c1, c2, c3, c4, hn, hX, hY⟩ := GO.out (by omega)
      obtain ⟨p1, p2⟩ := c2 t1 rfl
      subst p1; subst p2
      obtain ⟨p3, p4⟩ := c3 rfl
      have g1 := HE.out
      have g2 := HZ.out
      rw [hY] at g1
      rw [hX] at g2
      subst g1
      clear hE2 GO HE HZ c1 c2 c3 c4 hX hY
      obtain ⟨BB, hBB⟩ : ∃ A : Int, ((t1 * 256 + kb * 8 : Nat) : Int) = A := ⟨_, rfl⟩
      have aBB : 256 * (t1 : Int) + 8 * (kb : Int) = BB := by omega
      have xBB : IntKind.i64.wrap (256 * (t1 : Int)) = 256 * (t1 : Int) := wrapI _ (by omega) (by omega)
      have yBB : IntKind.i64.wrap (8 * (kb : Int)) = 8 * (kb : Int) := wrapI _ (by omega) (by omega)
      have zBB : IntKind.i64.wrap (256 * (t1 : Int) + 8 * (kb : Int)) = BB := by rw [aBB]; exact wrapI _ (by omega) (by omega)
      have uBB : IntKind.u64.wrap BB = BB := wrapU _ (by omega) (by omega)
      have qBB : IntKind.i64.wrap BB = BB := wrapI _ (by omega) (by omega)
      have T2C := Lib.hid (fun w h => TKX.out z1 (v0 : Int) p4 w h)
      have E2C := Lib.hid (fun w => ENX.out v0 1 b0 (by decide) w)
      have S2C := Lib.hid (fun w h => STX.out (takeX fi z1) t1 kb v0 1 BB (by omega) (by omega) b0 (by decide) hBB w h)
      rw [hBB] at p3
      rw [show ((1 : Nat) : Int) = 1 from rfl, ← p3] at S2C
      obtain ⟨CC, hCC⟩ : ∃ A : Int, ((v0 * 256 + kc * 8 : Nat) : Int) = A := ⟨_, rfl⟩
      have aCC : 256 * (v0 : Int) + 8 * (kc : Int) = CC := by omega
      have xCC : IntKind.i64.wrap (256 * (v0 : Int)) = 256 * (v0 : Int) := wrapI _ (by omega) (by omega)
      have yCC : IntKind.i64.wrap (8 * (kc : Int)) = 8 * (kc : Int) := wrapI _ (by omega) (by omega)
      have zCC : IntKind.i64.wrap (256 * (v0 : Int) + 8 * (kc : Int)) = CC := by rw [aCC]; exact wrapI _ (by omega) (by omega)
      have uCC : IntKind.u64.wrap CC = CC := wrapU _ (by omega) (by omega)
      have qCC : IntKind.i64.wrap CC = CC := wrapI _ (by omega) (by omega)
      have T3C := Lib.hid (fun w h => TKX.out z2 (n : Int) hn w h)
      have E3C := Lib.hid (fun w => ENX.out n b bn hb2 w)
      have S3C := Lib.hid (fun w h => STX.out (takeX fi z2) v0 kc n b CC (by omega) (by omega) bn hb2 hCC w h)
      rw [hCC] at g2
      rw [g2] at S3C
      clear TKX ENX STX g2
      go_enter Tryz.func68, Tryz.ntmps68
      go_upto_region 7 with (go_at_call 89; refine TK.out.mono ?_; rintro e wk ⟨rfl, hwk⟩; rw [hwk]; clear hwk wk)
      go_upto_region 8 with (go_at_call 36; refine N1.out.mono ?_; rintro e v2 ⟨rfl, h2⟩; have H2 := Lib.hid h2; clear h2)
      go_upto_region 9 with (go_at_call 36; refine (N2.out _ H2.out).mono ?_; rintro e v3 ⟨rfl, h3⟩; have H3 := Lib.hid h3; clear h3)
      go_upto_region 10 with (go_at_call 36; refine (N3.out _ H3.out).mono ?_; rintro e v4 ⟨rfl, h4⟩; have H4 := Lib.hid h4; clear h4)
      clear N1 N2 N3 H2 H3 TK
      go_upto_region 24 with (first
        | (go_at_call 10; refine (LFC.out _ H4.out).mono ?_; rintro e wk ⟨rfl, hwk⟩; rw [hwk]; clear hwk wk)
        | (go_at_call 28; refine (T2C.out _ H4.out).mono ?_; rintro e v7 ⟨rfl, h7⟩; have H7 := Lib.hid h7; clear h7))
      have H7D := Lib.hid (H7.out.drew (SQ.out (takeX fi z1)))
      refine wp_region_held_drew (S := fun w' => w'.cell? ⟨rp, 0, none⟩ = some (.pointer (some ⟨rb, 0, none⟩))) (by kernel_rfl) (o_qM H7D.out) (fun hH => ?_)
      try simp only [Act.put, List.setIfInBounds_toArray, List.set_cons_zero, List.set_cons_succ]
      refine wpAnyH_take (i := 0) (oi := { dst := some 99, op := Go.Op.move (Go.Operand.tmp 0), type := 26, pos := "ref.go:66", after := #[], guard := none }) (v := .pointer (some ⟨rp, 0, none⟩)) rfl (by kernel_rfl) (by kernel_rfl) (by kernel_rfl) (fun _ _ _ h => h) (Or.inl ⟨by rfl, fun w' hS' => by first | rfl | (go_simp; done) | (go_simp; rfl)⟩) (o_qM H7D.out) ?_
      try simp only [Act.put, List.setIfInBounds_toArray, List.set_cons_zero, List.set_cons_succ]
      refine wpAnyH_take (i := 1) (oi := { dst := some 100, op := Go.Op.nilCheck (Go.Operand.tmp 99), type := 0, pos := "ref.go:66", after := #[{ on := 0, ground := Go.Ground.data }], guard := none }) (v := .pointer (some ⟨rp, 0, none⟩)) rfl (by kernel_rfl) (by kernel_rfl) (by kernel_rfl) (fun _ _ _ h => h) (Or.inl ⟨by rfl, fun w' hS' => by first | rfl | (go_simp; done) | (go_simp; rfl)⟩) (o_qM H7D.out) ?_
      try simp only [Act.put, List.setIfInBounds_toArray, List.set_cons_zero, List.set_cons_succ]
      refine wpAnyH_take (i := 2) (oi := { dst := some 101, op := Go.Op.fieldAddr 50 (Go.Operand.tmp 100) 0, type := 0, pos := "ref.go:66", after := #[{ on := 1, ground := Go.Ground.data }], guard := none }) (v := .pointer (some ⟨rp, 0, none⟩)) rfl (by kernel_rfl) (by kernel_rfl) (by kernel_rfl) (fun _ _ _ h => h) (Or.inl ⟨by rfl, fun w' hS' => by first | rfl | (go_simp; done) | (go_simp; rfl)⟩) (o_qM H7D.out) ?_
      try simp only [Act.put, List.setIfInBounds_toArray, List.set_cons_zero, List.set_cons_succ]
      refine wpAnyH_take (i := 3) (oi := { dst := some 102, op := Go.Op.load 47 (Go.Operand.tmp 101), type := 47, pos := "ref.go:66", after := #[{ on := 2, ground := Go.Ground.data }], guard := none }) (v := .pointer (some ⟨rb, 0, none⟩)) rfl (by kernel_rfl) (by kernel_rfl) (by kernel_rfl) (fun _ _ _ h => h) (Or.inl ⟨by rfl, fun w' hS' => by go_simp⟩) (o_qM H7D.out) ?_
      try simp only [Act.put, List.setIfInBounds_toArray, List.set_cons_zero, List.set_cons_succ]
      refine wpAnyH_take (i := 4) (oi := { dst := some 103, op := Go.Op.move (Go.Operand.tmp 13), type := 3, pos := "ref.go:66", after := #[], guard := none }) (v := .int .i64 (t1 : Int)) rfl (by kernel_rfl) (by kernel_rfl) (by kernel_rfl) (fun _ _ _ h => h) (Or.inl ⟨by rfl, fun w' hS' => by first | rfl | (go_simp; done) | (go_simp; rfl)⟩) (o_qM H7D.out) ?_
      try simp only [Act.put, List.setIfInBounds_toArray, List.set_cons_zero, List.set_cons_succ]
      refine wpAnyH_take (i := 5) (oi := { dst := some 104, op := Go.Op.binOp Go.BinOp.mul 3 (Go.Operand.const (Go.Value.int Go.IntKind.i64 256)) (Go.Operand.tmp 103) 3, type := 3, pos := "ref.go:66", after := #[{ on := 4, ground := Go.Ground.data }], guard := none }) (v := .int .i64 (256 * (t1 : Int))) rfl (by kernel_rfl) (by kernel_rfl) (by kernel_rfl) (fun _ _ _ h => h) (Or.inl ⟨by rfl, fun w' hS' => by first | rfl | (go_simp; done) | (go_simp; rfl)⟩) (o_qM H7D.out) ?_
      try simp only [Act.put, List.setIfInBounds_toArray, List.set_cons_zero, List.set_cons_succ]
      refine wpAnyH_take (i := 6) (oi := { dst := some 105, op := Go.Op.move (Go.Operand.tmp 11), type := 3, pos := "ref.go:66", after := #[], guard := none }) (v := .int .i64 (kb : Int)) rfl (by kernel_rfl) (by kernel_rfl) (by kernel_rfl) (fun _ _ _ h => h) (Or.inl ⟨by rfl, fun w' hS' => by first | rfl | (go_simp; done) | (go_simp; rfl)⟩) (o_qM H7D.out) ?_
      try simp only [Act.put, List.setIfInBounds_toArray, List.set_cons_zero, List.set_cons_succ]
      refine wpAnyH_take (i := 7) (oi := { dst := some 106, op := Go.Op.binOp Go.BinOp.mul 3 (Go.Operand.const (Go.Value.int Go.IntKind.i64 8)) (Go.Operand.tmp 105) 3, type := 3, pos := "ref.go:66", after := #[{ on := 6, ground := Go.Ground.data }], guard := none }) (v := .int .i64 (8 * (kb : Int))) rfl (by kernel_rfl) (by kernel_rfl) (by kernel_rfl) (fun _ _ _ h => h) (Or.inl ⟨by rfl, fun w' hS' => by first | rfl | (go_simp; done) | (go_simp; rfl)⟩) (o_qM H7D.out) ?_
      try simp only [Act.put, List.setIfInBounds_toArray, List.set_cons_zero, List.set_cons_succ]
      refine wpAnyH_take (i := 8) (oi := { dst := some 107, op := Go.Op.binOp Go.BinOp.add 3 (Go.Operand.tmp 104) (Go.Operand.tmp 106) 3, type := 3, pos := "ref.go:66", after := #[{ on := 5, ground := Go.Ground.data }, { on := 7, ground := Go.Ground.data }], guard := none }) (v := .int .i64 BB) rfl (by kernel_rfl) (by kernel_rfl) (by kernel_rfl) (fun _ _ _ h => h) (Or.inl ⟨by rfl, fun w' hS' => by first | rfl | (go_simp; done) | (go_simp; rfl)⟩) (o_qM H7D.out) ?_
      try simp only [Act.put, List.setIfInBounds_toArray, List.set_cons_zero, List.set_cons_succ]
      refine wpAnyH_take (i := 9) (oi := { dst := some 108, op := Go.Op.convert 3 39 (Go.Operand.tmp 107), type := 39, pos := "ref.go:66", after := #[{ on := 8, ground := Go.Ground.data }], guard := none }) (v := .int .u64 BB) rfl (by kernel_rfl) (by kernel_rfl) (by kernel_rfl) (fun _ _ _ h => h) (Or.inl ⟨by rfl, fun w' hS' => by first | rfl | (go_simp; done) | (go_simp; rfl)⟩) (o_qM H7D.out) ?_
      try simp only [Act.put, List.setIfInBounds_toArray, List.set_cons_zero, List.set_cons_succ]
      refine wpAnyH_take (i := 10) (oi := { dst := some 109, op := Go.Op.move (Go.Operand.tmp 14), type := 3, pos := "ref.go:66", after := #[], guard := none }) (v := .int .i64 (v0 : Int)) rfl (by kernel_rfl) (by kernel_rfl) (by kernel_rfl) (fun _ _ _ h => h) (Or.inl ⟨by rfl, fun w' hS' => by first | rfl | (go_simp; done) | (go_simp; rfl)⟩) (o_qM H7D.out) ?_
      try simp only [Act.put, List.setIfInBounds_toArray, List.set_cons_zero, List.set_cons_succ]
      refine wpAnyH_ready (rs := [11]) (by kernel_rfl) (by simp) ?_
      refine AllReadyH.cons (o := { dst := some 110, op := Go.Op.call { callee := Go.Callee.value (Go.Operand.func 91), args := #[Go.Operand.tmp 109, Go.Operand.const (Go.Value.int Go.IntKind.u64 1)], argTypes := #[3, 39] }, type := 39, pos := "ref.go:66", after := #[{ on := 10, ground := Go.Ground.data }], guard := none }) rfl (fun K' hK => ?_) AllReadyH.nil
      rw [if_pos (by rfl)]
      go_wp2_with (go_at_call 91; refine (E2C.out _).mono ?_; rintro e we ⟨rfl, hwe⟩; rw [hwe]; clear hwe we)
      refine hK.out _ _ ((o_qM H7D.out)) (fun hH1 => ?_)
      clear hK K'
      try simp only [Act.put, List.setIfInBounds_toArray, List.set_cons_zero, List.set_cons_succ]
      refine wpAnyH_ready (rs := [12]) (by kernel_rfl) (by simp) ?_
      refine AllReadyH.cons (o := { dst := some 111, op := Go.Op.call { callee := Go.Callee.value (Go.Operand.func 90), args := #[Go.Operand.tmp 102, Go.Operand.tmp 108, Go.Operand.const (Go.Value.int Go.IntKind.i64 8), Go.Operand.tmp 110], argTypes := #[47, 39, 3, 39] }, type := 3, pos := "ref.go:66", after := #[{ on := 3, ground := Go.Ground.data }, { on := 9, ground := Go.Ground.data }, { on := 11, ground := Go.Ground.data }, { on := 11, ground := Go.Ground.chain }], guard := none }) rfl (fun K' hK => ?_) AllReadyH.nil
      rw [if_pos (by rfl)]
      go_wp2_with (go_at_call 90; refine (S2C.out _ H7D.out).mono ?_; rintro e v8 ⟨rfl, hst⟩; have H8 := Lib.hid hst; clear hst)
      refine hK.out _ _ (o_qM H8.out) (fun hHs => ?_)
      clear hK K'
      try simp only [Act.put, List.setIfInBounds_toArray, List.set_cons_zero, List.set_cons_succ]
      refine wpAnyH_done (by kernel_rfl) ?_ _
      go_upto_region 26 with (first
        | (go_at_call 10; refine (LFC.out _ H8.out).mono ?_; rintro e wk ⟨rfl, hwk⟩; rw [hwk]; clear hwk wk)
        | (go_at_call 28; refine (T3C.out _ H8.out).mono ?_; rintro e v9 ⟨rfl, h9⟩; have H9 := Lib.hid h9; clear h9))
      have H9D := Lib.hid (H9.out.drew (SQ.out (takeX fi z2)))
      refine wp_region_held_drew (S := fun w' => w'.cell? ⟨rp, 0, none⟩ = some (.pointer (some ⟨rb, 0, none⟩))) (by kernel_rfl) (o_qM H9D.out) (fun hH => ?_)
      try simp only [Act.put, List.setIfInBounds_toArray, List.set_cons_zero, List.set_cons_succ]
      refine wpAnyH_take (i := 0) (oi := { dst := some 117, op := Go.Op.move (Go.Operand.tmp 0), type := 26, pos := "ref.go:69", after := #[], guard := none }) (v := .pointer (some ⟨rp, 0, none⟩)) rfl (by kernel_rfl) (by kernel_rfl) (by kernel_rfl) (fun _ _ _ h => h) (Or.inl ⟨by rfl, fun w' hS' => by first | rfl | (go_simp; done) | (go_simp; rfl)⟩) (o_qM H9D.out) ?_
      try simp only [Act.put, List.setIfInBounds_toArray, List.set_cons_zero, List.set_cons_succ]
      refine wpAnyH_take (i := 1) (oi := { dst := some 118, op := Go.Op.nilCheck (Go.Operand.tmp 117), type := 0, pos := "ref.go:69", after := #[{ on := 0, ground := Go.Ground.data }], guard := none }) (v := .pointer (some ⟨rp, 0, none⟩)) rfl (by kernel_rfl) (by kernel_rfl) (by kernel_rfl) (fun _ _ _ h => h) (Or.inl ⟨by rfl, fun w' hS' => by first | rfl | (go_simp; done) | (go_simp; rfl)⟩) (o_qM H9D.out) ?_
      try simp only [Act.put, List.setIfInBounds_toArray, List.set_cons_zero, List.set_cons_succ]
      refine wpAnyH_take (i := 2) (oi := { dst := some 119, op := Go.Op.fieldAddr 50 (Go.Operand.tmp 118) 0, type := 0, pos := "ref.go:69", after := #[{ on := 1, ground := Go.Ground.data }], guard := none }) (v := .pointer (some ⟨rp, 0, none⟩)) rfl (by kernel_rfl) (by kernel_rfl) (by kernel_rfl) (fun _ _ _ h => h) (Or.inl ⟨by rfl, fun w' hS' => by first | rfl | (go_simp; done) | (go_simp; rfl)⟩) (o_qM H9D.out) ?_
      try simp only [Act.put, List.setIfInBounds_toArray, List.set_cons_zero, List.set_cons_succ]
      refine wpAnyH_take (i := 3) (oi := { dst := some 120, op := Go.Op.load 47 (Go.Operand.tmp 119), type := 47, pos := "ref.go:69", after := #[{ on := 2, ground := Go.Ground.data }], guard := none }) (v := .pointer (some ⟨rb, 0, none⟩)) rfl (by kernel_rfl) (by kernel_rfl) (by kernel_rfl) (fun _ _ _ h => h) (Or.inl ⟨by rfl, fun w' hS' => by go_simp⟩) (o_qM H9D.out) ?_
      try simp only [Act.put, List.setIfInBounds_toArray, List.set_cons_zero, List.set_cons_succ]
      refine wpAnyH_take (i := 4) (oi := { dst := some 121, op := Go.Op.move (Go.Operand.tmp 14), type := 3, pos := "ref.go:69", after := #[], guard := none }) (v := .int .i64 (v0 : Int)) rfl (by kernel_rfl) (by kernel_rfl) (by kernel_rfl) (fun _ _ _ h => h) (Or.inl ⟨by rfl, fun w' hS' => by first | rfl | (go_simp; done) | (go_simp; rfl)⟩) (o_qM H9D.out) ?_
      try simp only [Act.put, List.setIfInBounds_toArray, List.set_cons_zero, List.set_cons_succ]
      refine wpAnyH_take (i := 5) (oi := { dst := some 122, op := Go.Op.binOp Go.BinOp.mul 3 (Go.Operand.const (Go.Value.int Go.IntKind.i64 256)) (Go.Operand.tmp 121) 3, type := 3, pos := "ref.go:69", after := #[{ on := 4, ground := Go.Ground.data }], guard := none }) (v := .int .i64 (256 * (v0 : Int))) rfl (by kernel_rfl) (by kernel_rfl) (by kernel_rfl) (fun _ _ _ h => h) (Or.inl ⟨by rfl, fun w' hS' => by first | rfl | (go_simp; done) | (go_simp; rfl)⟩) (o_qM H9D.out) ?_
      try simp only [Act.put, List.setIfInBounds_toArray, List.set_cons_zero, List.set_cons_succ]
      refine wpAnyH_take (i := 6) (oi := { dst := some 123, op := Go.Op.move (Go.Operand.tmp 12), type := 3, pos := "ref.go:69", after := #[], guard := none }) (v := .int .i64 (kc : Int)) rfl (by kernel_rfl) (by kernel_rfl) (by kernel_rfl) (fun _ _ _ h => h) (Or.inl ⟨by rfl, fun w' hS' => by first | rfl | (go_simp; done) | (go_simp; rfl)⟩) (o_qM H9D.out) ?_
      try simp only [Act.put, List.setIfInBounds_toArray, List.set_cons_zero, List.set_cons_succ]
      refine wpAnyH_take (i := 7) (oi := { dst := some 124, op := Go.Op.binOp Go.BinOp.mul 3 (Go.Operand.const (Go.Value.int Go.IntKind.i64 8)) (Go.Operand.tmp 123) 3, type := 3, pos := "ref.go:69", after := #[{ on := 6, ground := Go.Ground.data }], guard := none }) (v := .int .i64 (8 * (kc : Int))) rfl (by kernel_rfl) (by kernel_rfl) (by kernel_rfl) (fun _ _ _ h => h) (Or.inl ⟨by rfl, fun w' hS' => by first | rfl | (go_simp; done) | (go_simp; rfl)⟩) (o_qM H9D.out) ?_
      try simp only [Act.put, List.setIfInBounds_toArray, List.set_cons_zero, List.set_cons_succ]
      refine wpAnyH_take (i := 8) (oi := { dst := some 125, op := Go.Op.binOp Go.BinOp.add 3 (Go.Operand.tmp 122) (Go.Operand.tmp 124) 3, type := 3, pos := "ref.go:69", after := #[{ on := 5, ground := Go.Ground.data }, { on := 7, ground := Go.Ground.data }], guard := none }) (v := .int .i64 CC) rfl (by kernel_rfl) (by kernel_rfl) (by kernel_rfl) (fun _ _ _ h => h) (Or.inl ⟨by rfl, fun w' hS' => by first | rfl | (go_simp; done) | (go_simp; rfl)⟩) (o_qM H9D.out) ?_
      try simp only [Act.put, List.setIfInBounds_toArray, List.set_cons_zero, List.set_cons_succ]
      refine wpAnyH_take (i := 9) (oi := { dst := some 126, op := Go.Op.convert 3 39 (Go.Operand.tmp 125), type := 39, pos := "ref.go:69", after := #[{ on := 8, ground := Go.Ground.data }], guard := none }) (v := .int .u64 CC) rfl (by kernel_rfl) (by kernel_rfl) (by kernel_rfl) (fun _ _ _ h => h) (Or.inl ⟨by rfl, fun w' hS' => by first | rfl | (go_simp; done) | (go_simp; rfl)⟩) (o_qM H9D.out) ?_
      try simp only [Act.put, List.setIfInBounds_toArray, List.set_cons_zero, List.set_cons_succ]
      refine wpAnyH_take (i := 10) (oi := { dst := some 127, op := Go.Op.move (Go.Operand.tmp 15), type := 3, pos := "ref.go:69", after := #[], guard := none }) (v := .int .i64 (n : Int)) rfl (by kernel_rfl) (by kernel_rfl) (by kernel_rfl) (fun _ _ _ h => h) (Or.inl ⟨by rfl, fun w' hS' => by first | rfl | (go_simp; done) | (go_simp; rfl)⟩) (o_qM H9D.out) ?_
      try simp only [Act.put, List.setIfInBounds_toArray, List.set_cons_zero, List.set_cons_succ]
      refine wpAnyH_take (i := 11) (oi := { dst := some 128, op := Go.Op.move (Go.Operand.tmp 3), type := 39, pos := "ref.go:69", after := #[], guard := none }) (v := .int .u64 (b : Int)) rfl (by kernel_rfl) (by kernel_rfl) (by kernel_rfl) (fun _ _ _ h => h) (Or.inl ⟨by rfl, fun w' hS' => by first | rfl | (go_simp; done) | (go_simp; rfl)⟩) (o_qM H9D.out) ?_
      try simp only [Act.put, List.setIfInBounds_toArray, List.set_cons_zero, List.set_cons_succ]
      refine wpAnyH_ready (rs := [12]) (by kernel_rfl) (by simp) ?_
      refine AllReadyH.cons (o := { dst := some 129, op := Go.Op.call { callee := Go.Callee.value (Go.Operand.func 91), args := #[Go.Operand.tmp 127, Go.Operand.tmp 128], argTypes := #[3, 39] }, type := 39, pos := "ref.go:69", after := #[{ on := 10, ground := Go.Ground.data }, { on := 11, ground := Go.Ground.data }], guard := none }) rfl (fun K' hK => ?_) AllReadyH.nil
      rw [if_pos (by rfl)]
      go_wp2_with (go_at_call 91; refine (E3C.out _).mono ?_; rintro e we ⟨rfl, hwe⟩; rw [hwe]; clear hwe we)
      refine hK.out _ _ ((o_qM H9D.out)) (fun hH1 => ?_)
      clear hK K'
      try simp only [Act.put, List.setIfInBounds_toArray, List.set_cons_zero, List.set_cons_succ]
      refine wpAnyH_ready (rs := [13]) (by kernel_rfl) (by simp) ?_
      refine AllReadyH.cons (o := { dst := some 130, op := Go.Op.call { callee := Go.Callee.value (Go.Operand.func 90), args := #[Go.Operand.tmp 120, Go.Operand.tmp 126, Go.Operand.const (Go.Value.int Go.IntKind.i64 8), Go.Operand.tmp 129], argTypes := #[47, 39, 3, 39] }, type := 3, pos := "ref.go:69", after := #[{ on := 3, ground := Go.Ground.data }, { on := 9, ground := Go.Ground.data }, { on := 12, ground := Go.Ground.data }, { on := 12, ground := Go.Ground.chain }], guard := none }) rfl (fun K' hK => ?_) AllReadyH.nil
      rw [if_pos (by rfl)]
      go_wp2_with (go_at_call 90; refine (S3C.out _ H9D.out).mono ?_; rintro e vz ⟨rfl, hst⟩; have HZZ := Lib.hid hst; clear hst)
      refine hK.out _ _ (o_qM HZZ.out) (fun hHs => ?_)
      clear hK K'
      try simp only [Act.put, List.setIfInBounds_toArray, List.set_cons_zero, List.set_cons_succ]
      refine wpAnyH_done (by kernel_rfl) ?_ _
      go_wp2_with fail
      go_ret
      exact ⟨rfl, HZZ.out⟩
  · skip
    have l1 := hA1
    have l2 := hA2
    rw [e1] at l1
    rw [e2] at l2
    replace l1 : _ = A1 := l1
    replace l2 : _ = A2 := l2
    subst l1; subst l2
    show Calls Tryz.prog _ _ w _
    rw [e1, e2] at hE2 GO
    clear hA1 hA2
    have s1 : ¬ (t1 : Int) < 0 := by omega
    have s2 : ¬ (t0 : Int) < 0 := by omega
    rw [show lack (some t1) = 0 from rfl, show lack (some t0) = 0 from rfl] at hE2 GO
    have N1 : RowKit.Hid (Calls Tryz.prog 36 #[.pointer (some ⟨rp, 0, none⟩), .int .i64 (r : Int), .int .i64 (ka : Int)] w fun e w' => e = .returned (.int .i64 (t1 : Int)) ∧ Own w0 w' (Star (rpA rp rb fi z.L z.s) R)) := Lib.hid N1.out
    have N2 : RowKit.Hid (∀ w, Own w0 w (Star (rpA rp rb fi z.L z.s) R) → Calls Tryz.prog 36 #[.pointer (some ⟨rp, 0, none⟩), .int .i64 (t1 : Int), .int .i64 (kb : Int)] w fun e w' => e = .returned (.int .i64 (t0 : Int)) ∧ Own w0 w' (Star (rpA rp rb fi z.L z.s) R)) := Lib.hid N2.out
    have N3 : RowKit.Hid (∀ w, Own w0 w (Star (rpA rp rb fi z.L z.s) R) → Calls Tryz.prog 36 #[.pointer (some ⟨rp, 0, none⟩), .int .i64 (t0 : Int), .int .i64 (kc : Int)] w fun e w' => e = .returned (.int .i64 (-1)) ∧ Own w0 w' (Star (rpA rp rb fi z.L z.s) R)) := Lib.hid N3.out
    by_cases hfull : LF < 1
    · obtain ⟨f1, f2⟩ := hE2 (by omega)
      subst f1; subst f2
      clear hE2 GO TKX ENX STX HE HZ
      go_enter Tryz.func68, Tryz.ntmps68
      go_upto_region 7 with (go_at_call 89; refine TK.out.mono ?_; rintro e wk ⟨rfl, hwk⟩; rw [hwk]; clear hwk wk)
      go_upto_region 8 with (go_at_call 36; refine N1.out.mono ?_; rintro e v2 ⟨rfl, h2⟩; have H2 := Lib.hid h2; clear h2)
      go_upto_region 9 with (go_at_call 36; refine (N2.out _ H2.out).mono ?_; rintro e v3 ⟨rfl, h3⟩; have H3 := Lib.hid h3; clear h3)
      go_upto_region 10 with (go_at_call 36; refine (N3.out _ H3.out).mono ?_; rintro e v4 ⟨rfl, h4⟩; have H4 := Lib.hid h4; clear h4)
      clear N1 N2 N3 H2 H3 TK
      go_wp2_with (go_at_call 10; refine (LFC.out _ H4.out).mono ?_; rintro e wk ⟨rfl, hwk⟩; rw [hwk]; clear hwk wk)
      go_ret
      exact ⟨rfl, H4.out⟩
    · obtain ⟨v1, v0, n, z1, z2, b1, b0, bn, c1, c2, c3, c4, hn, hX, hY⟩ := GO.out (by omega)
      obtain ⟨p1, p2⟩ := c2 t1 rfl
      subst p1; subst p2
      obtain ⟨p3, p4⟩ := c4 t0 rfl
      subst p3; subst p4
      have g1 := HE.out
      have g2 := HZ.out
      rw [hY] at g1
      rw [hX] at g2
      subst g1
      clear hE2 GO HE HZ c1 c2 c3 c4 hX hY
      obtain ⟨CC, hCC⟩ : ∃ A : Int, ((t0 * 256 + kc * 8 : Nat) : Int) = A := ⟨_, rfl⟩
      have aCC : 256 * (t0 : Int) + 8 * (kc : Int) = CC := by omega
      have xCC : IntKind.i64.wrap (256 * (t0 : Int)) = 256 * (t0 : Int) := wrapI _ (by omega) (by omega)
      have yCC : IntKind.i64.wrap (8 * (kc : Int)) = 8 * (kc : Int) := wrapI _ (by omega) (by omega)
      have zCC : IntKind.i64.wrap (256 * (t0 : Int) + 8 * (kc : Int)) = CC := by rw [aCC]; exact wrapI _ (by omega) (by omega)
      have uCC : IntKind.u64.wrap CC = CC := wrapU _ (by omega) (by omega)
      have qCC : IntKind.i64.wrap CC = CC := wrapI _ (by omega) (by omega)
      have T3C := Lib.hid (fun w h => TKX.out z2 (n : Int) hn w h)
      have E3C := Lib.hid (fun w => ENX.out n b bn hb2 w)
      have S3C := Lib.hid (fun w h => STX.out (takeX fi z2) t0 kc n b CC (by omega) (by omega) bn hb2 hCC w h)
      rw [hCC] at g2
      rw [g2] at S3C
      clear TKX ENX STX g2
      go_enter Tryz.func68, Tryz.ntmps68
      go_upto_region 7 with (go_at_call 89; refine TK.out.mono ?_; rintro e wk ⟨rfl, hwk⟩; rw [hwk]; clear hwk wk)
      go_upto_region 8 with (go_at_call 36; refine N1.out.mono ?_; rintro e v2 ⟨rfl, h2⟩; have H2 := Lib.hid h2; clear h2)
      go_upto_region 9 with (go_at_call 36; refine (N2.out _ H2.out).mono ?_; rintro e v3 ⟨rfl, h3⟩; have H3 := Lib.hid h3; clear h3)
      go_upto_region 10 with (go_at_call 36; refine (N3.out _ H3.out).mono ?_; rintro e v4 ⟨rfl, h4⟩; have H4 := Lib.hid h4; clear h4)
      clear N1 N2 N3 H2 H3 TK
      go_upto_region 26 with (first
        | (go_at_call 10; refine (LFC.out _ H4.out).mono ?_; rintro e wk ⟨rfl, hwk⟩; rw [hwk]; clear hwk wk)
        | (go_at_call 28; refine (T3C.out _ H4.out).mono ?_; rintro e v9 ⟨rfl, h9⟩; have H9 := Lib.hid h9; clear h9))
      have H9D := Lib.hid (H9.out.drew (SQ.out (takeX fi z2)))
      refine wp_region_held_drew (S := fun w' => w'.cell? ⟨rp, 0, none⟩ = some (.pointer (some ⟨rb, 0, none⟩))) (by kernel_rfl) (o_qM H9D.out) (fun hH => ?_)
      try simp only [Act.put, List.setIfInBounds_toArray, List.set_cons_zero, List.set_cons_succ]
      refine wpAnyH_take (i := 0) (oi := { dst := some 117, op := Go.Op.move (Go.Operand.tmp 0), type := 26, pos := "ref.go:69", after := #[], guard := none }) (v := .pointer (some ⟨rp, 0, none⟩)) rfl (by kernel_rfl) (by kernel_rfl) (by kernel_rfl) (fun _ _ _ h => h) (Or.inl ⟨by rfl, fun w' hS' => by first | rfl | (go_simp; done) | (go_simp; rfl)⟩) (o_qM H9D.out) ?_
      try simp only [Act.put, List.setIfInBounds_toArray, List.set_cons_zero, List.set_cons_succ]
      refine wpAnyH_take (i := 1) (oi := { dst := some 118, op := Go.Op.nilCheck (Go.Operand.tmp 117), type := 0, pos := "ref.go:69", after := #[{ on := 0, ground := Go.Ground.data }], guard := none }) (v := .pointer (some ⟨rp, 0, none⟩)) rfl (by kernel_rfl) (by kernel_rfl) (by kernel_rfl) (fun _ _ _ h => h) (Or.inl ⟨by rfl, fun w' hS' => by first | rfl | (go_simp; done) | (go_simp; rfl)⟩) (o_qM H9D.out) ?_
      try simp only [Act.put, List.setIfInBounds_toArray, List.set_cons_zero, List.set_cons_succ]
      refine wpAnyH_take (i := 2) (oi := { dst := some 119, op := Go.Op.fieldAddr 50 (Go.Operand.tmp 118) 0, type := 0, pos := "ref.go:69", after := #[{ on := 1, ground := Go.Ground.data }], guard := none }) (v := .pointer (some ⟨rp, 0, none⟩)) rfl (by kernel_rfl) (by kernel_rfl) (by kernel_rfl) (fun _ _ _ h => h) (Or.inl ⟨by rfl, fun w' hS' => by first | rfl | (go_simp; done) | (go_simp; rfl)⟩) (o_qM H9D.out) ?_
      try simp only [Act.put, List.setIfInBounds_toArray, List.set_cons_zero, List.set_cons_succ]
      refine wpAnyH_take (i := 3) (oi := { dst := some 120, op := Go.Op.load 47 (Go.Operand.tmp 119), type := 47, pos := "ref.go:69", after := #[{ on := 2, ground := Go.Ground.data }], guard := none }) (v := .pointer (some ⟨rb, 0, none⟩)) rfl (by kernel_rfl) (by kernel_rfl) (by kernel_rfl) (fun _ _ _ h => h) (Or.inl ⟨by rfl, fun w' hS' => by go_simp⟩) (o_qM H9D.out) ?_
      try simp only [Act.put, List.setIfInBounds_toArray, List.set_cons_zero, List.set_cons_succ]
      refine wpAnyH_take (i := 4) (oi := { dst := some 121, op := Go.Op.move (Go.Operand.tmp 14), type := 3, pos := "ref.go:69", after := #[], guard := none }) (v := .int .i64 (t0 : Int)) rfl (by kernel_rfl) (by kernel_rfl) (by kernel_rfl) (fun _ _ _ h => h) (Or.inl ⟨by rfl, fun w' hS' => by first | rfl | (go_simp; done) | (go_simp; rfl)⟩) (o_qM H9D.out) ?_
      try simp only [Act.put, List.setIfInBounds_toArray, List.set_cons_zero, List.set_cons_succ]
      refine wpAnyH_take (i := 5) (oi := { dst := some 122, op := Go.Op.binOp Go.BinOp.mul 3 (Go.Operand.const (Go.Value.int Go.IntKind.i64 256)) (Go.Operand.tmp 121) 3, type := 3, pos := "ref.go:69", after := #[{ on := 4, ground := Go.Ground.data }], guard := none }) (v := .int .i64 (256 * (t0 : Int))) rfl (by kernel_rfl) (by kernel_rfl) (by kernel_rfl) (fun _ _ _ h => h) (Or.inl ⟨by rfl, fun w' hS' => by first | rfl | (go_simp; done) | (go_simp; rfl)⟩) (o_qM H9D.out) ?_
      try simp only [Act.put, List.setIfInBounds_toArray, List.set_cons_zero, List.set_cons_succ]
      refine wpAnyH_take (i := 6) (oi := { dst := some 123, op := Go.Op.move (Go.Operand.tmp 12), type := 3, pos := "ref.go:69", after := #[], guard := none }) (v := .int .i64 (kc : Int)) rfl (by kernel_rfl) (by kernel_rfl) (by kernel_rfl) (fun _ _ _ h => h) (Or.inl ⟨by rfl, fun w' hS' => by first | rfl | (go_simp; done) | (go_simp; rfl)⟩) (o_qM H9D.out) ?_
      try simp only [Act.put, List.setIfInBounds_toArray, List.set_cons_zero, List.set_cons_succ]
      refine wpAnyH_take (i := 7) (oi := { dst := some 124, op := Go.Op.binOp Go.BinOp.mul 3 (Go.Operand.const (Go.Value.int Go.IntKind.i64 8)) (Go.Operand.tmp 123) 3, type := 3, pos := "ref.go:69", after := #[{ on := 6, ground := Go.Ground.data }], guard := none }) (v := .int .i64 (8 * (kc : Int))) rfl (by kernel_rfl) (by kernel_rfl) (by kernel_rfl) (fun _ _ _ h => h) (Or.inl ⟨by rfl, fun w' hS' => by first | rfl | (go_simp; done) | (go_simp; rfl)⟩) (o_qM H9D.out) ?_
      try simp only [Act.put, List.setIfInBounds_toArray, List.set_cons_zero, List.set_cons_succ]
      refine wpAnyH_take (i := 8) (oi := { dst := some 125, op := Go.Op.binOp Go.BinOp.add 3 (Go.Operand.tmp 122) (Go.Operand.tmp 124) 3, type := 3, pos := "ref.go:69", after := #[{ on := 5, ground := Go.Ground.data }, { on := 7, ground := Go.Ground.data }], guard := none }) (v := .int .i64 CC) rfl (by kernel_rfl) (by kernel_rfl) (by kernel_rfl) (fun _ _ _ h => h) (Or.inl ⟨by rfl, fun w' hS' => by first | rfl | (go_simp; done) | (go_simp; rfl)⟩) (o_qM H9D.out) ?_
      try simp only [Act.put, List.setIfInBounds_toArray, List.set_cons_zero, List.set_cons_succ]
      refine wpAnyH_take (i := 9) (oi := { dst := some 126, op := Go.Op.convert 3 39 (Go.Operand.tmp 125), type := 39, pos := "ref.go:69", after := #[{ on := 8, ground := Go.Ground.data }], guard := none }) (v := .int .u64 CC) rfl (by kernel_rfl) (by kernel_rfl) (by kernel_rfl) (fun _ _ _ h => h) (Or.inl ⟨by rfl, fun w' hS' => by first | rfl | (go_simp; done) | (go_simp; rfl)⟩) (o_qM H9D.out) ?_
      try simp only [Act.put, List.setIfInBounds_toArray, List.set_cons_zero, List.set_cons_succ]
      refine wpAnyH_take (i := 10) (oi := { dst := some 127, op := Go.Op.move (Go.Operand.tmp 15), type := 3, pos := "ref.go:69", after := #[], guard := none }) (v := .int .i64 (n : Int)) rfl (by kernel_rfl) (by kernel_rfl) (by kernel_rfl) (fun _ _ _ h => h) (Or.inl ⟨by rfl, fun w' hS' => by first | rfl | (go_simp; done) | (go_simp; rfl)⟩) (o_qM H9D.out) ?_
      try simp only [Act.put, List.setIfInBounds_toArray, List.set_cons_zero, List.set_cons_succ]
      refine wpAnyH_take (i := 11) (oi := { dst := some 128, op := Go.Op.move (Go.Operand.tmp 3), type := 39, pos := "ref.go:69", after := #[], guard := none }) (v := .int .u64 (b : Int)) rfl (by kernel_rfl) (by kernel_rfl) (by kernel_rfl) (fun _ _ _ h => h) (Or.inl ⟨by rfl, fun w' hS' => by first | rfl | (go_simp; done) | (go_simp; rfl)⟩) (o_qM H9D.out) ?_
      try simp only [Act.put, List.setIfInBounds_toArray, List.set_cons_zero, List.set_cons_succ]
      refine wpAnyH_ready (rs := [12]) (by kernel_rfl) (by simp) ?_
      refine AllReadyH.cons (o := { dst := some 129, op := Go.Op.call { callee := Go.Callee.value (Go.Operand.func 91), args := #[Go.Operand.tmp 127, Go.Operand.tmp 128], argTypes := #[3, 39] }, type := 39, pos := "ref.go:69", after := #[{ on := 10, ground := Go.Ground.data }, { on := 11, ground := Go.Ground.data }], guard := none }) rfl (fun K' hK => ?_) AllReadyH.nil
      rw [if_pos (by rfl)]
      go_wp2_with (go_at_call 91; refine (E3C.out _).mono ?_; rintro e we ⟨rfl, hwe⟩; rw [hwe]; clear hwe we)
      refine hK.out _ _ ((o_qM H9D.out)) (fun hH1 => ?_)
      clear hK K'
      try simp only [Act.put, List.setIfInBounds_toArray, List.set_cons_zero, List.set_cons_succ]
      refine wpAnyH_ready (rs := [13]) (by kernel_rfl) (by simp) ?_
      refine AllReadyH.cons (o := { dst := some 130, op := Go.Op.call { callee := Go.Callee.value (Go.Operand.func 90), args := #[Go.Operand.tmp 120, Go.Operand.tmp 126, Go.Operand.const (Go.Value.int Go.IntKind.i64 8), Go.Operand.tmp 129], argTypes := #[47, 39, 3, 39] }, type := 3, pos := "ref.go:69", after := #[{ on := 3, ground := Go.Ground.data }, { on := 9, ground := Go.Ground.data }, { on := 12, ground := Go.Ground.data }, { on := 12, ground := Go.Ground.chain }], guard := none }) rfl (fun K' hK => ?_) AllReadyH.nil
      rw [if_pos (by rfl)]
      go_wp2_with (go_at_call 90; refine (S3C.out _ H9D.out).mono ?_; rintro e vz ⟨rfl, hst⟩; have HZZ := Lib.hid hst; clear hst)
      refine hK.out _ _ (o_qM HZZ.out) (fun hHs => ?_)
      clear hK K'
      try simp only [Act.put, List.setIfInBounds_toArray, List.set_cons_zero, List.set_cons_succ]
      refine wpAnyH_done (by kernel_rfl) ?_ _
      go_wp2_with fail
      go_ret
      exact ⟨rfl, HZZ.out⟩
end Go.Proofs.YtbcnibnkojnpiaaGreat.P
