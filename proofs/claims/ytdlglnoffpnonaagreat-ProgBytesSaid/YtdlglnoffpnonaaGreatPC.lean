/- Stage 12: what differs in pages alone (of stage 11's EX). No condition. -/
import Derived.Test.YtdlglnoffpnonaaGreatEV
import Derived.Test.YtdlglnoffpnonaaGreatPA
set_option linter.unusedVariables false
set_option maxRecDepth 100000
set_option linter.unusedSimpArgs false
namespace Go.Proofs.YtdlglnoffpnonaaGreat.P
open Go.RowKit Go.MuLone Go.Maps
structure StP (z x : Sp) (own : Who) : Prop where
  sz : Sz x
  L : x.L = z.L
  T : ∀ f hh p j, own f = some (hh + 1, p, j) → ∀ k, k < 32 → P.T x f k = P.T z f k
theorem StP.wf {fi : Nat} {z x : Sp} {own : Who} (h : WF fi z own) (s : StP z x own) : WF fi x own := wf_page h s.sz s.L s.T
theorem StP.pth {fi : Nat} {z x : Sp} {own : Who} (h : WF fi z own) (s : StP z x own) {r p j : Nat} (hr : own r = some (3, p, j)) (d m : Nat) (hd : d ≤ 3) : P.pth x r d m = P.pth z r d m := pth_congr h hr (fun f hh p j e _ k hk => s.T f hh p j e k hk) d m hd
theorem StP.refl {fi : Nat} {z : Sp} {own : Who} (h : WF fi z own) : StP z z own := ⟨h.sz, rfl, fun _ _ _ _ _ _ _ => rfl⟩
theorem write_step {fi : Nat} {z x : Sp} {own : Who} (h : WF fi z own) (s : StP z x own) {f p2 j2 : Nat} (hf : own f = some (0, p2, j2)) (hfl : f < x.L.length) (off : Nat) (y : ByteArray) (hy : off + y.size ≤ 256) :
    putS x.s ((f * 256 + off : Nat) : Int) y = putL x.s (f * 256 + off) y.data.toList ∧ f * 256 + off + y.data.toList.length ≤ x.s.length ∧ StP z ⟨x.L, putS x.s ((f * 256 + off : Nat) : Int) y⟩ own := by
  have hs := s.sz.len
  have e0 : y.data.toList.length = y.size := Array.length_toList
  have e1 : putS x.s ((f * 256 + off : Nat) : Int) y = putL x.s (f * 256 + off) y.data.toList := by
    unfold putS; rw [if_pos (inB_t (by omega)), Int.toNat_natCast]
  refine ⟨e1, by omega, ?_⟩
  rw [e1]
  refine ⟨⟨by show (putL _ _ _).length = _; rw [putL_len _ _ _ (by omega)]; exact hs, s.sz.lo, s.sz.hi⟩, s.L, fun g hh p j hg k hk => ?_⟩
  rw [← s.T g hh p j hg k hk]
  have hgl := ((s.wf h).lt hg).2.1
  have hne : g ≠ f := fun e => by rw [e, hf] at hg; injection hg with hg; injection hg with hg; omega
  show entS (putL x.s _ _) _ = entS x.s _
  exact ent_put _ _ _ (by omega) _ (by omega) (by omega)
end Go.Proofs.YtdlglnoffpnonaaGreat.P
namespace Go.Proofs.YtdlglnoffpnonaaGreat.P
open Go.RowKit Go.MuLone Go.Maps
def layAt (fi : Nat) (r bits page : Int) (z : Sp) : Int := walkV (mapX fi z r page bits).L.length (mapX fi z r page bits).s r (page * 256) 1
def layZ (fi : Nat) (r bits page : Int) (y : ByteArray) (z : Sp) : Sp := ⟨(mapX fi z r page bits).L, putS (mapX fi z r page bits).s (layAt fi r bits page z) y⟩
def layX (fi : Nat) (r bits : Int) : Nat → Int → ByteArray → Sp → Sp × Int
  | 0, _, _, z => (z, 0)
  | k + 1, page, rest, z =>
    bif decide (mapE fi z r page bits = 0) then
      bif decide (walkR (mapX fi z r page bits).L.length (mapX fi z r page bits).s r (page * 256) 1 = 0) then
        bif decide (putR (mapX fi z r page bits).s (layAt fi r bits page z) (rest.extract 0 (min rest.size 256)) = 0) then
          layX fi r bits k (page + 1) (rest.extract (min rest.size 256) rest.size) (layZ fi r bits page (rest.extract 0 (min rest.size 256)) z)
        else (layZ fi r bits page (rest.extract 0 (min rest.size 256)) z, putR (mapX fi z r page bits).s (layAt fi r bits page z) (rest.extract 0 (min rest.size 256)))
      else (mapX fi z r page bits, walkR (mapX fi z r page bits).L.length (mapX fi z r page bits).s r (page * 256) 1)
    else (mapX fi z r page bits, mapE fi z r page bits)
theorem may_lay (g b : Nat) (hb : b % 2 = 1) (hb2 : b < 32) (hbr : b / 2 % 2 = 1) (hbu : b / 16 % 2 = 1) : mayB 2 ((g * 1024 + b : Nat) : Int) = true := by
  unfold mayB
  rw [decide_eq_true (show ((g * 1024 + b : Nat) : Int) % 2 = 1 by omega), decide_eq_true (show ((g * 1024 + b : Nat) : Int) / 16 % 2 = 1 by omega), decide_eq_true (show ((g * 1024 + b : Nat) : Int) / 2 % 2 = 1 by omega)]; rfl
theorem lay_step {fi : Nat} {z : Sp} {own : Who} (h : WF fi z own) {r p j P b : Nat} (hr : own r = some (3, p, j)) (hP : P < 32768) (hb : b % 2 = 1) (hb2 : b < 32) (hbr : b / 2 % 2 = 1) (hbu : b / 16 % 2 = 1) (hno : pth z r 3 P = none) (hleft : mapMiss z r P < leftX fi z) (y : ByteArray) (hy : y.size ≤ 256) :
    mapE fi z r P b = 0 ∧ walkR (mapX fi z r P b).L.length (mapX fi z r P b).s r ((P : Int) * 256) 1 = 0 ∧ putR (mapX fi z r P b).s (layAt fi r b P z) y = 0 ∧
    ∃ own', WF fi (layZ fi r b P y z) own' ∧ (∀ f v, own f = some v → own' f = some v) ∧ (∀ f v, own f = none → own' f = some v → Und own' r f) ∧ (layZ fi r b P y z).L.length = z.L.length ∧
      (∀ d m, d ≤ 3 → m < 32 ^ d → (pth (layZ fi r b P y z) r d m).isSome = ((pth z r d m).isSome || (decide (d = 1 ∧ m = P / 1024) || (decide (d = 2 ∧ m = P / 32) || decide (d = 3 ∧ m = P))))) ∧
      leftX fi (layZ fi r b P y z) = leftX fi z - (mapMiss z r P + 1) := by
  obtain ⟨m1, own', g, his, hlf, t0, gn, q1, q2, q3, q4⟩ := map_ok h hr hP hb hb2 hno hleft
  have hw := g.wf
  have hr' := g.old _ _ hr
  refine ⟨m1, ?_⟩
  unfold layZ layAt
  generalize mapX fi z r P b = z1 at *
  have hgl := (hw.lt q4).2.1
  obtain ⟨e1, e2, e3, e4⟩ : (∃ t1, pth z1 r 1 (P / 1024) = some t1) ∧ True ∧ leafR z1.L.length z1.s r ((P : Int) * 256) = 0 ∧ leafV z1.L.length z1.s r ((P : Int) * 256) = ((t0 * 256 + P % 32 * 8 : Nat) : Int) := by
    rcases leaf_tab hw hr' hP with ⟨e1, e2, e3⟩ | ⟨t1, e1, e2, e3, e4⟩ | ⟨t1, t0', e1, e2, e3, e4⟩
    · have := pth_pre' (m := P / 32) (d := 1) (z := z1) (r := r) (by rw [show P / 32 / 32 = P / 1024 by omega]; exact e1)
      rw [q1] at this; cases this
    · rw [q1] at e2; cases e2
    · have : t0 = t0' := Option.some.inj (q1.symm.trans e2)
      subst this
      exact ⟨⟨t1, e1⟩, trivial, e3, e4⟩
  have hE : walkE z1.L.length z1.s r ((P : Int) * 256) = ((gn * 1024 + b : Nat) : Int) := by
    unfold walkE; rw [e4]; exact q2
  have hd : ((gn * 1024 + b : Nat) : Int) / 1024 = (gn : Int) := by omega
  have hR : walkR z1.L.length z1.s r ((P : Int) * 256) 1 = 0 := by
    unfold walkR
    rw [show neededI 1 = 2 from rfl, decide_eq_false (by decide), cond_false, e3, decide_eq_true rfl, cond_true, hE, may_lay gn b hb hb2 hbr hbu, hd, decide_eq_true (show (gn : Int) < (z1.L.length : Int) by omega), Bool.true_and, cond_true]
  have hV : walkV z1.L.length z1.s r ((P : Int) * 256) 1 = ((gn * 256 + 0 : Nat) : Int) := by
    unfold walkV
    rw [hR, decide_eq_true rfl, cond_true, hE, hd]; omega
  refine ⟨hR, ?_⟩
  rw [hV]
  obtain ⟨w1, w2, w3⟩ := write_step hw (StP.refl hw) q4 hgl 0 y (by omega)
  have hsl := hw.sz.len
  refine ⟨?_, own', w3.wf hw, g.old, fun f v h0 hf => (by obtain ⟨hh, p2, k2⟩ := v; exact (g.new f hh p2 k2 h0 hf).2), by rw [← g.len], fun d m hd hm => ?_, hlf⟩
  · unfold putR; rw [if_pos (inB_t (by omega))]
  · rw [w3.pth hw hr' d m hd]; exact his d m hd hm
/-- Pages 1 to p and 56 to q are laid, in a pool of which `lf` were left at the root. -/
structure Laid (fi : Nat) (r : Nat) (lf : Int) (n0 : Nat) (own0 : Who) (pp q : Nat) (z : Sp) : Prop where
  ex : ∃ own p j, WF fi z own ∧ own r = some (3, p, j) ∧ (∀ f v, own0 f = some v → own f = some v) ∧ ∀ f v, own0 f = none → own f = some v → Und own r f
  p3 : ∀ P, P < 32768 → (pth z r 3 P).isSome = decide ((1 ≤ P ∧ P ≤ pp) ∨ (56 ≤ P ∧ P < 56 + q))
  p2 : ∀ m, m < 1024 → (pth z r 2 m).isSome = decide ((m = 0 ∧ 1 ≤ pp) ∨ (m = 1 ∧ 1 ≤ q))
  p1 : ∀ m, m < 32 → (pth z r 1 m).isSome = decide (m = 0 ∧ 1 ≤ pp)
  left : leftX fi z = lf - (pp : Int) - q - (if 1 ≤ pp then 2 else 0) - (if 1 ≤ q then 1 else 0)
  len : z.L.length = n0
theorem laid_low {fi r n0 : Nat} {lf : Int} {own0 : Who} {pp : Nat} {z : Sp} (h : Laid fi r lf n0 own0 pp 0 z) (hp : pp < 28) {b : Nat} (hb : b % 2 = 1) (hb2 : b < 32) (hbr : b / 2 % 2 = 1) (hbu : b / 16 % 2 = 1) (hl : (pp : Int) + 3 ≤ lf) (y : ByteArray) (hy : y.size ≤ 256) :
    mapE fi z r ((pp + 1 : Nat) : Int) b = 0 ∧ walkR (mapX fi z r ((pp + 1 : Nat) : Int) b).L.length (mapX fi z r ((pp + 1 : Nat) : Int) b).s r (((pp + 1 : Nat) : Int) * 256) 1 = 0 ∧ putR (mapX fi z r ((pp + 1 : Nat) : Int) b).s (layAt fi r b ((pp + 1 : Nat) : Int) z) y = 0 ∧
    Laid fi r lf n0 own0 (pp + 1) 0 (layZ fi r b ((pp + 1 : Nat) : Int) y z) := by
  obtain ⟨own, p, j, hw, hr, ho, hn⟩ := h.ex
  have d1 : (pp + 1) / 1024 = 0 := by omega
  have d2 : (pp + 1) / 32 = 0 := by omega
  have h3 : pth z r 3 (pp + 1) = none := by
    have := h.p3 (pp + 1) (by omega)
    rw [decide_eq_false (by omega)] at this
    cases hq : pth z r 3 (pp + 1) with
    | none => rfl
    | some f => rw [hq] at this; cases this
  have hm : mapMiss z r ((pp + 1 : Nat) : Int) = if 1 ≤ pp then 0 else 2 := by
    rw [miss_eq hw hr (by omega), d1, d2]
    unfold lack
    rw [h.p1 0 (by omega), h.p2 0 (by omega)]
    by_cases e : 1 ≤ pp
    · simp [e]
    · simp [e]
  have hlf := h.left
  have hml : mapMiss z r ((pp + 1 : Nat) : Int) < leftX fi z := by
    rw [hm, hlf]; split <;> simp <;> omega
  obtain ⟨m1, m2, m3, own', w', hold, hnew, hlen, his, hleft⟩ := lay_step hw hr (by omega) hb hb2 hbr hbu h3 hml y hy
  have c3 : (32 : Nat) ^ 3 = 32768 := by decide
  have c2 : (32 : Nat) ^ 2 = 1024 := by decide
  have c1 : (32 : Nat) ^ 1 = 32 := by decide
  refine ⟨m1, m2, m3, ⟨own', p, j, w', hold _ _ hr, fun f v e => hold _ _ (ho f v e), fun f v e0 ef => (by
    cases hq : own f with
    | none => exact hnew f v hq ef
    | some v' => exact (hn f v' e0 hq).grow hold)⟩, fun P hP => ?_, fun m hm' => ?_, fun m hm' => ?_, ?_, by rw [hlen, h.len]⟩
  · rw [his 3 P (by decide) (by omega), h.p3 P hP, Bool.eq_iff_iff]
    simp only [Bool.or_eq_true, decide_eq_true_eq, Nat.reduceEqDiff, show (3 : Nat) ≠ 1 by decide, show (3 : Nat) ≠ 2 by decide, show (2 : Nat) ≠ 1 by decide, show (2 : Nat) ≠ 3 by decide, show (1 : Nat) ≠ 2 by decide, show (1 : Nat) ≠ 3 by decide, false_and, true_and, false_or, or_false]; refine ⟨fun h => ?_, fun h => ?_⟩ <;> omega
  · rw [his 2 m (by decide) (by omega), h.p2 m hm', Bool.eq_iff_iff, d1, d2]
    simp only [Bool.or_eq_true, decide_eq_true_eq, Nat.reduceEqDiff, show (3 : Nat) ≠ 1 by decide, show (3 : Nat) ≠ 2 by decide, show (2 : Nat) ≠ 1 by decide, show (2 : Nat) ≠ 3 by decide, show (1 : Nat) ≠ 2 by decide, show (1 : Nat) ≠ 3 by decide, false_and, true_and, false_or, or_false]; refine ⟨fun h => ?_, fun h => ?_⟩ <;> omega
  · rw [his 1 m (by decide) (by omega), h.p1 m hm', Bool.eq_iff_iff, d1, d2]
    simp only [Bool.or_eq_true, decide_eq_true_eq, Nat.reduceEqDiff, show (3 : Nat) ≠ 1 by decide, show (3 : Nat) ≠ 2 by decide, show (2 : Nat) ≠ 1 by decide, show (2 : Nat) ≠ 3 by decide, show (1 : Nat) ≠ 2 by decide, show (1 : Nat) ≠ 3 by decide, false_and, true_and, false_or, or_false]; refine ⟨fun h => ?_, fun h => ?_⟩ <;> omega
  · rw [hleft, hm, hlf]
    by_cases e : 1 ≤ pp
    · simp [e]; omega
    · simp [e]; omega
theorem laid_high {fi r n0 : Nat} {lf : Int} {own0 : Who} {pp q : Nat} {z : Sp} (h : Laid fi r lf n0 own0 pp q z) (hp : 1 ≤ pp ∧ pp ≤ 28) (hq : q < 8) {b : Nat} (hb : b % 2 = 1) (hb2 : b < 32) (hbr : b / 2 % 2 = 1) (hbu : b / 16 % 2 = 1) (hl : (pp : Int) + q + 4 ≤ lf) (y : ByteArray) (hy : y.size ≤ 256) :
    mapE fi z r ((56 + q : Nat) : Int) b = 0 ∧ walkR (mapX fi z r ((56 + q : Nat) : Int) b).L.length (mapX fi z r ((56 + q : Nat) : Int) b).s r (((56 + q : Nat) : Int) * 256) 1 = 0 ∧ putR (mapX fi z r ((56 + q : Nat) : Int) b).s (layAt fi r b ((56 + q : Nat) : Int) z) y = 0 ∧
    Laid fi r lf n0 own0 pp (q + 1) (layZ fi r b ((56 + q : Nat) : Int) y z) := by
  obtain ⟨own, p, j, hw, hr, ho, hn⟩ := h.ex
  have d1 : (56 + q) / 1024 = 0 := by omega
  have d2 : (56 + q) / 32 = 1 := by omega
  have h3 : pth z r 3 (56 + q) = none := by
    have := h.p3 (56 + q) (by omega)
    rw [decide_eq_false (by omega)] at this
    cases hq : pth z r 3 (56 + q) with
    | none => rfl
    | some f => rw [hq] at this; cases this
  have hm : mapMiss z r ((56 + q : Nat) : Int) = if 1 ≤ q then 0 else 1 := by
    rw [miss_eq hw hr (by omega), d1, d2]
    unfold lack
    rw [h.p1 0 (by omega), h.p2 1 (by omega)]
    by_cases e : 1 ≤ q
    · simp [e, hp.1]
    · simp [e, hp.1]
  have hlf := h.left
  rw [if_pos hp.1] at hlf
  have hml : mapMiss z r ((56 + q : Nat) : Int) < leftX fi z := by
    rw [hm, hlf]; split <;> simp <;> omega
  obtain ⟨m1, m2, m3, own', w', hold, hnew, hlen, his, hleft⟩ := lay_step hw hr (by omega) hb hb2 hbr hbu h3 hml y hy
  have c3 : (32 : Nat) ^ 3 = 32768 := by decide
  have c2 : (32 : Nat) ^ 2 = 1024 := by decide
  have c1 : (32 : Nat) ^ 1 = 32 := by decide
  refine ⟨m1, m2, m3, ⟨own', p, j, w', hold _ _ hr, fun f v e => hold _ _ (ho f v e), fun f v e0 ef => (by
    cases hq : own f with
    | none => exact hnew f v hq ef
    | some v' => exact (hn f v' e0 hq).grow hold)⟩, fun P hP => ?_, fun m hm' => ?_, fun m hm' => ?_, ?_, by rw [hlen, h.len]⟩
  · rw [his 3 P (by decide) (by omega), h.p3 P hP, Bool.eq_iff_iff]
    simp only [Bool.or_eq_true, decide_eq_true_eq, Nat.reduceEqDiff, show (3 : Nat) ≠ 1 by decide, show (3 : Nat) ≠ 2 by decide, show (2 : Nat) ≠ 1 by decide, show (2 : Nat) ≠ 3 by decide, show (1 : Nat) ≠ 2 by decide, show (1 : Nat) ≠ 3 by decide, false_and, true_and, false_or, or_false]; refine ⟨fun h => ?_, fun h => ?_⟩ <;> omega
  · rw [his 2 m (by decide) (by omega), h.p2 m hm', Bool.eq_iff_iff, d1, d2]
    simp only [Bool.or_eq_true, decide_eq_true_eq, Nat.reduceEqDiff, show (3 : Nat) ≠ 1 by decide, show (3 : Nat) ≠ 2 by decide, show (2 : Nat) ≠ 1 by decide, show (2 : Nat) ≠ 3 by decide, show (1 : Nat) ≠ 2 by decide, show (1 : Nat) ≠ 3 by decide, false_and, true_and, false_or, or_false]; refine ⟨fun h => ?_, fun h => ?_⟩ <;> omega
  · rw [his 1 m (by decide) (by omega), h.p1 m hm', Bool.eq_iff_iff, d1, d2]
    simp only [Bool.or_eq_true, decide_eq_true_eq, Nat.reduceEqDiff, show (3 : Nat) ≠ 1 by decide, show (3 : Nat) ≠ 2 by decide, show (2 : Nat) ≠ 1 by decide, show (2 : Nat) ≠ 3 by decide, show (1 : Nat) ≠ 2 by decide, show (1 : Nat) ≠ 3 by decide, false_and, true_and, false_or, or_false]; refine ⟨fun h => ?_, fun h => ?_⟩ <;> omega
  · rw [hleft, hm, hlf, if_pos hp.1]
    by_cases e : 1 ≤ q
    · simp [e]; omega
    · simp [e]; omega
theorem layX_low {fi r n0 : Nat} {lf : Int} {own0 : Who} {b : Nat} (hb : b % 2 = 1) (hb2 : b < 32) (hbr : b / 2 % 2 = 1) (hbu : b / 16 % 2 = 1) : ∀ (k pp : Nat) (y : ByteArray) (z : Sp), Laid fi r lf n0 own0 pp 0 z → pp + k ≤ 28 → (pp : Int) + k + 2 ≤ lf →
    (layX fi r b k ((pp + 1 : Nat) : Int) y z).2 = 0 ∧ Laid fi r lf n0 own0 (pp + k) 0 (layX fi r b k ((pp + 1 : Nat) : Int) y z).1
  | 0, pp, y, z, h, _, _ => ⟨rfl, h⟩
  | k + 1, pp, y, z, h, h1, h2 => by
    obtain ⟨m1, m2, m3, h'⟩ := laid_low h (by omega) hb hb2 hbr hbu (by omega) (y.extract 0 (min y.size 256)) (by rw [ByteArray.size_extract]; omega)
    rw [layX, m1, m2, m3, decide_eq_true rfl, cond_true, cond_true, cond_true]
    have := layX_low hb hb2 hbr hbu k (pp + 1) (y.extract (min y.size 256) y.size) _ h' (by omega) (by omega)
    rw [show pp + (k + 1) = pp + 1 + k by omega]
    exact this
theorem layX_high {fi r n0 : Nat} {lf : Int} {own0 : Who} {b : Nat} (hb : b % 2 = 1) (hb2 : b < 32) (hbr : b / 2 % 2 = 1) (hbu : b / 16 % 2 = 1) {pp : Nat} (hp : 1 ≤ pp ∧ pp ≤ 28) : ∀ (k q : Nat) (y : ByteArray) (z : Sp), Laid fi r lf n0 own0 pp q z → q + k ≤ 8 → (pp : Int) + q + k + 3 ≤ lf →
    (layX fi r b k ((56 + q : Nat) : Int) y z).2 = 0 ∧ Laid fi r lf n0 own0 pp (q + k) (layX fi r b k ((56 + q : Nat) : Int) y z).1
  | 0, q, y, z, h, _, _ => ⟨rfl, h⟩
  | k + 1, q, y, z, h, h1, h2 => by
    obtain ⟨m1, m2, m3, h'⟩ := laid_high h hp (by omega) hb hb2 hbr hbu (by omega) (y.extract 0 (min y.size 256)) (by rw [ByteArray.size_extract]; omega)
    rw [layX, m1, m2, m3, decide_eq_true rfl, cond_true, cond_true, cond_true]
    have := layX_high hb hb2 hbr hbu hp k (q + 1) (y.extract (min y.size 256) y.size) _ h' (by omega) (by omega)
    rw [show q + (k + 1) = q + 1 + k by omega]
    exact this
end Go.Proofs.YtdlglnoffpnonaaGreat.P
