/- Stage 12: pages in order; a program's space. No condition. -/
import Derived.Test.YtdlglnoffpnonaaGreatPC
import Derived.Test.YtdlglnoffpnonaaGreatPM
import Derived.Test.YtdlglnoffpnonaaGreatEV
set_option linter.unusedVariables false
set_option linter.unusedSimpArgs false
set_option maxRecDepth 100000
namespace Go.Proofs.YtdlglnoffpnonaaGreat.P
open Go.RowKit Go.MuLone Go.Maps
def Asc (a c : It) : Prop := a.h = 0 → c.h = 0 → a.n < c.n
theorem il_asc {fi : Nat} {z : Sp} {own : Who} (h0 : WF fi z own) {r p j : Nat} (hr : own r = some (3, p, j)) : ∀ (h f n b : Nat), h ≤ 3 → n < 32 ^ (3 - h) → pth z r (3 - h) n = some f → (il z h f n b).Pairwise Asc
  | 0, f, n, b, _, _, _ => by rw [il]; exact List.pairwise_singleton _ _
  | h + 1, f, n, b, hh, hn, hp => by
    have e1 : 3 - h = (3 - (h + 1)) + 1 := by omega
    have hkp : ∀ k g, k < 32 → kid z f k = some g → pth z r (3 - h) (n * 32 + k) = some g ∧ n * 32 + k < 32 ^ (3 - h) := fun k g hk hg => ⟨by rw [e1, pth_kid hk hp]; exact hg, by rw [e1, Nat.pow_succ]; omega⟩
    have hin : ∀ K, K ≤ 32 → (ilpF z f n (fun g m c => il z h g m c) K).Pairwise Asc := by
      intro K
      induction K with
      | zero => intro _; rw [ilpF]; exact List.Pairwise.nil
      | succ K ih =>
        intro hK
        rw [ilpF, List.pairwise_append]
        refine ⟨ih (by omega), ?_, ?_⟩
        · unfold kidL
          cases hk : kid z f K with
          | none => exact List.Pairwise.nil
          | some g =>
            obtain ⟨q1, q2⟩ := hkp K g (by omega) hk
            exact il_asc h0 hr h g (n * 32 + K) _ (by omega) q2 q1
        · intro a ha c hc ha0 hc0
          obtain ⟨k, hk, g, h2, h3⟩ := mem_ilpF.1 ha
          obtain ⟨q1, q2⟩ := hkp k g (by omega) h2
          have o1 := il_mem h0 hr h g (n * 32 + k) _ a (by omega) q2 q1 h3
          unfold kidL at hc
          cases hk2 : kid z f K with
          | none => rw [hk2] at hc; cases hc
          | some g' =>
            rw [hk2] at hc
            obtain ⟨q3, q4⟩ := hkp K g' (by omega) hk2
            have o2 := il_mem h0 hr h g' (n * 32 + K) _ c (by omega) q4 q3 hc
            have e2 := o1.pre
            have e3 := o2.pre
            rw [ha0, Nat.sub_zero] at e2
            rw [hc0, Nat.sub_zero] at e3
            by_cases hle : c.n ≤ a.n
            · have := Nat.div_le_div_right (c := 32 ^ h) hle
              omega
            · omega
    rw [il, List.pairwise_append]
    refine ⟨hin 32 (Nat.le_refl _), List.pairwise_singleton _ _, ?_⟩
    intro a ha c hc ha0 hc0
    rcases List.mem_singleton.1 hc with rfl
    cases hc0
theorem sorted_ext : ∀ (l m : List Nat), l.Pairwise (· < ·) → m.Pairwise (· < ·) → (∀ x, x ∈ l ↔ x ∈ m) → l = m
  | [], [], _, _, _ => rfl
  | [], a :: m, _, _, h => absurd ((h a).2 List.mem_cons_self) (by simp)
  | a :: l, [], _, _, h => absurd ((h a).1 List.mem_cons_self) (by simp)
  | a :: l, b :: m, h1, h2, h => by
    obtain ⟨p1, p2⟩ := List.pairwise_cons.1 h1
    obtain ⟨p3, p4⟩ := List.pairwise_cons.1 h2
    have hab : a = b := by
      rcases List.mem_cons.1 ((h a).1 List.mem_cons_self) with e | e
      · exact e
      · rcases List.mem_cons.1 ((h b).2 List.mem_cons_self) with e' | e'
        · exact e'.symm
        · have := p3 a e; have := p1 b e'; omega
    subst hab
    congr 1
    refine sorted_ext l m p2 p4 (fun x => ⟨fun hx => ?_, fun hx => ?_⟩)
    · rcases List.mem_cons.1 ((h x).1 (List.mem_cons_of_mem _ hx)) with e | e
      · subst e; exact absurd (p1 x hx) (Nat.lt_irrefl _)
      · exact e
    · rcases List.mem_cons.1 ((h x).2 (List.mem_cons_of_mem _ hx)) with e | e
      · subst e; exact absurd (p3 x hx) (Nat.lt_irrefl _)
      · exact e
/-- The pages of a space, rising. -/
theorem pages_list {fi : Nat} {z : Sp} {own : Who} (h : WF fi z own) {r p j : Nat} (hr : own r = some (3, p, j)) (l : List Nat) (hs : l.Pairwise (· < ·)) (hl : ∀ P, P ∈ l ↔ (P < 32768 ∧ (pth z r 3 P).isSome = true)) : (pgs z r).map It.n = l := by
  have ha := il_asc h hr 3 r 0 0 (Nat.le_refl _) (by decide) rfl
  refine sorted_ext _ _ ?_ hs (fun P => ?_)
  · rw [List.pairwise_map]
    unfold pgs
    have h2 : ((ilR z r).filter fun it => decide (it.h = 0)).Pairwise Asc := ha.filter _
    refine List.Pairwise.imp_of_mem ?_ h2
    intro a c h3 h4 h5
    exact h5 (of_decide_eq_true (List.mem_filter.1 h3).2) (of_decide_eq_true (List.mem_filter.1 h4).2)
  · rw [hl, List.mem_map]
    unfold pgs
    constructor
    · rintro ⟨it, h3, rfl⟩
      obtain ⟨h4, h5⟩ := List.mem_filter.1 h3
      have o := ilR_mem h hr h4
      have h6 : it.h = 0 := of_decide_eq_true h5
      have q1 := o.pt
      have q2 := o.lt
      rw [h6] at q1 q2
      exact ⟨q2, by rw [q1]; rfl⟩
    · rintro ⟨h3, h4⟩
      cases hq : pth z r 3 P with
      | none => rw [hq] at h4; cases h4
      | some f =>
        obtain ⟨b', hb⟩ := il_all h hr 3 r 0 0 3 P f (Nat.le_refl _) (Nat.le_refl _) rfl (Nat.div_eq_of_lt h3) (by rw [show 3 - 3 + 3 = 3 by omega]; exact hq)
        exact ⟨_, List.mem_filter.2 ⟨hb, rfl⟩, rfl⟩
def pagesL (pp q : Nat) : List Nat := List.range' 1 pp ++ List.range' 56 q
theorem pagesL_mem {pp q P : Nat} : P ∈ pagesL pp q ↔ ((1 ≤ P ∧ P ≤ pp) ∨ (56 ≤ P ∧ P < 56 + q)) := by
  unfold pagesL
  rw [List.mem_append, List.mem_range'_1, List.mem_range'_1]
  omega
theorem pagesL_asc {pp q : Nat} (h : pp ≤ 55) : (pagesL pp q).Pairwise (· < ·) := by
  unfold pagesL
  rw [List.pairwise_append]
  refine ⟨List.pairwise_lt_range', List.pairwise_lt_range', fun a ha c hc => ?_⟩
  rw [List.mem_range'_1] at ha hc
  omega
theorem pagesL_len (pp q : Nat) : (pagesL pp q).length = pp + q := by
  unfold pagesL; rw [List.length_append, List.length_range', List.length_range']
theorem laid_pages {fi r n0 : Nat} {lf : Int} {own0 : Who} {pp q : Nat} {z : Sp} (h : Laid fi r lf n0 own0 pp q z) (hp : pp ≤ 55) (hq : q ≤ 8) : (pagesX fi z r).2 = (pagesL pp q).map fun n => ((n : Nat) : Int) := by
  obtain ⟨own, p, j, hw, hr, _, _⟩ := h.ex
  rw [pages_is hw hr, ← pages_list hw hr (pagesL pp q) (pagesL_asc hp) (fun P => ?_), List.map_map]
  · rfl
  · rw [pagesL_mem]
    constructor
    · intro hP
      have hP2 : P < 32768 := by omega
      exact ⟨hP2, by rw [h.p3 P hP2]; exact decide_eq_true hP⟩
    · rintro ⟨h1, h2⟩
      rw [h.p3 P h1] at h2
      exact of_decide_eq_true h2
theorem szb {x : Pg} (hm : mayP x = true) : szT x = pgN x.tx.size ∧ szD x = pgN (x.da.size + x.bs.toNat) ∧ 1 ≤ szT x ∧ szT x ≤ 8 ∧ szD x ≤ 20 := by
  obtain ⟨m1, m2, m3, m4, m5, m6, m7, m8, m9, m10⟩ := may_iff.1 hm
  unfold szT szD
  rw [hm, cond_true, cond_true]
  unfold pgN
  omega
theorem laid_start {fi : Nat} {z : Sp} {own : Who} (h : WF fi z own) (hl : 1 ≤ leftX fi z) :
    ∃ r : Nat, takeN z.L fi = r ∧ takeE z.L fi = 0 ∧ r < z.L.length ∧ own r = none ∧ Laid fi r (leftX fi z - 1) z.L.length own 0 0 (takeX fi z) := by
  have htb : takeB z.L fi = true := (left_take h.fle).2 (by omega)
  obtain ⟨r, e0, hlt, hn, w1, hT⟩ := wf_new h htb
  obtain ⟨_, _, _, _, _, e1, _⟩ := take_b htb
  have hz : ∀ k, k < 32 → T (takeX fi z) r k = 0 := fun k hk => by rw [hT r k hlt hk, if_pos rfl]
  have hr : upd own r (3, 0, 0) r = some (3, 0, 0) := by unfold upd; rw [if_pos rfl]
  have hno : ∀ d m, (pth (takeX fi z) r (d + 1) m).isSome = false := fun d m => by rw [pth_fresh hz]; rfl
  refine ⟨r, e0, e1, hlt, hn, ⟨_, 0, 0, w1, hr, fun f v e => ?_, fun f v e0 e1 => ?_⟩, fun P hP => ?_, fun m hm => ?_, fun m hm => ?_, ?_, (take_sz fi h.sz).2⟩
  · unfold upd
    by_cases q : f = r
    · subst q; rw [hn] at e; cases e
    · rw [if_neg q]; exact e
  · unfold upd at e1
    by_cases q : f = r
    · subst q; exact .top (by rw [hr])
    · rw [if_neg q, e0] at e1; cases e1
  · rw [hno 2 P, decide_eq_false (by omega)]
  · rw [hno 1 m, decide_eq_false (by omega)]
  · rw [hno 0 m, decide_eq_false (by omega)]
  · rw [left_taken htb]; simp
/-- Whatever is taken: a program that finds room is laid. -/
theorem load_st {fi : Nat} {z : Sp} {own : Who} (h : WF fi z own) {x : Pg} (hm : mayP x = true) (hl : (szT x : Int) + szD x + 12 ≤ leftX fi z) :
    ∃ (r : Nat) (zs : Nat → Sp), takeN z.L fi = r ∧ takeE z.L fi = 0 ∧ r < z.L.length ∧ own r = none ∧ takeX fi z = zs 0 ∧ (∀ i, i < 3 → layX fi r (prB i) (prC (szT x) (szD x) i) (prF (szT x) i) (prY x.tx x.da i) (zs i) = (zs (i + 1), 0)) ∧
      Laid fi r (leftX fi z - 1) z.L.length own (szT x + szD x) 8 (zs 3) := by
  obtain ⟨hT, hD, t1, t8, d20⟩ := szb hm
  obtain ⟨r, e0, e1, hlt, hn, L0⟩ := laid_start h (by omega)
  obtain ⟨a0, L1⟩ := layX_low (b := 27) (by decide) (by decide) (by decide) (by decide) (szT x) 0 x.tx _ L0 (by omega) (by omega)
  obtain ⟨a1, L2⟩ := layX_low (b := 23) (by decide) (by decide) (by decide) (by decide) (szD x) (0 + szT x) x.da _ L1 (by omega) (by omega)
  obtain ⟨a2, L3⟩ := layX_high (b := 23) (by decide) (by decide) (by decide) (by decide) (pp := 0 + szT x + szD x) (by omega) 8 0 ⟨#[]⟩ _ L2 (by omega) (by omega)
  rw [show 0 + szT x + szD x = szT x + szD x by omega] at L3
  refine ⟨r, fun i => match i with | 0 => takeX fi z | 1 => (layX fi r (27 : Nat) (szT x) ((0 + 1 : Nat) : Int) x.tx (takeX fi z)).1 | 2 => (layX fi r (23 : Nat) (szD x) ((0 + szT x + 1 : Nat) : Int) x.da (layX fi r (27 : Nat) (szT x) ((0 + 1 : Nat) : Int) x.tx (takeX fi z)).1).1 | _ => (layX fi r (23 : Nat) 8 ((56 + 0 : Nat) : Int) ⟨#[]⟩ (layX fi r (23 : Nat) (szD x) ((0 + szT x + 1 : Nat) : Int) x.da (layX fi r (27 : Nat) (szT x) ((0 + 1 : Nat) : Int) x.tx (takeX fi z)).1).1).1, e0, e1, hlt, hn, rfl, fun i hi => ?_, L3⟩
  have hs : i = 0 ∨ i = 1 ∨ i = 2 := by omega
  rcases hs with rfl | rfl | rfl
  · exact Prod.ext rfl a0
  · refine Prod.ext ?_ ?_
    · show (layX fi r 23 (szD x) ((1 + szT x : Nat) : Int) x.da _).1 = _
      rw [show 1 + szT x = 0 + szT x + 1 by omega]; rfl
    · show (layX fi r 23 (szD x) ((1 + szT x : Nat) : Int) x.da _).2 = _
      rw [show 1 + szT x = 0 + szT x + 1 by omega]; exact a1
  · exact Prod.ext rfl a2
end Go.Proofs.YtdlglnoffpnonaaGreat.P
