/- Stage 11: a space counted, listed, given back. No condition. -/
import Derived.Test.YtbcnibnkojnpiaaGreatEQ
import Derived.Test.YtbcnibnkojnpiaaGreatED
set_option linter.unusedVariables false
namespace Go.Proofs.YtbcnibnkojnpiaaGreat.P
open Go.RowKit Go.MuLone Go.Maps
theorem il_len (z : Sp) : ∀ (h f n b : Nat), h ≤ 3 → (il z h f n b).length ≤ (if h = 0 then 1 else if h = 1 then 33 else if h = 2 then 1057 else 33825) := by
  have step : ∀ (f n : Nat) (c : Nat → Nat → Nat → List It) (C : Nat), (∀ g m b, (c g m b).length ≤ C) → ∀ K, (ilpF z f n c K).length ≤ K * C := by
    intro f n c C hc K
    induction K with
    | zero => rw [ilpF]; simp
    | succ K ih =>
      rw [ilpF, List.length_append, Nat.succ_mul]
      have : (kidL z f K fun g b => c g (n * 32 + K) b).length ≤ C := by
        unfold kidL
        cases kid z f K with
        | none => exact Nat.zero_le _
        | some g => exact hc _ _ _
      omega
  have h0 : ∀ f n b, (il z 0 f n b).length ≤ 1 := fun f n b => by rw [il]; simp
  have h1 : ∀ f n b, (il z 1 f n b).length ≤ 33 := fun f n b => by
    rw [il, List.length_append]; have := step f n (fun g m c => il z 0 g m c) 1 h0 32; simp only [List.length_singleton]; omega
  have h2 : ∀ f n b, (il z 2 f n b).length ≤ 1057 := fun f n b => by
    rw [il, List.length_append]; have := step f n (fun g m c => il z 1 g m c) 33 h1 32; simp only [List.length_singleton]; omega
  have h3 : ∀ f n b, (il z 3 f n b).length ≤ 33825 := fun f n b => by
    rw [il, List.length_append]; have := step f n (fun g m c => il z 2 g m c) 1057 h2 32; simp only [List.length_singleton]; omega
  intro h f n b hh
  rcases (show h = 0 ∨ h = 1 ∨ h = 2 ∨ h = 3 by omega) with rfl | rfl | rfl | rfl
  · exact h0 f n b
  · exact h1 f n b
  · exact h2 f n b
  · exact h3 f n b
theorem ilR_len (z : Sp) (r : Nat) : (ilR z r).length ≤ 33825 := il_len z 3 r 0 0 (Nat.le_refl _)
/-- A whole space gone through. -/
theorem fold_ilR {X : Type} {rd : X → Sp} {fi : Nat} {pg : Int → Int → Int → X → X} {tb : Int → X → X} {z : Sp} {own : Who} (h : WF fi z own) {r p j : Nat} (hr : own r = some (3, p, j)) (J : List It → X → Prop)
    (hJ : ∀ pre it post x, ilR z r = pre ++ it :: post → J pre x → J (pre ++ [it]) (actI pg tb x it))
    (hS : ∀ pre post x, ilR z r = pre ++ post → J pre x → (rd x).s.length = z.s.length ∧ ∀ it, it ∈ post → (1 ≤ it.h → ∀ k, k < 32 → T (rd x) it.f k = T z it.f k) ∧ tknB (rd x).L fi (it.f : Int) = true)
    (x : X) (hx : J [] x) : visX rd fi pg tb 2 r 0 x = (ilR z r).foldl (actI pg tb) x ∧ J (ilR z r) ((ilR z r).foldl (actI pg tb) x) := by
  have key := fold_il h (ilR z r) J hJ hS
  unfold ilR at key ⊢
  have k2 := key 2 r 0 0 p j [] [] x hr (by rw [List.nil_append, List.append_nil]) hx
  rw [List.nil_append, Int.natCast_zero] at k2
  exact k2
/-- A walk that leaves memory and pool. -/
theorem fold_read {X : Type} {rd : X → Sp} {fi : Nat} {pg : Int → Int → Int → X → X} {tb : Int → X → X} {z : Sp} {own : Who} (h : WF fi z own) {r p j : Nat} (hr : own r = some (3, p, j)) (hp : ∀ n f g x, rd x = z → rd (pg n f g x) = z) (ht : ∀ f x, rd x = z → rd (tb f x) = z) (x : X) (hx : rd x = z) :
    visX rd fi pg tb 2 r 0 x = (ilR z r).foldl (actI pg tb) x := by
  exact (fold_ilR h hr (fun _ x => rd x = z) (fun pre it post x _ hj => by
    unfold actI
    by_cases e : it.h = 0
    · rw [if_pos e]; exact hp _ _ _ _ hj
    · rw [if_neg e]; exact ht _ _ hj) (fun pre post x ha hj => by
    rw [hj]
    refine ⟨rfl, fun it hm => ⟨fun _ _ _ => rfl, ?_⟩⟩
    obtain ⟨_, p', j', e⟩ := ilR_own h hr (it := it) (by rw [ha]; exact List.mem_append_right _ hm)
    exact h.tkn e) x hx).1
theorem count_is {fi : Nat} {z : Sp} {own : Who} (h : WF fi z own) {r p j : Nat} (hr : own r = some (3, p, j)) : (countX fi z r).2 = ((ilR z r).length : Nat) := by
  unfold countX
  rw [fold_read (X := Sp × Int) (rd := fun x => x.1) (pg := fun _ _ _ x => (x.1, IntKind.i64.wrap (x.2 + 1))) (tb := fun _ x => (x.1, IntKind.i64.wrap (x.2 + 1))) h hr (fun n f g x e => by exact e) (fun f x e => by exact e) (z, 0) rfl]
  have key : ∀ (l : List It) (c : Int), 0 ≤ c → c + l.length < 9223372036854775808 → (l.foldl (actI (X := Sp × Int) (fun _ _ _ x => (x.1, IntKind.i64.wrap (x.2 + 1))) (fun _ x => (x.1, IntKind.i64.wrap (x.2 + 1)))) (z, c)).2 = c + l.length := by
    intro l
    induction l with
    | nil => intro c _ _; simp
    | cons it l ih =>
      intro c h0 h1
      rw [List.length_cons] at h1
      have ea : actI (X := Sp × Int) (fun _ _ _ x => (x.1, IntKind.i64.wrap (x.2 + 1))) (fun _ x => (x.1, IntKind.i64.wrap (x.2 + 1))) (z, c) it = (z, c + 1) := by
        have ew : IntKind.i64.wrap (c + 1) = c + 1 := by rw [IntKind.wrap_i64]; omega
        unfold actI
        by_cases e : it.h = 0
        · rw [if_pos e]; show (z, IntKind.i64.wrap (c + 1)) = _; rw [ew]
        · rw [if_neg e]; show (z, IntKind.i64.wrap (c + 1)) = _; rw [ew]
      rw [List.foldl_cons, ea, ih (c + 1) (by omega) (by omega), List.length_cons]
      omega
  have hl := ilR_len z r
  rw [key (ilR z r) 0 (by omega) (by omega)]; omega
/-- The pages' numbers, rising. -/
def pgs (z : Sp) (r : Nat) : List It := (ilR z r).filter fun it => decide (it.h = 0)
theorem pages_is {fi : Nat} {z : Sp} {own : Who} (h : WF fi z own) {r p j : Nat} (hr : own r = some (3, p, j)) : (pagesX fi z r).2 = (pgs z r).map fun it => (it.n : Int) := by
  unfold pagesX
  rw [fold_read (X := Sp × List Int) (rd := fun x => x.1) (pg := fun n _ _ x => (x.1, x.2 ++ [n])) (tb := fun _ x => x) h hr (fun n f g x e => by exact e) (fun f x e => by exact e) (z, []) rfl]
  have key : ∀ (l : List It) (c : List Int), (l.foldl (actI (X := Sp × List Int) (fun n _ _ x => (x.1, x.2 ++ [n])) (fun _ x => x)) (z, c)).2 = c ++ (l.filter fun it => decide (it.h = 0)).map fun it => (it.n : Int) := by
    intro l
    induction l with
    | nil => intro c; simp
    | cons it l ih =>
      intro c
      rw [List.foldl_cons]
      by_cases e : it.h = 0
      · have ea : actI (X := Sp × List Int) (fun n _ _ x => (x.1, x.2 ++ [n])) (fun _ x => x) (z, c) it = (z, c ++ [(it.n : Int)]) := by unfold actI; rw [if_pos e]
        rw [ea, ih, List.filter_cons_of_pos (by simpa using e), List.map_cons, List.append_assoc]; rfl
      · have ea : actI (X := Sp × List Int) (fun n _ _ x => (x.1, x.2 ++ [n])) (fun _ x => x) (z, c) it = (z, c) := by unfold actI; rw [if_neg e]
        rw [ea, ih, List.filter_cons_of_neg (by simpa using e)]
  rw [key, List.nil_append, pgs]
-- giving
theorem tkn_nat {L : List Bool} {fi f : Nat} (h : tknB L fi (f : Int) = true) : fi ≤ f ∧ f < L.length ∧ isL L f = false := by
  unfold tknB at h
  simp only [Bool.and_eq_true, decide_eq_true_eq, Bool.not_eq_true', Int.toNat_natCast] at h
  exact ⟨by omega, by omega, h.2⟩
theorem tkn_iff {L : List Bool} {fi f : Nat} : tknB L fi (f : Int) = true ↔ (fi ≤ f ∧ f < L.length ∧ isL L f = false) := by
  refine ⟨tkn_nat, fun ⟨h1, h2, h3⟩ => ?_⟩
  unfold tknB
  rw [decide_eq_true (by omega), decide_eq_true (by omega), Int.toNat_natCast, h3]; rfl
theorem give_one {fi : Nat} {z : Sp} (hz : Sz z) {f : Nat} (ht : tknB z.L fi (f : Int) = true) :
    Sz (giveX fi f z) ∧ (giveX fi f z).L.length = z.L.length ∧ (∀ k, isL (giveX fi f z).L k = if k = f then true else isL z.L k) ∧
      (∀ g j, g < z.L.length → j < 32 → T (giveX fi f z) g j = if g = f then 0 else T z g j) ∧ leftX fi (giveX fi f z) = leftX fi z + 1 := by
  obtain ⟨h1, h2, h3⟩ := tkn_nat ht
  have eL : giveL z.L fi (f : Int) = z.L.set f true := by unfold giveL; rw [ht, Int.toNat_natCast]; rfl
  have eS : giveS z.L fi (f : Int) z.s = clearS z.L.length z.s f := by unfold giveS; rw [ht, Int.toNat_natCast]; rfl
  have eX : giveX fi f z = ⟨z.L.set f true, clearS z.L.length z.s f⟩ := by unfold giveX; rw [eL, eS]
  rw [eX]
  refine ⟨⟨?_, ?_, ?_⟩, List.length_set, fun k => isL_set _ _ _ _ h2, fun g j hg hj => T_clear hz.len h2 z.L _ g j hg hj, ?_⟩
  · show (clearS _ _ _).length = (z.L.set f true).length * 256
    rw [List.length_set]; exact clear_sz hz.len _
  · show 1 ≤ (z.L.set f true).length
    rw [List.length_set]; exact hz.lo
  · show (z.L.set f true).length ≤ 256
    rw [List.length_set]; exact hz.hi
  · unfold leftX
    show ((cntL (z.L.set f true) fi ((z.L.set f true).length - fi) : Nat) : Int) = _
    rw [List.length_set]
    have := cnt_set z.L fi f true h2 h1 (z.L.length - fi) (by omega)
    rw [if_neg (by rw [h3]; decide), if_pos rfl] at this
    omega
def gvs (fi : Nat) (G : List Nat) (z : Sp) : Sp := G.foldl (fun (z : Sp) (f : Nat) => giveX fi (f : Int) z) z
theorem gvs_is (fi : Nat) : ∀ (G : List Nat) (z : Sp), Sz z → G.Nodup → (∀ f, f ∈ G → tknB z.L fi (f : Int) = true) →
    Sz (gvs fi G z) ∧ (gvs fi G z).L.length = z.L.length ∧ (∀ k, isL (gvs fi G z).L k = (isL z.L k || decide (k ∈ G))) ∧
      (∀ g j, g < z.L.length → j < 32 → T (gvs fi G z) g j = if g ∈ G then 0 else T z g j) ∧ leftX fi (gvs fi G z) = leftX fi z + G.length
  | [], z, hz, _, _ => ⟨hz, rfl, fun k => by show isL z.L k = _; simp, fun g j _ _ => by show T z g j = _; simp, by show leftX fi z = _; simp⟩
  | f :: G, z, hz, hn, ht => by
    rw [List.nodup_cons] at hn
    obtain ⟨a1, a2, a3, a4, a5⟩ := give_one hz (ht f (by simp))
    obtain ⟨b1, b2, b3, b4, b5⟩ := gvs_is fi G (giveX fi f z) a1 hn.2 (fun g hg => by
      obtain ⟨q1, q2, q3⟩ := tkn_nat (ht g (by simp [hg]))
      refine tkn_iff.2 ⟨q1, by rw [a2]; exact q2, ?_⟩
      rw [a3, if_neg (fun e => hn.1 (by rw [← e]; exact hg))]; exact q3)
    have e0 : gvs fi (f :: G) z = gvs fi G (giveX fi f z) := rfl
    rw [e0]
    refine ⟨b1, b2.trans a2, fun k => ?_, fun g j hg hj => ?_, by rw [b5, a5, List.length_cons]; omega⟩
    · rw [b3, a3]
      by_cases e : k = f
      · subst e; rw [if_pos rfl, decide_eq_true (show k ∈ k :: G by simp), Bool.true_or, Bool.or_true]
      · rw [if_neg e]
        congr 1
        simp [e]
    · rw [b4 g j (by rw [a2]; exact hg) hj, a4 g j hg hj]
      by_cases e : g = f
      · subst e; simp
      · rw [if_neg e]; simp [e]
theorem free_is {fi : Nat} {z : Sp} {own : Who} (h : WF fi z own) {r p j : Nat} (hr : own r = some (3, p, j)) : freeX fi z r = gvs fi ((ilR z r).map It.f) z := by
  have hnd := ilR_nodup h hr
  have htk : ∀ it, it ∈ ilR z r → tknB z.L fi (it.f : Int) = true := fun it hm => by
    obtain ⟨_, p', j', e⟩ := ilR_own h hr hm
    exact h.tkn e
  have this := fold_ilR (X := Sp) (rd := id) (pg := fun _ f _ x => giveX fi f x) (tb := fun f x => giveX fi f x) h hr (fun pre x => x = gvs fi (pre.map It.f) z) (fun pre it post x ha hj => by
    subst hj
    have ea : ∀ y : Sp, actI (X := Sp) (fun _ f _ x => giveX fi f x) (fun f x => giveX fi f x) y it = giveX fi it.f y := fun y => by
      unfold actI
      by_cases e : it.h = 0
      · rw [if_pos e]
      · rw [if_neg e]
    rw [ea]
    unfold gvs
    rw [List.map_append, List.foldl_append]; rfl) (fun pre post x ha hj => by
    have ha2 : (pre.map It.f ++ post.map It.f).Nodup := by rw [← List.map_append, ← ha]; exact hnd
    rw [List.nodup_append] at ha2
    obtain ⟨n1, n2, n3⟩ := ha2
    have hpre : ∀ f, f ∈ pre.map It.f → tknB z.L fi (f : Int) = true := fun f hf => by
      obtain ⟨it, hm, rfl⟩ := List.mem_map.1 hf
      exact htk it (by rw [ha]; exact List.mem_append_left _ hm)
    obtain ⟨g1, g2, g3, g4, _⟩ := gvs_is fi (pre.map It.f) z h.sz n1 hpre
    subst hj
    refine ⟨by show (gvs fi (pre.map It.f) z).s.length = _; rw [g1.len, g2, h.sz.len], fun it hm => ?_⟩
    have hno : it.f ∉ pre.map It.f := fun e => n3 _ e _ (List.mem_map.2 ⟨it, hm, rfl⟩) rfl
    obtain ⟨q1, q2, q3⟩ := tkn_nat (htk it (by rw [ha]; exact List.mem_append_right _ hm))
    refine ⟨fun _ k hk => ?_, ?_⟩
    · show T (gvs fi (pre.map It.f) z) it.f k = _
      rw [g4 it.f k q2 hk, if_neg hno]
    · show tknB (gvs fi (pre.map It.f) z).L fi _ = true
      refine tkn_iff.2 ⟨q1, by rw [g2]; exact q2, ?_⟩
      rw [g3, q3, decide_eq_false hno]; rfl) z rfl
  unfold freeX
  rw [this.1]
  exact this.2
/-- A space is given back: its frames are free, the others as they were. -/
theorem free_wf {fi : Nat} {z : Sp} {own : Who} (h : WF fi z own) {r p j : Nat} (hr : own r = some (3, p, j)) :
    ∃ own', WF fi (freeX fi z r) own' ∧ (∀ f, own' f = none ↔ (own f = none ∨ Und own r f)) ∧ (∀ f v, own' f = some v → own f = some v) ∧ leftX fi (freeX fi z r) = leftX fi z + (ilR z r).length ∧ (freeX fi z r).L.length = z.L.length := by
  have hnd := ilR_nodup h hr
  have htk : ∀ f, f ∈ (ilR z r).map It.f → tknB z.L fi (f : Int) = true := fun f hf => by
    obtain ⟨it, hm, rfl⟩ := List.mem_map.1 hf
    obtain ⟨_, p', j', e⟩ := ilR_own h hr hm
    exact h.tkn e
  obtain ⟨g1, g2, g3, g4, g5⟩ := gvs_is fi ((ilR z r).map It.f) z h.sz hnd htk
  rw [← free_is h hr] at g1 g2 g3 g4 g5
  have hin : ∀ f, f ∈ (ilR z r).map It.f ↔ Und own r f := fun f => by
    constructor
    · intro hf
      obtain ⟨it, hm, rfl⟩ := List.mem_map.1 hf
      exact (ilR_own h hr hm).1
    · intro hu
      obtain ⟨it, hm, e⟩ := ilR_all h hu
      exact List.mem_map.2 ⟨it, hm, e⟩
  have hoff := wf_off h (fun f => decide (f ∈ (ilR z r).map It.f)) g1 g2 (fun f _ _ => g3 f) (fun f hf hS k hk => by
    rw [g4 f k hf hk, if_neg (of_decide_eq_false hS)]) (fun g hh p' k hg hl => by
    apply decide_eq_decide.2
    rw [hin, hin]
    constructor
    · intro hu
      cases hu with
      | top h0 => rw [h0] at hg; injection hg with hg; injection hg with e _; omega
      | step h1 h2 h3 => rw [h1] at hg; injection hg with hg; injection hg with _ hg; injection hg with e _; rw [← e]; exact h3
    · intro hu; exact .step hg hl hu)
  refine ⟨_, hoff, fun f => ?_, fun f v hf => ?_, by rw [g5, List.length_map], g2⟩
  · by_cases e : f ∈ (ilR z r).map It.f
    · simp only [decide_eq_true e, if_true]; exact ⟨fun _ => .inr ((hin f).1 e), fun _ => trivial⟩
    · simp only [decide_eq_false e, if_neg Bool.false_ne_true]
      exact ⟨.inl, fun h => h.elim id (fun u => absurd ((hin f).2 u) e)⟩
  · by_cases e : f ∈ (ilR z r).map It.f
    · simp only [decide_eq_true e, if_true] at hf; cases hf
    · simp only [decide_eq_false e, if_neg Bool.false_ne_true] at hf; exact hf
theorem cnt_all (L : List Bool) (a : Nat) : ∀ n, (∀ j, a ≤ j → j < a + n → isL L j = true) → cntL L a n = n
  | 0, _ => rfl
  | n + 1, h => by
    rw [cntL, cnt_all L a n (fun j h1 h2 => h j h1 (by omega)), if_pos (h (a + n) (by omega) (by omega))]
/-- Nothing is taken: all are free. -/
theorem left_all {fi : Nat} {z : Sp} {own : Who} (h : WF fi z own) (hn : ∀ f, own f = none) : leftX fi z = (z.L.length : Int) - fi := by
  unfold leftX
  have hf := h.fle
  rw [cnt_all z.L fi (z.L.length - fi) (fun j h1 h2 => by
    cases q : isL z.L j
    · have := (h.tk j).2 ⟨h1, by omega, q⟩
      rw [hn j] at this; cases this
    · rfl)]
  omega
end Go.Proofs.YtbcnibnkojnpiaaGreat.P
namespace Go.Proofs.YtbcnibnkojnpiaaGreat.P
open Go.RowKit Go.MuLone Go.Maps
theorem copy_T {z : Sp} (hz : Sz z) (n k : Int) (hn : 0 ≤ n) {f j : Nat} (hf : f < z.L.length) (hj : j < 32) (hne : (f : Int) ≠ n) : T ⟨z.L, copyS z.L.length z.s n k⟩ f j = T z f j := by
  have hl := hz.len
  unfold copyS
  by_cases h1 : frB z.L.length n = true
  · rw [if_pos h1]
    by_cases h2 : frB z.L.length k = true
    · rw [if_pos h2]
      have h1 := of_decide_eq_true h1
      have h2 := of_decide_eq_true h2
      have hx : ((z.s.drop (k.toNat * 256)).take 256).length = 256 := by rw [List.length_take, List.length_drop]; omega
      exact ent_put z.s (n.toNat * 256) _ (by omega) _ (by omega) (by rw [hx]; omega)
    · rw [if_neg h2]
  · rw [if_neg h1]
theorem copy_sz {z : Sp} (hz : Sz z) (n k : Int) : Sz ⟨z.L, copyS z.L.length z.s n k⟩ := by
  refine ⟨?_, hz.lo, hz.hi⟩
  have hl := hz.len
  show (copyS z.L.length z.s n k).length = _
  unfold copyS
  by_cases h1 : frB z.L.length n = true
  · rw [if_pos h1]
    by_cases h2 : frB z.L.length k = true
    · rw [if_pos h2]
      have h1 := of_decide_eq_true h1
      have h2 := of_decide_eq_true h2
      have hx : ((z.s.drop (k.toNat * 256)).take 256).length = 256 := by rw [List.length_take, List.length_drop]; omega
      rw [putL_len _ _ _ (by omega)]; exact hl
    · rw [if_neg h2]; exact hl
  · rw [if_neg h1]; exact hl
theorem kid_congr {y z : Sp} {f k : Nat} (h : T y f k = T z f k) : kid y f k = kid z f k := by unfold kid; rw [h]
/-- Where the tables are the same, the places are. -/
theorem pth_congr {fi : Nat} {z y : Sp} {own : Who} (h : WF fi z own) {r p j : Nat} (hr : own r = some (3, p, j)) (hT : ∀ f hh p j, own f = some (hh + 1, p, j) → Und own r f → ∀ k, k < 32 → T y f k = T z f k) : ∀ d m, d ≤ 3 → pth y r d m = pth z r d m
  | 0, _, _ => rfl
  | d + 1, m, hd => by
    rw [pth, pth, pth_congr h hr hT d (m / 32) (by omega)]
    cases hg : pth z r d (m / 32) with
    | none => rfl
    | some g =>
      show kid y g _ = kid z g _
      obtain ⟨p', j', ho⟩ := pth_high h hr (show d ≤ 3 by omega) hg
      exact kid_congr (hT g (2 - d) p' j' (by rw [ho]; congr 2; omega) (Und.of_pth h hr d _ g (by omega) hg) _ (by omega))
theorem il_congr {fi : Nat} {z y : Sp} {own : Who} (h : WF fi z own) {r p j : Nat} (hr : own r = some (3, p, j)) (hT : ∀ f hh p j, own f = some (hh + 1, p, j) → Und own r f → ∀ k, k < 32 → T y f k = T z f k) : ∀ (hh f n b p j : Nat), hh ≤ 3 → own f = some (hh, p, j) → Und own r f → il y hh f n b = il z hh f n b
  | 0, f, n, b, _, _, _, _, _ => by rw [il, il]
  | hh + 1, f, n, b, p, j, hl, ho, hu => by
    have key : ∀ K, K ≤ 32 → ilpF y f n (fun g m c => il y hh g m c) K = ilpF z f n (fun g m c => il z hh g m c) K := by
      intro K
      induction K with
      | zero => intro _; rfl
      | succ K ih =>
        intro hK
        rw [ilpF, ilpF, ih (by omega)]
        congr 1
        unfold kidL
        have e := hT f hh p j ho hu K (by omega)
        rw [kid_congr e, e]
        cases hk : kid z f K with
        | none => rfl
        | some g =>
          have hg := (h.kid_iff ho (show K < 32 by omega)).1 hk
          exact il_congr h hr hT hh g _ _ f K (by omega) hg (.step hg (by omega) hu)
    rw [il, il, key 32 (Nat.le_refl _)]
/-- A page is written. -/
theorem Grw.page {fi : Nat} {z y y' : Sp} {own own' : Who} {r : Nat} (g : Grw fi z own y own' r) (hsz : Sz y') (hL : y'.L = y.L) (hT : ∀ f hh p j, own' f = some (hh + 1, p, j) → ∀ k, k < 32 → T y' f k = T y f k) : Grw fi z own y' own' r :=
  ⟨wf_page g.wf hsz hL hT, by rw [hL]; exact g.len, g.old, g.new, fun f hh p j e hu k hk => by rw [hT f hh p j (g.old _ _ e) k hk]; exact g.tab f hh p j e hu k hk, fun f hh p j e k hk hn => by rw [hT f hh p j (g.old _ _ e) k hk]; exact g.keep f hh p j e k hk hn⟩
theorem count_upd (p : It → Bool) (c : It) : ∀ (l : List It), l.Pairwise Apart → c ∈ l → l.countP (fun i => p i || decide (i.h = c.h ∧ i.n = c.n)) = l.countP p + (if p c = true then 0 else 1)
  | [], _, h => by cases h
  | a :: l, hp, hm => by
    rw [List.pairwise_cons] at hp
    rw [List.countP_cons, List.countP_cons]
    by_cases e : a.h = c.h ∧ a.n = c.n
    · have hac : c = a := by
        rcases List.mem_cons.1 hm with e2 | e2
        · exact e2
        · exact absurd e (hp.1 c e2)
      have same : l.countP (fun i => p i || decide (i.h = c.h ∧ i.n = c.n)) = l.countP p := by
        apply List.countP_congr
        intro i hi
        have : ¬ (i.h = c.h ∧ i.n = c.n) := fun e3 => hp.1 i hi ⟨by rw [e.1, e3.1], by rw [e.2, e3.2]⟩
        rw [decide_eq_false this, Bool.or_false]
      rw [same, decide_eq_true e, Bool.or_true, hac]
      by_cases q : p a = true
      · rw [if_pos rfl, if_pos q, if_pos q]
      · rw [if_pos rfl, if_neg q, if_neg q]
    · have hm2 : c ∈ l := by
        rcases List.mem_cons.1 hm with e2 | e2
        · exact absurd ⟨by rw [e2], by rw [e2]⟩ e
        · exact e2
      rw [count_upd p c l hp.2 hm2, decide_eq_false e, Bool.or_false]
      omega
/-- A page stands in the list, and the tables to it. -/
theorem page_items {fi : Nat} {z : Sp} {own : Who} (h : WF fi z own) {r p j P f : Nat} (hr : own r = some (3, p, j)) (hP : P < 32768) (hp : pth z r 3 P = some f) :
    (∃ f b, (⟨2, P / 1024, f, b⟩ : It) ∈ ilR z r) ∧ (∃ f b, (⟨1, P / 32, f, b⟩ : It) ∈ ilR z r) ∧ (∃ f b, (⟨0, P, f, b⟩ : It) ∈ ilR z r) := by
  have go : ∀ (e m f : Nat), e ≤ 3 → m < 32 ^ e → pth z r e m = some f → ∃ b, (⟨3 - e, m, f, b⟩ : It) ∈ ilR z r := fun e m f he hm hq =>
    il_all h hr 3 r 0 0 e m f (Nat.le_refl _) he rfl (Nat.div_eq_of_lt hm) (by rw [show 3 - 3 + e = e by omega]; exact hq)
  obtain ⟨g1, h1⟩ := pth_up 2 1 P f hp
  obtain ⟨g2, h2⟩ := pth_up 1 2 P f hp
  have e1 : P / 32 ^ 2 = P / 1024 := by rw [show (32 : Nat) ^ 2 = 1024 by decide]
  have e2 : P / 32 ^ 1 = P / 32 := by rw [show (32 : Nat) ^ 1 = 32 by decide]
  rw [e1] at h1
  rw [e2] at h2
  have p1 : (32 : Nat) ^ 1 = 32 := by decide
  have p2 : (32 : Nat) ^ 2 = 1024 := by decide
  have p3 : (32 : Nat) ^ 3 = 32768 := by decide
  obtain ⟨b1, m1⟩ := go 1 _ _ (by decide) (by omega) h1
  obtain ⟨b2, m2⟩ := go 2 _ _ (by decide) (by omega) h2
  obtain ⟨b3, m3⟩ := go 3 _ _ (by decide) (by omega) hp
  exact ⟨⟨_, _, m1⟩, ⟨_, _, m2⟩, ⟨_, _, m3⟩⟩
/-- Is there a frame of `to` at the place of the item? -/
def pres (x : Sp) (to_ : Nat) (i : It) : Bool := decide (i.h < 3) && (pth x to_ (3 - i.h) i.n).isSome
/-- The root isn't counted. -/
theorem pres_le (z x : Sp) (r to_ : Nat) (q : It → Bool) (hq : ∀ i, 3 ≤ i.h → q i = false) : (ilR z r).countP q + 1 ≤ (ilR z r).length := by
  have e : ilR z r = ilpF z r 0 (fun g m c => il z 2 g m c) 32 ++ [⟨3, 0, r, 0⟩] := by unfold ilR; rw [il]
  rw [e, List.countP_append, List.length_append, List.countP_cons, hq _ (Nat.le_refl _)]
  have := List.countP_le_length (p := q) (l := ilpF z r 0 (fun g m c => il z 2 g m c) 32)
  simp only [List.countP_nil, List.length_singleton, Bool.false_eq_true, if_false]
  omega
structure CopyJ (fi : Nat) (z : Sp) (own : Who) (r to_ : Nat) (pre : List It) (x : Sp) (ownx : Who) : Prop where
  grw : Grw fi z own x ownx to_
  is : ∀ d m, 1 ≤ d → d ≤ 3 → m < 32 ^ d → (pth x to_ d m).isSome = decide (∃ i, i ∈ pre ∧ i.h = 0 ∧ i.n / 32 ^ (3 - d) = m)
  left : leftX fi x + ((ilR z r).countP (pres x to_) : Nat) = leftX fi z
end Go.Proofs.YtbcnibnkojnpiaaGreat.P
namespace Go.Proofs.YtbcnibnkojnpiaaGreat.P
open Go.RowKit Go.MuLone Go.Maps
theorem lack_if (x : Option Nat) : lack x = ((if x.isSome = true then 0 else 1 : Nat) : Int) := by unfold lack; split <;> rfl
theorem copy_step {fi : Nat} {z : Sp} {own : Who} (h : WF fi z own) {r to_ p j : Nat} (hr : own r = some (3, p, j)) (hto : own to_ = some (3, 0, 0)) (hleft : ((ilR z r).length : Int) ≤ leftX fi z + 1)
    {pre post : List It} {it : It} (ha : ilR z r = pre ++ it :: post) {x : Sp} {ownx : Who} (hj : CopyJ fi z own r to_ pre x ownx) (h0 : it.h = 0) :
    mapE fi x to_ it.n it.b = 0 ∧ ∃ own', CopyJ fi z own r to_ (pre ++ [it]) (copyPg fi to_ it.n it.f it.b x) own' := by
  have hmem : it ∈ ilR z r := by rw [ha]; simp
  have o := ilR_mem h hr hmem
  have hap := il_apart h hr 3 r 0 0 (Nat.le_refl _) (by decide) rfl
  have hap : (ilR z r).Pairwise Apart := hap
  obtain ⟨P, hPn⟩ : ∃ P, it.n = P := ⟨_, rfl⟩
  have q3 : (32 : Nat) ^ 3 = 32768 := by decide
  have q2 : (32 : Nat) ^ 2 = 1024 := by decide
  have q1 : (32 : Nat) ^ 1 = 32 := by decide
  have hP : P < 32768 := by have := o.lt; rw [h0, hPn] at this; omega
  have hpt : pth z r 3 P = some it.f := by have := o.pt; rw [h0, hPn] at this; exact this
  obtain ⟨p', hp1, hp2⟩ := o.ent (by rw [h0]; decide)
  rw [h0, hPn] at hp1
  rw [hPn] at hp2
  have hp1 : pth z r 2 (P / 32) = some p' := hp1
  obtain ⟨a1, a2, hop⟩ := pth_high h hr (show 2 ≤ 3 by decide) hp1
  have hkid : kid z p' (P % 32) = some it.f := by
    have := pth_kid (z := z) (r := r) (k := P % 32) (by omega) hp1
    rw [show P / 32 * 32 + P % 32 = P by omega, hpt] at this
    exact this.symm
  have hbit : it.b % 2 = 1 ∧ it.b < 32 := by
    rcases h.ch p' 0 a1 a2 hop (P % 32) (by omega) with q0 | ⟨g, b, c1, c2, c3, _, _⟩
    · rw [kid_zero q0] at hkid; cases hkid
    · rw [← hp2, c1]; omega
  obtain ⟨hb1, hb2⟩ := hbit
  have hox := hj.grw.old _ _ hto
  have hno : pth x to_ 3 P = none := by
    have e := hj.is 3 P (by decide) (by decide) (by omega)
    cases hq : pth x to_ 3 P with
    | none => rfl
    | some g =>
      rw [hq] at e
      have e := of_decide_eq_true e.symm
      obtain ⟨i, hi, e1, e2⟩ := e
      rw [Nat.sub_self, Nat.pow_zero, Nat.div_one] at e2
      rw [ha] at hap
      have := (List.pairwise_append.1 hap).2.2 i hi it (by simp)
      exact absurd ⟨by rw [e1, h0], by rw [e2, hPn]⟩ this
  obtain ⟨⟨f1, b1, m1⟩, ⟨f2, b2, m2⟩, _⟩ := page_items h hr hP hpt
  -- the count
  have v1 : pres x to_ ⟨2, P / 1024, f1, b1⟩ = (pth x to_ 1 (P / 1024)).isSome := rfl
  have v2 : (pres x to_ ⟨1, P / 32, f2, b2⟩ || decide ((⟨1, P / 32, f2, b2⟩ : It).h = 2 ∧ (⟨1, P / 32, f2, b2⟩ : It).n = P / 1024)) = (pth x to_ 2 (P / 32)).isSome := by
    show (pres x to_ ⟨1, P / 32, f2, b2⟩ || decide (1 = 2 ∧ P / 32 = P / 1024)) = _
    rw [decide_eq_false (by omega), Bool.or_false]; rfl
  have v3 : ((pres x to_ it || decide (it.h = 2 ∧ it.n = P / 1024)) || decide (it.h = 1 ∧ it.n = P / 32)) = false := by
    rw [decide_eq_false (by omega), decide_eq_false (by omega), Bool.or_false, Bool.or_false]
    unfold pres
    rw [h0, hPn]
    show (true && (pth x to_ 3 P).isSome) = false
    rw [hno]; rfl
  have k1 : (ilR z r).countP (fun i => pres x to_ i || decide (i.h = 2 ∧ i.n = P / 1024)) = (ilR z r).countP (pres x to_) + (if (pth x to_ 1 (P / 1024)).isSome = true then 0 else 1) := by
    have k := count_upd (pres x to_) ⟨2, P / 1024, f1, b1⟩ (ilR z r) hap m1
    rw [v1] at k; exact k
  have k2 : (ilR z r).countP (fun i => (pres x to_ i || decide (i.h = 2 ∧ i.n = P / 1024)) || decide (i.h = 1 ∧ i.n = P / 32)) = (ilR z r).countP (fun i => pres x to_ i || decide (i.h = 2 ∧ i.n = P / 1024)) + (if (pth x to_ 2 (P / 32)).isSome = true then 0 else 1) := by
    have k := count_upd (fun i => pres x to_ i || decide (i.h = 2 ∧ i.n = P / 1024)) ⟨1, P / 32, f2, b2⟩ (ilR z r) hap m2
    rw [v2] at k; exact k
  have k3 : (ilR z r).countP (fun i => ((pres x to_ i || decide (i.h = 2 ∧ i.n = P / 1024)) || decide (i.h = 1 ∧ i.n = P / 32)) || decide (i.h = it.h ∧ i.n = it.n)) = (ilR z r).countP (fun i => (pres x to_ i || decide (i.h = 2 ∧ i.n = P / 1024)) || decide (i.h = 1 ∧ i.n = P / 32)) + 1 := by
    have k := count_upd (fun i => (pres x to_ i || decide (i.h = 2 ∧ i.n = P / 1024)) || decide (i.h = 1 ∧ i.n = P / 32)) it (ilR z r) hap hmem
    rw [v3, if_neg (by decide)] at k; exact k
  have hle := pres_le z x r to_ (fun i => ((pres x to_ i || decide (i.h = 2 ∧ i.n = P / 1024)) || decide (i.h = 1 ∧ i.n = P / 32)) || decide (i.h = it.h ∧ i.n = it.n)) (fun i hi => by
    unfold pres
    rw [decide_eq_false (show ¬ i.h < 3 by omega), decide_eq_false (show ¬ (i.h = 2 ∧ i.n = P / 1024) by omega), decide_eq_false (show ¬ (i.h = 1 ∧ i.n = P / 32) by omega), decide_eq_false (show ¬ (i.h = it.h ∧ i.n = it.n) by omega)]; rfl)
  have hmiss := miss_eq hj.grw.wf hox hP
  rw [lack_if, lack_if] at hmiss
  have hlf := hj.left
  obtain ⟨hE, own', g1, is1, left1, t0, g, u1, u2, u3, u4⟩ := map_ok hj.grw.wf hox hP hb1 hb2 hno (by omega)
  rw [← hPn] at hE
  refine ⟨hE, ?_⟩
  have hox' := g1.old _ _ hox
  -- the leaf
  obtain ⟨leaf, hleaf⟩ : ∃ leaf, leafV (mapX fi x to_ P it.b).L.length (mapX fi x to_ P it.b).s to_ ((P : Int) * 256) = leaf := ⟨_, rfl⟩
  have hlv : leaf = ((t0 * 256 + P % 32 * 8 : Nat) : Int) := by
    rcases leaf_tab g1.wf hox' hP with ⟨w1, _⟩ | ⟨t1, _, w2, _⟩ | ⟨t1, t0', _, w2, _, w4⟩
    · have := pth_pre' (z := mapX fi x to_ P it.b) (r := to_) (d := 1) (m := P / 32) (by rw [show P / 32 / 32 = P / 1024 by omega]; exact w1)
      have this : pth (mapX fi x to_ P it.b) to_ 2 (P / 32) = none := this
      exact absurd (this.symm.trans u1) (by simp)
    · exact absurd (w2.symm.trans u1) (by simp)
    · have w5 : t0' = t0 := Option.some.inj (w2.symm.trans u1)
      rw [← hleaf, w4, w5]
  obtain ⟨c1, c2, hot⟩ := pth_high g1.wf hox' (show 2 ≤ 3 by decide) u1
  have htl := g1.wf.lt hot
  have hgl := g1.wf.lt u4
  have hent : entS (mapX fi x to_ P it.b).s leaf = ((g * 1024 + it.b : Nat) : Int) := by rw [hlv]; exact u2
  have hlen1 := g1.wf.sz.len
  have hin : leaf + 8 ≤ ((mapX fi x to_ P it.b).s.length : Int) := by
    rw [hlen1, hlv]; exact place_in t0 P _ htl.2.1
  have hval : validB (mapX fi x to_ P it.b).s leaf = true := by
    have hod : ((g * 1024 + it.b : Nat) : Int) % 2 = 1 := by omega
    unfold validB
    rw [hent, decide_eq_true hin, decide_eq_true hod]; rfl
  have hvf : validF (mapX fi x to_ P it.b).s leaf = (g : Int) := by
    unfold validF
    rw [hval, cond_true, hent]; omega
  have eC : copyPg fi to_ it.n it.f it.b x = ⟨(mapX fi x to_ P it.b).L, copyS (mapX fi x to_ P it.b).L.length (mapX fi x to_ P it.b).s (g : Int) it.f⟩ := by
    unfold copyPg
    rw [hPn]
    simp only [hleaf, hval, hvf, cond_true]
  rw [eC]
  have hTt : ∀ f hh p j, own' f = some (hh + 1, p, j) → ∀ k, k < 32 → T ⟨(mapX fi x to_ P it.b).L, copyS (mapX fi x to_ P it.b).L.length (mapX fi x to_ P it.b).s (g : Int) it.f⟩ f k = T (mapX fi x to_ P it.b) f k := fun f hh p j e k hk => by
    have hfg : f ≠ g := fun e2 => by rw [e2, u4] at e; injection e with e; injection e with e _; omega
    exact copy_T g1.wf.sz g it.f (by omega) (g1.wf.lt e).2.1 hk (by omega)
  have grw2 := (hj.grw.trans h g1).page (copy_sz g1.wf.sz g it.f) rfl hTt
  have hpc : ∀ d m, d ≤ 3 → pth ⟨(mapX fi x to_ P it.b).L, copyS (mapX fi x to_ P it.b).L.length (mapX fi x to_ P it.b).s (g : Int) it.f⟩ to_ d m = pth (mapX fi x to_ P it.b) to_ d m := fun d m hd => pth_congr g1.wf hox' (fun f hh p j e _ k hk => hTt f hh p j e k hk) d m hd
  refine ⟨own', grw2, fun d m h1 h2 h3 => ?_, ?_⟩
  · rw [hpc d m h2, is1 d m h2 h3, hj.is d m h1 h2 h3]
    have hdc : (∃ i, i ∈ pre ++ [it] ∧ i.h = 0 ∧ i.n / 32 ^ (3 - d) = m) ↔ ((∃ i, i ∈ pre ∧ i.h = 0 ∧ i.n / 32 ^ (3 - d) = m) ∨ P / 32 ^ (3 - d) = m) := by
      constructor
      · rintro ⟨i, hi, e1, e2⟩
        rcases List.mem_append.1 hi with hi | hi
        · exact .inl ⟨i, hi, e1, e2⟩
        · rcases List.mem_singleton.1 hi with rfl
          exact .inr (by rw [← hPn]; exact e2)
      · rintro (⟨i, hi, e1, e2⟩ | e)
        · exact ⟨i, List.mem_append_left _ hi, e1, e2⟩
        · exact ⟨it, by simp, h0, by rw [hPn]; exact e⟩
    apply Bool.eq_iff_iff.2
    simp only [Bool.or_eq_true, decide_eq_true_eq]
    refine Iff.trans (or_congr Iff.rfl ?_) hdc.symm
    rcases (show d = 1 ∨ d = 2 ∨ d = 3 by omega) with rfl | rfl | rfl
    · rw [show 3 - 1 = 2 from rfl, q2]; omega
    · rw [show 3 - 2 = 1 from rfl, q1]; omega
    · rw [Nat.sub_self, Nat.pow_zero, Nat.div_one]; omega
  · have ecnt : (ilR z r).countP (pres ⟨(mapX fi x to_ P it.b).L, copyS (mapX fi x to_ P it.b).L.length (mapX fi x to_ P it.b).s (g : Int) it.f⟩ to_) = (ilR z r).countP (fun i => ((pres x to_ i || decide (i.h = 2 ∧ i.n = P / 1024)) || decide (i.h = 1 ∧ i.n = P / 32)) || decide (i.h = it.h ∧ i.n = it.n)) := by
      apply List.countP_congr
      intro i hi
      have oi := ilR_mem h hr hi
      unfold pres
      rw [hpc _ _ (by omega), is1 _ _ (by omega) oi.lt, h0, hPn]
      have hle3 := oi.le
      simp only [Bool.and_eq_true, Bool.or_eq_true, decide_eq_true_eq]
      have hm : i.h < 3 ∨ i.h = 3 := by omega
      constructor
      · rintro ⟨e, e2 | e2⟩
        · exact .inl (.inl (.inl ⟨e, e2⟩))
        · rcases e2 with e2 | e2 | e2
          · exact .inl (.inl (.inr (by omega)))
          · exact .inl (.inr (by omega))
          · exact .inr (by omega)
      · rintro (((⟨e, e2⟩ | e2) | e2) | e2)
        · exact ⟨e, .inl e2⟩
        · exact ⟨by omega, .inr (.inl (by omega))⟩
        · exact ⟨by omega, .inr (.inr (.inl (by omega)))⟩
        · exact ⟨by omega, .inr (.inr (.inr (by omega)))⟩
    rw [ecnt]
    show leftX fi (mapX fi x to_ P it.b) + _ = _
    rw [left1, hmiss]
    omega
end Go.Proofs.YtbcnibnkojnpiaaGreat.P
namespace Go.Proofs.YtbcnibnkojnpiaaGreat.P
open Go.RowKit Go.MuLone Go.Maps
theorem und_unique {fi : Nat} {z : Sp} {own : Who} (h : WF fi z own) {r r' f : Nat} (h1 : Und own r f) (h2 : Und own r' f) : r = r' := by
  obtain ⟨⟨p, j, a1⟩, d, n, hh, p2, k, a2, a3, a4, a5⟩ := h1.to_pth h
  obtain ⟨⟨p', j', b1⟩, d', n', hh', p2', k', b2, b3, b4, b5⟩ := h2.to_pth h
  exact (pth_inj h a1 b1 d n d' n' f (by omega) (by omega) a4 b4 a5 b5).1
theorem pth_fresh {z : Sp} {r : Nat} (h0 : ∀ k, k < 32 → T z r k = 0) : ∀ d m, pth z r (d + 1) m = none
  | 0, m => by
    rw [pth_succ]
    exact kid_zero (h0 _ (by omega))
  | d + 1, m => by rw [pth_succ, pth_fresh h0 d]; rfl
theorem copy_wf {fi : Nat} {z : Sp} {own : Who} (h : WF fi z own) {r p j : Nat} (hr : own r = some (3, p, j)) (hc : copyE fi z r = 0) :
    ∃ to_ own', takeN z.L fi = ((to_ : Nat) : Int) ∧ own to_ = none ∧ WF fi (copyW fi z r) own' ∧ own' to_ = some (3, 0, 0) ∧ (∀ f v, own f = some v → own' f = some v) ∧ (∀ f hh p k, own f = none → own' f = some (hh, p, k) → f = to_ ∨ (hh < 3 ∧ Und own' to_ f)) ∧
      (∀ d m, 1 ≤ d → d ≤ 3 → m < 32 ^ d → (pth (copyW fi z r) to_ d m).isSome = decide (∃ i, i ∈ ilR z r ∧ i.h = 0 ∧ i.n / 32 ^ (3 - d) = m)) ∧
      leftX fi (copyW fi z r) + ((ilR z r).countP (pres (copyW fi z r) to_) : Nat) = leftX fi z - 1 ∧ (copyW fi z r).L.length = z.L.length ∧
      (∀ f hh p j, own f = some (hh + 1, p, j) → ∀ k, k < 32 → T (copyW fi z r) f k = T z f k) := by
  have hcount := count_is h hr
  have hlen : 1 ≤ (ilR z r).length := by unfold ilR; rw [il, List.length_append]; simp
  have hge : ((ilR z r).length : Int) ≤ leftX fi z := by
    unfold copyE at hc
    rw [h.tkn hr, cond_true, hcount] at hc
    cases hd : decide (leftX fi z < ((ilR z r).length : Int)) with
    | true => rw [hd] at hc; cases hc
    | false => have := of_decide_eq_false hd; omega
  have hW : copyW fi z r = copyZ fi (takeX fi z) r (takeN z.L fi) := by
    unfold copyW; rw [hc, decide_eq_true rfl, cond_true]
  have htb : takeB z.L fi = true := (left_take h.fle).2 (by omega)
  obtain ⟨to_, e0, hlt, hn, hw1, hT1⟩ := wf_new h htb
  have hrt : r ≠ to_ := fun e => by rw [e, hn] at hr; cases hr
  have hr1 : upd own to_ (3, 0, 0) r = some (3, p, j) := by unfold upd; rw [if_neg hrt]; exact hr
  have hto : upd own to_ (3, 0, 0) to_ = some (3, 0, 0) := by unfold upd; rw [if_pos rfl]
  have hup : ∀ f v, own f = some v → upd own to_ (3, 0, 0) f = some v := fun f v e => by
    unfold upd; rw [if_neg (fun e2 => by rw [e2, hn] at e; cases e)]; exact e
  have hTt : ∀ f hh p j, own f = some (hh + 1, p, j) → ∀ k, k < 32 → T (takeX fi z) f k = T z f k := fun f hh p j e k hk => by
    rw [hT1 f k (h.lt e).2.1 hk, if_neg (fun e2 => by rw [e2, hn] at e; cases e)]
  have hil : ilR (takeX fi z) r = ilR z r := il_congr h hr (fun f hh p j e _ k hk => hTt f hh p j e k hk) 3 r 0 0 p j (Nat.le_refl _) hr (.top hr)
  have hl1 : leftX fi (takeX fi z) = leftX fi z - 1 := left_taken htb
  have hL1 := (take_sz fi h.sz).2
  have hfresh : ∀ k, k < 32 → T (takeX fi z) to_ k = 0 := fun k hk => by rw [hT1 to_ k hlt hk, if_pos rfl]
  have start : CopyJ fi (takeX fi z) (upd own to_ (3, 0, 0)) r to_ [] (takeX fi z) (upd own to_ (3, 0, 0)) := by
    refine ⟨Grw.refl hw1 to_, fun d m h1 h2 h3 => ?_, ?_⟩
    · obtain ⟨d', rfl⟩ : ∃ d', d = d' + 1 := ⟨d - 1, by omega⟩
      rw [pth_fresh hfresh, decide_eq_false (by rintro ⟨i, hi, _⟩; cases hi)]; rfl
    · have : (ilR (takeX fi z) r).countP (pres (takeX fi z) to_) = 0 := by
        rw [List.countP_eq_zero]
        intro i _ hp
        unfold pres at hp
        by_cases e : i.h < 3
        · obtain ⟨d', hd'⟩ : ∃ d', 3 - i.h = d' + 1 := ⟨2 - i.h, by omega⟩
          rw [hd', pth_fresh hfresh] at hp
          simp at hp
        · rw [decide_eq_false e] at hp; simp at hp
      rw [this]; simp
  have key := fold_ilR (X := Sp) (rd := id) (pg := fun n f g x => copyPg fi (to_ : Int) n f g x) (tb := fun _ x => x) hw1 hr1 (fun pre x => ∃ ownx, CopyJ fi (takeX fi z) (upd own to_ (3, 0, 0)) r to_ pre x ownx) (fun pre it post x ha hj => by
    obtain ⟨ownx, hj⟩ := hj
    unfold actI
    by_cases e : it.h = 0
    · rw [if_pos e]
      exact (copy_step hw1 hr1 hto (by rw [hil, hl1]; omega) ha hj e).2
    · rw [if_neg e]
      refine ⟨ownx, hj.grw, fun d m h1 h2 h3 => ?_, hj.left⟩
      rw [hj.is d m h1 h2 h3]
      apply decide_eq_decide.2
      constructor
      · rintro ⟨i, hi, e1, e2⟩; exact ⟨i, List.mem_append_left _ hi, e1, e2⟩
      · rintro ⟨i, hi, e1, e2⟩
        rcases List.mem_append.1 hi with hi | hi
        · exact ⟨i, hi, e1, e2⟩
        · rcases List.mem_singleton.1 hi with rfl; exact absurd e1 e) (fun pre post x ha hj => by
    obtain ⟨ownx, hj⟩ := hj
    refine ⟨by show x.s.length = _; rw [hj.grw.wf.sz.len, hj.grw.len, hw1.sz.len], fun it hm => ?_⟩
    obtain ⟨hu, p', j', e⟩ := ilR_own hw1 hr1 (it := it) (by rw [ha]; exact List.mem_append_right _ hm)
    refine ⟨fun h1 k hk => ?_, hj.grw.wf.tkn (hj.grw.old _ _ e)⟩
    refine hj.grw.tab it.f (it.h - 1) p' j' (by rw [show it.h - 1 + 1 = it.h by omega]; exact e) (fun hu2 => ?_) k hk
    exact hrt (und_unique hw1 hu hu2)) (takeX fi z) ⟨_, start⟩
  obtain ⟨k1, own', hj⟩ := key
  have hZ : copyZ fi (takeX fi z) r (takeN z.L fi) = (ilR (takeX fi z) r).foldl (actI (fun n f g x => copyPg fi (to_ : Int) n f g x) (fun _ x => x)) (takeX fi z) := by
    unfold copyZ
    rw [e0]
    exact k1
  rw [← hZ, ← hW] at hj
  rw [hil] at hj
  refine ⟨to_, own', e0, hn, hj.grw.wf, hj.grw.old _ _ hto, fun f v e => hj.grw.old _ _ (hup f v e), fun f hh p k e1 e2 => ?_, hj.is, ?_, by rw [hj.grw.len, hL1], fun f hh p j e k hk => ?_⟩
  · by_cases e : f = to_
    · exact .inl e
    · exact .inr (hj.grw.new f hh p k (by unfold upd; rw [if_neg e]; exact e1) e2)
  · have := hj.left
    rw [hil, hl1] at this
    exact this
  · rw [hj.grw.tab f hh p j (hup _ _ e) (fun hu => by
      cases hu with
      | top _ => rw [hn] at e; cases e
      | step q1 q2 q3 =>
        have : ∀ g, Und (upd own to_ (3, 0, 0)) to_ g → g = to_ := fun g hg => by
          obtain ⟨_, d, n, hh, p2, k2, a2, a3, a4, a5⟩ := hg.to_pth hw1
          cases d with
          | zero =>
            have a6 : some to_ = some g := a5
            exact (Option.some.inj a6).symm
          | succ d => rw [pth_fresh hfresh] at a5; cases a5
        have e3 := this f (.step q1 q2 q3)
        rw [e3, hn] at e; cases e) k hk]
    exact hTt f hh p j e k hk
/-- Each table leads to a page. -/
def NoEmpty (z : Sp) (r : Nat) : Prop := ∀ d m, 1 ≤ d → d ≤ 3 → m < 32 ^ d → (pth z r d m).isSome = true → ∃ P, P < 32768 ∧ (pth z r 3 P).isSome = true ∧ P / 32 ^ (3 - d) = m
theorem copy_full {fi : Nat} {z x : Sp} {own : Who} (h : WF fi z own) {r to_ p j : Nat} (hr : own r = some (3, p, j)) (hne : NoEmpty z r)
    (his : ∀ d m, 1 ≤ d → d ≤ 3 → m < 32 ^ d → (pth x to_ d m).isSome = decide (∃ i, i ∈ ilR z r ∧ i.h = 0 ∧ i.n / 32 ^ (3 - d) = m)) : (ilR z r).countP (pres x to_) + 1 = (ilR z r).length := by
  have e : ilR z r = ilpF z r 0 (fun g m c => il z 2 g m c) 32 ++ [⟨3, 0, r, 0⟩] := by unfold ilR; rw [il]
  have hall : ∀ i, i ∈ ilR z r → i.h < 3 → pres x to_ i = true := fun i hi hlt => by
    have o := ilR_mem h hr hi
    have q3 : (32 : Nat) ^ 3 = 32768 := by decide
    unfold pres
    rw [decide_eq_true hlt, Bool.true_and, his (3 - i.h) i.n (by omega) (by omega) o.lt]
    obtain ⟨P, hP, hps, hPm⟩ := hne (3 - i.h) i.n (by omega) (by omega) o.lt (by rw [o.pt]; rfl)
    apply decide_eq_true
    cases hq : pth z r 3 P with
    | none => rw [hq] at hps; cases hps
    | some f =>
      obtain ⟨_, _, f3, b3, m3⟩ := page_items h hr hP hq
      exact ⟨_, m3, rfl, hPm⟩
  have hroot : pres x to_ ⟨3, 0, r, 0⟩ = false := rfl
  have hfirst : (ilpF z r 0 (fun g m c => il z 2 g m c) 32).countP (pres x to_) = (ilpF z r 0 (fun g m c => il z 2 g m c) 32).length := by
    rw [List.countP_eq_length]
    intro i hi
    obtain ⟨k, hk, g, h2, h3⟩ := mem_ilpF.1 hi
    have hi2 : i ∈ ilR z r := by rw [e]; exact List.mem_append_left _ hi
    have hp2 : pth z r 1 (0 * 32 + k) = some g := by rw [pth_kid (d := 0) hk rfl]; exact h2
    have o := il_mem h hr 2 g (0 * 32 + k) _ i (by decide) (by have : (32 : Nat) ^ (3 - 2) = 32 := by decide
                                                               omega) hp2 h3
    exact hall i hi2 (by have := o.le; omega)
  rw [e, List.countP_append, List.length_append, hfirst, List.countP_cons, hroot]
  simp
end Go.Proofs.YtbcnibnkojnpiaaGreat.P
namespace Go.Proofs.YtbcnibnkojnpiaaGreat.P
open Go.RowKit Go.MuLone Go.Maps
theorem map_inv {fi : Nat} {z : Sp} {own : Who} (h : WF fi z own) {r p j : Nat} (hr : own r = some (3, p, j)) (pg bt : Int) (hbt : 0 ≤ bt) :
    mapX fi z r pg bt = z ∨ ∃ P b : Nat, P < 32768 ∧ b % 2 = 1 ∧ b < 32 ∧ pg = P ∧ bt = b ∧ pth z r 3 P = none ∧ mapMiss z r P < leftX fi z := by
  cases hbad : mapBad fi z r pg bt with
  | true => left; unfold mapX; rw [hbad, cond_true]
  | false =>
    have hb := hbad
    unfold mapBad at hb
    rw [h.tkn hr] at hb
    simp only [Bool.not_true, Bool.false_or, Bool.or_eq_false_iff, decide_eq_false_iff_not] at hb
    obtain ⟨P, rfl⟩ : ∃ P : Nat, pg = P := ⟨pg.toNat, by omega⟩
    obtain ⟨b, rfl⟩ : ∃ b : Nat, bt = b := ⟨bt.toNat, by omega⟩
    have hP : P < 32768 := by omega
    cases hth : mapThere z r P with
    | true => left; unfold mapX; rw [hbad, hth, cond_false, cond_true]
    | false =>
      have h3 := there_eq h hr hP
      rw [hth] at h3
      by_cases hl : leftX fi z ≤ mapMiss z r P
      · left; unfold mapX; rw [hbad, hth, decide_eq_true hl, cond_false, cond_false, cond_true]
      · right
        refine ⟨P, b, hP, by omega, by omega, rfl, rfl, ?_, by omega⟩
        cases hq : pth z r 3 P with
        | none => rfl
        | some g => rw [hq] at h3; cases h3
/-- One space, r, in a pool of n frames; nothing else is taken. -/
def OneS (fi n : Nat) (z : Sp) (r : Nat) : Prop := ∃ own, WF fi z own ∧ (∃ p j, own r = some (3, p, j)) ∧ (∀ f v, own f = some v → Und own r f) ∧ NoEmpty z r ∧ z.L.length = n
theorem OneS.map {fi n : Nat} {z : Sp} {r : Nat} (h : OneS fi n z r) (pg bt : Int) (hbt : 0 ≤ bt) : OneS fi n (mapX fi z r pg bt) r := by
  obtain ⟨own, hw, ⟨p, j, hr⟩, hu, hne, hl⟩ := h
  rcases map_inv hw hr pg bt hbt with e | ⟨P, b, hP, hb1, hb2, rfl, rfl, hno, hlt⟩
  · rw [e]; exact ⟨own, hw, ⟨p, j, hr⟩, hu, hne, hl⟩
  · obtain ⟨_, own', g, his, _, _⟩ := map_ok hw hr hP hb1 hb2 hno hlt
    have q3 : (32 : Nat) ^ 3 = 32768 := by decide
    have q2 : (32 : Nat) ^ 2 = 1024 := by decide
    have q1 : (32 : Nat) ^ 1 = 32 := by decide
    have hPs : (pth (mapX fi z r P b) r 3 P).isSome = true := by
      rw [his 3 P (by decide) (by omega), decide_eq_true (show 3 = 3 ∧ P = P from ⟨rfl, rfl⟩), Bool.or_true, Bool.or_true, Bool.or_true]
    refine ⟨own', g.wf, ⟨p, j, g.old _ _ hr⟩, fun f v hf => ?_, fun d m h1 h2 h3 hs => ?_, by rw [g.len, hl]⟩
    · cases ho : own f with
      | none => obtain ⟨hh, p2, k2⟩ := v; exact (g.new f hh p2 k2 ho hf).2
      | some v' => exact (hu f v' ho).grow g.old
    · rw [his d m h2 h3] at hs
      simp only [Bool.or_eq_true, decide_eq_true_eq] at hs
      rcases hs with hs | hs
      · obtain ⟨P', h4, h5, h6⟩ := hne d m h1 h2 h3 hs
        exact ⟨P', h4, by rw [his 3 P' (by decide) (by omega), h5]; rfl, h6⟩
      · refine ⟨P, hP, hPs, ?_⟩
        rcases hs with ⟨rfl, rfl⟩ | ⟨rfl, rfl⟩ | ⟨rfl, rfl⟩
        · rw [show 3 - 1 = 2 from rfl, q2]
        · rw [show 3 - 2 = 1 from rfl, q1]
        · rw [Nat.sub_self, Nat.pow_zero, Nat.div_one]
/-- How many are left: all but the space's. -/
theorem OneS.left {fi n : Nat} {z : Sp} {r : Nat} (h : OneS fi n z r) : leftX fi z + ((ilR z r).length : Nat) = (n : Int) - fi ∧ tknB z.L fi (r : Int) = true ∧ (countX fi z r).2 = ((ilR z r).length : Nat) ∧ leftX fi (freeX fi z r) = (n : Int) - fi := by
  obtain ⟨own, hw, ⟨p, j, hr⟩, hu, hne, hl⟩ := h
  obtain ⟨own', w', hnone, _, hleft, hlen⟩ := free_wf hw hr
  have hall := left_all w' (fun f => (hnone f).2 (by
    cases ho : own f with
    | none => exact .inl rfl
    | some v => exact .inr (hu f v ho)))
  rw [hlen, hl] at hall
  exact ⟨by omega, hw.tkn hr, count_is hw hr, hall⟩
theorem und_keep {own own' : Who} {r f : Nat} (hk : ∀ g, Und own r g → own' g = own g) (hu : Und own r f) : Und own' r f := by
  induction hu with
  | top h0 => exact .top (by rw [hk r (.top h0)]; exact h0)
  | step hg hl hp ih => exact .step (by rw [hk _ (.step hg hl hp)]; exact hg) hl ih
/-- A copy, both given back. -/
theorem OneS.copied {fi n : Nat} {z : Sp} {r : Nat} (h : OneS fi n z r) (hc : copyE fi z r = 0) :
    ∃ to_ : Nat, copyN fi z r = to_ ∧ leftX fi (copyW fi z r) = leftX fi z - ((ilR z r).length : Nat) ∧ tknB (copyW fi z r).L fi (r : Int) = true ∧
      tknB (freeX fi (copyW fi z r) r).L fi (to_ : Int) = true ∧ leftX fi (freeX fi (freeX fi (copyW fi z r) r) to_) = (n : Int) - fi ∧
      tknB (freeX fi (freeX fi (copyW fi z r) r) to_).L fi (to_ : Int) = false := by
  obtain ⟨own, hw, ⟨p, j, hr⟩, hu, hne, hl⟩ := h
  obtain ⟨to_, own', e0, hn, w', hto, hold, hnew, his, hleft, hlen, _⟩ := copy_wf hw hr hc
  have hfull := copy_full hw hr hne his
  have hr' := hold _ _ hr
  have hrt : r ≠ to_ := fun e => by rw [e, hn] at hr; cases hr
  have hall : ∀ f v, own' f = some v → Und own' r f ∨ Und own' to_ f := fun f v hf => by
    cases ho : own f with
    | some v' => exact .inl ((hu f v' ho).grow hold)
    | none =>
      obtain ⟨hh, p2, k2⟩ := v
      rcases hnew f hh p2 k2 ho hf with rfl | ⟨_, hq⟩
      · exact .inr (.top hto)
      · exact .inr hq
  obtain ⟨own2, w2, hnone2, hsub2, _, hlen2⟩ := free_wf w' hr'
  have hkeep : ∀ g, Und own' to_ g → own2 g = own' g := fun g hg => by
    cases h2 : own2 g with
    | some v => exact (hsub2 g v h2).symm
    | none =>
      rcases (hnone2 g).1 h2 with e | e
      · exact e.symm
      · exact absurd (und_unique w' e hg) hrt
  have hto2 : own2 to_ = some (3, 0, 0) := by rw [hkeep to_ (.top hto)]; exact hto
  obtain ⟨own3, w3, hnone3, hsub3, _, hlen3⟩ := free_wf w2 hto2
  have hno3 : ∀ f, own3 f = none := fun f => (hnone3 f).2 (by
    cases h2 : own2 f with
    | none => exact .inl rfl
    | some v =>
      right
      rcases hall f v (hsub2 f v h2) with e | e
      · have := (hnone2 f).2 (.inr e)
        rw [h2] at this; cases this
      · exact und_keep hkeep e)
  refine ⟨to_, ?_, by omega, w'.tkn hr', w2.tkn hto2, ?_, ?_⟩
  · unfold copyN; rw [hc, decide_eq_true rfl, cond_true]; exact e0
  · rw [left_all w3 hno3, hlen3, hlen2, hlen, hl]
  · cases hq : tknB (freeX fi (freeX fi (copyW fi z r) r) to_).L fi (to_ : Int) with
    | false => rfl
    | true =>
      obtain ⟨q1, q2, q3⟩ := tkn_nat hq
      have := (w3.tk to_).2 ⟨q1, q2, q3⟩
      rw [hno3] at this; cases this
theorem wf_none (n : Nat) (h1 : 1 ≤ n) (h2 : n ≤ 256) (s : List UInt8) (hs : s.length = n * 256) : WF 0 ⟨freshL n 0, s⟩ (fun _ => none) := by
  refine ⟨⟨by show s.length = (freshL n 0).length * 256; rw [fresh_len]; exact hs, by show 1 ≤ (freshL n 0).length; rw [fresh_len]; exact h1, by show (freshL n 0).length ≤ 256; rw [fresh_len]; exact h2⟩, Nat.zero_le _, fun f => ?_, fun f hh p j hf => (by cases hf), fun g hh p k hg => (by cases hg)⟩
  show (none : Option (Nat × Nat × Nat)).isSome = true ↔ (0 ≤ f ∧ f < (freshL n 0).length ∧ isL (freshL n 0) f = false)
  rw [fresh_len, fresh_is]
  constructor
  · intro h; cases h
  · rintro ⟨_, h3, h4⟩
    rw [decide_eq_true ⟨Nat.zero_le f, h3⟩] at h4; cases h4
/-- The first space of a pool. -/
theorem oneS_new {n : Nat} (h1 : 1 ≤ n) (h2 : n ≤ 256) (s : List UInt8) (hs : s.length = n * 256) : ∃ r : Nat, takeN (freshL n 0) 0 = r ∧ takeE (freshL n 0) 0 = 0 ∧ OneS 0 n (takeX 0 ⟨freshL n 0, s⟩) r ∧ leftX 0 ⟨freshL n 0, s⟩ = n := by
  have w := wf_none n h1 h2 s hs
  have hall := left_all w (fun _ => rfl)
  have hlen : ((⟨freshL n 0, s⟩ : Sp).L.length : Int) = n := by show ((freshL n 0).length : Int) = n; rw [fresh_len]
  rw [hlen] at hall
  have hl0 : leftX 0 ⟨freshL n 0, s⟩ = (n : Int) := by rw [hall]; simp
  have htb : takeB (freshL n 0) 0 = true := (left_take (z := ⟨freshL n 0, s⟩) (Nat.zero_le _)).2 (by rw [hl0]; omega)
  obtain ⟨r, e0, hlt, hn, w1, hT⟩ := wf_new w htb
  obtain ⟨_, _, _, _, _, e1, _⟩ := take_b htb
  have hz : ∀ k, k < 32 → T (takeX 0 ⟨freshL n 0, s⟩) r k = 0 := fun k hk => by rw [hT r k hlt hk, if_pos rfl]
  refine ⟨r, e0, e1, ⟨_, w1, ⟨0, 0, by unfold upd; rw [if_pos rfl]⟩, fun f v hf => ?_, fun d m h1 h2 h3 hs => ?_, ?_⟩, hl0⟩
  · unfold upd at hf
    by_cases e : f = r
    · subst e; exact .top (by unfold upd; rw [if_pos rfl])
    · rw [if_neg e] at hf; cases hf
  · obtain ⟨d', rfl⟩ : ∃ d', d = d' + 1 := ⟨d - 1, by omega⟩
    rw [pth_fresh hz] at hs; cases hs
  · rw [(take_sz 0 w.sz).2]; show (freshL n 0).length = n; exact fresh_len _ _
end Go.Proofs.YtbcnibnkojnpiaaGreat.P
