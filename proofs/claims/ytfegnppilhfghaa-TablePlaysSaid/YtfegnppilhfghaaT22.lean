/- Stage 14: what holds of a table from the first one on. No condition. -/
import Derived.Test.YtfegnppilhfghaaT18
set_option linter.unusedVariables false
namespace Go.Proofs.Ytfegnppilhfghaa.P
open Go.RowKit
/-- How many of the first n have ended. -/
def doneN (T : Nat → RowV) : Nat → Nat
  | 0 => 0
  | n + 1 => doneN T n + (if (T n).st = 2 then 1 else 0)
theorem done_le (T : Nat → RowV) : ∀ n, doneN T n ≤ n
  | 0 => Nat.le_refl _
  | n + 1 => by have := done_le T n; rw [doneN]; split <;> omega
theorem up_ne (T : Nat → RowV) (i j : Nat) (r : RowV) (h : j ≠ i) : up T i r j = T j := by unfold up; rw [if_neg h]
theorem done_up (T : Nat → RowV) (f : Nat) (r : RowV) : ∀ n, doneN (up T f r) n + (if f < n ∧ (T f).st = 2 then 1 else 0) = doneN T n + (if f < n ∧ r.st = 2 then 1 else 0)
  | 0 => by rw [if_neg (by omega), if_neg (by omega)]; rfl
  | n + 1 => by
    have ih := done_up T f r n
    rw [doneN, doneN]
    by_cases h : n = f
    · subst h
      rw [if_neg (by omega), if_neg (by omega)] at ih
      rw [up_at]
      by_cases h1 : (T n).st = 2
      · rw [if_pos (show n < n + 1 ∧ (T n).st = 2 from ⟨by omega, h1⟩), if_pos h1]
        by_cases h2 : r.st = 2
        · rw [if_pos h2, if_pos ⟨by omega, h2⟩]; omega
        · rw [if_neg h2, if_neg (fun q => h2 q.2)]; omega
      · rw [if_neg (fun q : n < n + 1 ∧ (T n).st = 2 => h1 q.2), if_neg h1]
        by_cases h2 : r.st = 2
        · rw [if_pos h2, if_pos ⟨by omega, h2⟩]; omega
        · rw [if_neg h2, if_neg (fun q => h2 q.2)]; omega
    · rw [up_ne T f n r h]
      have e1 : (f < n + 1 ∧ (T f).st = 2) ↔ (f < n ∧ (T f).st = 2) := ⟨fun q => ⟨by omega, q.2⟩, fun q => ⟨by omega, q.2⟩⟩
      have e2 : (f < n + 1 ∧ r.st = 2) ↔ (f < n ∧ r.st = 2) := ⟨fun q => ⟨by omega, q.2⟩, fun q => ⟨by omega, q.2⟩⟩
      simp only [e1, e2]
      omega
theorem rp_st (T : Nat → RowV) (p : Int) (k j : Nat) : (rp T p k j).st = (T j).st := by unfold rp; split <;> rfl
theorem done_rp (T : Nat → RowV) (p : Int) (k : Nat) : ∀ n, doneN (rp T p k) n = doneN T n
  | 0 => rfl
  | n + 1 => by rw [doneN, doneN, done_rp T p k n, rp_st]
def Good (T : Nat → RowV) : Prop := ∀ k, k < 8 → ((T k).st = 0 ∨ (T k).st = 1 ∨ (T k).st = 2) ∧ ((T k).st ≠ 0 → 0 ≤ (T k).pa ∧ (T k).pa ≤ 7 ∧ ((T k).pa = 0 ∨ ((T (T k).pa.toNat).st = 1 ∧ (T k).pa ≠ (k : Int))))
theorem good_first : Good F0 := by
  intro k hk
  exact eight (p := fun k => ((F0 k).st = 0 ∨ (F0 k).st = 1 ∨ (F0 k).st = 2) ∧ ((F0 k).st ≠ 0 → 0 ≤ (F0 k).pa ∧ (F0 k).pa ≤ 7 ∧ ((F0 k).pa = 0 ∨ ((F0 (F0 k).pa.toNat).st = 1 ∧ (F0 k).pa ≠ (k : Int))))) (by decide) (by decide) (by decide) (by decide) (by decide) (by decide) (by decide) (by decide) k hk
theorem good_fork {T : Nat → RowV} (h : Good T) {n f : Nat} (hn : n < 8) (hs : (T n).st = 1) (hf1 : 1 ≤ f) (hf8 : f < 8) (h1 : (T f).st ≠ 1) (h2 : (T f).st ≠ 2) : Good (up T f ⟨1, n, 0, false⟩) ∧ doneN (up T f ⟨1, n, 0, false⟩) 8 = doneN T 8 := by
  have hnf : n ≠ f := fun e => h1 (by rw [← e]; exact hs)
  refine ⟨fun k hk => ?_, ?_⟩
  · by_cases e : k = f
    · subst e
      rw [up_at]
      refine ⟨.inr (.inl rfl), fun _ => ?_⟩
      show 0 ≤ (n : Int) ∧ (n : Int) ≤ 7 ∧ ((n : Int) = 0 ∨ ((up T k ⟨1, n, 0, false⟩ (n : Int).toNat).st = 1 ∧ (n : Int) ≠ (k : Int)))
      rw [Int.toNat_natCast, up_ne T k n _ hnf]
      exact ⟨by omega, by omega, .inr ⟨hs, by omega⟩⟩
    · rw [up_ne T f k _ e]
      obtain ⟨q1, q2⟩ := h k hk
      refine ⟨q1, fun q => ?_⟩
      obtain ⟨p1, p2, p3⟩ := q2 q
      refine ⟨p1, p2, ?_⟩
      rcases p3 with p3 | ⟨p3, p4⟩
      · exact .inl p3
      · refine .inr ⟨?_, p4⟩
        rw [up_ne T f _ _ (fun e2 => h1 (by rw [← e2]; exact p3))]; exact p3
  · have := done_up T f ⟨1, n, 0, false⟩ 8
    rw [if_neg (fun q => h2 q.2), if_neg (fun q : f < 8 ∧ (1 : Int) = 2 => by omega)] at this
    exact this
theorem good_wait {T : Nat → RowV} (h : Good T) {k : Nat} (hk : k < 8) (hs : (T k).st = 2) : Good (up T k ⟨0, 0, 0, false⟩) ∧ doneN (up T k ⟨0, 0, 0, false⟩) 8 + 1 = doneN T 8 := by
  refine ⟨fun j hj => ?_, ?_⟩
  · by_cases e : j = k
    · subst e
      rw [up_at]
      exact ⟨.inl rfl, fun q => absurd rfl q⟩
    · rw [up_ne T k j _ e]
      obtain ⟨q1, q2⟩ := h j hj
      refine ⟨q1, fun q => ?_⟩
      obtain ⟨p1, p2, p3⟩ := q2 q
      refine ⟨p1, p2, ?_⟩
      rcases p3 with p3 | ⟨p3, p4⟩
      · exact .inl p3
      · refine .inr ⟨?_, p4⟩
        rw [up_ne T k _ _ (fun e2 => by rw [e2] at p3; omega)]; exact p3
  · have := done_up T k ⟨0, 0, 0, false⟩ 8
    rw [if_pos ⟨hk, hs⟩, if_neg (fun q : k < 8 ∧ (0 : Int) = 2 => by omega)] at this
    exact this
theorem good_exit {T : Nat → RowV} (h : Good T) {n : Nat} (hn : n < 8) (hs : (T n).st = 1) (s : Int) : Good (up (rp T n 8) n ⟨2, (T n).pa, s, false⟩) ∧ doneN (up (rp T n 8) n ⟨2, (T n).pa, s, false⟩) 8 = doneN T 8 + 1 := by
  refine ⟨fun k hk => ?_, ?_⟩
  · by_cases e : k = n
    · subst e
      rw [up_at]
      obtain ⟨q1, q2⟩ := h k hk
      obtain ⟨p1, p2, p3⟩ := q2 (by omega)
      refine ⟨.inr (.inr rfl), fun _ => ⟨p1, p2, ?_⟩⟩
      rcases p3 with p3 | ⟨p3, p4⟩
      · exact .inl p3
      · refine .inr ⟨?_, p4⟩
        rw [up_ne _ k _ _ (fun e2 => p4 (by change (T k).pa.toNat = k at e2; omega)), rp_st]; exact p3
    · rw [up_ne _ n k _ e]
      obtain ⟨q1, q2⟩ := h k hk
      rw [rp_st]
      refine ⟨q1, fun q => ?_⟩
      obtain ⟨p1, p2, p3⟩ := q2 q
      cases hc : childB T k n with
      | true =>
        have e2 : (rp T n 8 k).pa = 0 := by unfold rp; rw [if_pos ⟨hk, hc⟩]
        rw [e2]
        exact ⟨by omega, by omega, .inl rfl⟩
      | false =>
        have e2 : (rp T n 8 k).pa = (T k).pa := by unfold rp; rw [if_neg (by rw [hc]; exact fun q => Bool.noConfusion q.2)]
        rw [e2]
        refine ⟨p1, p2, ?_⟩
        rcases p3 with p3 | ⟨p3, p4⟩
        · exact .inl p3
        · refine .inr ⟨?_, p4⟩
          have hpn : (T k).pa ≠ (n : Int) := fun e3 => by
            unfold childB thereB at hc
            have c1 : ((k : Int) == (n : Int)) = false := beq_eq_false_iff_ne.2 (by omega)
            have c2 : ((T k).pa == (n : Int)) = true := by simpa using e3
            rw [c1, c2] at hc
            rcases q1 with q1 | q1 | q1
            · exact q q1
            · rw [q1] at hc; exact Bool.noConfusion hc
            · rw [q1] at hc; exact Bool.noConfusion hc
          rw [up_ne _ n _ _ (fun e3 => hpn (by omega)), rp_st]; exact p3
  · have := done_up (rp T n 8) n ⟨2, (T n).pa, s, false⟩ 8
    rw [if_neg (fun q => by rw [rp_st] at q; omega), if_pos ⟨hn, rfl⟩, done_rp] at this
    exact this
theorem ff_ge' (T : Nat → RowV) : ∀ n k, k ≤ fr T n k ∧ fr T n k ≤ k + n
  | 0, k => by simp [fr]
  | n + 1, k => by
    have := ff_ge' T n (k + 1)
    rw [fr]; split
    · omega
    · omega
theorem ff_free' (T : Nat → RowV) : ∀ n k, fr T n k < k + n → thereB T (fr T n k) = false
  | 0, k, h => by simp [fr] at h
  | n + 1, k, h => by
    rw [fr] at h ⊢; split
    · rename_i h1
      rw [if_pos h1] at h
      exact ff_free' T n (k + 1) (by omega)
    · rename_i h1
      simpa using h1
theorem fork_step {T : Nat → RowV} (h : Good T) (p : Int) : Good (forkT T p) ∧ doneN (forkT T p) 8 = doneN T 8 := by
  cases hl : livesB T p with
  | false => rw [(fork_no hl).1]; exact ⟨h, rfl⟩
  | true =>
    obtain ⟨n, hn, rfl⟩ := lives_nat hl
    have hge := ff_ge' T 7 1
    by_cases h8 : fr T 7 1 < 8
    · rw [(fork_ok hl rfl h8).1]
      have hfree := there_f (ff_free' T 7 1 (by omega))
      exact good_fork h hn (lives_st hl) hge.1 h8 (by simpa using hfree.1) (by simpa using hfree.2)
    · rw [(fork_full hl (by omega)).1]; exact ⟨h, rfl⟩
theorem exit_step {T : Nat → RowV} (h : Good T) (p s : Int) : Good (exitT T p s) ∧ ((exitE T p = 0 ∧ doneN (exitT T p s) 8 = doneN T 8 + 1) ∨ ((exitE T p == 0) = false ∧ exitE T p ≠ 0 ∧ doneN (exitT T p s) 8 = doneN T 8)) := by
  cases hl : livesB T p with
  | false => rw [(exitT_no (s := s) hl).1, (exitT_no (s := s) hl).2]; exact ⟨h, .inr ⟨rfl, by decide, rfl⟩⟩
  | true =>
    obtain ⟨n, hn, rfl⟩ := lives_nat hl
    rw [(exitT_ok (s := s) hl).1, (exitT_ok (s := s) hl).2]
    have := good_exit h hn (lives_st hl) s
    exact ⟨this.1, .inl ⟨rfl, this.2⟩⟩
theorem wait_step {T : Nat → RowV} (h : Good T) (p : Int) : Good (waitT T p) ∧ ((waitE T p = 0 ∧ doneN (waitT T p) 8 + 1 = doneN T 8) ∨ ((waitE T p == 0) = false ∧ waitE T p ≠ 0 ∧ doneN (waitT T p) 8 = doneN T 8)) := by
  by_cases hw : livesB T p = true ∧ wn T p 8 0 < 8
  · have hz := zc_out (wn_hit T p 8 0 (by omega))
    obtain ⟨q1, q2, q3, q4⟩ := wait_ok hw.1 rfl hw.2
    rw [q1, q4]
    have := good_wait h hw.2 (by simpa using hz.1)
    exact ⟨this.1, .inl ⟨rfl, this.2⟩⟩
  · obtain ⟨q1, q2, q3, q4⟩ := wait_zero hw
    rw [q1]
    exact ⟨h, .inr ⟨q4, by simpa using q4, rfl⟩⟩
end Go.Proofs.Ytfegnppilhfghaa.P
