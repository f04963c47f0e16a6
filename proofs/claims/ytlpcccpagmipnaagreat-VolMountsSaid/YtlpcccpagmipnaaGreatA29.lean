/- Stage 7: a transaction's sectors staged. No condition. -/
import Derived.Test.YtlpcccpagmipnaaGreatA23
set_option linter.unusedVariables false
set_option maxRecDepth 50000
namespace Go.Proofs.YtlpcccpagmipnaaGreat.P
open Go.RowKit
/-- A slice whose elements are such texts. -/
def RowS (w : World) (o : Option Addr) (A : List ByteArray) : Prop := ∀ j s, A[j]? = some s → ∃ b off, o = some ⟨b, off, none⟩ ∧ w.cell? ⟨b, off + j, none⟩ = some (.string s)
theorem RowS.gr {w w' : World} {o : Option Addr} {A : List ByteArray} (h : RowS w o A) (g : Gr w w') : RowS w' o A := fun j s hj => by
  obtain ⟨b, off, e, hc⟩ := h j s hj
  exact ⟨b, off, e, kcell g hc⟩
def stepS (n : Nat) (st : List (Int × ByteArray)) (x : Int × ByteArray) : List (Int × ByteArray) := setSt (setR false n st x.1 (secF x.2)) st x.1 (secF x.2)
def setsF (n : Nat) (st P : List (Int × ByteArray)) : List (Int × ByteArray) := P.foldl (stepS n) st
theorem sets_take {n k : Nat} {st P : List (Int × ByteArray)} {x : Int × ByteArray} (h : P[k]? = some x) : setsF n st (P.take (k + 1)) = stepS n (setsF n st (P.take k)) x := by
  obtain ⟨hk, e⟩ := List.getElem?_eq_some_iff.1 h
  unfold setsF
  rw [List.take_succ_eq_append_getElem hk, List.foldl_append, e]; rfl
/-- What may be staged of a disk of n sectors. -/
def okSt (n : Nat) (st : List (Int × ByteArray)) : Prop := Rising st ∧ st.length ≤ 30 ∧ ∀ x ∈ st, 0 ≤ x.1 ∧ x.1 < (n : Int) - 32 ∧ x.2.size = 64
theorem ok_nil (n : Nat) : okSt n [] := ⟨trivial, by simp, fun x hx => by cases hx⟩
theorem ok_step {n : Nat} {st : List (Int × ByteArray)} (h : okSt n st) (x : Int × ByteArray) : okSt n (stepS n st x) := by
  obtain ⟨h1, h2, h3⟩ := h
  unfold stepS setSt
  by_cases hr : setR false n st x.1 (secF x.2) = 0
  · rw [decide_eq_true hr, cond_true]
    unfold setR at hr
    by_cases hf : refF false n x.1 = 0
    · obtain ⟨_, i0, i1⟩ := refF_ok hf
      rw [decide_eq_true hf, cond_true, decide_eq_true (secF_size _), cond_true] at hr
      refine ⟨rising_put _ _ _ h1, ?_, fun y hy => ?_⟩
      · rw [put_len _ _ _ h1]
        cases hl : (lookS x.1 st).isSome with
        | true => exact h2
        | false =>
          rw [hl, cond_false] at hr
          by_cases h30 : 30 ≤ st.length
          · rw [decide_eq_true h30] at hr; cases hr
          · show st.length + 1 ≤ 30; omega
      · rcases mem_putS hy with e | e
        · rw [e]; exact ⟨i0, i1, secF_size _⟩
        · exact h3 y e
    · rw [decide_eq_false hf, cond_false] at hr
      exact absurd hr hf
  · rw [decide_eq_false hr]
    exact ⟨h1, h2, h3⟩
theorem ok_sets {n : Nat} : ∀ (P st : List (Int × ByteArray)), okSt n st → okSt n (setsF n st P)
  | [], st, h => h
  | x :: P, st, h => ok_sets P (stepS n st x) (ok_step h x)
theorem zip_at {I : List Int} {S : List ByteArray} {k : Nat} (hi : k < I.length) (hs : k < S.length) : (I.zip S)[k]? = some (I[k], S[k]) := by
  rw [List.getElem?_eq_getElem (by rw [List.length_zip]; omega), List.getElem_zip]
end Go.Proofs.YtlpcccpagmipnaaGreat.P
namespace Go.Proofs.YtlpcccpagmipnaaGreat.P
open Go.RowKit
theorem act_pos {z : DState} (hc : z.counted = true) (ha : 0 < z.acts) : actB z = true ∧ actZ z = { z with acts := z.acts - 1 } := by
  have hn : ¬ z.acts = 0 := by omega
  unfold actB actZ
  rw [hc, decide_eq_false hn]
  exact ⟨rfl, rfl⟩
theorem act_zero {z : DState} (hc : z.counted = true) (ha : z.acts = 0) : actB z = false := by
  unfold actB
  rw [hc, decide_eq_true ha]; rfl
theorem step_act (z : DState) (ho : z.off = false) (hc : z.counted = true) (o : DOp) (hok : okOp z.safe.length o) :
    (0 < z.acts → (stepD z o).1 = 0 ∧ (stepD z o).2.off = false ∧ (stepD z o).2.counted = true ∧ (stepD z o).2.acts = z.acts - 1) ∧ (z.acts = 0 → (stepD z o).1 = 7) := by
  cases o with
  | fl =>
    refine ⟨fun h => ?_, fun h => ?_⟩
    · obtain ⟨h1, h2⟩ := act_pos hc h
      show flushR z = 0 ∧ (flushZ z).off = false ∧ (flushZ z).counted = true ∧ (flushZ z).acts = z.acts - 1
      unfold flushR flushZ
      rw [ho, h1, h2]
      exact ⟨rfl, ho, hc, rfl⟩
    · show flushR z = 7
      unfold flushR
      rw [ho, act_zero hc h]; rfl
  | wr i s =>
    have hh : hasB z i = true := by unfold hasB; rw [decide_eq_true hok.1.1, decide_eq_true hok.1.2]; rfl
    refine ⟨fun h => ?_, fun h => ?_⟩
    · obtain ⟨h1, h2⟩ := act_pos hc h
      show writeR z i s = 0 ∧ (writeZ z i s).off = false ∧ (writeZ z i s).counted = true ∧ (writeZ z i s).acts = z.acts - 1
      unfold writeR writeZ
      rw [ho, hh, decide_eq_true hok.2, h1, h2]
      exact ⟨rfl, ho, hc, rfl⟩
    · show writeR z i s = 7
      unfold writeR
      rw [ho, hh, decide_eq_true hok.2, act_zero hc h]; rfl
theorem exec_acts : ∀ (l : List DOp) (z : DState), z.off = false → z.counted = true → 0 ≤ z.acts → (∀ o ∈ l, okOp z.safe.length o) →
    ((l.length : Int) ≤ z.acts → (exec l z).1 = 0 ∧ (exec l z).2.off = false) ∧ (z.acts < l.length → (exec l z).1 = 7)
  | [], z, ho, _, ha, _ => ⟨fun _ => ⟨rfl, ho⟩, fun h => absurd h (by simp; omega)⟩
  | o :: l, z, ho, hc, ha, hok => by
    obtain ⟨h1, h2⟩ := step_act z ho hc o (hok o (List.mem_cons_self ..))
    by_cases h0 : z.acts = 0
    · have h7 := h2 h0
      refine ⟨fun h => absurd h (by rw [List.length_cons]; omega), fun _ => ?_⟩
      rw [exec_no (by rw [h7]; decide)]
      exact h7
    · obtain ⟨e0, e1, e2, e3⟩ := h1 (by omega)
      rw [exec_ok e0]
      have ih := exec_acts l (stepD z o).2 e1 e2 (by omega) (fun p hp => by rw [step_len]; exact hok p (List.mem_cons_of_mem _ hp))
      rw [e3] at ih
      rw [List.length_cons]
      exact ⟨fun h => ih.1 (by omega), fun h => ih.2 (by omega)⟩
theorem commit_len (st : List (Int × ByteArray)) : (commitOps st).length = 2 * st.length + 6 := by
  unfold commitOps installOps pointOps
  simp only [List.length_append, List.length_cons, List.length_nil, hold_len, home_len]
  omega
theorem hold_mem : ∀ (st : List (Int × ByteArray)) (k0 : Nat) (o : DOp), o ∈ holdOps k0 st → ∃ (k : Nat) (x : Int × ByteArray), x ∈ st ∧ k < st.length ∧ o = .wr ((2 + (k0 + k) : Nat) : Int) x.2
  | [], _, o, h => by cases h
  | y :: st, k0, o, h => by
    rcases List.mem_cons.1 h with e | e
    · exact ⟨0, y, List.mem_cons_self .., by simp, e⟩
    · obtain ⟨k, x, h1, h2, h3⟩ := hold_mem st (k0 + 1) o e
      exact ⟨k + 1, x, List.mem_cons_of_mem _ h1, by rw [List.length_cons]; omega, by rw [h3]; congr 1; omega⟩
theorem ok_commit {n : Nat} {st : List (Int × ByteArray)} (hn : 48 ≤ n) (h : okSt n st) : ∀ o ∈ commitOps st, okOp n o := by
  obtain ⟨h1, h2, h3⟩ := h
  have hp : ∀ hs : List Int, hs.length ≤ 31 → ∀ o ∈ pointOps hs, okOp n o := fun hs hl o ho => by
    rcases List.mem_cons.1 ho with e | e
    · rw [e]; exact ⟨⟨by omega, by omega⟩, headF_size hs hl⟩
    · rcases List.mem_cons.1 e with e | e
      · rw [e]; trivial
      · cases e
  intro o ho
  unfold commitOps at ho
  rcases List.mem_append.1 ho with ho | ho
  · obtain ⟨k, x, hx, hk, rfl⟩ := hold_mem st 0 o ho
    exact ⟨⟨by omega, by omega⟩, (h3 x hx).2.2⟩
  · rcases List.mem_cons.1 ho with ho | ho
    · rw [ho]; trivial
    · rcases List.mem_append.1 ho with ho | ho
      · exact hp _ (by rw [List.length_map]; omega) o ho
      · unfold installOps at ho
        rcases List.mem_append.1 ho with ho | ho
        · obtain ⟨y, hy, rfl⟩ := mem_home ho
          have := h3 y hy
          exact ⟨⟨by omega, by omega⟩, this.2.2⟩
        · rcases List.mem_cons.1 ho with ho | ho
          · rw [ho]; trivial
          · exact hp [] (by simp) o ho
end Go.Proofs.YtlpcccpagmipnaaGreat.P
namespace Go.Proofs.YtlpcccpagmipnaaGreat.P
open Go.RowKit
def zG : DState := newZ (List.replicate 60 z64)
theorem zG_len : zG.safe.length = 60 := List.length_replicate
def okA (m : Nat) (p : Int) : Bool := decide (m = 0) || decide (2 * (m : Int) + 6 ≤ p)
def CommA (w0 : World) (d l mb : Nat) (ok : Bool) (e : Ending) (w' : World) : Prop := e = .returned (.int .i64 (bif ok then 0 else 7)) ∧ ∃ z2 : DState, (ok = true → z2.off = false) ∧ z2.safe.length = 60 ∧ z2.wait.length ≤ 1000 ∧ Own w0 w' (DL d z2 l mb [] (!ok) emp)
theorem e_commA {w0 w : World} {d l mb : Nat} {st : List (Int × ByteArray)} (p : Int) (hp : 0 ≤ p) (hst : okSt 60 st) (h : Own w0 w (DL d (powZ zG p) l mb st false emp)) :
    Calls Tryz.prog 14 #[ptr l] w (CommA w0 d l mb (okA st.length p)) := by
  have hc : (powZ zG p).counted = true := decide_eq_true hp
  have ha : (powZ zG p).acts = p := by show max p 0 = p; omega
  have ho : (powZ zG p).off = false := rfl
  have hl : (powZ zG p).safe.length = 60 := zG_len
  have hw : (powZ zG p).wait.length = 0 := rfl
  generalize powZ zG p = z at *
  cases hs : st with
  | nil =>
    subst hs
    refine (o_commit_nil h).mono ?_
    rintro e w' ⟨rfl, rfl⟩
    exact ⟨rfl, z, fun _ => ho, hl, by omega, h⟩
  | cons x t =>
    rw [← hs]
    have hpos : 0 < st.length := by rw [hs]; simp
    refine (o_commit h stable_emp hpos hst.2.1 (fun y hy => by have := hst.2.2 y hy; omega) (by omega)).mono ?_
    rintro e w' ⟨rfl, k⟩
    have hx := exec_acts (commitOps st) z ho hc (by omega) (fun o hoo => by rw [hl]; exact ok_commit (by omega) hst o hoo)
    rw [ha, commit_len] at hx
    have hwt := exec_wait (commitOps st) z
    rw [commit_len] at hwt
    have hln := exec_len (commitOps st) z
    rw [hl] at hln
    have hm := hst.2.1
    by_cases hk : 2 * (st.length : Int) + 6 ≤ p
    · have e0 : okA st.length p = true := by unfold okA; rw [decide_eq_true hk, Bool.or_true]
      obtain ⟨h1, h2⟩ := hx.1 (by omega)
      rw [e0, h1]
      rw [h1] at k
      exact ⟨rfl, (exec (commitOps st) z).2, fun _ => h2, hln, by omega, k⟩
    · have e0 : okA st.length p = false := by unfold okA; rw [decide_eq_false hk, decide_eq_false (by omega)]; rfl
      have h1 := hx.2 (by omega)
      rw [e0, h1]
      rw [h1] at k
      exact ⟨rfl, (exec (commitOps st) z).2, (fun h => by cases h), hln, by omega, k⟩
theorem e_getA {w0 w : World} {d l mb : Nat} {z : DState} (ok : Bool) (h1 : ok = true → z.off = false) (hl : z.safe.length = 60) (hw : z.wait.length ≤ 1000) (h : Own w0 w (DL d z l mb [] (!ok) emp)) :
    Calls Tryz.prog 106 #[ptr l, .int .i64 0] w fun e w' => (∃ b, e = .returned (.tuple #[.string b, .int .i64 (bif ok then 0 else 7)])) ∧ Own w0 w' (DL d z l mb [] (!ok) emp) :=
  (o_get h stable_emp 0 (by omega)).mono (by
    rintro e w' ⟨rfl, q⟩
    have e1 : getR (!ok) z [] 0 = bif ok then 0 else 7 := by
      unfold getR
      rw [hl]
      cases ok with
      | false => rfl
      | true =>
        show readR z (32 + 0) = 0
        unfold readR hasB
        rw [h1 rfl, hl]; rfl
    rw [e1]
    exact ⟨⟨_, rfl⟩, q⟩)
theorem e_setA {w0 w : World} {d l mb : Nat} {z : DState} (ok : Bool) (hl : z.safe.length = 60) (s : ByteArray) (hs : s.size = 64) (h : Own w0 w (DL d z l mb [] (!ok) emp)) :
    Calls Tryz.prog 45 #[ptr l, .int .i64 0, .string s] w fun e w' => e = .returned (.int .i64 (bif ok then 0 else 7)) ∧ ∃ st, (ok = false → st.length = 0) ∧ Own w0 w' (DL d z l mb st (!ok) emp) :=
  (o_set h stable_emp 0 s (by simp)).mono (by
    rintro e w' ⟨rfl, q⟩
    have e1 : setR (!ok) z.safe.length [] 0 s = bif ok then 0 else 7 := by
      rw [hl]
      cases ok with
      | false => rfl
      | true => unfold setR; rw [decide_eq_true hs]; rfl
    rw [e1] at q ⊢
    exact ⟨rfl, _, fun h => by rw [h]; rfl, q⟩)
def sx : ByteArray := ⟨#[120]⟩
end Go.Proofs.YtlpcccpagmipnaaGreat.P
