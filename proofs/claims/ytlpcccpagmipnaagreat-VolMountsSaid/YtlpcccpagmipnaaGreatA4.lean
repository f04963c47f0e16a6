/- Stage 7: all or nothing: what a crash may find. No condition. -/
import Derived.Test.YtlpcccpagmipnaaGreatA2
import Derived.Test.YtlpcccpagmipnaaGreatA0
set_option linter.unusedVariables false
namespace Go.Proofs.YtlpcccpagmipnaaGreat.P
open Go.RowKit
theorem headF_nil : headF [] = z64 := by decide +kernel
/-- What holds of a transaction's staged sectors. -/
structure Tran (n : Nat) (st : List (Int × ByteArray)) (A B : Nat → ByteArray) : Prop where
  rising : Rising st
  few : st.length ≤ 30
  some_ : st ≠ []
  at_ : ∀ x ∈ st, 0 ≤ x.1 ∧ 32 + x.1 < n ∧ x.2.size = 64
  big : 48 ≤ n
  new : ∀ i : Nat, 32 + i < n → B i = (lookS i st).getD (A i)
section
variable (n : Nat) (st : List (Int × ByteArray)) (A B : Nat → ByteArray)
def J1 (safe : List ByteArray) (wait : List (Int × ByteArray)) : Prop := getS safe 1 = z64 ∧ (∀ i : Nat, 32 + i < n → getS safe (32 + i) = A i) ∧ ∀ x ∈ wait, 2 ≤ x.1 ∧ x.1 < 32
def Held (safe : List ByteArray) : Prop := ∀ (k : Nat) (x : Int × ByteArray), st[k]? = some x → getS safe (2 + k) = x.2
def J2 (safe : List ByteArray) (wait : List (Int × ByteArray)) : Prop := getS safe 1 = z64 ∧ (∀ i : Nat, 32 + i < n → getS safe (32 + i) = A i) ∧ Held st safe ∧ ∀ x ∈ wait, x = (1, headF (st.map (·.1)))
def J3 (safe : List ByteArray) (wait : List (Int × ByteArray)) : Prop := getS safe 1 = headF (st.map (·.1)) ∧ (∀ i : Nat, 32 + i < n → lookS i st = none → getS safe (32 + i) = A i) ∧ Held st safe ∧ ∀ x ∈ wait, ∃ y ∈ st, x = (32 + y.1, y.2)
def J4 (safe : List ByteArray) (wait : List (Int × ByteArray)) : Prop := getS safe 1 = headF (st.map (·.1)) ∧ (∀ i : Nat, 32 + i < n → getS safe (32 + i) = B i) ∧ Held st safe ∧ ∀ x ∈ wait, x = (1, z64)
def J5 (safe : List ByteArray) (wait : List (Int × ByteArray)) : Prop := getS safe 1 = z64 ∧ (∀ i : Nat, 32 + i < n → getS safe (32 + i) = B i) ∧ wait = []
def JJ (safe : List ByteArray) (wait : List (Int × ByteArray)) : Prop := J1 n A safe wait ∨ J2 n st A safe wait ∨ J3 n st A safe wait ∨ J4 n st B safe wait ∨ J5 n B safe wait
end
section
variable {n : Nat} {st : List (Int × ByteArray)} {A B : Nat → ByteArray}
theorem j4_j3 (T : Tran n st A B) {safe : List ByteArray} (h : J4 n st B safe []) : J3 n st A safe [] :=
  ⟨h.1, fun i hi hn => by rw [h.2.1 i hi, T.new i hi, hn]; rfl, h.2.2.1, fun x hx => by cases hx⟩
/-- Which of the waiting writes are kept: what a crash leaves. -/
theorem crash_inv (T : Tran n st A B) (z : DState) (hz : WZ z) (hn : z.safe.length = n) (P : Nat → Bool) (h : JJ n st A B z.safe z.wait) :
    J1 n A (setN P z.safe z.wait z.wait.length) [] ∨ J3 n st A (setN P z.safe z.wait z.wait.length) [] ∨ J5 n B (setN P z.safe z.wait z.wait.length) [] := by
  have hW := hz.2.2.2.2
  have hb := T.big
  have hf := T.few
  have keep : ∀ q : Nat, q < n → (∀ x ∈ z.wait, x.1 ≠ (q : Int)) → getS (setN P z.safe z.wait z.wait.length) q = getS z.safe q := fun q hq h1 => setN_none P z.safe z.wait hW q (by omega) h1 _
  rcases h with h | h | h | h | h
  · refine .inl ⟨?_, fun i hi => ?_, fun x hx => by cases hx⟩
    · rw [keep 1 (by omega) (fun x hx => by have := h.2.2 x hx; omega)]; exact h.1
    · rw [keep (32 + i) hi (fun x hx => by have := h.2.2 x hx; omega)]; exact h.2.1 i hi
  · have hhome : ∀ i : Nat, 32 + i < n → getS (setN P z.safe z.wait z.wait.length) (32 + i) = A i := fun i hi => by
      rw [keep (32 + i) hi (fun x hx => by rw [h.2.2.2 x hx]; dsimp only; omega)]; exact h.2.1 i hi
    have hheld : Held st (setN P z.safe z.wait z.wait.length) := fun k x hx => by
      have hk : k < st.length := (List.getElem?_eq_some_iff.1 hx).1
      rw [keep (2 + k) (by omega) (fun x hx => by rw [h.2.2.2 x hx]; dsimp only; omega)]; exact h.2.2.1 k x hx
    have h1 := setN_seen P z.safe z.wait hW 1 (by omega) [z64, headF (st.map (·.1))] (by rw [h.1]; exact List.mem_cons_self ..) (fun x hx _ => by rw [h.2.2.2 x hx]; exact List.mem_cons_of_mem _ (List.mem_cons_self ..)) z.wait.length
    rcases List.mem_cons.1 h1 with e | e
    · exact .inl ⟨e, hhome, fun x hx => by cases hx⟩
    · exact .inr (.inl ⟨List.mem_singleton.1 e, fun i hi _ => hhome i hi, hheld, fun x hx => by cases hx⟩)
  · refine .inr (.inl ⟨?_, fun i hi hno => ?_, fun k x hx => ?_, fun x hx => by cases hx⟩)
    · rw [keep 1 (by omega) (fun x hx => by obtain ⟨y, hy, e⟩ := h.2.2.2 x hx; have := T.at_ y hy; rw [e]; dsimp only; omega)]; exact h.1
    · rw [keep (32 + i) hi (fun x hx => by obtain ⟨y, hy, e⟩ := h.2.2.2 x hx; have := look_none hno y hy; rw [e]; dsimp only; omega)]; exact h.2.1 i hi hno
    · have hk : k < st.length := (List.getElem?_eq_some_iff.1 hx).1
      rw [keep (2 + k) (by omega) (fun x hx => by obtain ⟨y, hy, e⟩ := h.2.2.2 x hx; have := T.at_ y hy; rw [e]; dsimp only; omega)]; exact h.2.2.1 k x hx
  · have hhome : ∀ i : Nat, 32 + i < n → getS (setN P z.safe z.wait z.wait.length) (32 + i) = B i := fun i hi => by
      rw [keep (32 + i) hi (fun x hx => by rw [h.2.2.2 x hx]; dsimp only; omega)]; exact h.2.1 i hi
    have hheld : Held st (setN P z.safe z.wait z.wait.length) := fun k x hx => by
      have hk : k < st.length := (List.getElem?_eq_some_iff.1 hx).1
      rw [keep (2 + k) (by omega) (fun x hx => by rw [h.2.2.2 x hx]; dsimp only; omega)]; exact h.2.2.1 k x hx
    have h1 := setN_seen P z.safe z.wait hW 1 (by omega) [headF (st.map (·.1)), z64] (by rw [h.1]; exact List.mem_cons_self ..) (fun x hx _ => by rw [h.2.2.2 x hx]; exact List.mem_cons_of_mem _ (List.mem_cons_self ..)) z.wait.length
    rcases List.mem_cons.1 h1 with e | e
    · exact .inr (.inl (j4_j3 T ⟨e, hhome, hheld, fun x hx => by cases hx⟩))
    · exact .inr (.inr ⟨List.mem_singleton.1 e, hhome, rfl⟩)
  · have e : setN P z.safe z.wait z.wait.length = z.safe := by rw [h.2.2]; rfl
    rw [e]; exact .inr (.inr ⟨h.1, h.2.1, rfl⟩)
theorem okOp_home (T : Tran n st A B) : ∀ o ∈ homeOps st, okOp n o ∧ o ≠ .fl := by
  have key : ∀ (l : List (Int × ByteArray)), (∀ x ∈ l, 0 ≤ x.1 ∧ 32 + x.1 < n ∧ x.2.size = 64) → ∀ o ∈ homeOps l, okOp n o ∧ o ≠ .fl := by
    intro l
    induction l with
    | nil => intro _ o ho; cases ho
    | cons x l ih =>
      intro h o ho
      rcases List.mem_cons.1 ho with e | e
      · have := h x (List.mem_cons_self ..)
        rw [e]; exact ⟨⟨⟨by omega, by omega⟩, this.2.2⟩, by intro h; cases h⟩
      · exact ih (fun y hy => h y (List.mem_cons_of_mem _ hy)) o e
  exact key st T.at_
theorem mem_home : ∀ {l : List (Int × ByteArray)} {o : DOp}, o ∈ homeOps l → ∃ y ∈ l, o = .wr (32 + y.1) y.2
  | [], o, h => by cases h
  | x :: l, o, h => by
    rcases List.mem_cons.1 h with e | e
    · exact ⟨x, List.mem_cons_self .., e⟩
    · obtain ⟨y, hy, e2⟩ := mem_home e
      exact ⟨y, List.mem_cons_of_mem _ hy, e2⟩
/-- The last step: the empty head. -/
theorem point_inv (T : Tran n st A B) (z : DState) (ho : z.off = false) (hn : z.safe.length = n) (h : J4 n st B z.safe []) (hw : z.wait = []) (hWZ : WZ z) :
    JJ n st A B (exec (pointOps []) z).2.safe (exec (pointOps []) z).2.wait ∧ ((exec (pointOps []) z).1 = 0 → J5 n B (exec (pointOps []) z).2.safe (exec (pointOps []) z).2.wait) := by
  have hb := T.big
  have hf := T.few
  unfold pointOps
  rw [headF_nil]
  rcases step_wr z ho 1 z64 ⟨by omega, by omega⟩ z64_size with e | e
  · rw [exec_ok e.1]
    have hz1 : WZ (stepD z (.wr 1 z64)).2 := wz_write z hWZ 1 z64
    generalize (stepD z (.wr 1 z64)).2 = y at *
    obtain ⟨_, h2, h3, h4⟩ := e
    rw [hw, List.nil_append] at h4
    rcases step_fl y h2 with g | g
    · rw [exec_ok g.1]
      have e5 : J5 n B (stepD y .fl).2.safe (stepD y .fl).2.wait := by
        have hW : ∀ x ∈ y.wait, 0 ≤ x.1 ∧ x.1 < y.safe.length := hz1.2.2.2.2
        have hyn : y.safe.length = n := by rw [h3]; exact hn
        refine ⟨?_, fun i hi => ?_, g.2.2.2⟩
        · rw [g.2.2.1, setN_read y.safe y.wait hW 1 (by omega) _ (Nat.le_refl _), List.take_of_length_le (Nat.le_refl _), h4]; rfl
        · rw [g.2.2.1, setN_read y.safe y.wait hW (32 + i) (by omega) _ (Nat.le_refl _), List.take_of_length_le (Nat.le_refl _), h4]
          show stepR _ _ (1, z64) = _
          unfold stepR
          rw [decide_eq_false (by dsimp only; omega), h3]; exact h.2.1 i hi
      exact ⟨.inr (.inr (.inr (.inr e5))), fun _ => e5⟩
    · rw [exec_no (by rw [g.1]; decide)]
      refine ⟨.inr (.inr (.inr (.inl ?_))), fun h => by rw [g.1] at h; cases h⟩
      rw [g.2.1, g.2.2, h3, h4]
      exact ⟨h.1, h.2.1, h.2.2.1, fun x hx => List.mem_singleton.1 hx⟩
  · rw [exec_no (by rw [e.1]; decide)]
    refine ⟨.inr (.inr (.inr (.inl ?_))), fun h => by rw [e.1] at h; cases h⟩
    rw [e.2.1, e.2.2, hw]
    exact h
theorem wz_step (z : DState) (hz : WZ z) (o : DOp) : WZ (stepD z o).2 := by
  cases o with
  | fl => exact wz_flush z hz
  | wr i s => exact wz_write z hz i s
theorem wz_exec : ∀ (l : List DOp) (z : DState), WZ z → WZ (exec l z).2
  | [], z, h => h
  | o :: l, z, h => by
    by_cases e : (stepD z o).1 = 0
    · rw [exec_ok e]; exact wz_exec l _ (wz_step z h o)
    · rw [exec_no e]; exact wz_step z h o
/-- What the log holds is written home. -/
theorem install_inv (T : Tran n st A B) (z : DState) (ho : z.off = false) (hn : z.safe.length = n) (hWZ : WZ z) (h : J3 n st A z.safe []) (hw : z.wait = []) :
    JJ n st A B (exec (installOps st) z).2.safe (exec (installOps st) z).2.wait ∧ ((exec (installOps st) z).1 = 0 → J5 n B (exec (installOps st) z).2.safe (exec (installOps st) z).2.wait) := by
  have hb := T.big
  have hf := T.few
  have hops := okOp_home T
  have hinv := exec_inv (J3 n st A) (homeOps st) z ho (fun o hoo => by rw [hn]; exact (hops o hoo).1) (by rw [hw]; exact h) (fun o hoo y hy hyl hq => by
    obtain ⟨x, hx, rfl⟩ := mem_home hoo
    have hok := (hops _ hoo).1
    rw [← hn, ← hyl] at hok
    rcases step_wr y hy _ _ hok.1 hok.2 with e | e
    · rw [e.2.2.1, e.2.2.2]
      refine ⟨hq.1, hq.2.1, hq.2.2.1, fun u hu => ?_⟩
      rcases List.mem_append.1 hu with hu | hu
      · exact hq.2.2.2 u hu
      · exact ⟨x, hx, List.mem_singleton.1 hu⟩
    · rw [e.2.1, e.2.2]; exact hq)
  have hwr := exec_writes (homeOps st) z ho (fun o hoo => by rw [hn]; exact hops o hoo)
  have hz1 := wz_exec (homeOps st) z hWZ
  have hl1 := exec_len (homeOps st) z
  unfold installOps
  rw [exec_append]
  by_cases h0 : (exec (homeOps st) z).1 = 0
  · rw [decide_eq_true h0, cond_true]
    obtain ⟨hs1, hw1⟩ := hwr h0
    have ho1 := hinv.2 h0
    have hj1 := hinv.1
    generalize (exec (homeOps st) z).2 = y at *
    rw [hw, List.nil_append] at hw1
    rw [hn] at hl1
    have hW : ∀ x ∈ y.wait, 0 ≤ x.1 ∧ x.1 < y.safe.length := hz1.2.2.2.2
    rcases step_fl y ho1 with g | g
    · rw [exec_ok g.1]
      have hget : ∀ q : Nat, q < n → getS (stepD y .fl).2.safe q = (waitOf (homeOps st)).foldl (stepR q) (getS z.safe q) := fun q hq => by
        rw [g.2.2.1, setN_read y.safe y.wait hW q (by omega) _ (Nat.le_refl _), List.take_of_length_le (Nat.le_refl _), hw1, hs1]
      have hpos : ∀ x ∈ st, 0 ≤ x.1 := fun x hx => (T.at_ x hx).1
      have e4 : J4 n st B (stepD y .fl).2.safe [] := by
        refine ⟨?_, fun i hi => ?_, fun k x hx => ?_, fun x hx => by cases hx⟩
        · rw [hget 1 (by omega), wait_home_far st _ _ (by omega) hpos]; exact h.1
        · rw [hget (32 + i) hi, show ((32 + i : Nat) : Int) = 32 + (i : Int) by omega, wait_home st i _ T.rising, T.new i hi]
          cases hl : lookS (i : Int) st with
          | none => exact h.2.1 i hi hl
          | some s => rfl
        · have hk : k < st.length := (List.getElem?_eq_some_iff.1 hx).1
          rw [hget (2 + k) (by omega), wait_home_far st _ _ (by omega) hpos]; exact h.2.2.1 k x hx
      exact point_inv T _ g.2.1 (by rw [step_len]; exact hl1) e4 g.2.2.2 (wz_step y hz1 .fl)
    · rw [exec_no (by rw [g.1]; decide), g.2.1, g.2.2]
      exact ⟨.inr (.inr (.inl hj1)), fun e => by rw [g.1] at e; cases e⟩
  · rw [decide_eq_false h0, cond_false]
    exact ⟨.inr (.inr (.inl hinv.1)), fun e => absurd e h0⟩
theorem okOp_hold (T : Tran n st A B) : ∀ o ∈ holdOps 0 st, (∃ (i : Int) (s : ByteArray), o = .wr i s ∧ 2 ≤ i ∧ i < 32) ∧ okOp n o ∧ o ≠ .fl := by
  have key : ∀ (l : List (Int × ByteArray)) (k0 : Nat), k0 + l.length ≤ 30 → (∀ x ∈ l, 0 ≤ x.1 ∧ 32 + x.1 < n ∧ x.2.size = 64) → ∀ o ∈ holdOps k0 l, (∃ (i : Int) (s : ByteArray), o = .wr i s ∧ 2 ≤ i ∧ i < 32) ∧ okOp n o ∧ o ≠ .fl := by
    intro l
    induction l with
    | nil => intro _ _ _ o ho; cases ho
    | cons x l ih =>
      intro k0 hk h o ho
      rw [List.length_cons] at hk
      have hb := T.big
      rcases List.mem_cons.1 ho with e | e
      · have := h x (List.mem_cons_self ..)
        rw [e]; exact ⟨⟨_, _, rfl, by omega, by omega⟩, ⟨⟨by omega, by omega⟩, this.2.2⟩, by intro h; cases h⟩
      · exact ih (k0 + 1) (by omega) (fun y hy => h y (List.mem_cons_of_mem _ hy)) o e
  exact key st 0 (by have := T.few; omega) T.at_
/-- A commit from a disk on which nothing is under way. -/
theorem commit_inv (T : Tran n st A B) (z : DState) (ho : z.off = false) (hn : z.safe.length = n) (hWZ : WZ z) (h : J1 n A z.safe []) (hw : z.wait = []) :
    JJ n st A B (exec (commitOps st) z).2.safe (exec (commitOps st) z).2.wait ∧ ((exec (commitOps st) z).1 = 0 → J5 n B (exec (commitOps st) z).2.safe (exec (commitOps st) z).2.wait) := by
  have hb := T.big
  have hf := T.few
  have hops := okOp_hold T
  have hinv := exec_inv (J1 n A) (holdOps 0 st) z ho (fun o hoo => by rw [hn]; exact (hops o hoo).2.1) (by rw [hw]; exact h) (fun o hoo y hy hyl hq => by
    obtain ⟨⟨i, s, rfl, i1, i2⟩, hok, _⟩ := hops o hoo
    rw [← hn, ← hyl] at hok
    rcases step_wr y hy _ _ hok.1 hok.2 with e | e
    · rw [e.2.2.1, e.2.2.2]
      refine ⟨hq.1, hq.2.1, fun u hu => ?_⟩
      rcases List.mem_append.1 hu with hu | hu
      · exact hq.2.2 u hu
      · rw [List.mem_singleton.1 hu]; exact ⟨i1, i2⟩
    · rw [e.2.1, e.2.2]; exact hq)
  have hwr := exec_writes (holdOps 0 st) z ho (fun o hoo => by rw [hn]; exact (hops o hoo).2)
  have hz1 := wz_exec (holdOps 0 st) z hWZ
  have hl1 := exec_len (holdOps 0 st) z
  unfold commitOps
  rw [show pointOps (st.map (·.1)) ++ installOps st = .wr 1 (headF (st.map (·.1))) :: .fl :: installOps st from rfl, exec_append]
  by_cases h0 : (exec (holdOps 0 st) z).1 = 0
  · rw [decide_eq_true h0, cond_true]
    obtain ⟨hs1, hw1⟩ := hwr h0
    have ho1 := hinv.2 h0
    have hj1 := hinv.1
    generalize (exec (holdOps 0 st) z).2 = y at *
    rw [hw, List.nil_append] at hw1
    rw [hn] at hl1
    have hW : ∀ x ∈ y.wait, 0 ≤ x.1 ∧ x.1 < y.safe.length := hz1.2.2.2.2
    rcases step_fl y ho1 with g | g
    · rw [exec_ok g.1]
      have hget : ∀ q : Nat, q < n → getS (stepD y .fl).2.safe q = (waitOf (holdOps 0 st)).foldl (stepR q) (getS z.safe q) := fun q hq => by
        rw [g.2.2.1, setN_read y.safe y.wait hW q (by omega) _ (Nat.le_refl _), List.take_of_length_le (Nat.le_refl _), hw1, hs1]
      have e2 : J2 n st A (stepD y .fl).2.safe [] := by
        refine ⟨?_, fun i hi => ?_, fun k x hx => ?_, fun x hx => by cases hx⟩
        · rw [hget 1 (by omega), wait_hold_far st 0 _ _ (.inl (by omega)) (by omega)]; exact h.1
        · rw [hget (32 + i) hi, wait_hold_far st 0 _ _ (.inr (by omega)) (by omega)]; exact h.2.1 i hi
        · have hk : k < st.length := (List.getElem?_eq_some_iff.1 hx).1
          rw [hget (2 + k) (by omega)]
          have := wait_hold st 0 k x (getS z.safe (2 + k)) hx
          rw [Nat.zero_add] at this; exact this
      have hz2 := wz_step y hz1 .fl
      have hl2 : (stepD y .fl).2.safe.length = n := by rw [step_len]; exact hl1
      obtain ⟨_, o2, _, w2⟩ := g
      generalize (stepD y .fl).2 = u at *
      have hsz : (headF (st.map (·.1))).size = 64 := headF_size _ (by rw [List.length_map]; omega)
      rcases step_wr u o2 1 (headF (st.map (·.1))) ⟨by omega, by omega⟩ hsz with e | e
      · rw [exec_ok e.1]
        have hz3 := wz_step u hz2 (.wr 1 (headF (st.map (·.1))))
        have hl3 : (stepD u (.wr 1 (headF (st.map (·.1))))).2.safe.length = n := by rw [step_len]; exact hl2
        generalize (stepD u (.wr 1 (headF (st.map (·.1))))).2 = v at *
        obtain ⟨_, o3, s3, w3⟩ := e
        rw [w2, List.nil_append] at w3
        have hWv : ∀ x ∈ v.wait, 0 ≤ x.1 ∧ x.1 < v.safe.length := hz3.2.2.2.2
        rcases step_fl v o3 with g2 | g2
        · rw [exec_ok g2.1]
          have hget2 : ∀ q : Nat, q < n → getS (stepD v .fl).2.safe q = stepR q (getS u.safe q) (1, headF (st.map (·.1))) := fun q hq => by
            rw [g2.2.2.1, setN_read v.safe v.wait hWv q (by omega) _ (Nat.le_refl _), List.take_of_length_le (Nat.le_refl _), w3, s3]; rfl
          have e3 : J3 n st A (stepD v .fl).2.safe [] := by
            refine ⟨?_, fun i hi _ => ?_, fun k x hx => ?_, fun x hx => by cases hx⟩
            · rw [hget2 1 (by omega)]; rfl
            · rw [hget2 (32 + i) hi]; unfold stepR; rw [decide_eq_false (by dsimp only; omega)]; exact e2.2.1 i hi
            · have hk : k < st.length := (List.getElem?_eq_some_iff.1 hx).1
              rw [hget2 (2 + k) (by omega)]; unfold stepR; rw [decide_eq_false (by dsimp only; omega)]; exact e2.2.2.1 k x hx
          exact install_inv T _ g2.2.1 (by rw [step_len]; exact hl3) (wz_step v hz3 .fl) e3 g2.2.2.2
        · rw [exec_no (by rw [g2.1]; decide), g2.2.1, g2.2.2, s3, w3]
          exact ⟨.inr (.inl ⟨e2.1, e2.2.1, e2.2.2.1, fun x hx => List.mem_singleton.1 hx⟩), fun e => by rw [g2.1] at e; cases e⟩
      · rw [exec_no (by rw [e.1]; decide), e.2.1, e.2.2, w2]
        exact ⟨.inr (.inl e2), fun h => by rw [e.1] at h; cases h⟩
    · rw [exec_no (by rw [g.1]; decide), g.2.1, g.2.2]
      exact ⟨.inl hj1, fun e => by rw [g.1] at e; cases e⟩
  · rw [decide_eq_false h0, cond_false]
    exact ⟨.inl hinv.1, fun e => absurd e h0⟩
end
end Go.Proofs.YtlpcccpagmipnaaGreat.P
namespace Go.Proofs.YtlpcccpagmipnaaGreat.P
open Go.RowKit
def byteN (s : ByteArray) (j : Nat) : Nat := (s.data.toList.getD j 0).toNat
def rdNum (s : ByteArray) (k : Nat) : Int := (byteN s (1 + 2 * k) : Int) + 256 * (byteN s (2 + 2 * k) : Int)
def rdHomes (s : ByteArray) (n : Nat) : List Int := (List.range n).map (rdNum s)
/-- Rising from behind last on, all below most. -/
def goodH (most : Int) : Int → List Int → Bool
  | _, [] => true
  | last, x :: l => decide (last < x) && decide (x < most) && goodH most x l
def parseH (s : ByteArray) (most : Int) : Option (List Int) :=
  if 30 < byteN s 0 then none else if goodH most (-1) (rdHomes s (byteN s 0)) = true then (if s = headF (rdHomes s (byteN s 0)) then some (rdHomes s (byteN s 0)) else none) else none
theorem rdNum_bd (s : ByteArray) (k : Nat) : 0 ≤ rdNum s k ∧ rdNum s k < 65536 := by
  unfold rdNum byteN
  have h1 := (s.data.toList.getD (1 + 2 * k) 0).toNat_lt
  have h2 := (s.data.toList.getD (2 + 2 * k) 0).toNat_lt
  omega
theorem rdHomes_succ (s : ByteArray) (n : Nat) : rdHomes s (n + 1) = rdHomes s n ++ [rdNum s n] := by
  unfold rdHomes; rw [List.range_succ, List.map_append]; rfl
theorem rdHomes_len (s : ByteArray) (n : Nat) : (rdHomes s n).length = n := by unfold rdHomes; rw [List.length_map, List.length_range]
def lastH (last : Int) (l : List Int) : Int := l.getLast?.getD last
theorem lastH_append (last : Int) (l : List Int) (x : Int) : lastH last (l ++ [x]) = x := by unfold lastH; rw [List.getLast?_append]; rfl
theorem goodH_append (most : Int) (x : Int) : ∀ (l : List Int) (last : Int), goodH most last (l ++ [x]) = (goodH most last l && (decide (lastH last l < x) && decide (x < most)))
  | [], last => by
    show (decide (last < x) && decide (x < most) && true) = (true && _)
    rw [Bool.and_true, Bool.true_and]; rfl
  | y :: l, last => by
    show (decide (last < y) && decide (y < most) && goodH most y (l ++ [x])) = _
    rw [goodH_append most x l y]
    show _ = ((decide (last < y) && decide (y < most) && goodH most y l) && _)
    have : lastH last (y :: l) = lastH y l := by
      unfold lastH
      cases l with
      | nil => rfl
      | cons z l => rw [List.getLast?_cons_cons, List.getLast?_cons]; rfl
    rw [this]; simp only [Bool.and_assoc]
theorem good_prefix (most : Int) (s : ByteArray) (n : Nat) : ∀ k, k ≤ n → goodH most (-1) (rdHomes s n) = true → goodH most (-1) (rdHomes s k) = true := by
  intro k hk h
  induction n with
  | zero => rw [Nat.le_zero.1 hk]; exact h
  | succ n ih =>
    by_cases e : k = n + 1
    · rw [e]; exact h
    · rw [rdHomes_succ, goodH_append, Bool.and_eq_true] at h
      exact ih (by omega) h.1
/-! a head read is what was written -/
theorem flat_get : ∀ (h : List Int) (k : Nat) (i : Int) (t : List UInt8), h[k]? = some i → (h.flatMap numB ++ t)[2 * k]? = some (UInt8.ofNat (i % 256).toNat) ∧ (h.flatMap numB ++ t)[2 * k + 1]? = some (UInt8.ofNat (i / 256 % 256).toNat)
  | [], k, i, t, e => by simp at e
  | x :: h, 0, i, t, e => by
    simp at e; subst e; exact ⟨rfl, rfl⟩
  | x :: h, k + 1, i, t, e => by
    have := flat_get h k i t (by simpa using e)
    rw [List.flatMap_cons, List.append_assoc]
    show (UInt8.ofNat (x % 256).toNat :: UInt8.ofNat (x / 256 % 256).toNat :: (h.flatMap numB ++ t))[2 * (k + 1)]? = _ ∧ (UInt8.ofNat (x % 256).toNat :: UInt8.ofNat (x / 256 % 256).toNat :: (h.flatMap numB ++ t))[2 * (k + 1) + 1]? = _
    rw [show 2 * (k + 1) = 2 * k + 1 + 1 by omega]
    simpa using this
theorem head_num (h : List Int) (k : Nat) (i : Int) (e : h[k]? = some i) (hi : 0 ≤ i ∧ i < 65536) : rdNum (headF h) k = i := by
  have f := flat_get h k i (List.replicate (64 - (UInt8.ofNat h.length :: h.flatMap numB).length) 0) e
  have t1 : (UInt8.ofNat (i % 256).toNat).toNat = (i % 256).toNat := by rw [UInt8.toNat_ofNat']; omega
  have t2 : (UInt8.ofNat (i / 256 % 256).toNat).toNat = (i / 256 % 256).toNat := by rw [UInt8.toNat_ofNat']; omega
  have e1 : byteN (headF h) (1 + 2 * k) = (i % 256).toNat := by
    rw [← t1]; unfold byteN headF headL
    refine congrArg UInt8.toNat ?_
    rw [List.getD_eq_getElem?_getD, show 1 + 2 * k = 2 * k + 1 by omega]
    refine (congrArg (fun o => Option.getD o 0) (?_ : _ = some (UInt8.ofNat (i % 256).toNat))).trans rfl
    rw [← f.1]; rfl
  have e2 : byteN (headF h) (2 + 2 * k) = (i / 256 % 256).toNat := by
    rw [← t2]; unfold byteN headF headL
    refine congrArg UInt8.toNat ?_
    rw [List.getD_eq_getElem?_getD, show 2 + 2 * k = 2 * k + 1 + 1 by omega]
    refine (congrArg (fun o => Option.getD o 0) (?_ : _ = some (UInt8.ofNat (i / 256 % 256).toNat))).trans rfl
    rw [← f.2]; rfl
  unfold rdNum
  rw [e1, e2]
  omega
theorem head_count (h : List Int) (hl : h.length ≤ 31) : byteN (headF h) 0 = h.length := by
  unfold byteN headF headL
  show (UInt8.ofNat h.length).toNat = h.length
  rw [UInt8.toNat_ofNat']; omega
theorem head_homes (h : List Int) (hl : h.length ≤ 31) (hb : ∀ i ∈ h, 0 ≤ i ∧ i < 65536) : rdHomes (headF h) (byteN (headF h) 0) = h := by
  rw [head_count h hl]
  apply List.ext_getElem?
  intro k
  unfold rdHomes
  rw [List.getElem?_map]
  by_cases hk : k < h.length
  · rw [List.getElem?_range hk, List.getElem?_eq_getElem hk]
    show some _ = _
    rw [head_num h k _ (List.getElem?_eq_getElem hk) (hb _ (List.getElem_mem hk))]
  · rw [List.getElem?_eq_none (by rw [List.length_range]; omega), List.getElem?_eq_none (by omega)]; rfl
theorem good_rising (most : Int) : ∀ (st : List (Int × ByteArray)) (last : Int), Rising st → (∀ x ∈ st, last < x.1 ∧ x.1 < most) → goodH most last (st.map (·.1)) = true
  | [], _, _, _ => rfl
  | x :: st, last, hr, hb => by
    have h1 := hb x (List.mem_cons_self ..)
    show (decide (last < x.1) && decide (x.1 < most) && goodH most x.1 (st.map (·.1))) = true
    rw [decide_eq_true h1.1, decide_eq_true h1.2, good_rising most st x.1 hr.2 (fun y hy => ⟨hr.1 y hy, (hb y (List.mem_cons_of_mem _ hy)).2⟩)]; rfl
theorem parse_head (st : List (Int × ByteArray)) (most : Int) (hr : Rising st) (hl : st.length ≤ 30) (hm : most ≤ 65536) (hb : ∀ x ∈ st, 0 ≤ x.1 ∧ x.1 < most) : parseH (headF (st.map (·.1))) most = some (st.map (·.1)) := by
  have hl2 : (st.map (·.1)).length ≤ 30 := by rw [List.length_map]; exact hl
  have hb2 : ∀ i ∈ st.map (·.1), 0 ≤ i ∧ i < 65536 := fun i hi => by
    obtain ⟨x, hx, rfl⟩ := List.mem_map.1 hi
    have := hb x hx; omega
  unfold parseH
  rw [head_homes _ (by omega) hb2, head_count _ (by omega), if_neg (by omega), if_pos (good_rising most st (-1) hr (fun x hx => by have := hb x hx; omega)), if_pos rfl]
theorem parse_nil (most : Int) : parseH z64 most = some [] := by
  have h0 : byteN z64 0 = 0 := by decide +kernel
  unfold parseH
  rw [h0, if_neg (by omega)]
  show (if true = true then (if z64 = headF [] then some [] else none) else none) = _
  rw [if_pos rfl, if_pos headF_nil.symm]
end Go.Proofs.YtlpcccpagmipnaaGreat.P
