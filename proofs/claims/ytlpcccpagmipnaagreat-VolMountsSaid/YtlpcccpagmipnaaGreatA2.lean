/- Stage 7: a commit as acts of a disk, one behind the other; heads: plain facts. No condition. -/
import Derived.Test.YtlpcccpagmipnaaGreatI1
set_option linter.unusedVariables false
namespace Go.Proofs.YtlpcccpagmipnaaGreat.P
open Go.RowKit
inductive DOp where
  | wr (i : Int) (s : ByteArray)
  | fl
def stepD (z : DState) : DOp → Int × DState
  | .wr i s => (writeR z i s, writeZ z i s)
  | .fl => (flushR z, flushZ z)
/-- Acts until one is refused. -/
def exec : List DOp → DState → Int × DState
  | [], z => (0, z)
  | o :: l, z => bif decide ((stepD z o).1 = 0) then exec l (stepD z o).2 else stepD z o
theorem exec_append (a b : List DOp) : ∀ z, exec (a ++ b) z = bif decide ((exec a z).1 = 0) then exec b (exec a z).2 else exec a z := by
  induction a with
  | nil => intro z; rfl
  | cons o a ih =>
    intro z
    show (bif decide ((stepD z o).1 = 0) then exec (a ++ b) (stepD z o).2 else stepD z o) = _
    rw [ih]
    show _ = bif decide ((bif decide ((stepD z o).1 = 0) then exec a (stepD z o).2 else stepD z o).1 = 0) then exec b (bif decide ((stepD z o).1 = 0) then exec a (stepD z o).2 else stepD z o).2 else (bif decide ((stepD z o).1 = 0) then exec a (stepD z o).2 else stepD z o)
    by_cases h : (stepD z o).1 = 0
    · rw [decide_eq_true h]; rfl
    · rw [decide_eq_false h]
      show stepD z o = bif decide ((stepD z o).1 = 0) then _ else stepD z o
      rw [decide_eq_false h]; rfl
theorem exec_ok {o : DOp} {l : List DOp} {z : DState} (h : (stepD z o).1 = 0) : exec (o :: l) z = exec l (stepD z o).2 := by
  show (bif decide _ then _ else _) = _; rw [decide_eq_true h]; rfl
theorem exec_no {o : DOp} {l : List DOp} {z : DState} (h : (stepD z o).1 ≠ 0) : exec (o :: l) z = stepD z o := by
  show (bif decide _ then _ else _) = _; rw [decide_eq_false h]; rfl
/-- The bytes of a head. -/
def numB (i : Int) : List UInt8 := [UInt8.ofNat (i % 256).toNat, UInt8.ofNat (i / 256 % 256).toNat]
def headL (h : List Int) : List UInt8 := UInt8.ofNat h.length :: h.flatMap numB
def headF (h : List Int) : ByteArray := ⟨(headL h ++ List.replicate (64 - (headL h).length) 0).toArray⟩
theorem headL_len (h : List Int) : (headL h).length = 1 + 2 * h.length := by
  unfold headL
  rw [List.length_cons, List.length_flatMap]
  have : (h.map (fun i => (numB i).length)) = List.replicate h.length 2 := by
    rw [List.map_eq_replicate_iff]; intro i _; rfl
  rw [this, List.sum_replicate_nat]; omega
theorem headF_size (h : List Int) (hl : h.length ≤ 31) : (headF h).size = 64 := by
  have := headL_len h
  show (headL h ++ List.replicate (64 - (headL h).length) 0).toArray.size = 64
  rw [List.size_toArray, List.length_append, List.length_replicate]; omega
def holdOps : Nat → List (Int × ByteArray) → List DOp
  | _, [] => []
  | k, x :: l => .wr ((2 + k : Nat) : Int) x.2 :: holdOps (k + 1) l
def homeOps : List (Int × ByteArray) → List DOp
  | [] => []
  | x :: l => .wr (32 + x.1) x.2 :: homeOps l
def pointOps (h : List Int) : List DOp := [.wr 1 (headF h), .fl]
def installOps (st : List (Int × ByteArray)) : List DOp := homeOps st ++ (.fl :: pointOps [])
def commitOps (st : List (Int × ByteArray)) : List DOp := holdOps 0 st ++ (.fl :: (pointOps (st.map (·.1)) ++ installOps st))
/-- A home sector is staged. -/
def putS (i : Int) (s : ByteArray) : List (Int × ByteArray) → List (Int × ByteArray)
  | [] => [(i, s)]
  | x :: l => if x.1 < i then x :: putS i s l else if x.1 = i then (i, s) :: l else (i, s) :: x :: l
/-- Rising. -/
def Rising : List (Int × ByteArray) → Prop
  | [] => True
  | x :: l => (∀ y ∈ l, x.1 < y.1) ∧ Rising l
theorem mem_putS {i : Int} {s : ByteArray} : ∀ {l : List (Int × ByteArray)} {y : Int × ByteArray}, y ∈ putS i s l → y = (i, s) ∨ y ∈ l
  | [], y, h => .inl (List.mem_singleton.1 h)
  | x :: l, y, h => by
    unfold putS at h
    split at h
    · rcases List.mem_cons.1 h with h | h
      · exact .inr (by rw [h]; exact List.mem_cons_self ..)
      · exact (mem_putS h).elim .inl (fun e => .inr (List.mem_cons_of_mem _ e))
    · split at h
      · rcases List.mem_cons.1 h with h | h
        · exact .inl h
        · exact .inr (List.mem_cons_of_mem _ h)
      · rcases List.mem_cons.1 h with h | h
        · exact .inl h
        · exact .inr h
theorem rising_put (i : Int) (s : ByteArray) : ∀ l, Rising l → Rising (putS i s l)
  | [], _ => ⟨fun y h => (by cases h), trivial⟩
  | x :: l, h => by
    unfold putS
    split
    · rename_i h1
      refine ⟨fun y hy => ?_, rising_put i s l h.2⟩
      rcases mem_putS hy with e | e
      · rw [e]; exact h1
      · exact h.1 y e
    · split
      · rename_i h1 h2
        exact ⟨fun y hy => by have := h.1 y hy; show i < y.1; omega, h.2⟩
      · rename_i h1 h2
        refine ⟨fun y hy => ?_, h⟩
        rcases List.mem_cons.1 hy with e | e
        · rw [e]; show i < x.1; omega
        · have := h.1 y e; show i < y.1; omega
/-- What is staged of a home sector. -/
def lookS (i : Int) : List (Int × ByteArray) → Option ByteArray
  | [] => none
  | x :: l => if x.1 = i then some x.2 else lookS i l
theorem look_put (i j : Int) (s : ByteArray) : ∀ l, Rising l → lookS j (putS i s l) = if i = j then some s else lookS j l
  | [], _ => by unfold putS lookS; split <;> rfl
  | x :: l, h => by
    have ih := look_put i j s l h.2
    unfold putS
    split
    · rename_i h1
      show (if x.1 = j then some x.2 else lookS j (putS i s l)) = _
      rw [ih]
      show _ = if i = j then some s else if x.1 = j then some x.2 else lookS j l
      by_cases e : x.1 = j
      · rw [if_pos e, if_neg (by omega), if_pos e]
      · rw [if_neg e, if_neg e]
    · split
      · rename_i h1 h2
        show (if i = j then some s else lookS j l) = if i = j then some s else if x.1 = j then some x.2 else lookS j l
        by_cases e : i = j
        · rw [if_pos e, if_pos e]
        · rw [if_neg e, if_neg e, if_neg (by omega)]
      · rfl
theorem look_mem {i : Int} {s : ByteArray} : ∀ {l : List (Int × ByteArray)}, lookS i l = some s → (i, s) ∈ l
  | [], h => by cases h
  | x :: l, h => by
    unfold lookS at h
    split at h
    · rename_i e
      injection h with h
      rw [← e, ← h]; exact List.mem_cons_self ..
    · exact List.mem_cons_of_mem _ (look_mem h)
theorem look_none {i : Int} : ∀ {l : List (Int × ByteArray)}, lookS i l = none → ∀ x ∈ l, x.1 ≠ i
  | [], _, x, hx => by cases hx
  | y :: l, h, x, hx => by
    unfold lookS at h
    split at h
    · cases h
    · rename_i e
      rcases List.mem_cons.1 hx with e2 | e2
      · rw [e2]; exact e
      · exact look_none h x e2
theorem look_of_mem : ∀ {l : List (Int × ByteArray)} {x : Int × ByteArray}, Rising l → x ∈ l → lookS x.1 l = some x.2
  | y :: l, x, hr, h => by
    unfold lookS
    rcases List.mem_cons.1 h with e | e
    · rw [e, if_pos rfl]
    · rw [if_neg (by have := hr.1 x e; omega)]; exact look_of_mem hr.2 e
theorem put_len (i : Int) (s : ByteArray) : ∀ l, Rising l → (putS i s l).length = bif (lookS i l).isSome then l.length else l.length + 1
  | [], _ => rfl
  | x :: l, h => by
    have ih := put_len i s l h.2
    unfold putS
    split
    · rename_i h1
      rw [List.length_cons, ih]
      show _ = bif (if x.1 = i then some x.2 else lookS i l).isSome then _ else _
      rw [if_neg (by omega)]
      cases (lookS i l).isSome <;> simp
    · split
      · rename_i h1 h2
        show _ = bif (if x.1 = i then some x.2 else lookS i l).isSome then _ else _
        rw [if_pos h2]; rfl
      · rename_i h1 h2
        have : lookS i l = none := by
          cases hl : lookS i l with
          | none => rfl
          | some t => have := h.1 _ (look_mem hl); dsimp only at this; omega
        show _ = bif (if x.1 = i then some x.2 else lookS i l).isSome then _ else _
        rw [if_neg h2, this]; rfl
end Go.Proofs.YtlpcccpagmipnaaGreat.P
namespace Go.Proofs.YtlpcccpagmipnaaGreat.P
open Go.RowKit
theorem step_wr (z : DState) (ho : z.off = false) (i : Int) (s : ByteArray) (hi : 0 ≤ i ∧ i < z.safe.length) (hs : s.size = 64) :
    ((stepD z (.wr i s)).1 = 0 ∧ (stepD z (.wr i s)).2.off = false ∧ (stepD z (.wr i s)).2.safe = z.safe ∧ (stepD z (.wr i s)).2.wait = z.wait ++ [(i, s)]) ∨
    ((stepD z (.wr i s)).1 = 7 ∧ (stepD z (.wr i s)).2.safe = z.safe ∧ (stepD z (.wr i s)).2.wait = z.wait) := by
  have hh : (hasB z i && decide (s.size = 64)) = true := by
    rw [decide_eq_true hs, Bool.and_true]; unfold hasB; rw [decide_eq_true hi.1, decide_eq_true hi.2]; rfl
  have ak := actZ_keeps z
  show (writeR z i s = 0 ∧ (writeZ z i s).off = false ∧ (writeZ z i s).safe = z.safe ∧ (writeZ z i s).wait = z.wait ++ [(i, s)]) ∨ (writeR z i s = 7 ∧ (writeZ z i s).safe = z.safe ∧ (writeZ z i s).wait = z.wait)
  unfold writeR writeZ
  rw [ho, hh]
  cases ha : actB z with
  | false => exact .inr ⟨rfl, ak.2, ak.1⟩
  | true =>
    refine .inl ⟨rfl, ?_, ak.2, by show (actZ z).wait ++ _ = _; rw [ak.1]⟩
    show (actZ z).off = false
    unfold actB at ha
    unfold actZ
    cases hc : z.counted with
    | false => exact ho
    | true =>
      rw [hc] at ha
      have : decide (z.acts = 0) = false := by simpa using ha
      rw [this]; exact ho
theorem step_fl (z : DState) (ho : z.off = false) :
    ((stepD z .fl).1 = 0 ∧ (stepD z .fl).2.off = false ∧ (stepD z .fl).2.safe = setN (fun _ => true) z.safe z.wait z.wait.length ∧ (stepD z .fl).2.wait = []) ∨
    ((stepD z .fl).1 = 7 ∧ (stepD z .fl).2.safe = z.safe ∧ (stepD z .fl).2.wait = z.wait) := by
  have ak := actZ_keeps z
  show (flushR z = 0 ∧ (flushZ z).off = false ∧ (flushZ z).safe = _ ∧ (flushZ z).wait = []) ∨ (flushR z = 7 ∧ (flushZ z).safe = z.safe ∧ (flushZ z).wait = z.wait)
  unfold flushR flushZ
  rw [ho]
  cases ha : actB z with
  | false => exact .inr ⟨rfl, ak.2, ak.1⟩
  | true =>
    refine .inl ⟨rfl, ?_, rfl, rfl⟩
    show (actZ z).off = false
    unfold actB at ha
    unfold actZ
    cases hc : z.counted with
    | false => exact ho
    | true =>
      rw [hc] at ha
      have : decide (z.acts = 0) = false := by simpa using ha
      rw [this]; exact ho
theorem live_step (z : DState) (h : Live z) (o : DOp) (ho : ∀ i s, o = .wr i s → (0 ≤ i ∧ i < z.safe.length) ∧ s.size = 64) : (stepD z o).1 = 0 ∧ Live (stepD z o).2 := by
  cases o with
  | fl => exact ⟨h.flushR, h.flush⟩
  | wr i s =>
    obtain ⟨hi, hs⟩ := ho i s rfl
    refine ⟨?_, h.write i s⟩
    show writeR z i s = 0
    rw [h.writeR, decide_eq_true hs, Bool.and_true]
    unfold hasB; rw [decide_eq_true hi.1, decide_eq_true hi.2]; rfl
theorem step_len (z : DState) (o : DOp) : (stepD z o).2.safe.length = z.safe.length := by
  cases o with
  | fl => exact flush_len z
  | wr i s => show (writeZ z i s).safe.length = _; rw [write_safe]
def okOp (n : Nat) : DOp → Prop
  | .fl => True
  | .wr i s => (0 ≤ i ∧ i < n) ∧ s.size = 64
theorem live_exec : ∀ (l : List DOp) (z : DState), Live z → (∀ o ∈ l, okOp z.safe.length o) → (exec l z).1 = 0 ∧ Live (exec l z).2
  | [], z, h, _ => ⟨rfl, h⟩
  | o :: l, z, h, hl => by
    have h1 := live_step z h o (fun i s e => by have := hl o (List.mem_cons_self ..); rw [e] at this; exact this)
    rw [exec_ok h1.1]
    exact live_exec l _ h1.2 (fun p hp => by rw [step_len]; exact hl p (List.mem_cons_of_mem _ hp))
theorem exec_len : ∀ (l : List DOp) (z : DState), (exec l z).2.safe.length = z.safe.length
  | [], z => rfl
  | o :: l, z => by
    by_cases h : (stepD z o).1 = 0
    · rw [exec_ok h, exec_len l, step_len]
    · rw [exec_no h, step_len]
/-- A predicate of safe sectors and waiting writes that each act keeps holds behind acts, however far they come. -/
theorem exec_inv (Q : List ByteArray → List (Int × ByteArray) → Prop) : ∀ (l : List DOp) (z : DState), z.off = false → (∀ o ∈ l, okOp z.safe.length o) → Q z.safe z.wait →
    (∀ o ∈ l, ∀ (y : DState), y.off = false → y.safe.length = z.safe.length → Q y.safe y.wait → Q (stepD y o).2.safe (stepD y o).2.wait) → Q (exec l z).2.safe (exec l z).2.wait ∧ ((exec l z).1 = 0 → (exec l z).2.off = false)
  | [], z, ho, _, hq, _ => ⟨hq, fun _ => ho⟩
  | o :: l, z, ho, hl, hq, hs => by
    have hq2 := hs o (List.mem_cons_self ..) z ho rfl hq
    by_cases h : (stepD z o).1 = 0
    · rw [exec_ok h]
      have hoff : (stepD z o).2.off = false := by
        cases o with
        | fl =>
          rcases step_fl z ho with e | e
          · exact e.2.1
          · rw [e.1] at h; cases h
        | wr i s =>
          have hok := hl _ (List.mem_cons_self ..)
          rcases step_wr z ho i s hok.1 hok.2 with e | e
          · exact e.2.1
          · rw [e.1] at h; cases h
      refine exec_inv Q l _ hoff (fun p hp => by rw [step_len]; exact hl p (List.mem_cons_of_mem _ hp)) hq2 (fun p hp y h1 h2 h3 => hs p (List.mem_cons_of_mem _ hp) y h1 (by rw [h2, step_len]) h3)
    · rw [exec_no h]; exact ⟨hq2, fun e => absurd e h⟩
/-! what waits behind writes that all came through -/
def waitOf : List DOp → List (Int × ByteArray)
  | [] => []
  | .wr i s :: l => (i, s) :: waitOf l
  | .fl :: l => waitOf l
theorem exec_writes : ∀ (l : List DOp) (z : DState), z.off = false → (∀ o ∈ l, okOp z.safe.length o ∧ o ≠ .fl) → (exec l z).1 = 0 → (exec l z).2.safe = z.safe ∧ (exec l z).2.wait = z.wait ++ waitOf l
  | [], z, _, _, _ => ⟨rfl, by show z.wait = z.wait ++ []; rw [List.append_nil]⟩
  | .fl :: l, z, _, hl, _ => absurd rfl (hl _ (List.mem_cons_self ..)).2
  | .wr i s :: l, z, ho, hl, h0 => by
    have hok := (hl _ (List.mem_cons_self ..)).1
    rcases step_wr z ho i s hok.1 hok.2 with e | e
    · rw [exec_ok e.1] at h0 ⊢
      have := exec_writes l _ e.2.1 (fun p hp => by rw [step_len]; exact hl p (List.mem_cons_of_mem _ hp)) h0
      refine ⟨this.1.trans e.2.2.1, ?_⟩
      rw [this.2, e.2.2.2, List.append_assoc]; rfl
    · rw [exec_no (by rw [e.1]; decide)] at h0
      rw [e.1] at h0; cases h0
theorem fold_append (q : Int) (l : List (Int × ByteArray)) (x : Int × ByteArray) (s : ByteArray) : (l ++ [x]).foldl (stepR q) s = stepR q (l.foldl (stepR q) s) x := by rw [List.foldl_append]; rfl
theorem wait_hold : ∀ (st : List (Int × ByteArray)) (k0 k : Nat) (x : Int × ByteArray) (s : ByteArray), st[k]? = some x → (waitOf (holdOps k0 st)).foldl (stepR ((2 + (k0 + k) : Nat) : Int)) s = x.2
  | [], k0, k, x, s, h => by simp at h
  | y :: st, k0, 0, x, s, h => by
    simp at h; subst h
    show (waitOf (holdOps (k0 + 1) st)).foldl _ (stepR _ s (_, y.2)) = y.2
    rw [fold_none]
    · unfold stepR; rw [decide_eq_true (by omega)]; rfl
    · have key : ∀ (l : List (Int × ByteArray)) (j : Nat), ∀ x ∈ waitOf (holdOps j l), ((2 + j : Nat) : Int) ≤ x.1 := by
        intro l
        induction l with
        | nil => intro j x hx; cases hx
        | cons a l ih =>
          intro j x hx
          rcases List.mem_cons.1 hx with e | e
          · rw [e]; exact Int.le_refl _
          · have := ih (j + 1) x e; omega
      intro x hx
      have := key st (k0 + 1) x hx
      omega
  | y :: st, k0, k + 1, x, s, h => by
    have := wait_hold st (k0 + 1) k x (stepR ((2 + (k0 + (k + 1)) : Nat) : Int) s (((2 + k0 : Nat) : Int), y.2)) (by simpa using h)
    show (waitOf (holdOps (k0 + 1) st)).foldl _ _ = x.2
    rw [show 2 + (k0 + (k + 1)) = 2 + (k0 + 1 + k) by omega] at *
    exact this
theorem wait_hold_far : ∀ (st : List (Int × ByteArray)) (k0 : Nat) (q : Int) (s : ByteArray), (q < 2 ∨ 32 ≤ q) → k0 + st.length ≤ 30 → (waitOf (holdOps k0 st)).foldl (stepR q) s = s
  | [], k0, q, s, _, _ => rfl
  | y :: st, k0, q, s, hq, hl => by
    rw [List.length_cons] at hl
    show (waitOf (holdOps (k0 + 1) st)).foldl _ (stepR q s (_, y.2)) = s
    rw [wait_hold_far st (k0 + 1) q _ hq (by omega)]
    unfold stepR; rw [decide_eq_false (by dsimp only; omega)]; rfl
theorem wait_home : ∀ (st : List (Int × ByteArray)) (i : Int) (s : ByteArray), Rising st → (waitOf (homeOps st)).foldl (stepR (32 + i)) s = (lookS i st).getD s
  | [], i, s, _ => rfl
  | y :: st, i, s, hr => by
    show (waitOf (homeOps st)).foldl _ (stepR (32 + i) s (32 + y.1, y.2)) = (if y.1 = i then some y.2 else lookS i st).getD s
    rw [wait_home st i _ hr.2]
    by_cases e : y.1 = i
    · rw [if_pos e]
      have hn : lookS i st = none := by
        cases h : lookS i st with
        | none => rfl
        | some t => have := hr.1 _ (look_mem h); dsimp only at this; omega
      rw [hn]; unfold stepR; rw [decide_eq_true (by dsimp only; omega)]; rfl
    · rw [if_neg e]; unfold stepR; rw [decide_eq_false (by dsimp only; omega)]; rfl
theorem wait_home_far : ∀ (st : List (Int × ByteArray)) (q : Int) (s : ByteArray), q < 32 → (∀ x ∈ st, 0 ≤ x.1) → (waitOf (homeOps st)).foldl (stepR q) s = s
  | [], q, s, _, _ => rfl
  | y :: st, q, s, hq, h0 => by
    show (waitOf (homeOps st)).foldl _ (stepR q s (32 + y.1, y.2)) = s
    rw [wait_home_far st q _ hq (fun x hx => h0 x (List.mem_cons_of_mem _ hx))]
    have := h0 y (List.mem_cons_self ..)
    unfold stepR; rw [decide_eq_false (by dsimp only; omega)]; rfl
end Go.Proofs.YtlpcccpagmipnaaGreat.P
