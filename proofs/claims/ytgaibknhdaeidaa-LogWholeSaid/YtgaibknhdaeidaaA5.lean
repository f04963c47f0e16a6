/- Stage 7: what a disk stays: plain facts. No condition. -/
import Derived.Test.YtgaibknhdaeidaaI3
import Derived.Test.YtgaibknhdaeidaaI1
import Derived.Maps.OwnSet
import Derived.Lib.SlKeysI
set_option linter.unusedVariables false
namespace Go.Proofs.Ytgaibknhdaeidaa.P
open Go.RowKit
theorem wz_write (z : DState) (hz : WZ z) (i : Int) (s : ByteArray) : WZ (writeZ z i s) := by
  unfold writeZ
  cases z.off with
  | true => exact hz
  | false =>
    cases hh : (hasB z i && decide (s.size = 64)) with
    | false => exact hz
    | true =>
      have hzz := hz.act (.inr trivial)
      cases actB z with
      | false => exact hzz
      | true =>
        obtain ⟨hh1, hh2⟩ := Bool.and_eq_true_iff.1 hh
        refine ⟨hzz.1, hzz.2.1, hzz.2.2.1, hzz.2.2.2.1, fun x hx => ?_⟩
        rcases List.mem_append.1 hx with hx | hx
        · exact hzz.2.2.2.2 x hx
        · rw [List.mem_singleton.1 hx]
          have e3 := (actZ_keeps z).2
          show 0 ≤ i ∧ i < (actZ z).safe.length
          rw [e3]
          unfold hasB at hh1
          simpa [Bool.and_eq_true, decide_eq_true_eq] using hh1
theorem wz_flush (z : DState) (hz : WZ z) : WZ (flushZ z) := by
  unfold flushZ
  cases z.off with
  | true => exact hz
  | false =>
    have hzz := hz.act (.inr trivial)
    cases actB z with
    | false => exact hzz
    | true => exact ⟨by show 48 ≤ (setN _ _ _ _).length; rw [setN_len]; exact hz.1, by show (setN _ _ _ _).length ≤ 544; rw [setN_len]; exact hz.2.1, hzz.2.2.1, hzz.2.2.2.1, fun x hx => by cases hx⟩
theorem wz_crash (z : DState) (hz : WZ z) (K : Int) : WZ (crashZ z K) :=
  ⟨by show 48 ≤ (setN _ _ _ _).length; rw [setN_len]; exact hz.1, by show (setN _ _ _ _).length ≤ 544; rw [setN_len]; exact hz.2.1, Int.le_refl _, (show (0 : Int) ≤ _ by omega), fun x hx => by cases hx⟩
def SZ (z : DState) : Prop := (∀ s ∈ z.safe, s.size = 64) ∧ ∀ x ∈ z.wait, x.2.size = 64
theorem sz_new (n : Nat) : SZ (newZ (List.replicate n z64)) := ⟨fun s hs => by rw [List.eq_of_mem_replicate hs]; exact z64_size, fun x hx => by cases hx⟩
theorem sz_write (z : DState) (hl : Live z) (h : SZ z) (i : Int) (s : ByteArray) : SZ (writeZ z i s) := by
  refine ⟨fun x hx => by rw [write_safe] at hx; exact h.1 x hx, fun x hx => ?_⟩
  rw [hl.writeZ] at hx
  cases hh : (hasB z i && decide (s.size = 64)) with
  | false => rw [hh] at hx; exact h.2 x hx
  | true =>
    rw [hh] at hx
    rcases List.mem_append.1 hx with hx | hx
    · exact h.2 x hx
    · rw [List.mem_singleton.1 hx]; exact of_decide_eq_true (Bool.and_eq_true_iff.1 hh).2
theorem sz_set (P : Nat → Bool) (safe : List ByteArray) (wait : List (Int × ByteArray)) (h : ∀ s ∈ safe, s.size = 64) (h2 : ∀ x ∈ wait, x.2.size = 64) : ∀ k, ∀ s ∈ setN P safe wait k, s.size = 64
  | 0 => h
  | k + 1 => by
    have ih := sz_set P safe wait h h2 k
    rw [setN]
    cases hx : wait[k]? with
    | none => exact ih
    | some x =>
      cases P k with
      | false => exact ih
      | true =>
        intro s hs
        rcases List.mem_or_eq_of_mem_set hs with hs | hs
        · exact ih s hs
        · rw [hs]; exact h2 x (List.mem_of_getElem? hx)
theorem sz_flush (z : DState) (hl : Live z) (h : SZ z) : SZ (flushZ z) := by
  rw [hl.flushZ]; exact ⟨sz_set _ _ _ h.1 h.2 _, fun x hx => by cases hx⟩
theorem keep_all (k : Nat) : keepB 18446744073709551615 k = true := by
  unfold keepB
  have h : ∀ r, r < 64 → decide ((18446744073709551615 : Int) / 2 ^ r % 2 = 1) = true := by decide
  exact h _ (by omega)
theorem keep_none (k : Nat) : keepB 0 k = false := by
  unfold keepB; rw [Int.zero_ediv]; rfl
theorem setN_no (P : Nat → Bool) (hP : ∀ k, P k = false) (safe : List ByteArray) (wait : List (Int × ByteArray)) : ∀ k, setN P safe wait k = safe
  | 0 => rfl
  | k + 1 => by
    rw [setN]
    cases wait[k]? with
    | none => exact setN_no P hP safe wait k
    | some x => rw [hP k]; exact setN_no P hP safe wait k
theorem crash_all (z : DState) (hl : Live z) : (crashZ z 18446744073709551615).safe = (flushZ z).safe := by
  rw [hl.flushZ]
  show setN (keepB 18446744073709551615) _ _ _ = setN _ _ _ _
  rw [show keepB 18446744073709551615 = fun _ => true from funext keep_all]
theorem crash_none (z : DState) : (crashZ z 0).safe = z.safe := setN_no _ keep_none _ _ _
theorem secF_nil : secF ⟨#[]⟩ = z64 := by decide +kernel
end Go.Proofs.Ytgaibknhdaeidaa.P
namespace Go.Proofs.Ytgaibknhdaeidaa.P
open Go.RowKit
inductive DOp where
  | wr (i : Int) (s : ByteArray)
  | fl
def stepD (z : DState) : DOp → Int × DState
  | .wr i s => (writeR z i s, writeZ z i s)
  | .fl => (flushR z, flushZ z)
/-- Acts until one is refused. -/
def exec : List DOp → DState → Int × DState
  | [], z => (0, z)
  | o :: l, z => bif decide ((stepD z o).1 = 0) then exec l (stepD z o).2 else stepD z o
theorem exec_append (a b : List DOp) : ∀ z, exec (a ++ b) z = bif decide ((exec a z).1 = 0) then exec b (exec a z).2 else exec a z := by
  induction a with
  | nil => intro z; rfl
  | cons o a ih =>
    intro z
    show (bif decide ((stepD z o).1 = 0) then exec (a ++ b) (stepD z o).2 else stepD z o) = _
    rw [ih]
    show _ = bif decide ((bif decide ((stepD z o).1 = 0) then exec a (stepD z o).2 else stepD z o).1 = 0) then exec b (bif decide ((stepD z o).1 = 0) then exec a (stepD z o).2 else stepD z o).2 else (bif decide ((stepD z o).1 = 0) then exec a (stepD z o).2 else stepD z o)
    by_cases h : (stepD z o).1 = 0
    · rw [decide_eq_true h]; rfl
    · rw [decide_eq_false h]
      show stepD z o = bif decide ((stepD z o).1 = 0) then _ else stepD z o
      rw [decide_eq_false h]; rfl
theorem exec_ok {o : DOp} {l : List DOp} {z : DState} (h : (stepD z o).1 = 0) : exec (o :: l) z = exec l (stepD z o).2 := by
  show (bif decide _ then _ else _) = _; rw [decide_eq_true h]; rfl
theorem exec_no {o : DOp} {l : List DOp} {z : DState} (h : (stepD z o).1 ≠ 0) : exec (o :: l) z = stepD z o := by
  show (bif decide _ then _ else _) = _; rw [decide_eq_false h]; rfl
/-- The bytes of a head. -/
def numB (i : Int) : List UInt8 := [UInt8.ofNat (i % 256).toNat, UInt8.ofNat (i / 256 % 256).toNat]
def headL (h : List Int) : List UInt8 := UInt8.ofNat h.length :: h.flatMap numB
def headF (h : List Int) : ByteArray := ⟨(headL h ++ List.replicate (64 - (headL h).length) 0).toArray⟩
theorem headL_len (h : List Int) : (headL h).length = 1 + 2 * h.length := by
  unfold headL
  rw [List.length_cons, List.length_flatMap]
  have : (h.map (fun i => (numB i).length)) = List.replicate h.length 2 := by
    rw [List.map_eq_replicate_iff]; intro i _; rfl
  rw [this, List.sum_replicate_nat]; omega
theorem headF_size (h : List Int) (hl : h.length ≤ 31) : (headF h).size = 64 := by
  have := headL_len h
  show (headL h ++ List.replicate (64 - (headL h).length) 0).toArray.size = 64
  rw [List.size_toArray, List.length_append, List.length_replicate]; omega
def holdOps : Nat → List (Int × ByteArray) → List DOp
  | _, [] => []
  | k, x :: l => .wr ((2 + k : Nat) : Int) x.2 :: holdOps (k + 1) l
def homeOps : List (Int × ByteArray) → List DOp
  | [] => []
  | x :: l => .wr (32 + x.1) x.2 :: homeOps l
def pointOps (h : List Int) : List DOp := [.wr 1 (headF h), .fl]
def installOps (st : List (Int × ByteArray)) : List DOp := homeOps st ++ (.fl :: pointOps [])
def commitOps (st : List (Int × ByteArray)) : List DOp := holdOps 0 st ++ (.fl :: (pointOps (st.map (·.1)) ++ installOps st))
/-- A home sector is staged. -/
def putS (i : Int) (s : ByteArray) : List (Int × ByteArray) → List (Int × ByteArray)
  | [] => [(i, s)]
  | x :: l => if x.1 < i then x :: putS i s l else if x.1 = i then (i, s) :: l else (i, s) :: x :: l
/-- Rising. -/
def Rising : List (Int × ByteArray) → Prop
  | [] => True
  | x :: l => (∀ y ∈ l, x.1 < y.1) ∧ Rising l
theorem mem_putS {i : Int} {s : ByteArray} : ∀ {l : List (Int × ByteArray)} {y : Int × ByteArray}, y ∈ putS i s l → y = (i, s) ∨ y ∈ l
  | [], y, h => .inl (List.mem_singleton.1 h)
  | x :: l, y, h => by
    unfold putS at h
    split at h
    · rcases List.mem_cons.1 h with h | h
      · exact .inr (by rw [h]; exact List.mem_cons_self ..)
      · exact (mem_putS h).elim .inl (fun e => .inr (List.mem_cons_of_mem _ e))
    · split at h
      · rcases List.mem_cons.1 h with h | h
        · exact .inl h
        · exact .inr (List.mem_cons_of_mem _ h)
      · rcases List.mem_cons.1 h with h | h
        · exact .inl h
        · exact .inr h
theorem rising_put (i : Int) (s : ByteArray) : ∀ l, Rising l → Rising (putS i s l)
  | [], _ => ⟨fun y h => (by cases h), trivial⟩
  | x :: l, h => by
    unfold putS
    split
    · rename_i h1
      refine ⟨fun y hy => ?_, rising_put i s l h.2⟩
      rcases mem_putS hy with e | e
      · rw [e]; exact h1
      · exact h.1 y e
    · split
      · rename_i h1 h2
        exact ⟨fun y hy => by have := h.1 y hy; show i < y.1; omega, h.2⟩
      · rename_i h1 h2
        refine ⟨fun y hy => ?_, h⟩
        rcases List.mem_cons.1 hy with e | e
        · rw [e]; show i < x.1; omega
        · have := h.1 y e; show i < y.1; omega
/-- What is staged of a home sector. -/
def lookS (i : Int) : List (Int × ByteArray) → Option ByteArray
  | [] => none
  | x :: l => if x.1 = i then some x.2 else lookS i l
theorem look_put (i j : Int) (s : ByteArray) : ∀ l, Rising l → lookS j (putS i s l) = if i = j then some s else lookS j l
  | [], _ => by unfold putS lookS; split <;> rfl
  | x :: l, h => by
    have ih := look_put i j s l h.2
    unfold putS
    split
    · rename_i h1
      show (if x.1 = j then some x.2 else lookS j (putS i s l)) = _
      rw [ih]
      show _ = if i = j then some s else if x.1 = j then some x.2 else lookS j l
      by_cases e : x.1 = j
      · rw [if_pos e, if_neg (by omega), if_pos e]
      · rw [if_neg e, if_neg e]
    · split
      · rename_i h1 h2
        show (if i = j then some s else lookS j l) = if i = j then some s else if x.1 = j then some x.2 else lookS j l
        by_cases e : i = j
        · rw [if_pos e, if_pos e]
        · rw [if_neg e, if_neg e, if_neg (by omega)]
      · rfl
theorem look_mem {i : Int} {s : ByteArray} : ∀ {l : List (Int × ByteArray)}, lookS i l = some s → (i, s) ∈ l
  | [], h => by cases h
  | x :: l, h => by
    unfold lookS at h
    split at h
    · rename_i e
      injection h with h
      rw [← e, ← h]; exact List.mem_cons_self ..
    · exact List.mem_cons_of_mem _ (look_mem h)
theorem look_none {i : Int} : ∀ {l : List (Int × ByteArray)}, lookS i l = none → ∀ x ∈ l, x.1 ≠ i
  | [], _, x, hx => by cases hx
  | y :: l, h, x, hx => by
    unfold lookS at h
    split at h
    · cases h
    · rename_i e
      rcases List.mem_cons.1 hx with e2 | e2
      · rw [e2]; exact e
      · exact look_none h x e2
theorem look_of_mem : ∀ {l : List (Int × ByteArray)} {x : Int × ByteArray}, Rising l → x ∈ l → lookS x.1 l = some x.2
  | y :: l, x, hr, h => by
    unfold lookS
    rcases List.mem_cons.1 h with e | e
    · rw [e, if_pos rfl]
    · rw [if_neg (by have := hr.1 x e; omega)]; exact look_of_mem hr.2 e
theorem put_len (i : Int) (s : ByteArray) : ∀ l, Rising l → (putS i s l).length = bif (lookS i l).isSome then l.length else l.length + 1
  | [], _ => rfl
  | x :: l, h => by
    have ih := put_len i s l h.2
    unfold putS
    split
    · rename_i h1
      rw [List.length_cons, ih]
      show _ = bif (if x.1 = i then some x.2 else lookS i l).isSome then _ else _
      rw [if_neg (by omega)]
      cases (lookS i l).isSome <;> simp
    · split
      · rename_i h1 h2
        show _ = bif (if x.1 = i then some x.2 else lookS i l).isSome then _ else _
        rw [if_pos h2]; rfl
      · rename_i h1 h2
        have : lookS i l = none := by
          cases hl : lookS i l with
          | none => rfl
          | some t => have := h.1 _ (look_mem hl); dsimp only at this; omega
        show _ = bif (if x.1 = i then some x.2 else lookS i l).isSome then _ else _
        rw [if_neg h2, this]; rfl
end Go.Proofs.Ytgaibknhdaeidaa.P
namespace Go.Proofs.Ytgaibknhdaeidaa.P
open Go.RowKit
theorem step_wr (z : DState) (ho : z.off = false) (i : Int) (s : ByteArray) (hi : 0 ≤ i ∧ i < z.safe.length) (hs : s.size = 64) :
    ((stepD z (.wr i s)).1 = 0 ∧ (stepD z (.wr i s)).2.off = false ∧ (stepD z (.wr i s)).2.safe = z.safe ∧ (stepD z (.wr i s)).2.wait = z.wait ++ [(i, s)]) ∨
    ((stepD z (.wr i s)).1 = 7 ∧ (stepD z (.wr i s)).2.safe = z.safe ∧ (stepD z (.wr i s)).2.wait = z.wait) := by
  have hh : (hasB z i && decide (s.size = 64)) = true := by
    rw [decide_eq_true hs, Bool.and_true]; unfold hasB; rw [decide_eq_true hi.1, decide_eq_true hi.2]; rfl
  have ak := actZ_keeps z
  show (writeR z i s = 0 ∧ (writeZ z i s).off = false ∧ (writeZ z i s).safe = z.safe ∧ (writeZ z i s).wait = z.wait ++ [(i, s)]) ∨ (writeR z i s = 7 ∧ (writeZ z i s).safe = z.safe ∧ (writeZ z i s).wait = z.wait)
  unfold writeR writeZ
  rw [ho, hh]
  cases ha : actB z with
  | false => exact .inr ⟨rfl, ak.2, ak.1⟩
  | true =>
    refine .inl ⟨rfl, ?_, ak.2, by show (actZ z).wait ++ _ = _; rw [ak.1]⟩
    show (actZ z).off = false
    unfold actB at ha
    unfold actZ
    cases hc : z.counted with
    | false => exact ho
    | true =>
      rw [hc] at ha
      have : decide (z.acts = 0) = false := by simpa using ha
      rw [this]; exact ho
theorem step_fl (z : DState) (ho : z.off = false) :
    ((stepD z .fl).1 = 0 ∧ (stepD z .fl).2.off = false ∧ (stepD z .fl).2.safe = setN (fun _ => true) z.safe z.wait z.wait.length ∧ (stepD z .fl).2.wait = []) ∨
    ((stepD z .fl).1 = 7 ∧ (stepD z .fl).2.safe = z.safe ∧ (stepD z .fl).2.wait = z.wait) := by
  have ak := actZ_keeps z
  show (flushR z = 0 ∧ (flushZ z).off = false ∧ (flushZ z).safe = _ ∧ (flushZ z).wait = []) ∨ (flushR z = 7 ∧ (flushZ z).safe = z.safe ∧ (flushZ z).wait = z.wait)
  unfold flushR flushZ
  rw [ho]
  cases ha : actB z with
  | false => exact .inr ⟨rfl, ak.2, ak.1⟩
  | true =>
    refine .inl ⟨rfl, ?_, rfl, rfl⟩
    show (actZ z).off = false
    unfold actB at ha
    unfold actZ
    cases hc : z.counted with
    | false => exact ho
    | true =>
      rw [hc] at ha
      have : decide (z.acts = 0) = false := by simpa using ha
      rw [this]; exact ho
theorem live_step (z : DState) (h : Live z) (o : DOp) (ho : ∀ i s, o = .wr i s → (0 ≤ i ∧ i < z.safe.length) ∧ s.size = 64) : (stepD z o).1 = 0 ∧ Live (stepD z o).2 := by
  cases o with
  | fl => exact ⟨h.flushR, h.flush⟩
  | wr i s =>
    obtain ⟨hi, hs⟩ := ho i s rfl
    refine ⟨?_, h.write i s⟩
    show writeR z i s = 0
    rw [h.writeR, decide_eq_true hs, Bool.and_true]
    unfold hasB; rw [decide_eq_true hi.1, decide_eq_true hi.2]; rfl
theorem step_len (z : DState) (o : DOp) : (stepD z o).2.safe.length = z.safe.length := by
  cases o with
  | fl => exact flush_len z
  | wr i s => show (writeZ z i s).safe.length = _; rw [write_safe]
def okOp (n : Nat) : DOp → Prop
  | .fl => True
  | .wr i s => (0 ≤ i ∧ i < n) ∧ s.size = 64
theorem live_exec : ∀ (l : List DOp) (z : DState), Live z → (∀ o ∈ l, okOp z.safe.length o) → (exec l z).1 = 0 ∧ Live (exec l z).2
  | [], z, h, _ => ⟨rfl, h⟩
  | o :: l, z, h, hl => by
    have h1 := live_step z h o (fun i s e => by have := hl o (List.mem_cons_self ..); rw [e] at this; exact this)
    rw [exec_ok h1.1]
    exact live_exec l _ h1.2 (fun p hp => by rw [step_len]; exact hl p (List.mem_cons_of_mem _ hp))
theorem exec_len : ∀ (l : List DOp) (z : DState), (exec l z).2.safe.length = z.safe.length
  | [], z => rfl
  | o :: l, z => by
    by_cases h : (stepD z o).1 = 0
    · rw [exec_ok h, exec_len l, step_len]
    · rw [exec_no h, step_len]
/-- A predicate of safe sectors and waiting writes that each act keeps holds behind acts, however far they come. -/
theorem exec_inv (Q : List ByteArray → List (Int × ByteArray) → Prop) : ∀ (l : List DOp) (z : DState), z.off = false → (∀ o ∈ l, okOp z.safe.length o) → Q z.safe z.wait →
    (∀ o ∈ l, ∀ (y : DState), y.off = false → y.safe.length = z.safe.length → Q y.safe y.wait → Q (stepD y o).2.safe (stepD y o).2.wait) → Q (exec l z).2.safe (exec l z).2.wait ∧ ((exec l z).1 = 0 → (exec l z).2.off = false)
  | [], z, ho, _, hq, _ => ⟨hq, fun _ => ho⟩
  | o :: l, z, ho, hl, hq, hs => by
    have hq2 := hs o (List.mem_cons_self ..) z ho rfl hq
    by_cases h : (stepD z o).1 = 0
    · rw [exec_ok h]
      have hoff : (stepD z o).2.off = false := by
        cases o with
        | fl =>
          rcases step_fl z ho with e | e
          · exact e.2.1
          · rw [e.1] at h; cases h
        | wr i s =>
          have hok := hl _ (List.mem_cons_self ..)
          rcases step_wr z ho i s hok.1 hok.2 with e | e
          · exact e.2.1
          · rw [e.1] at h; cases h
      refine exec_inv Q l _ hoff (fun p hp => by rw [step_len]; exact hl p (List.mem_cons_of_mem _ hp)) hq2 (fun p hp y h1 h2 h3 => hs p (List.mem_cons_of_mem _ hp) y h1 (by rw [h2, step_len]) h3)
    · rw [exec_no h]; exact ⟨hq2, fun e => absurd e h⟩
/-! what waits behind writes that all came through -/
def waitOf : List DOp → List (Int × ByteArray)
  | [] => []
  | .wr i s :: l => (i, s) :: waitOf l
  | .fl :: l => waitOf l
theorem exec_writes : ∀ (l : List DOp) (z : DState), z.off = false → (∀ o ∈ l, okOp z.safe.length o ∧ o ≠ .fl) → (exec l z).1 = 0 → (exec l z).2.safe = z.safe ∧ (exec l z).2.wait = z.wait ++ waitOf l
  | [], z, _, _, _ => ⟨rfl, by show z.wait = z.wait ++ []; rw [List.append_nil]⟩
  | .fl :: l, z, _, hl, _ => absurd rfl (hl _ (List.mem_cons_self ..)).2
  | .wr i s :: l, z, ho, hl, h0 => by
    have hok := (hl _ (List.mem_cons_self ..)).1
    rcases step_wr z ho i s hok.1 hok.2 with e | e
    · rw [exec_ok e.1] at h0 ⊢
      have := exec_writes l _ e.2.1 (fun p hp => by rw [step_len]; exact hl p (List.mem_cons_of_mem _ hp)) h0
      refine ⟨this.1.trans e.2.2.1, ?_⟩
      rw [this.2, e.2.2.2, List.append_assoc]; rfl
    · rw [exec_no (by rw [e.1]; decide)] at h0
      rw [e.1] at h0; cases h0
theorem fold_append (q : Int) (l : List (Int × ByteArray)) (x : Int × ByteArray) (s : ByteArray) : (l ++ [x]).foldl (stepR q) s = stepR q (l.foldl (stepR q) s) x := by rw [List.foldl_append]; rfl
theorem wait_hold : ∀ (st : List (Int × ByteArray)) (k0 k : Nat) (x : Int × ByteArray) (s : ByteArray), st[k]? = some x → (waitOf (holdOps k0 st)).foldl (stepR ((2 + (k0 + k) : Nat) : Int)) s = x.2
  | [], k0, k, x, s, h => by simp at h
  | y :: st, k0, 0, x, s, h => by
    simp at h; subst h
    show (waitOf (holdOps (k0 + 1) st)).foldl _ (stepR _ s (_, y.2)) = y.2
    rw [fold_none]
    · unfold stepR; rw [decide_eq_true (by omega)]; rfl
    · have key : ∀ (l : List (Int × ByteArray)) (j : Nat), ∀ x ∈ waitOf (holdOps j l), ((2 + j : Nat) : Int) ≤ x.1 := by
        intro l
        induction l with
        | nil => intro j x hx; cases hx
        | cons a l ih =>
          intro j x hx
          rcases List.mem_cons.1 hx with e | e
          · rw [e]; exact Int.le_refl _
          · have := ih (j + 1) x e; omega
      intro x hx
      have := key st (k0 + 1) x hx
      omega
  | y :: st, k0, k + 1, x, s, h => by
    have := wait_hold st (k0 + 1) k x (stepR ((2 + (k0 + (k + 1)) : Nat) : Int) s (((2 + k0 : Nat) : Int), y.2)) (by simpa using h)
    show (waitOf (holdOps (k0 + 1) st)).foldl _ _ = x.2
    rw [show 2 + (k0 + (k + 1)) = 2 + (k0 + 1 + k) by omega] at *
    exact this
theorem wait_hold_far : ∀ (st : List (Int × ByteArray)) (k0 : Nat) (q : Int) (s : ByteArray), (q < 2 ∨ 32 ≤ q) → k0 + st.length ≤ 30 → (waitOf (holdOps k0 st)).foldl (stepR q) s = s
  | [], k0, q, s, _, _ => rfl
  | y :: st, k0, q, s, hq, hl => by
    rw [List.length_cons] at hl
    show (waitOf (holdOps (k0 + 1) st)).foldl _ (stepR q s (_, y.2)) = s
    rw [wait_hold_far st (k0 + 1) q _ hq (by omega)]
    unfold stepR; rw [decide_eq_false (by dsimp only; omega)]; rfl
theorem wait_home : ∀ (st : List (Int × ByteArray)) (i : Int) (s : ByteArray), Rising st → (waitOf (homeOps st)).foldl (stepR (32 + i)) s = (lookS i st).getD s
  | [], i, s, _ => rfl
  | y :: st, i, s, hr => by
    show (waitOf (homeOps st)).foldl _ (stepR (32 + i) s (32 + y.1, y.2)) = (if y.1 = i then some y.2 else lookS i st).getD s
    rw [wait_home st i _ hr.2]
    by_cases e : y.1 = i
    · rw [if_pos e]
      have hn : lookS i st = none := by
        cases h : lookS i st with
        | none => rfl
        | some t => have := hr.1 _ (look_mem h); dsimp only at this; omega
      rw [hn]; unfold stepR; rw [decide_eq_true (by dsimp only; omega)]; rfl
    · rw [if_neg e]; unfold stepR; rw [decide_eq_false (by dsimp only; omega)]; rfl
theorem wait_home_far : ∀ (st : List (Int × ByteArray)) (q : Int) (s : ByteArray), q < 32 → (∀ x ∈ st, 0 ≤ x.1) → (waitOf (homeOps st)).foldl (stepR q) s = s
  | [], q, s, _, _ => rfl
  | y :: st, q, s, hq, h0 => by
    show (waitOf (homeOps st)).foldl _ (stepR q s (32 + y.1, y.2)) = s
    rw [wait_home_far st q _ hq (fun x hx => h0 x (List.mem_cons_of_mem _ hx))]
    have := h0 y (List.mem_cons_self ..)
    unfold stepR; rw [decide_eq_false (by dsimp only; omega)]; rfl
end Go.Proofs.Ytgaibknhdaeidaa.P
namespace Go.Proofs.Ytgaibknhdaeidaa.P
open Go.RowKit
theorem headF_nil : headF [] = z64 := by decide +kernel
/-- What holds of a transaction's staged sectors. -/
structure Tran (n : Nat) (st : List (Int × ByteArray)) (A B : Nat → ByteArray) : Prop where
  rising : Rising st
  few : st.length ≤ 30
  some_ : st ≠ []
  at_ : ∀ x ∈ st, 0 ≤ x.1 ∧ 32 + x.1 < n ∧ x.2.size = 64
  big : 48 ≤ n
  new : ∀ i : Nat, 32 + i < n → B i = (lookS i st).getD (A i)
section
variable (n : Nat) (st : List (Int × ByteArray)) (A B : Nat → ByteArray)
def J1 (safe : List ByteArray) (wait : List (Int × ByteArray)) : Prop := getS safe 1 = z64 ∧ (∀ i : Nat, 32 + i < n → getS safe (32 + i) = A i) ∧ ∀ x ∈ wait, 2 ≤ x.1 ∧ x.1 < 32
def Held (safe : List ByteArray) : Prop := ∀ (k : Nat) (x : Int × ByteArray), st[k]? = some x → getS safe (2 + k) = x.2
def J2 (safe : List ByteArray) (wait : List (Int × ByteArray)) : Prop := getS safe 1 = z64 ∧ (∀ i : Nat, 32 + i < n → getS safe (32 + i) = A i) ∧ Held st safe ∧ ∀ x ∈ wait, x = (1, headF (st.map (·.1)))
def J3 (safe : List ByteArray) (wait : List (Int × ByteArray)) : Prop := getS safe 1 = headF (st.map (·.1)) ∧ (∀ i : Nat, 32 + i < n → lookS i st = none → getS safe (32 + i) = A i) ∧ Held st safe ∧ ∀ x ∈ wait, ∃ y ∈ st, x = (32 + y.1, y.2)
def J4 (safe : List ByteArray) (wait : List (Int × ByteArray)) : Prop := getS safe 1 = headF (st.map (·.1)) ∧ (∀ i : Nat, 32 + i < n → getS safe (32 + i) = B i) ∧ Held st safe ∧ ∀ x ∈ wait, x = (1, z64)
def J5 (safe : List ByteArray) (wait : List (Int × ByteArray)) : Prop := getS safe 1 = z64 ∧ (∀ i : Nat, 32 + i < n → getS safe (32 + i) = B i) ∧ wait = []
def JJ (safe : List ByteArray) (wait : List (Int × ByteArray)) : Prop := J1 n A safe wait ∨ J2 n st A safe wait ∨ J3 n st A safe wait ∨ J4 n st B safe wait ∨ J5 n B safe wait
end
section
variable {n : Nat} {st : List (Int × ByteArray)} {A B : Nat → ByteArray}
theorem j4_j3 (T : Tran n st A B) {safe : List ByteArray} (h : J4 n st B safe []) : J3 n st A safe [] :=
  ⟨h.1, fun i hi hn => by rw [h.2.1 i hi, T.new i hi, hn]; rfl, h.2.2.1, fun x hx => by cases hx⟩
/-- Which of the waiting writes are kept: what a crash leaves. -/
theorem crash_inv (T : Tran n st A B) (z : DState) (hz : WZ z) (hn : z.safe.length = n) (P : Nat → Bool) (h : JJ n st A B z.safe z.wait) :
    J1 n A (setN P z.safe z.wait z.wait.length) [] ∨ J3 n st A (setN P z.safe z.wait z.wait.length) [] ∨ J5 n B (setN P z.safe z.wait z.wait.length) [] := by
  have hW := hz.2.2.2.2
  have hb := T.big
  have hf := T.few
  have keep : ∀ q : Nat, q < n → (∀ x ∈ z.wait, x.1 ≠ (q : Int)) → getS (setN P z.safe z.wait z.wait.length) q = getS z.safe q := fun q hq h1 => setN_none P z.safe z.wait hW q (by omega) h1 _
  rcases h with h | h | h | h | h
  · refine .inl ⟨?_, fun i hi => ?_, fun x hx => by cases hx⟩
    · rw [keep 1 (by omega) (fun x hx => by have := h.2.2 x hx; omega)]; exact h.1
    · rw [keep (32 + i) hi (fun x hx => by have := h.2.2 x hx; omega)]; exact h.2.1 i hi
  · have hhome : ∀ i : Nat, 32 + i < n → getS (setN P z.safe z.wait z.wait.length) (32 + i) = A i := fun i hi => by
      rw [keep (32 + i) hi (fun x hx => by rw [h.2.2.2 x hx]; dsimp only; omega)]; exact h.2.1 i hi
    have hheld : Held st (setN P z.safe z.wait z.wait.length) := fun k x hx => by
      have hk : k < st.length := (List.getElem?_eq_some_iff.1 hx).1
      rw [keep (2 + k) (by omega) (fun x hx => by rw [h.2.2.2 x hx]; dsimp only; omega)]; exact h.2.2.1 k x hx
    have h1 := setN_seen P z.safe z.wait hW 1 (by omega) [z64, headF (st.map (·.1))] (by rw [h.1]; exact List.mem_cons_self ..) (fun x hx _ => by rw [h.2.2.2 x hx]; exact List.mem_cons_of_mem _ (List.mem_cons_self ..)) z.wait.length
    rcases List.mem_cons.1 h1 with e | e
    · exact .inl ⟨e, hhome, fun x hx => by cases hx⟩
    · exact .inr (.inl ⟨List.mem_singleton.1 e, fun i hi _ => hhome i hi, hheld, fun x hx => by cases hx⟩)
  · refine .inr (.inl ⟨?_, fun i hi hno => ?_, fun k x hx => ?_, fun x hx => by cases hx⟩)
    · rw [keep 1 (by omega) (fun x hx => by obtain ⟨y, hy, e⟩ := h.2.2.2 x hx; have := T.at_ y hy; rw [e]; dsimp only; omega)]; exact h.1
    · rw [keep (32 + i) hi (fun x hx => by obtain ⟨y, hy, e⟩ := h.2.2.2 x hx; have := look_none hno y hy; rw [e]; dsimp only; omega)]; exact h.2.1 i hi hno
    · have hk : k < st.length := (List.getElem?_eq_some_iff.1 hx).1
      rw [keep (2 + k) (by omega) (fun x hx => by obtain ⟨y, hy, e⟩ := h.2.2.2 x hx; have := T.at_ y hy; rw [e]; dsimp only; omega)]; exact h.2.2.1 k x hx
  · have hhome : ∀ i : Nat, 32 + i < n → getS (setN P z.safe z.wait z.wait.length) (32 + i) = B i := fun i hi => by
      rw [keep (32 + i) hi (fun x hx => by rw [h.2.2.2 x hx]; dsimp only; omega)]; exact h.2.1 i hi
    have hheld : Held st (setN P z.safe z.wait z.wait.length) := fun k x hx => by
      have hk : k < st.length := (List.getElem?_eq_some_iff.1 hx).1
      rw [keep (2 + k) (by omega) (fun x hx => by rw [h.2.2.2 x hx]; dsimp only; omega)]; exact h.2.2.1 k x hx
    have h1 := setN_seen P z.safe z.wait hW 1 (by omega) [headF (st.map (·.1)), z64] (by rw [h.1]; exact List.mem_cons_self ..) (fun x hx _ => by rw [h.2.2.2 x hx]; exact List.mem_cons_of_mem _ (List.mem_cons_self ..)) z.wait.length
    rcases List.mem_cons.1 h1 with e | e
    · exact .inr (.inl (j4_j3 T ⟨e, hhome, hheld, fun x hx => by cases hx⟩))
    · exact .inr (.inr ⟨List.mem_singleton.1 e, hhome, rfl⟩)
  · have e : setN P z.safe z.wait z.wait.length = z.safe := by rw [h.2.2]; rfl
    rw [e]; exact .inr (.inr ⟨h.1, h.2.1, rfl⟩)
theorem okOp_home (T : Tran n st A B) : ∀ o ∈ homeOps st, okOp n o ∧ o ≠ .fl := by
  have key : ∀ (l : List (Int × ByteArray)), (∀ x ∈ l, 0 ≤ x.1 ∧ 32 + x.1 < n ∧ x.2.size = 64) → ∀ o ∈ homeOps l, okOp n o ∧ o ≠ .fl := by
    intro l
    induction l with
    | nil => intro _ o ho; cases ho
    | cons x l ih =>
      intro h o ho
      rcases List.mem_cons.1 ho with e | e
      · have := h x (List.mem_cons_self ..)
        rw [e]; exact ⟨⟨⟨by omega, by omega⟩, this.2.2⟩, by intro h; cases h⟩
      · exact ih (fun y hy => h y (List.mem_cons_of_mem _ hy)) o e
  exact key st T.at_
theorem mem_home : ∀ {l : List (Int × ByteArray)} {o : DOp}, o ∈ homeOps l → ∃ y ∈ l, o = .wr (32 + y.1) y.2
  | [], o, h => by cases h
  | x :: l, o, h => by
    rcases List.mem_cons.1 h with e | e
    · exact ⟨x, List.mem_cons_self .., e⟩
    · obtain ⟨y, hy, e2⟩ := mem_home e
      exact ⟨y, List.mem_cons_of_mem _ hy, e2⟩
/-- The last step: the empty head. -/
theorem point_inv (T : Tran n st A B) (z : DState) (ho : z.off = false) (hn : z.safe.length = n) (h : J4 n st B z.safe []) (hw : z.wait = []) (hWZ : WZ z) :
    JJ n st A B (exec (pointOps []) z).2.safe (exec (pointOps []) z).2.wait ∧ ((exec (pointOps []) z).1 = 0 → J5 n B (exec (pointOps []) z).2.safe (exec (pointOps []) z).2.wait) := by
  have hb := T.big
  have hf := T.few
  unfold pointOps
  rw [headF_nil]
  rcases step_wr z ho 1 z64 ⟨by omega, by omega⟩ z64_size with e | e
  · rw [exec_ok e.1]
    have hz1 : WZ (stepD z (.wr 1 z64)).2 := wz_write z hWZ 1 z64
    generalize (stepD z (.wr 1 z64)).2 = y at *
    obtain ⟨_, h2, h3, h4⟩ := e
    rw [hw, List.nil_append] at h4
    rcases step_fl y h2 with g | g
    · rw [exec_ok g.1]
      have e5 : J5 n B (stepD y .fl).2.safe (stepD y .fl).2.wait := by
        have hW : ∀ x ∈ y.wait, 0 ≤ x.1 ∧ x.1 < y.safe.length := hz1.2.2.2.2
        have hyn : y.safe.length = n := by rw [h3]; exact hn
        refine ⟨?_, fun i hi => ?_, g.2.2.2⟩
        · rw [g.2.2.1, setN_read y.safe y.wait hW 1 (by omega) _ (Nat.le_refl _), List.take_of_length_le (Nat.le_refl _), h4]; rfl
        · rw [g.2.2.1, setN_read y.safe y.wait hW (32 + i) (by omega) _ (Nat.le_refl _), List.take_of_length_le (Nat.le_refl _), h4]
          show stepR _ _ (1, z64) = _
          unfold stepR
          rw [decide_eq_false (by dsimp only; omega), h3]; exact h.2.1 i hi
      exact ⟨.inr (.inr (.inr (.inr e5))), fun _ => e5⟩
    · rw [exec_no (by rw [g.1]; decide)]
      refine ⟨.inr (.inr (.inr (.inl ?_))), fun h => by rw [g.1] at h; cases h⟩
      rw [g.2.1, g.2.2, h3, h4]
      exact ⟨h.1, h.2.1, h.2.2.1, fun x hx => List.mem_singleton.1 hx⟩
  · rw [exec_no (by rw [e.1]; decide)]
    refine ⟨.inr (.inr (.inr (.inl ?_))), fun h => by rw [e.1] at h; cases h⟩
    rw [e.2.1, e.2.2, hw]
    exact h
theorem wz_step (z : DState) (hz : WZ z) (o : DOp) : WZ (stepD z o).2 := by
  cases o with
  | fl => exact wz_flush z hz
  | wr i s => exact wz_write z hz i s
theorem wz_exec : ∀ (l : List DOp) (z : DState), WZ z → WZ (exec l z).2
  | [], z, h => h
  | o :: l, z, h => by
    by_cases e : (stepD z o).1 = 0
    · rw [exec_ok e]; exact wz_exec l _ (wz_step z h o)
    · rw [exec_no e]; exact wz_step z h o
/-- What the log holds is written home. -/
theorem install_inv (T : Tran n st A B) (z : DState) (ho : z.off = false) (hn : z.safe.length = n) (hWZ : WZ z) (h : J3 n st A z.safe []) (hw : z.wait = []) :
    JJ n st A B (exec (installOps st) z).2.safe (exec (installOps st) z).2.wait ∧ ((exec (installOps st) z).1 = 0 → J5 n B (exec (installOps st) z).2.safe (exec (installOps st) z).2.wait) := by
  have hb := T.big
  have hf := T.few
  have hops := okOp_home T
  have hinv := exec_inv (J3 n st A) (homeOps st) z ho (fun o hoo => by rw [hn]; exact (hops o hoo).1) (by rw [hw]; exact h) (fun o hoo y hy hyl hq => by
    obtain ⟨x, hx, rfl⟩ := mem_home hoo
    have hok := (hops _ hoo).1
    rw [← hn, ← hyl] at hok
    rcases step_wr y hy _ _ hok.1 hok.2 with e | e
    · rw [e.2.2.1, e.2.2.2]
      refine ⟨hq.1, hq.2.1, hq.2.2.1, fun u hu => ?_⟩
      rcases List.mem_append.1 hu with hu | hu
      · exact hq.2.2.2 u hu
      · exact ⟨x, hx, List.mem_singleton.1 hu⟩
    · rw [e.2.1, e.2.2]; exact hq)
  have hwr := exec_writes (homeOps st) z ho (fun o hoo => by rw [hn]; exact hops o hoo)
  have hz1 := wz_exec (homeOps st) z hWZ
  have hl1 := exec_len (homeOps st) z
  unfold installOps
  rw [exec_append]
  by_cases h0 : (exec (homeOps st) z).1 = 0
  · rw [decide_eq_true h0, cond_true]
    obtain ⟨hs1, hw1⟩ := hwr h0
    have ho1 := hinv.2 h0
    have hj1 := hinv.1
    generalize (exec (homeOps st) z).2 = y at *
    rw [hw, List.nil_append] at hw1
    rw [hn] at hl1
    have hW : ∀ x ∈ y.wait, 0 ≤ x.1 ∧ x.1 < y.safe.length := hz1.2.2.2.2
    rcases step_fl y ho1 with g | g
    · rw [exec_ok g.1]
      have hget : ∀ q : Nat, q < n → getS (stepD y .fl).2.safe q = (waitOf (homeOps st)).foldl (stepR q) (getS z.safe q) := fun q hq => by
        rw [g.2.2.1, setN_read y.safe y.wait hW q (by omega) _ (Nat.le_refl _), List.take_of_length_le (Nat.le_refl _), hw1, hs1]
      have hpos : ∀ x ∈ st, 0 ≤ x.1 := fun x hx => (T.at_ x hx).1
      have e4 : J4 n st B (stepD y .fl).2.safe [] := by
        refine ⟨?_, fun i hi => ?_, fun k x hx => ?_, fun x hx => by cases hx⟩
        · rw [hget 1 (by omega), wait_home_far st _ _ (by omega) hpos]; exact h.1
        · rw [hget (32 + i) hi, show ((32 + i : Nat) : Int) = 32 + (i : Int) by omega, wait_home st i _ T.rising, T.new i hi]
          cases hl : lookS (i : Int) st with
          | none => exact h.2.1 i hi hl
          | some s => rfl
        · have hk : k < st.length := (List.getElem?_eq_some_iff.1 hx).1
          rw [hget (2 + k) (by omega), wait_home_far st _ _ (by omega) hpos]; exact h.2.2.1 k x hx
      exact point_inv T _ g.2.1 (by rw [step_len]; exact hl1) e4 g.2.2.2 (wz_step y hz1 .fl)
    · rw [exec_no (by rw [g.1]; decide), g.2.1, g.2.2]
      exact ⟨.inr (.inr (.inl hj1)), fun e => by rw [g.1] at e; cases e⟩
  · rw [decide_eq_false h0, cond_false]
    exact ⟨.inr (.inr (.inl hinv.1)), fun e => absurd e h0⟩
theorem okOp_hold (T : Tran n st A B) : ∀ o ∈ holdOps 0 st, (∃ (i : Int) (s : ByteArray), o = .wr i s ∧ 2 ≤ i ∧ i < 32) ∧ okOp n o ∧ o ≠ .fl := by
  have key : ∀ (l : List (Int × ByteArray)) (k0 : Nat), k0 + l.length ≤ 30 → (∀ x ∈ l, 0 ≤ x.1 ∧ 32 + x.1 < n ∧ x.2.size = 64) → ∀ o ∈ holdOps k0 l, (∃ (i : Int) (s : ByteArray), o = .wr i s ∧ 2 ≤ i ∧ i < 32) ∧ okOp n o ∧ o ≠ .fl := by
    intro l
    induction l with
    | nil => intro _ _ _ o ho; cases ho
    | cons x l ih =>
      intro k0 hk h o ho
      rw [List.length_cons] at hk
      have hb := T.big
      rcases List.mem_cons.1 ho with e | e
      · have := h x (List.mem_cons_self ..)
        rw [e]; exact ⟨⟨_, _, rfl, by omega, by omega⟩, ⟨⟨by omega, by omega⟩, this.2.2⟩, by intro h; cases h⟩
      · exact ih (k0 + 1) (by omega) (fun y hy => h y (List.mem_cons_of_mem _ hy)) o e
  exact key st 0 (by have := T.few; omega) T.at_
/-- A commit from a disk on which nothing is under way. -/
theorem commit_inv (T : Tran n st A B) (z : DState) (ho : z.off = false) (hn : z.safe.length = n) (hWZ : WZ z) (h : J1 n A z.safe []) (hw : z.wait = []) :
    JJ n st A B (exec (commitOps st) z).2.safe (exec (commitOps st) z).2.wait ∧ ((exec (commitOps st) z).1 = 0 → J5 n B (exec (commitOps st) z).2.safe (exec (commitOps st) z).2.wait) := by
  have hb := T.big
  have hf := T.few
  have hops := okOp_hold T
  have hinv := exec_inv (J1 n A) (holdOps 0 st) z ho (fun o hoo => by rw [hn]; exact (hops o hoo).2.1) (by rw [hw]; exact h) (fun o hoo y hy hyl hq => by
    obtain ⟨⟨i, s, rfl, i1, i2⟩, hok, _⟩ := hops o hoo
    rw [← hn, ← hyl] at hok
    rcases step_wr y hy _ _ hok.1 hok.2 with e | e
    · rw [e.2.2.1, e.2.2.2]
      refine ⟨hq.1, hq.2.1, fun u hu => ?_⟩
      rcases List.mem_append.1 hu with hu | hu
      · exact hq.2.2 u hu
      · rw [List.mem_singleton.1 hu]; exact ⟨i1, i2⟩
    · rw [e.2.1, e.2.2]; exact hq)
  have hwr := exec_writes (holdOps 0 st) z ho (fun o hoo => by rw [hn]; exact (hops o hoo).2)
  have hz1 := wz_exec (holdOps 0 st) z hWZ
  have hl1 := exec_len (holdOps 0 st) z
  unfold commitOps
  rw [show pointOps (st.map (·.1)) ++ installOps st = .wr 1 (headF (st.map (·.1))) :: .fl :: installOps st from rfl, exec_append]
  by_cases h0 : (exec (holdOps 0 st) z).1 = 0
  · rw [decide_eq_true h0, cond_true]
    obtain ⟨hs1, hw1⟩ := hwr h0
    have ho1 := hinv.2 h0
    have hj1 := hinv.1
    generalize (exec (holdOps 0 st) z).2 = y at *
    rw [hw, List.nil_append] at hw1
    rw [hn] at hl1
    have hW : ∀ x ∈ y.wait, 0 ≤ x.1 ∧ x.1 < y.safe.length := hz1.2.2.2.2
    rcases step_fl y ho1 with g | g
    · rw [exec_ok g.1]
      have hget : ∀ q : Nat, q < n → getS (stepD y .fl).2.safe q = (waitOf (holdOps 0 st)).foldl (stepR q) (getS z.safe q) := fun q hq => by
        rw [g.2.2.1, setN_read y.safe y.wait hW q (by omega) _ (Nat.le_refl _), List.take_of_length_le (Nat.le_refl _), hw1, hs1]
      have e2 : J2 n st A (stepD y .fl).2.safe [] := by
        refine ⟨?_, fun i hi => ?_, fun k x hx => ?_, fun x hx => by cases hx⟩
        · rw [hget 1 (by omega), wait_hold_far st 0 _ _ (.inl (by omega)) (by omega)]; exact h.1
        · rw [hget (32 + i) hi, wait_hold_far st 0 _ _ (.inr (by omega)) (by omega)]; exact h.2.1 i hi
        · have hk : k < st.length := (List.getElem?_eq_some_iff.1 hx).1
          rw [hget (2 + k) (by omega)]
          have := wait_hold st 0 k x (getS z.safe (2 + k)) hx
          rw [Nat.zero_add] at this; exact this
      have hz2 := wz_step y hz1 .fl
      have hl2 : (stepD y .fl).2.safe.length = n := by rw [step_len]; exact hl1
      obtain ⟨_, o2, _, w2⟩ := g
      generalize (stepD y .fl).2 = u at *
      have hsz : (headF (st.map (·.1))).size = 64 := headF_size _ (by rw [List.length_map]; omega)
      rcases step_wr u o2 1 (headF (st.map (·.1))) ⟨by omega, by omega⟩ hsz with e | e
      · rw [exec_ok e.1]
        have hz3 := wz_step u hz2 (.wr 1 (headF (st.map (·.1))))
        have hl3 : (stepD u (.wr 1 (headF (st.map (·.1))))).2.safe.length = n := by rw [step_len]; exact hl2
        generalize (stepD u (.wr 1 (headF (st.map (·.1))))).2 = v at *
        obtain ⟨_, o3, s3, w3⟩ := e
        rw [w2, List.nil_append] at w3
        have hWv : ∀ x ∈ v.wait, 0 ≤ x.1 ∧ x.1 < v.safe.length := hz3.2.2.2.2
        rcases step_fl v o3 with g2 | g2
        · rw [exec_ok g2.1]
          have hget2 : ∀ q : Nat, q < n → getS (stepD v .fl).2.safe q = stepR q (getS u.safe q) (1, headF (st.map (·.1))) := fun q hq => by
            rw [g2.2.2.1, setN_read v.safe v.wait hWv q (by omega) _ (Nat.le_refl _), List.take_of_length_le (Nat.le_refl _), w3, s3]; rfl
          have e3 : J3 n st A (stepD v .fl).2.safe [] := by
            refine ⟨?_, fun i hi _ => ?_, fun k x hx => ?_, fun x hx => by cases hx⟩
            · rw [hget2 1 (by omega)]; rfl
            · rw [hget2 (32 + i) hi]; unfold stepR; rw [decide_eq_false (by dsimp only; omega)]; exact e2.2.1 i hi
            · have hk : k < st.length := (List.getElem?_eq_some_iff.1 hx).1
              rw [hget2 (2 + k) (by omega)]; unfold stepR; rw [decide_eq_false (by dsimp only; omega)]; exact e2.2.2.1 k x hx
          exact install_inv T _ g2.2.1 (by rw [step_len]; exact hl3) (wz_step v hz3 .fl) e3 g2.2.2.2
        · rw [exec_no (by rw [g2.1]; decide), g2.2.1, g2.2.2, s3, w3]
          exact ⟨.inr (.inl ⟨e2.1, e2.2.1, e2.2.2.1, fun x hx => List.mem_singleton.1 hx⟩), fun e => by rw [g2.1] at e; cases e⟩
      · rw [exec_no (by rw [e.1]; decide), e.2.1, e.2.2, w2]
        exact ⟨.inr (.inl e2), fun h => by rw [e.1] at h; cases h⟩
    · rw [exec_no (by rw [g.1]; decide), g.2.1, g.2.2]
      exact ⟨.inl hj1, fun e => by rw [g.1] at e; cases e⟩
  · rw [decide_eq_false h0, cond_false]
    exact ⟨.inl hinv.1, fun e => absurd e h0⟩
end
end Go.Proofs.Ytgaibknhdaeidaa.P
namespace Go.Proofs.Ytgaibknhdaeidaa.P
open Go.RowKit
def byteN (s : ByteArray) (j : Nat) : Nat := (s.data.toList.getD j 0).toNat
def rdNum (s : ByteArray) (k : Nat) : Int := (byteN s (1 + 2 * k) : Int) + 256 * (byteN s (2 + 2 * k) : Int)
def rdHomes (s : ByteArray) (n : Nat) : List Int := (List.range n).map (rdNum s)
/-- Rising from behind last on, all below most. -/
def goodH (most : Int) : Int → List Int → Bool
  | _, [] => true
  | last, x :: l => decide (last < x) && decide (x < most) && goodH most x l
def parseH (s : ByteArray) (most : Int) : Option (List Int) :=
  if 30 < byteN s 0 then none else if goodH most (-1) (rdHomes s (byteN s 0)) = true then (if s = headF (rdHomes s (byteN s 0)) then some (rdHomes s (byteN s 0)) else none) else none
theorem rdNum_bd (s : ByteArray) (k : Nat) : 0 ≤ rdNum s k ∧ rdNum s k < 65536 := by
  unfold rdNum byteN
  have h1 := (s.data.toList.getD (1 + 2 * k) 0).toNat_lt
  have h2 := (s.data.toList.getD (2 + 2 * k) 0).toNat_lt
  omega
theorem rdHomes_succ (s : ByteArray) (n : Nat) : rdHomes s (n + 1) = rdHomes s n ++ [rdNum s n] := by
  unfold rdHomes; rw [List.range_succ, List.map_append]; rfl
theorem rdHomes_len (s : ByteArray) (n : Nat) : (rdHomes s n).length = n := by unfold rdHomes; rw [List.length_map, List.length_range]
def lastH (last : Int) (l : List Int) : Int := l.getLast?.getD last
theorem lastH_append (last : Int) (l : List Int) (x : Int) : lastH last (l ++ [x]) = x := by unfold lastH; rw [List.getLast?_append]; rfl
theorem goodH_append (most : Int) (x : Int) : ∀ (l : List Int) (last : Int), goodH most last (l ++ [x]) = (goodH most last l && (decide (lastH last l < x) && decide (x < most)))
  | [], last => by
    show (decide (last < x) && decide (x < most) && true) = (true && _)
    rw [Bool.and_true, Bool.true_and]; rfl
  | y :: l, last => by
    show (decide (last < y) && decide (y < most) && goodH most y (l ++ [x])) = _
    rw [goodH_append most x l y]
    show _ = ((decide (last < y) && decide (y < most) && goodH most y l) && _)
    have : lastH last (y :: l) = lastH y l := by
      unfold lastH
      cases l with
      | nil => rfl
      | cons z l => rw [List.getLast?_cons_cons, List.getLast?_cons]; rfl
    rw [this]; simp only [Bool.and_assoc]
theorem good_prefix (most : Int) (s : ByteArray) (n : Nat) : ∀ k, k ≤ n → goodH most (-1) (rdHomes s n) = true → goodH most (-1) (rdHomes s k) = true := by
  intro k hk h
  induction n with
  | zero => rw [Nat.le_zero.1 hk]; exact h
  | succ n ih =>
    by_cases e : k = n + 1
    · rw [e]; exact h
    · rw [rdHomes_succ, goodH_append, Bool.and_eq_true] at h
      exact ih (by omega) h.1
/-! a head read is what was written -/
theorem flat_get : ∀ (h : List Int) (k : Nat) (i : Int) (t : List UInt8), h[k]? = some i → (h.flatMap numB ++ t)[2 * k]? = some (UInt8.ofNat (i % 256).toNat) ∧ (h.flatMap numB ++ t)[2 * k + 1]? = some (UInt8.ofNat (i / 256 % 256).toNat)
  | [], k, i, t, e => by simp at e
  | x :: h, 0, i, t, e => by
    simp at e; subst e; exact ⟨rfl, rfl⟩
  | x :: h, k + 1, i, t, e => by
    have := flat_get h k i t (by simpa using e)
    rw [List.flatMap_cons, List.append_assoc]
    show (UInt8.ofNat (x % 256).toNat :: UInt8.ofNat (x / 256 % 256).toNat :: (h.flatMap numB ++ t))[2 * (k + 1)]? = _ ∧ (UInt8.ofNat (x % 256).toNat :: UInt8.ofNat (x / 256 % 256).toNat :: (h.flatMap numB ++ t))[2 * (k + 1) + 1]? = _
    rw [show 2 * (k + 1) = 2 * k + 1 + 1 by omega]
    simpa using this
theorem head_num (h : List Int) (k : Nat) (i : Int) (e : h[k]? = some i) (hi : 0 ≤ i ∧ i < 65536) : rdNum (headF h) k = i := by
  have f := flat_get h k i (List.replicate (64 - (UInt8.ofNat h.length :: h.flatMap numB).length) 0) e
  have t1 : (UInt8.ofNat (i % 256).toNat).toNat = (i % 256).toNat := by rw [UInt8.toNat_ofNat']; omega
  have t2 : (UInt8.ofNat (i / 256 % 256).toNat).toNat = (i / 256 % 256).toNat := by rw [UInt8.toNat_ofNat']; omega
  have e1 : byteN (headF h) (1 + 2 * k) = (i % 256).toNat := by
    rw [← t1]; unfold byteN headF headL
    refine congrArg UInt8.toNat ?_
    rw [List.getD_eq_getElem?_getD, show 1 + 2 * k = 2 * k + 1 by omega]
    refine (congrArg (fun o => Option.getD o 0) (?_ : _ = some (UInt8.ofNat (i % 256).toNat))).trans rfl
    rw [← f.1]; rfl
  have e2 : byteN (headF h) (2 + 2 * k) = (i / 256 % 256).toNat := by
    rw [← t2]; unfold byteN headF headL
    refine congrArg UInt8.toNat ?_
    rw [List.getD_eq_getElem?_getD, show 2 + 2 * k = 2 * k + 1 + 1 by omega]
    refine (congrArg (fun o => Option.getD o 0) (?_ : _ = some (UInt8.ofNat (i / 256 % 256).toNat))).trans rfl
    rw [← f.2]; rfl
  unfold rdNum
  rw [e1, e2]
  omega
theorem head_count (h : List Int) (hl : h.length ≤ 31) : byteN (headF h) 0 = h.length := by
  unfold byteN headF headL
  show (UInt8.ofNat h.length).toNat = h.length
  rw [UInt8.toNat_ofNat']; omega
theorem head_homes (h : List Int) (hl : h.length ≤ 31) (hb : ∀ i ∈ h, 0 ≤ i ∧ i < 65536) : rdHomes (headF h) (byteN (headF h) 0) = h := by
  rw [head_count h hl]
  apply List.ext_getElem?
  intro k
  unfold rdHomes
  rw [List.getElem?_map]
  by_cases hk : k < h.length
  · rw [List.getElem?_range hk, List.getElem?_eq_getElem hk]
    show some _ = _
    rw [head_num h k _ (List.getElem?_eq_getElem hk) (hb _ (List.getElem_mem hk))]
  · rw [List.getElem?_eq_none (by rw [List.length_range]; omega), List.getElem?_eq_none (by omega)]; rfl
theorem good_rising (most : Int) : ∀ (st : List (Int × ByteArray)) (last : Int), Rising st → (∀ x ∈ st, last < x.1 ∧ x.1 < most) → goodH most last (st.map (·.1)) = true
  | [], _, _, _ => rfl
  | x :: st, last, hr, hb => by
    have h1 := hb x (List.mem_cons_self ..)
    show (decide (last < x.1) && decide (x.1 < most) && goodH most x.1 (st.map (·.1))) = true
    rw [decide_eq_true h1.1, decide_eq_true h1.2, good_rising most st x.1 hr.2 (fun y hy => ⟨hr.1 y hy, (hb y (List.mem_cons_of_mem _ hy)).2⟩)]; rfl
theorem parse_head (st : List (Int × ByteArray)) (most : Int) (hr : Rising st) (hl : st.length ≤ 30) (hm : most ≤ 65536) (hb : ∀ x ∈ st, 0 ≤ x.1 ∧ x.1 < most) : parseH (headF (st.map (·.1))) most = some (st.map (·.1)) := by
  have hl2 : (st.map (·.1)).length ≤ 30 := by rw [List.length_map]; exact hl
  have hb2 : ∀ i ∈ st.map (·.1), 0 ≤ i ∧ i < 65536 := fun i hi => by
    obtain ⟨x, hx, rfl⟩ := List.mem_map.1 hi
    have := hb x hx; omega
  unfold parseH
  rw [head_homes _ (by omega) hb2, head_count _ (by omega), if_neg (by omega), if_pos (good_rising most st (-1) hr (fun x hx => by have := hb x hx; omega)), if_pos rfl]
theorem parse_nil (most : Int) : parseH z64 most = some [] := by
  have h0 : byteN z64 0 = 0 := by decide +kernel
  unfold parseH
  rw [h0, if_neg (by omega)]
  show (if true = true then (if z64 = headF [] then some [] else none) else none) = _
  rw [if_pos rfl, if_pos headF_nil.symm]
end Go.Proofs.Ytgaibknhdaeidaa.P
namespace Go.Proofs.Ytgaibknhdaeidaa.P
open Go.RowKit Go.ChangeMaps Go.MapKept
def E1 (s : ByteArray) : DataW Nat := .agg [.lit (.string s.data.toList)]
def mEnt (x : Int × ByteArray) : Lit × DataW Nat := (.int .i64 x.1, E1 x.2)
def mapD (st : List (Int × ByteArray)) : DataW Nat := .map (st.map mEnt)
def secElem (v : Value) : Option (DataW Nat × List MemPlace) :=
  match v with
  | .agg cs => match cs.toList with
    | [.string s] => some (E1 s, [])
    | _ => none
  | _ => none
theorem secElem_mk (s : ByteArray) : secElem (.agg #[.string s]) = some (E1 s, []) := rfl
theorem secElem_inv {v : Value} {z : DataW Nat × List MemPlace} (h : secElem v = some z) : ∃ s, v = .agg #[.string s] ∧ z = (E1 s, []) := by
  unfold secElem at h
  split at h
  · rename_i cs
    split at h
    · rename_i s e
      injection h with h
      refine ⟨s, ?_, h.symm⟩
      rw [← Array.toArray_toList (xs := cs), e]
    · cases h
  · cases h
theorem E1_inj {s t : ByteArray} (h : E1 s = E1 t) : s = t := by
  unfold E1 at h
  injection h with h
  injection h with h
  injection h with h
  injection h with h
  cases s; cases t
  exact congrArg ByteArray.mk (Array.toList_inj.1 h)
theorem nk_ne {i : Int} {x : Int × ByteArray} (h : x.1 ≠ i) : notKey (.int .i64 i) (mEnt x) = true := by
  unfold notKey mEnt
  show (!decide (IntKind.i64 = IntKind.i64 ∧ x.1 = i)) = true
  rw [decide_eq_false (by exact fun e => h e.2)]; rfl
theorem nk_eq {i : Int} {x : Int × ByteArray} (h : x.1 = i) : notKey (.int .i64 i) (mEnt x) = false := by
  unfold notKey mEnt
  show (!decide (IntKind.i64 = IntKind.i64 ∧ x.1 = i)) = false
  rw [decide_eq_true (by exact ⟨rfl, h⟩)]; rfl
theorem filter_gt {i : Int} : ∀ (l : List (Int × ByteArray)), (∀ y ∈ l, i < y.1) → (l.map mEnt).filter (notKey (.int .i64 i)) = l.map mEnt
  | [], _ => rfl
  | x :: l, h => by
    rw [List.map_cons, List.filter_cons_of_pos (nk_ne (by have := h x (List.mem_cons_self ..); omega)), filter_gt l (fun y hy => h y (List.mem_cons_of_mem _ hy))]
theorem insert_gt {i : Int} (s : ByteArray) : ∀ (l : List (Int × ByteArray)), (∀ y ∈ l, i < y.1) → DataW.insert (mEnt (i, s)) (l.map mEnt) = mEnt (i, s) :: l.map mEnt
  | [], _ => rfl
  | x :: l, h => by
    rw [List.map_cons]
    unfold DataW.insert
    have : (mEnt (i, s)).1.before (mEnt x).1 = true := decide_eq_true (h x (List.mem_cons_self ..))
    rw [this]; rfl
theorem putKey_map (i : Int) (s : ByteArray) : ∀ st, Rising st → putKey (.int .i64 i) (E1 s) (st.map mEnt) = (putS i s st).map mEnt
  | [], _ => rfl
  | x :: l, h => by
    unfold putKey putS
    by_cases h1 : x.1 < i
    · rw [if_pos h1, List.map_cons, List.filter_cons_of_pos (nk_ne (by omega)), List.map_cons, ← putKey_map i s l h.2]
      unfold putKey
      conv => lhs; unfold DataW.insert
      have : (Lit.int .i64 i).before (mEnt x).1 = false := decide_eq_false (by show ¬ i < x.1; omega)
      rw [this]; rfl
    · rw [if_neg h1]
      by_cases h2 : x.1 = i
      · rw [if_pos h2, List.map_cons, List.filter_cons_of_neg (by rw [nk_eq h2]; decide), List.map_cons, filter_gt l (fun y hy => by have := h.1 y hy; omega)]
        exact insert_gt s l (fun y hy => by have := h.1 y hy; omega)
      · rw [if_neg h2]
        have hg : ∀ y ∈ x :: l, i < y.1 := fun y hy => by
          rcases List.mem_cons.1 hy with e | e
          · rw [e]; omega
          · have := h.1 y e; omega
        rw [filter_gt _ hg]
        exact insert_gt s _ hg
theorem mapD_put (i : Int) (s : ByteArray) (st : List (Int × ByteArray)) (h : Rising st) : (mapD st).put (.int .i64 i) (E1 s) = mapD (putS i s st) := by
  unfold mapD; rw [DataW.put_eq, putKey_map i s st h]
theorem mapD_has (i : Int) : ∀ st, Maps.has (mapD st) (.int .i64 i) = (lookS i st).isSome := by
  intro st
  unfold mapD; rw [Maps.has_eq]
  induction st with
  | nil => rfl
  | cons x l ih =>
    rw [List.map_cons, List.any_cons, ih, show lookS i (x :: l) = if x.1 = i then some x.2 else lookS i l from rfl]
    by_cases h : x.1 = i
    · rw [if_pos h]
      have : (mEnt x).1.sameKey (.int .i64 i) = true := decide_eq_true ⟨rfl, h⟩
      rw [this]; rfl
    · rw [if_neg h]
      have : (mEnt x).1.sameKey (.int .i64 i) = false := decide_eq_false (fun e => h e.2)
      rw [this, Bool.false_or]
theorem at_find (es : List (Lit × DataW Nat)) (k : Lit) (z : DataW Nat) : (DataW.map es).atKey k z = (es.find? (fun p => p.1.sameKey k)).elim z (·.2) := by
  unfold DataW.atKey
  cases h : es.find? (fun p => p.1.sameKey k) <;> simp [h]
theorem mapD_at (i : Int) (zd : DataW Nat) : ∀ st, (mapD st).atKey (.int .i64 i) zd = match lookS i st with | some s => E1 s | none => zd := by
  intro st
  unfold mapD; rw [at_find]
  induction st with
  | nil => rfl
  | cons x l ih =>
    rw [List.map_cons, show lookS i (x :: l) = if x.1 = i then some x.2 else lookS i l from rfl]
    by_cases h : x.1 = i
    · have : (mEnt x).1.sameKey (.int .i64 i) = true := decide_eq_true ⟨rfl, h⟩
      rw [if_pos h, List.find?_cons]; simp only [this]; rfl
    · have : (mEnt x).1.sameKey (.int .i64 i) = false := decide_eq_false (fun e => h e.2)
      rw [if_neg h, List.find?_cons]; simp only [this]; exact ih
theorem mapD_size (st : List (Int × ByteArray)) : Maps.size (mapD st) = st.length := by
  unfold mapD; rw [Maps.size_eq, List.length_map]
theorem mapD_keys (st : List (Int × ByteArray)) : intKeys (mapD st) = st.map (·.1) := by
  unfold mapD intKeys
  show (st.map mEnt).map _ = _
  rw [List.map_map]; rfl
theorem rising_pair : ∀ (st : List (Int × ByteArray)), Rising st → (st.map (·.1)).Pairwise (fun a b => a ≤ b)
  | [], _ => List.Pairwise.nil
  | x :: l, h => List.Pairwise.cons (fun y hy => by
      obtain ⟨z, hz, rfl⟩ := List.mem_map.1 hy
      have := h.1 z hz
      show x.1 ≤ z.1
      omega) (rising_pair l h.2)
theorem sort_rising (st : List (Int × ByteArray)) (h : Rising st) (ss : List Int) (hp : ss.Perm (st.map (·.1))) : ss.mergeSort (fun x y => decide (x ≤ y)) = st.map (·.1) := by
  have h1 : (ss.mergeSort (fun x y => decide (x ≤ y))).Pairwise (fun a b => decide (a ≤ b) = true) := List.pairwise_mergeSort (fun a b c => by simp; omega) (fun a b => by simp; omega) ss
  have h2 : (ss.mergeSort (fun x y => decide (x ≤ y))).Perm (st.map (·.1)) := (List.mergeSort_perm ss _).trans hp
  refine List.Perm.eq_of_pairwise (le := fun a b => a ≤ b) (fun a b _ _ k1 k2 => by omega) (h1.imp (fun h => of_decide_eq_true h)) (rising_pair st h) h2
theorem map_reset {P : Program} {k : TypeId} {w : World} {b n : Nat} {st : List (Int × ByteArray)} (h : w.ownsMap P k secElem b n (mapD st)) : w.ownsMap P k secElem b st.length (mapD st) := by
  obtain ⟨es, clock, hb, F, hs, hD⟩ := h
  refine ⟨es, clock, hb, F, ?_, hD⟩
  have := congrArg Maps.size hD
  have e : Maps.size (DataW.map ((es.toList.map (WideElems.rg P k secElem)).foldr DataW.insert [])) = es.size := by
    rw [Maps.size_eq, length_sorted, List.length_map, Array.length_toList]
  rw [e, mapD_size] at this
  omega
theorem wpList_clear_own {P : Program} (w : World) {ops : Array Oper} {rest : List Oper} {o : Oper} {a : Act} {Q : Exit → Act → World → Prop} (hg : o.guard = none) (m : Operand) (t : TypeId) (hop : o.op = Op.call { callee := Callee.builtin Builtin.clear, args := #[m], argTypes := #[t] })
    (k e : TypeId) (ht : P.underlying t = some (.map k e)) (b n : Nat) (D : DataW Nat) (hm : a.eval m = .map (some b)) (hown : w.ownsMap P k secElem b n D)
    (hK : ∀ w', w'.ownsMap P k secElem b 0 (mapD []) → w.mapTurned w' b → wpList P ops Q rest (a.put o.dst (.tuple #[])) w') : wpList P ops Q (o :: rest) a w := by
  refine wpList_plain hg fun K' hK' => ?_
  obtain ⟨es, clock, hb, F, hs, rfl⟩ := hown
  unfold Oper.wp
  simp [execOp, hop, resolve, invoke, builtin, hm, Builtin.clear_, run_underlying ht, MapKept.run_getObj_map hb, MapKept.run_setObj_map _ hb, Result.andThen]
  exact hK' _ _ (hK (setBlock w b (.map #[] clock)) ⟨#[], clock, heap_setBlock_same hb _, ⟨by simp, stamped_empty clock, by simp⟩, Nat.le_refl _, rfl⟩ ⟨es, clock, #[], clock, hb, rfl⟩)
end Go.Proofs.Ytgaibknhdaeidaa.P
