/- Stage 7: a commit as acts of a disk, one behind the other; heads: plain facts. No condition. -/
import Derived.Test.YtgaibknhdaeidaaI1
set_option linter.unusedVariables false
namespace Go.Proofs.Ytgaibknhdaeidaa.P
open Go.RowKit
inductive DOp where
  | wr (i : Int) (s : ByteArray)
  | fl
def stepD (z : DState) : DOp → Int × DState
  | .wr i s => (writeR z i s, writeZ z i s)
  | .fl => (flushR z, flushZ z)
/-- Acts until one is refused. -/
def exec : List DOp → DState → Int × DState
  | [], z => (0, z)
  | o :: l, z => bif decide ((stepD z o).1 = 0) then exec l (stepD z o).2 else stepD z o
theorem exec_append (a b : List DOp) : ∀ z, exec (a ++ b) z = bif decide ((exec a z).1 = 0) then exec b (exec a z).2 else exec a z := by
  induction a with
  | nil => intro z; rfl
  | cons o a ih =>
    intro z
    show (bif decide ((stepD z o).1 = 0) then exec (a ++ b) (stepD z o).2 else stepD z o) = _
    rw [ih]
    show _ = bif decide ((bif decide ((stepD z o).1 = 0) then exec a (stepD z o).2 else stepD z o).1 = 0) then exec b (bif decide ((stepD z o).1 = 0) then exec a (stepD z o).2 else stepD z o).2 else (bif decide ((stepD z o).1 = 0) then exec a (stepD z o).2 else stepD z o)
    by_cases h : (stepD z o).1 = 0
    · rw [decide_eq_true h]; rfl
    · rw [decide_eq_false h]
      show stepD z o = bif decide ((stepD z o).1 = 0) then _ else stepD z o
      rw [decide_eq_false h]; rfl
theorem exec_ok {o : DOp} {l : List DOp} {z : DState} (h : (stepD z o).1 = 0) : exec (o :: l) z = exec l (stepD z o).2 := by
  show (bif decide _ then _ else _) = _; rw [decide_eq_true h]; rfl
theorem exec_no {o : DOp} {l : List DOp} {z : DState} (h : (stepD z o).1 ≠ 0) : exec (o :: l) z = stepD z o := by
  show (bif decide _ then _ else _) = _; rw [decide_eq_false h]; rfl
/-- The bytes of a head. -/
def numB (i : Int) : List UInt8 := [UInt8.ofNat (i % 256).toNat, UInt8.ofNat (i / 256 % 256).toNat]
def headL (h : List Int) : List UInt8 := UInt8.ofNat h.length :: h.flatMap numB
def headF (h : List Int) : ByteArray := ⟨(headL h ++ List.replicate (64 - (headL h).length) 0).toArray⟩
theorem headL_len (h : List Int) : (headL h).length = 1 + 2 * h.length := by
  unfold headL
  rw [List.length_cons, List.length_flatMap]
  have : (h.map (fun i => (numB i).length)) = List.replicate h.length 2 := by
    rw [List.map_eq_replicate_iff]; intro i _; rfl
  rw [this, List.sum_replicate_nat]; omega
theorem headF_size (h : List Int) (hl : h.length ≤ 31) : (headF h).size = 64 := by
  have := headL_len h
  show (headL h ++ List.replicate (64 - (headL h).length) 0).toArray.size = 64
  rw [List.size_toArray, List.length_append, List.length_replicate]; omega
def holdOps : Nat → List (Int × ByteArray) → List DOp
  | _, [] => []
  | k, x :: l => .wr ((2 + k : Nat) : Int) x.2 :: holdOps (k + 1) l
def homeOps : List (Int × ByteArray) → List DOp
  | [] => []
  | x :: l => .wr (32 + x.1) x.2 :: homeOps l
def pointOps (h : List Int) : List DOp := [.wr 1 (headF h), .fl]
def installOps (st : List (Int × ByteArray)) : List DOp := homeOps st ++ (.fl :: pointOps [])
def commitOps (st : List (Int × ByteArray)) : List DOp := holdOps 0 st ++ (.fl :: (pointOps (st.map (·.1)) ++ installOps st))
/-- A home sector is staged. -/
def putS (i : Int) (s : ByteArray) : List (Int × ByteArray) → List (Int × ByteArray)
  | [] => [(i, s)]
  | x :: l => if x.1 < i then x :: putS i s l else if x.1 = i then (i, s) :: l else (i, s) :: x :: l
/-- Rising. -/
def Rising : List (Int × ByteArray) → Prop
  | [] => True
  | x :: l => (∀ y ∈ l, x.1 < y.1) ∧ Rising l
theorem mem_putS {i : Int} {s : ByteArray} : ∀ {l : List (Int × ByteArray)} {y : Int × ByteArray}, y ∈ putS i s l → y = (i, s) ∨ y ∈ l
  | [], y, h => .inl (List.mem_singleton.1 h)
  | x :: l, y, h => by
    unfold putS at h
    split at h
    · rcases List.mem_cons.1 h with h | h
      · exact .inr (by rw [h]; exact List.mem_cons_self ..)
      · exact (mem_putS h).elim .inl (fun e => .inr (List.mem_cons_of_mem _ e))
    · split at h
      · rcases List.mem_cons.1 h with h | h
        · exact .inl h
        · exact .inr (List.mem_cons_of_mem _ h)
      · rcases List.mem_cons.1 h with h | h
        · exact .inl h
        · exact .inr h
theorem rising_put (i : Int) (s : ByteArray) : ∀ l, Rising l → Rising (putS i s l)
  | [], _ => ⟨fun y h => (by cases h), trivial⟩
  | x :: l, h => by
    unfold putS
    split
    · rename_i h1
      refine ⟨fun y hy => ?_, rising_put i s l h.2⟩
      rcases mem_putS hy with e | e
      · rw [e]; exact h1
      · exact h.1 y e
    · split
      · rename_i h1 h2
        exact ⟨fun y hy => by have := h.1 y hy; show i < y.1; omega, h.2⟩
      · rename_i h1 h2
        refine ⟨fun y hy => ?_, h⟩
        rcases List.mem_cons.1 hy with e | e
        · rw [e]; show i < x.1; omega
        · have := h.1 y e; show i < y.1; omega
/-- What is staged of a home sector. -/
def lookS (i : Int) : List (Int × ByteArray) → Option ByteArray
  | [] => none
  | x :: l => if x.1 = i then some x.2 else lookS i l
theorem look_put (i j : Int) (s : ByteArray) : ∀ l, Rising l → lookS j (putS i s l) = if i = j then some s else lookS j l
  | [], _ => by unfold putS lookS; split <;> rfl
  | x :: l, h => by
    have ih := look_put i j s l h.2
    unfold putS
    split
    · rename_i h1
      show (if x.1 = j then some x.2 else lookS j (putS i s l)) = _
      rw [ih]
      show _ = if i = j then some s else if x.1 = j then some x.2 else lookS j l
      by_cases e : x.1 = j
      · rw [if_pos e, if_neg (by omega), if_pos e]
      · rw [if_neg e, if_neg e]
    · split
      · rename_i h1 h2
        show (if i = j then some s else lookS j l) = if i = j then some s else if x.1 = j then some x.2 else lookS j l
        by_cases e : i = j
        · rw [if_pos e, if_pos e]
        · rw [if_neg e, if_neg e, if_neg (by omega)]
      · rfl
theorem look_mem {i : Int} {s : ByteArray} : ∀ {l : List (Int × ByteArray)}, lookS i l = some s → (i, s) ∈ l
  | [], h => by cases h
  | x :: l, h => by
    unfold lookS at h
    split at h
    · rename_i e
      injection h with h
      rw [← e, ← h]; exact List.mem_cons_self ..
    · exact List.mem_cons_of_mem _ (look_mem h)
theorem look_none {i : Int} : ∀ {l : List (Int × ByteArray)}, lookS i l = none → ∀ x ∈ l, x.1 ≠ i
  | [], _, x, hx => by cases hx
  | y :: l, h, x, hx => by
    unfold lookS at h
    split at h
    · cases h
    · rename_i e
      rcases List.mem_cons.1 hx with e2 | e2
      · rw [e2]; exact e
      · exact look_none h x e2
theorem look_of_mem : ∀ {l : List (Int × ByteArray)} {x : Int × ByteArray}, Rising l → x ∈ l → lookS x.1 l = some x.2
  | y :: l, x, hr, h => by
    unfold lookS
    rcases List.mem_cons.1 h with e | e
    · rw [e, if_pos rfl]
    · rw [if_neg (by have := hr.1 x e; omega)]; exact look_of_mem hr.2 e
theorem put_len (i : Int) (s : ByteArray) : ∀ l, Rising l → (putS i s l).length = bif (lookS i l).isSome then l.length else l.length + 1
  | [], _ => rfl
  | x :: l, h => by
    have ih := put_len i s l h.2
    unfold putS
    split
    · rename_i h1
      rw [List.length_cons, ih]
      show _ = bif (if x.1 = i then some x.2 else lookS i l).isSome then _ else _
      rw [if_neg (by omega)]
      cases (lookS i l).isSome <;> simp
    · split
      · rename_i h1 h2
        show _ = bif (if x.1 = i then some x.2 else lookS i l).isSome then _ else _
        rw [if_pos h2]; rfl
      · rename_i h1 h2
        have : lookS i l = none := by
          cases hl : lookS i l with
          | none => rfl
          | some t => have := h.1 _ (look_mem hl); dsimp only at this; omega
        show _ = bif (if x.1 = i then some x.2 else lookS i l).isSome then _ else _
        rw [if_neg h2, this]; rfl
end Go.Proofs.Ytgaibknhdaeidaa.P
