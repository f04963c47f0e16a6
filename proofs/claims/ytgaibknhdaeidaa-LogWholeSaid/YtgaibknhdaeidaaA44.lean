/- Stage 7: a round of crash, power and opening keeps all or nothing: plain facts. No condition. -/
import Derived.Test.YtgaibknhdaeidaaA43
set_option linter.unusedVariables false
set_option maxRecDepth 50000
namespace Go.Proofs.Ytgaibknhdaeidaa.P
open Go.RowKit
/-- Between two rounds: all or nothing; if it was won, all. -/
structure KI (n : Nat) (st : List (Int × ByteArray)) (A B : Nat → ByteArray) (won : Bool) (m : Nat) (z : DState) : Prop where
  wz : WZ z
  sz : SZ z
  len : z.safe.length = n
  few : z.wait.length ≤ m
  jj : JJ n st A B z.safe z.wait
  all : won = true → J5 n B z.safe z.wait
/-- What a crash leaves, with whatever power then. -/
theorem keep_crash {n : Nat} {st : List (Int × ByteArray)} {A B : Nat → ByteArray} {won : Bool} {m : Nat} {z : DState} (T : Tran n st A B) (h : KI n st A B won m z) (K p : Int) (hp : p ≤ 9223372036854775807) :
    (J1 n A (powZ (crashZ z K) p).safe [] ∨ J3 n st A (powZ (crashZ z K) p).safe [] ∨ J5 n B (powZ (crashZ z K) p).safe []) ∧ (won = true → J5 n B (powZ (crashZ z K) p).safe []) ∧ WZ (powZ (crashZ z K) p) ∧ SZ (powZ (crashZ z K) p) ∧ (powZ (crashZ z K) p).safe.length = n := by
  have hw := wz_crash z h.wz K
  have hl : (crashZ z K).safe.length = n := (setN_len _ _ _ _).trans h.len
  refine ⟨crash_inv T z h.wz h.len (keepB K) h.jj, fun e => ?_, ⟨hw.1, hw.2.1, by show 0 ≤ max p 0; omega, by show max p 0 ≤ _; omega, fun x hx => by cases hx⟩, sz_crash z h.sz K, hl⟩
  have h5 := h.all e
  show J5 n B (setN (keepB K) z.safe z.wait z.wait.length) []
  rw [h5.2.2]
  exact ⟨h5.1, h5.2.1, rfl⟩
theorem keep_round {n : Nat} {st : List (Int × ByteArray)} {A B : Nat → ByteArray} {won : Bool} {m : Nat} {z : DState} (T : Tran n st A B) (hn2 : n ≤ 544) (h : KI n st A B won m z) (K p : Int) (hp : p ≤ 9223372036854775807) :
    KI n st A B won (m + 40) (openQ (powZ (crashZ z K) p)).2 := by
  obtain ⟨k1, k2, k3, k4, k5⟩ := keep_crash T h K p hp
  have hw : (powZ (crashZ z K) p).wait = [] := rfl
  have ho : (powZ (crashZ z K) p).off = false := rfl
  generalize powZ (crashZ z K) p = c at *
  have hl := len_openQ c
  rw [hw] at hl
  refine ⟨wz_openQ c k3, sz_openQ c k4, hl.1.trans k5, by have := hl.2; simp at this; omega, (open_inv T hn2 c ho hw k5 k3 k1).1, fun e => ?_⟩
  have h5 := k2 e
  have hb := T.big
  obtain ⟨r1, r2⟩ := read_still ho hw k5 1 (by omega)
  have e1 : readR c 1 = 0 := r1
  have e2 : readB c 1 = getS c.safe 1 := r2
  have : openQ c = (0, c) := by
    unfold openQ
    rw [e1, e2, h5.1, parse_nil]; rfl
  rw [this]
  show J5 n B c.safe c.wait
  rw [hw]; exact h5
end Go.Proofs.Ytgaibknhdaeidaa.P
