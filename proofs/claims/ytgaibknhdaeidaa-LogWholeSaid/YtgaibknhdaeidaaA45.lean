/- Stage 7: the last opening, with power: all or nothing: plain facts. No condition. -/
import Derived.Test.YtgaibknhdaeidaaA44
set_option linter.unusedVariables false
set_option maxRecDepth 50000
namespace Go.Proofs.Ytgaibknhdaeidaa.P
open Go.RowKit
theorem keep_last {n : Nat} {st : List (Int × ByteArray)} {A B : Nat → ByteArray} {won : Bool} {m : Nat} {z : DState} (T : Tran n st A B) (hst : okSt n st) (hn2 : n ≤ 544) (h : KI n st A B won m z) :
    (openQ (crashZ z 0)).1 = 0 ∧ Clean (openQ (crashZ z 0)).2 n ∧ ((won = false ∧ ∀ i : Nat, 32 + i < n → getS (openQ (crashZ z 0)).2.safe (32 + i) = A i) ∨ ∀ i : Nat, 32 + i < n → getS (openQ (crashZ z 0)).2.safe (32 + i) = B i) := by
  have hw0 := wz_crash z h.wz 0
  have hs0 := sz_crash z h.sz 0
  have hl : (crashZ z 0).safe.length = n := (setN_len _ _ _ _).trans h.len
  have k1 := crash_inv T z h.wz h.len (keepB 0) h.jj
  have k2 : won = true → J5 n B (crashZ z 0).safe [] := fun e => by
    have h5 := h.all e
    show J5 n B (setN (keepB 0) z.safe z.wait z.wait.length) []
    rw [h5.2.2]
    exact ⟨h5.1, h5.2.1, rfl⟩
  have hw : (crashZ z 0).wait = [] := rfl
  have hv : Live (crashZ z 0) := ⟨rfl, rfl⟩
  change J1 n A (crashZ z 0).safe [] ∨ J3 n st A (crashZ z 0).safe [] ∨ J5 n B (crashZ z 0).safe [] at k1
  generalize crashZ z 0 = c at *
  have hb := T.big
  obtain ⟨r1, r2⟩ := read_still hv.1 hw hl 1 (by omega)
  have e1 : readR c 1 = 0 := r1
  have e2 : readB c 1 = getS c.safe 1 := r2
  have hnil : getS c.safe 1 = z64 → openQ c = (0, c) ∧ Clean c n := fun hz64 => ⟨by
    unfold openQ
    rw [e1, e2, hz64, parse_nil]; rfl, ⟨hv, hw, hl, hz64, hs0, hw0⟩⟩
  have hJ5 : J5 n B c.safe [] → (openQ c).1 = 0 ∧ Clean (openQ c).2 n ∧ ((won = false ∧ ∀ i : Nat, 32 + i < n → getS (openQ c).2.safe (32 + i) = A i) ∨ ∀ i : Nat, 32 + i < n → getS (openQ c).2.safe (32 + i) = B i) := fun k => by
    obtain ⟨q1, q2⟩ := hnil k.1
    rw [q1]
    exact ⟨rfl, q2, .inr k.2.1⟩
  cases hwon : won with
  | true => rw [hwon] at hJ5 k2; exact hJ5 (k2 rfl)
  | false =>
    rw [hwon] at hJ5
    rcases k1 with k | k | k
    · obtain ⟨q1, q2⟩ := hnil k.1
      rw [q1]
      exact ⟨rfl, q2, .inl ⟨rfl, k.2.1⟩⟩
    · have hq : openQ c = exec (installOps st) c := by
        unfold openQ
        rw [e1, e2, k.1, hl, parse_head st ((n : Int) - 32) T.rising T.few (by omega) (fun x hx => by have := T.at_ x hx; omega)]
        exact redo_install hb T.some_ T.few T.at_ c hv.1 hw hl k.2.2.1
      have hok : ∀ o ∈ installOps st, okOp c.safe.length o := fun o ho => by
        rw [hl]
        refine ok_commit hb hst o ?_
        unfold commitOps
        exact List.mem_append.2 (.inr (List.mem_cons.2 (.inr (List.mem_append.2 (.inr ho)))))
      obtain ⟨v1, v2⟩ := live_exec (installOps st) c hv hok
      have h5 := (install_inv T c hv.1 hl hw0 k hw).2 v1
      rw [hq]
      exact ⟨v1, ⟨v2, h5.2.2, (exec_len _ _).trans hl, h5.1, sz_execA _ _ hs0, wz_exec _ _ hw0⟩, .inr h5.2.1⟩
    · exact hJ5 k
end Go.Proofs.Ytgaibknhdaeidaa.P
