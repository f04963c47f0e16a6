/- Stage 7: what stays between two rounds, whether a transaction was won or not: plain facts. No condition. -/
import Derived.Test.YtgaibknhdaeidaaA45
set_option linter.unusedVariables false
set_option maxRecDepth 50000
namespace Go.Proofs.Ytgaibknhdaeidaa.P
open Go.RowKit
/-- All of a transaction is there, and nothing is under way. -/
structure K5 (n : Nat) (B : Nat → ByteArray) (z : DState) : Prop where
  wz : WZ z
  sz : SZ z
  len : z.safe.length = n
  j5 : J5 n B z.safe z.wait
theorem k5_crash {n : Nat} {B : Nat → ByteArray} {z : DState} (h : K5 n B z) (hn : 48 ≤ n) (K : Int) : K5 n B (crashZ z K) ∧ (crashZ z K).wait = [] ∧ Live (crashZ z K) := by
  have hl : (crashZ z K).safe.length = n := (setN_len _ _ _ _).trans h.len
  refine ⟨⟨wz_crash z h.wz K, sz_crash z h.sz K, hl, ?_⟩, rfl, ⟨rfl, rfl⟩⟩
  show J5 n B (setN (keepB K) z.safe z.wait z.wait.length) []
  rw [h.j5.2.2]
  exact ⟨h.j5.1, h.j5.2.1, rfl⟩
theorem k5_open {n : Nat} {B : Nat → ByteArray} {z : DState} (h : K5 n B z) (hn : 48 ≤ n) (ho : z.off = false) : openQ z = (0, z) := by
  obtain ⟨r1, r2⟩ := read_still ho h.j5.2.2 h.len 1 (by omega)
  have e1 : readR z 1 = 0 := r1
  have e2 : readB z 1 = getS z.safe 1 := r2
  unfold openQ
  rw [e1, e2, h.j5.1, parse_nil]; rfl
theorem k5_pow {n : Nat} {B : Nat → ByteArray} {z : DState} (h : K5 n B z) (hw : z.wait = []) (p : Int) (hp : p ≤ 9223372036854775807) : K5 n B (powZ z p) := by
  have hz := h.wz
  exact ⟨⟨hz.1, hz.2.1, by show 0 ≤ max p 0; omega, by show max p 0 ≤ _; omega, fun x hx => by rw [show (powZ z p).wait = z.wait from rfl, hw] at hx; cases hx⟩, sz_pow z h.sz p, h.len, h.j5⟩
theorem k5_round {n : Nat} {B : Nat → ByteArray} {z : DState} (h : K5 n B z) (hn : 48 ≤ n) (K p : Int) (hp : p ≤ 9223372036854775807) : K5 n B (openQ (powZ (crashZ z K) p)).2 := by
  obtain ⟨a, b, c⟩ := k5_crash h hn K
  have d := k5_pow a b p hp
  rw [k5_open d hn rfl]
  exact d
theorem k5_last {n : Nat} {B : Nat → ByteArray} {z : DState} (h : K5 n B z) (hn : 48 ≤ n) : (openQ (crashZ z 0)).1 = 0 ∧ Clean (openQ (crashZ z 0)).2 n ∧ ∀ i : Nat, 32 + i < n → getS (openQ (crashZ z 0)).2.safe (32 + i) = B i := by
  obtain ⟨a, b, c⟩ := k5_crash h hn 0
  rw [k5_open a hn c.1]
  exact ⟨rfl, ⟨c, b, a.len, a.j5.1, a.sz, a.wz⟩, a.j5.2.1⟩
/-- Between two rounds. -/
def KX (n : Nat) (st : List (Int × ByteArray)) (A B : Nat → ByteArray) (won : Bool) (m : Nat) (z : DState) : Prop :=
  (won = true ∧ K5 n B z) ∨ (won = false ∧ Tran n st A B ∧ okSt n st ∧ KI n st A B false m z)
theorem kx_few {n : Nat} {st : List (Int × ByteArray)} {A B : Nat → ByteArray} {won : Bool} {m : Nat} {z : DState} (h : KX n st A B won m z) : z.wait.length ≤ m := by
  rcases h with ⟨_, h⟩ | ⟨_, _, _, h⟩
  · rw [h.j5.2.2]; simp
  · exact h.few
theorem kx_sz {n : Nat} {st : List (Int × ByteArray)} {A B : Nat → ByteArray} {won : Bool} {m : Nat} {z : DState} (h : KX n st A B won m z) : SZ z := by
  rcases h with ⟨_, h⟩ | ⟨_, _, _, h⟩
  · exact h.sz
  · exact h.sz
theorem kx_round {n : Nat} {st : List (Int × ByteArray)} {A B : Nat → ByteArray} {won : Bool} {m : Nat} {z : DState} (hn : 48 ≤ n) (hn2 : n ≤ 544) (h : KX n st A B won m z) (K p : Int) (hp : p ≤ 9223372036854775807) :
    KX n st A B won (m + 40) (openQ (powZ (crashZ z K) p)).2 := by
  rcases h with ⟨e, h⟩ | ⟨e, T, ho, h⟩
  · exact .inl ⟨e, k5_round h hn K p hp⟩
  · exact .inr ⟨e, T, ho, keep_round T hn2 h K p hp⟩
theorem kx_last {n : Nat} {st : List (Int × ByteArray)} {A B : Nat → ByteArray} {won : Bool} {m : Nat} {z : DState} (hn : 48 ≤ n) (hn2 : n ≤ 544) (h : KX n st A B won m z) :
    (openQ (crashZ z 0)).1 = 0 ∧ Clean (openQ (crashZ z 0)).2 n ∧ ((won = false ∧ ∀ i : Nat, 32 + i < n → getS (openQ (crashZ z 0)).2.safe (32 + i) = A i) ∨ ∀ i : Nat, 32 + i < n → getS (openQ (crashZ z 0)).2.safe (32 + i) = B i) := by
  rcases h with ⟨e, h⟩ | ⟨e, T, ho, h⟩
  · obtain ⟨a, b, c⟩ := k5_last h hn
    exact ⟨a, b, .inr c⟩
  · obtain ⟨a, b, c⟩ := keep_last T ho hn2 h
    rw [e]
    exact ⟨a, b, c⟩
def commQ (st : List (Int × ByteArray)) (z : DState) : Int × DState := if st = [] then (0, z) else exec (commitOps st) z
theorem kx_start {n : Nat} {st : List (Int × ByteArray)} {z : DState} (hn : 48 ≤ n) (hn2 : n ≤ 544) (hc : Clean z n) (hst : okSt n st) (p : Int) (hp : p ≤ 9223372036854775807) :
    KX n st (fun i => getS z.safe (32 + i)) (fun i => (lookS (i : Int) st).getD (getS z.safe (32 + i))) (decide ((commQ st (powZ z p)).1 = 0)) 200 (commQ st (powZ z p)).2 := by
  have hz := hc.wz
  have hw : (powZ z p).wait = [] := hc.still
  have hwz : WZ (powZ z p) := ⟨hz.1, hz.2.1, by show 0 ≤ max p 0; omega, by show max p 0 ≤ _; omega, fun x hx => by rw [hw] at hx; cases hx⟩
  unfold commQ
  by_cases hs : st = []
  · subst hs
    exact .inl ⟨rfl, ⟨hwz, hc.sz, hc.len, ⟨hc.head, fun i _ => rfl, hw⟩⟩⟩
  · rw [if_neg hs]
    have T : Tran n st (fun i => getS z.safe (32 + i)) (fun i => (lookS (i : Int) st).getD (getS z.safe (32 + i))) := ⟨hst.1, hst.2.1, hs, fun x hx => by have := hst.2.2 x hx; omega, hn, fun i _ => rfl⟩
    obtain ⟨j1, j2⟩ := commit_inv T (powZ z p) hc.live.1 hc.len hwz ⟨hc.head, fun i _ => rfl, fun x hx => by cases hx⟩ hw
    have a1 := wz_exec (commitOps st) _ hwz
    have a2 := sz_execA (commitOps st) _ (sz_pow z hc.sz p)
    have a3 : (exec (commitOps st) (powZ z p)).2.safe.length = n := (exec_len _ _).trans hc.len
    have a4 := exec_wait (commitOps st) (powZ z p)
    rw [hw] at a4
    have a5 := commit_len st
    have hf := hst.2.1
    by_cases e : (exec (commitOps st) (powZ z p)).1 = 0
    · exact .inl ⟨decide_eq_true e, a1, a2, a3, j2 e⟩
    · refine .inr ⟨decide_eq_false e, T, hst, ⟨a1, a2, a3, ?_, j1, fun k => by cases k⟩⟩
      have : ([] : List (Int × ByteArray)).length = 0 := rfl
      omega
end Go.Proofs.Ytgaibknhdaeidaa.P
