/- Stage 7: disks between commits: plain facts; Commit on one. No condition. -/
import Derived.Test.YtgaibknhdaeidaaA33
set_option linter.unusedVariables false
set_option maxRecDepth 50000
namespace Go.Proofs.Ytgaibknhdaeidaa.P
open Go.RowKit
/-- A disk with power, on which nothing waits and no commit was cut off. -/
structure Clean (z : DState) (n : Nat) : Prop where
  live : Live z
  still : z.wait = []
  len : z.safe.length = n
  head : getS z.safe 1 = z64
  sz : SZ z
  wz : WZ z
theorem clean_new (n : Nat) (h1 : 48 ≤ n) (h2 : n ≤ 544) : Clean (newZ (List.replicate n z64)) n :=
  ⟨⟨rfl, rfl⟩, rfl, List.length_replicate, by
    unfold getS
    show ((List.replicate n z64)[1]?).getD ⟨#[]⟩ = z64
    rw [List.getElem?_replicate, if_pos (by omega)]; rfl, sz_new n, newZ_wz _ (by rw [List.length_replicate]; exact h1) (by rw [List.length_replicate]; exact h2)⟩
theorem sz_exec : ∀ (l : List DOp) (z : DState), Live z → SZ z → (∀ o ∈ l, okOp z.safe.length o) → SZ (exec l z).2
  | [], z, _, h, _ => h
  | o :: l, z, hl, h, hok => by
    have hs := live_step z hl o (fun i s e => by have := hok o (List.mem_cons_self ..); rw [e] at this; exact this)
    rw [exec_ok hs.1]
    refine sz_exec l _ hs.2 ?_ (fun p hp => by rw [step_len]; exact hok p (List.mem_cons_of_mem _ hp))
    cases o with
    | wr i s => exact sz_write z hl h i s
    | fl => exact sz_flush z hl h
def commZ (st : List (Int × ByteArray)) (z : DState) : DState := if st = [] then z else (exec (commitOps st) z).2
theorem comm_clean {n : Nat} {z : DState} {st : List (Int × ByteArray)} (hc : Clean z n) (hn : 48 ≤ n) (h : okSt n st) :
    Clean (commZ st z) n ∧ (st ≠ [] → (exec (commitOps st) z).1 = 0) ∧ ∀ i : Nat, 32 + i < n → getS (commZ st z).safe (32 + i) = (lookS (i : Int) st).getD (getS z.safe (32 + i)) := by
  unfold commZ
  by_cases hs : st = []
  · rw [if_pos hs]
    exact ⟨hc, fun k => absurd hs k, fun i _ => by rw [hs]; rfl⟩
  · rw [if_neg hs]
    have hok : ∀ o ∈ commitOps st, okOp z.safe.length o := by rw [hc.len]; exact ok_commit hn h
    obtain ⟨e1, e2⟩ := live_exec (commitOps st) z hc.live hok
    have T : Tran n st (fun i => getS z.safe (32 + i)) (fun i => (lookS (i : Int) st).getD (getS z.safe (32 + i))) := ⟨h.1, h.2.1, hs, fun x hx => by have := h.2.2 x hx; omega, hn, fun i _ => rfl⟩
    have hj := (commit_inv T z hc.live.1 hc.len hc.wz ⟨hc.head, fun i _ => rfl, fun x hx => by cases hx⟩ hc.still).2 e1
    exact ⟨⟨e2, hj.2.2, by rw [exec_len]; exact hc.len, hj.1, sz_exec _ z hc.live hc.sz hok, wz_exec _ z hc.wz⟩, fun _ => e1, hj.2.1⟩
theorem read_clean {n : Nat} {z : DState} (hc : Clean z n) (q : Nat) (hq : q < n) : readR z (q : Int) = 0 ∧ readB z (q : Int) = getS z.safe q := by
  have hh : hasB z (q : Int) = true := by
    unfold hasB; rw [hc.len, decide_eq_true (by omega : (0 : Int) ≤ q), decide_eq_true (by omega : (q : Int) < n)]; rfl
  unfold readR readB
  rw [hc.live.1, hh]
  refine ⟨rfl, ?_⟩
  show readS z (q : Int).toNat = _
  rw [Int.toNat_natCast]
  unfold readS getS
  rw [hc.still]; rfl
theorem get_clean {n : Nat} {z : DState} (hc : Clean z n) (st : List (Int × ByteArray)) (i : Nat) (hi : 32 + i < n) : getB false z st (i : Int) = (lookS (i : Int) st).getD (getS z.safe (32 + i)) := by
  have hr : refF false z.safe.length (i : Int) = 0 := by
    unfold refF
    rw [cond_false, hc.len, decide_eq_true (by omega : (0 : Int) ≤ i), decide_eq_true (by omega : (i : Int) < (n : Int) - 32)]; rfl
  unfold getB
  rw [hr, decide_eq_true rfl, cond_true]
  cases hl : lookS (i : Int) st with
  | some s => rfl
  | none =>
    show readB z (32 + (i : Int)) = _
    rw [show (32 + (i : Int)) = ((32 + i : Nat) : Int) by omega, (read_clean hc (32 + i) hi).2]; rfl
theorem open_clean {n : Nat} {z : DState} (hc : Clean z n) (hn : 48 ≤ n) : openQ z = (0, z) := by
  have h1 := read_clean hc 1 (by omega)
  unfold openQ
  have e1 : readR z 1 = 0 := h1.1
  have e2 : readB z 1 = z64 := h1.2.trans hc.head
  rw [e1, e2, parse_nil]; rfl
theorem o_comm {w0 w : World} {d l mb n : Nat} {z : DState} {st : List (Int × ByteArray)} {R : Asn} (h : Own w0 w (DL d z l mb st false R)) (hs : Stable R) (hc : Clean z n) (hn : 48 ≤ n) (hn2 : n ≤ 544) (hst : okSt n st) :
    Calls Try.prog 14 #[ptr l] w fun e w' => e = .returned (.int .i64 0) ∧ Own w0 w' (DL d (commZ st z) l mb [] false R) := by
  by_cases he : st = []
  · subst he
    refine (o_commit_nil h).mono ?_
    rintro e w' ⟨rfl, rfl⟩
    exact ⟨rfl, h⟩
  · have hpos : 0 < st.length := List.length_pos_iff.2 he
    refine (o_commit h hs hpos hst.2.1 (fun x hx => by have := hst.2.2 x hx; omega) (by rw [hc.still]; simp)).mono ?_
    rintro e w' ⟨rfl, k⟩
    have e0 := (comm_clean hc hn hst).2.1 he
    rw [e0] at k ⊢
    unfold commZ
    rw [if_neg he]
    exact ⟨rfl, k⟩
end Go.Proofs.Ytgaibknhdaeidaa.P
