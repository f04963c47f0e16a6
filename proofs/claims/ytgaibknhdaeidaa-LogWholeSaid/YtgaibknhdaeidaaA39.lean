/- Stage 7: a commit made again is its second half: plain facts. No condition. -/
import Derived.Test.YtgaibknhdaeidaaA34
set_option linter.unusedVariables false
set_option maxRecDepth 50000
namespace Go.Proofs.Ytgaibknhdaeidaa.P
open Go.RowKit
theorem exec_cons (o : DOp) (l : List DOp) (z : DState) : exec (o :: l) z = thenE (stepD z o) (exec l) := rfl
theorem fold_far (q : Int) : ∀ (l : List (Int × ByteArray)) (s : ByteArray), (∀ x ∈ l, x.1 ≠ q) → l.foldl (stepR q) s = s
  | [], s, _ => rfl
  | x :: l, s, h => by
    rw [List.foldl_cons]
    have : stepR q s x = s := by unfold stepR; rw [decide_eq_false (h x (List.mem_cons_self ..))]; rfl
    rw [this]
    exact fold_far q l s (fun y hy => h y (List.mem_cons_of_mem _ hy))
theorem redo_exec (n : Nat) (hn : 48 ≤ n) : ∀ (t : List (Int × ByteArray)) (k : Nat) (z : DState), z.off = false → z.safe.length = n → k + t.length ≤ 30 → (∀ (j : Nat) (x : Int × ByteArray), t[j]? = some x → getS z.safe (2 + (k + j)) = x.2) → (∀ x ∈ z.wait, 32 ≤ x.1) → (∀ x ∈ t, 0 ≤ x.1 ∧ 32 + x.1 < n ∧ x.2.size = 64) →
    redoL k (t.map (·.1)) z = exec (homeOps t) z
  | [], k, z, _, _, _, _, _, _ => rfl
  | x :: t, k, z, ho, hl, hk, hh, hw, hx => by
    rw [List.length_cons] at hk
    have h0 := hx x (List.mem_cons_self ..)
    have hhas : hasB z (2 + (k : Int)) = true := by
      unfold hasB; rw [hl, decide_eq_true (by omega : (0 : Int) ≤ 2 + (k : Int)), decide_eq_true (by omega : (2 + (k : Int)) < n)]; rfl
    have hr : readR z (2 + (k : Int)) = 0 := by unfold readR; rw [ho, hhas]; rfl
    have hb : readB z (2 + (k : Int)) = x.2 := by
      unfold readB
      rw [ho, hhas]
      show readS z (2 + (k : Int)).toNat = _
      rw [show (2 + (k : Int)).toNat = 2 + k by omega]
      unfold readS
      rw [fold_far _ _ _ (fun y hy => by have := hw y hy; omega)]
      have := hh 0 x rfl
      unfold getS at this
      exact this
    have hs := step_wr z ho (32 + x.1) x.2 ⟨by omega, by rw [hl]; omega⟩ h0.2.2
    show (bif decide (readR z (2 + (k : Int)) = 0) then thenE (stepD z (.wr (32 + x.1) (readB z (2 + (k : Int))))) (redoL (k + 1) (t.map (·.1))) else (readR z (2 + (k : Int)), z)) = exec (.wr (32 + x.1) x.2 :: homeOps t) z
    rw [hr, decide_eq_true rfl, cond_true, hb, exec_cons]
    rcases hs with ⟨s1, s2, s3, s4⟩ | ⟨s1, _, _⟩
    · rw [thenE_ok s1, thenE_ok s1]
      refine redo_exec n hn t (k + 1) _ s2 (by rw [s3]; exact hl) (by omega) (fun j y hj => ?_) (fun y hy => ?_) (fun y hy => hx y (List.mem_cons_of_mem _ hy))
      · rw [s3, show 2 + (k + 1 + j) = 2 + (k + (j + 1)) by omega]
        exact hh (j + 1) y (by simpa using hj)
      · rw [s4] at hy
        rcases List.mem_append.1 hy with e | e
        · exact hw y e
        · rw [List.mem_singleton.1 e]; show 32 ≤ 32 + x.1; omega
    · rw [thenE_no (by rw [s1]; decide), thenE_no (by rw [s1]; decide)]
theorem read_still {n : Nat} {z : DState} (ho : z.off = false) (hw : z.wait = []) (hl : z.safe.length = n) (q : Nat) (hq : q < n) : readR z (q : Int) = 0 ∧ readB z (q : Int) = getS z.safe q := by
  have hh : hasB z (q : Int) = true := by
    unfold hasB; rw [hl, decide_eq_true (by omega : (0 : Int) ≤ q), decide_eq_true (by omega : (q : Int) < n)]; rfl
  unfold readR readB
  rw [ho, hh]
  refine ⟨rfl, ?_⟩
  show readS z (q : Int).toNat = _
  rw [Int.toNat_natCast]
  unfold readS getS
  rw [hw]; rfl
theorem redo_install {n : Nat} {st : List (Int × ByteArray)} (hn : 48 ≤ n) (hne : st ≠ []) (hf : st.length ≤ 30) (hx : ∀ x ∈ st, 0 ≤ x.1 ∧ 32 + x.1 < n ∧ x.2.size = 64) (z : DState) (ho : z.off = false) (hw : z.wait = []) (hl : z.safe.length = n) (hh : Held st z.safe) :
    redoF (st.map (·.1)) z = exec (installOps st) z := by
  have h0 : ¬ (st.map (·.1)).length = 0 := by rw [List.length_map]; have := List.length_pos_iff.2 hne; omega
  unfold redoF installOps
  rw [decide_eq_false h0, cond_false, exec_then, redo_exec n hn st 0 z ho hl (by omega) (fun j x hj => by rw [Nat.zero_add]; exact hh j x hj) (fun x hx => by rw [hw] at hx; cases hx) hx]
  rfl
theorem open_inv {n : Nat} {st : List (Int × ByteArray)} {A B : Nat → ByteArray} (T : Tran n st A B) (hn2 : n ≤ 544) (z : DState) (ho : z.off = false) (hw : z.wait = []) (hl : z.safe.length = n) (hz : WZ z)
    (h : J1 n A z.safe [] ∨ J3 n st A z.safe [] ∨ J5 n B z.safe []) :
    JJ n st A B (openQ z).2.safe (openQ z).2.wait ∧ ((openQ z).1 = 0 → (J1 n A (openQ z).2.safe (openQ z).2.wait ∧ (openQ z).2 = z) ∨ J5 n B (openQ z).2.safe (openQ z).2.wait) := by
  have hb := T.big
  obtain ⟨r1, r2⟩ := read_still ho hw hl 1 (by omega)
  have e1 : readR z 1 = 0 := r1
  have e2 : readB z 1 = getS z.safe 1 := r2
  have hnil : getS z.safe 1 = z64 → openQ z = (0, z) := fun hz64 => by
    unfold openQ
    rw [e1, e2, hz64, parse_nil]; rfl
  rcases h with h | h | h
  · rw [hnil h.1]
    show JJ n st A B z.safe z.wait ∧ _
    rw [hw]
    exact ⟨.inl h, fun _ => .inl ⟨h, rfl⟩⟩
  · have hq : openQ z = exec (installOps st) z := by
      unfold openQ
      rw [e1, e2, h.1, hl, parse_head st ((n : Int) - 32) T.rising T.few (by omega) (fun x hx => by have := T.at_ x hx; omega)]
      exact redo_install hb T.some_ T.few T.at_ z ho hw hl h.2.2.1
    rw [hq]
    obtain ⟨k1, k2⟩ := install_inv T z ho hl hz h hw
    exact ⟨k1, fun h0 => .inr (k2 h0)⟩
  · rw [hnil h.1]
    show JJ n st A B z.safe z.wait ∧ _
    rw [hw]
    exact ⟨.inr (.inr (.inr (.inr h))), fun _ => .inr h⟩
end Go.Proofs.Ytgaibknhdaeidaa.P
