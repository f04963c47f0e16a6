/- Stage 6: what is read behind writes, flushes and crashes: plain facts. No condition. -/
import Derived.Test.YtlpcccpagmipnaaGreatH1
set_option linter.unusedVariables false
set_option maxRecDepth 50000
namespace Go.Proofs.YtlpcccpagmipnaaGreat.P
open Go.RowKit
theorem cell_drew6 {w : World} {p : Addr} {v : Value} (h : w.cell? p = some v) : w.drew.cell? p = some v := h
theorem gr_drew6 {a b : World} (h : Gr a b) : Gr a b.drew := Gr.drewN h 1
def getS (l : List ByteArray) (q : Nat) : ByteArray := l[q]?.getD ⟨#[]⟩
theorem getS_set (l : List ByteArray) (a q : Nat) (s : ByteArray) (hq : q < l.length) : getS (l.set a s) q = if a = q then s else getS l q := by
  unfold getS
  rw [List.getElem?_set]
  by_cases h : a = q
  · subst h; rw [if_pos rfl, if_pos hq, if_pos rfl]; rfl
  · rw [if_neg h, if_neg h]
theorem setN_read (safe : List ByteArray) (wait : List (Int × ByteArray)) (hW : ∀ x ∈ wait, 0 ≤ x.1 ∧ x.1 < safe.length) (q : Nat) (hq : q < safe.length) : ∀ k, k ≤ wait.length → getS (setN (fun _ => true) safe wait k) q = (wait.take k).foldl (stepR q) (getS safe q)
  | 0, _ => by rw [List.take_zero]; rfl
  | k + 1, h => by
    have hx : wait[k]? = some (wait[k]'(by omega)) := List.getElem?_eq_getElem _
    have hm := hW _ (List.getElem_mem (show k < wait.length by omega))
    rw [setN_at hx, List.take_succ_eq_append_getElem (by omega), List.foldl_append]
    simp only [cond_true, List.foldl_cons, List.foldl_nil]
    rw [getS_set _ _ _ _ (by rw [setN_len]; exact hq), setN_read safe wait hW q hq k (by omega)]
    unfold stepR
    by_cases e : wait[k].1.toNat = q
    · rw [if_pos e, decide_eq_true (by omega)]; rfl
    · rw [if_neg e, decide_eq_false (by omega)]; rfl
/-- There is power for any number of acts. -/
def Live (z : DState) : Prop := z.off = false ∧ z.counted = false
theorem Live.act {z : DState} (h : Live z) : actB z = true ∧ actZ z = z := by
  unfold actB actZ; rw [h.2]; exact ⟨rfl, rfl⟩
theorem Live.writeZ {z : DState} (h : Live z) (i : Int) (s : ByteArray) : writeZ z i s = bif hasB z i && decide (s.size = 64) then { z with wait := z.wait ++ [(i, s)] } else z := by
  obtain ⟨sa, wa, o, c, a⟩ := z
  obtain ⟨h1, h2⟩ := h
  dsimp only at h1 h2
  subst h1; subst h2; rfl
theorem Live.writeR {z : DState} (h : Live z) (i : Int) (s : ByteArray) : writeR z i s = bif hasB z i && decide (s.size = 64) then 0 else 1 := by
  unfold Go.Proofs.YtlpcccpagmipnaaGreat.P.writeR; rw [h.1, h.act.1]; rfl
theorem Live.write {z : DState} (h : Live z) (i : Int) (s : ByteArray) : Live (Go.Proofs.YtlpcccpagmipnaaGreat.P.writeZ z i s) := by
  rw [h.writeZ]; cases (hasB z i && decide (s.size = 64)) <;> exact h
theorem Live.flushZ {z : DState} (h : Live z) : flushZ z = { z with safe := setN (fun _ => true) z.safe z.wait z.wait.length, wait := [] } := by
  obtain ⟨sa, wa, o, c, a⟩ := z
  obtain ⟨h1, h2⟩ := h
  dsimp only at h1 h2
  subst h1; subst h2; rfl
theorem Live.flushR {z : DState} (h : Live z) : flushR z = 0 := by
  unfold Go.Proofs.YtlpcccpagmipnaaGreat.P.flushR; rw [h.1, h.act.1]; rfl
theorem Live.flush {z : DState} (h : Live z) : Live (Go.Proofs.YtlpcccpagmipnaaGreat.P.flushZ z) := by rw [h.flushZ]; exact h
theorem live_new (l : List ByteArray) : Live (newZ l) := ⟨rfl, rfl⟩
theorem live_crash (z : DState) (K : Int) : Live (crashZ z K) := ⟨rfl, rfl⟩
theorem write_safe (z : DState) (i : Int) (s : ByteArray) : (writeZ z i s).safe = z.safe := by
  unfold writeZ
  cases z.off
  · cases (hasB z i && decide (s.size = 64))
    · rfl
    · cases actB z <;> exact (actZ_keeps z).2
  · rfl
theorem flush_len (z : DState) : (flushZ z).safe.length = z.safe.length := by
  unfold flushZ
  cases z.off
  · cases actB z
    · show (actZ z).safe.length = _; rw [(actZ_keeps z).2]
    · show (setN _ _ _ _).length = _; rw [setN_len]
  · rfl
theorem crash_len (z : DState) (K : Int) : (crashZ z K).safe.length = z.safe.length := setN_len _ _ _ _
theorem write_wait (z : DState) (i : Int) (s : ByteArray) : (writeZ z i s).wait.length ≤ z.wait.length + 1 := by
  unfold writeZ
  cases z.off
  · cases (hasB z i && decide (s.size = 64))
    · exact Nat.le_succ _
    · cases actB z
      · show (actZ z).wait.length ≤ _; rw [(actZ_keeps z).1]; exact Nat.le_succ _
      · show ((actZ z).wait ++ [(i, s)]).length ≤ _; rw [(actZ_keeps z).1]; simp
  · exact Nat.le_succ _
theorem flush_wait (z : DState) : (flushZ z).wait.length ≤ z.wait.length := by
  unfold flushZ
  cases z.off
  · cases actB z
    · show (actZ z).wait.length ≤ _; rw [(actZ_keeps z).1]; exact Nat.le_refl _
    · exact Nat.zero_le _
  · exact Nat.le_refl _
theorem readS_write (z : DState) (h : Live z) (i : Int) (s : ByteArray) (hs : s.size = 64) (q : Nat) (hq : q < z.safe.length) : readS (writeZ z i s) q = bif decide (i = (q : Int)) then s else readS z q := by
  rw [h.writeZ, decide_eq_true hs, Bool.and_true]
  cases hh : hasB z i with
  | true =>
    show (z.wait ++ [(i, s)]).foldl (stepR q) _ = _
    rw [List.foldl_append]; rfl
  | false =>
    have : ¬ i = (q : Int) := by
      rintro rfl
      unfold hasB at hh
      simp at hh
      omega
    rw [decide_eq_false this]; rfl
theorem readS_flush (z : DState) (h : Live z) (hz : WZ z) (q : Nat) (hq : q < z.safe.length) : readS (flushZ z) q = readS z q := by
  rw [h.flushZ]
  show getS (setN _ _ _ _) q = _
  rw [setN_read z.safe z.wait hz.2.2.2.2 q hq _ (Nat.le_refl _), List.take_of_length_le (Nat.le_refl _)]
  rfl
theorem readB_live (z : DState) (h : Live z) (q : Nat) (hq : q < z.safe.length) : readB z q = readS z q ∧ readR z q = 0 := by
  have : hasB z q = true := by unfold hasB; simp [hq]
  unfold readB readR
  rw [h.1, this, Int.toNat_natCast]
  exact ⟨rfl, rfl⟩
theorem readB_bad (z : DState) (h : Live z) (i : Int) (hi : i < 0 ∨ (z.safe.length : Int) ≤ i) : readB z i = ⟨#[]⟩ ∧ readR z i = 1 := by
  have : hasB z i = false := by unfold hasB; simp; omega
  unfold readB readR
  rw [h.1, this]
  exact ⟨rfl, rfl⟩
end Go.Proofs.YtlpcccpagmipnaaGreat.P
