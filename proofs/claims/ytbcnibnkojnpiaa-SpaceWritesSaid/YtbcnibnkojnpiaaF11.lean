/- Stage 10: the document's pool. No condition. -/
import Derived.Test.YtbcnibnkojnpiaaF9
import Derived.Test.YtbcnibnkojnpiaaF7A
set_option linter.unusedVariables false
namespace Go.Proofs.Ytbcnibnkojnpiaa.P
open Go.RowKit Go.MuLone Go.Maps
/-- Which are free, out of which are not taken. -/
def Rel (first : Nat) (L H : List Bool) : Prop := L.length = H.length ∧ ∀ k : Nat, isL L k = (decide (first ≤ k) && isL H k)
theorem Rel.set {first : Nat} {L H : List Bool} (h : Rel first L H) (n : Nat) (v : Bool) (h1 : first ≤ n) (h2 : n < L.length) : Rel first (L.set n v) (H.set n v) := by
  refine ⟨by rw [List.length_set, List.length_set]; exact h.1, fun k => ?_⟩
  rw [isL_set _ _ _ _ h2, isL_set _ _ _ _ (by rw [← h.1]; exact h2), h.2 k]
  by_cases e : k = n
  · subst e; rw [if_pos rfl, if_pos rfl, decide_eq_true h1, Bool.true_and]
  · rw [if_neg e, if_neg e]
theorem Rel.at {first : Nat} {L H : List Bool} (h : Rel first L H) (k : Nat) (h1 : first ≤ k) : isL H k = isL L k := by rw [h.2 k, decide_eq_true h1, Bool.true_and]
theorem fresh_rel (fr first : Nat) : Rel first (freshL fr first) (List.replicate fr true) := by
  refine ⟨by rw [fresh_len, List.length_replicate], fun k => ?_⟩
  rw [fresh_is]
  unfold isL
  by_cases h : k < fr
  · simp [List.getD, h]
  · simp [List.getD, h]
def RPO (w : World) (rp ib rb vb first : Nat) (H : List Bool) (s : List UInt8) (t : Int) : Prop :=
  w.heap[rp]? = some (.cells #[.pointer (some ⟨rb, 0, none⟩), .int .i64 first, .slice (some ⟨ib, 0, none⟩) H.length H.length] 108) ∧ w.heap[ib]? = some (.cells (hadB H) 4) ∧ RMemO w rb vb s t ∧
    (ib ≠ rp ∧ rb ≠ rp ∧ vb ≠ rp ∧ rb ≠ ib ∧ vb ≠ ib) ∧ s.length = H.length * 256 ∧ H.length ≤ 256 ∧ first ≤ H.length
theorem RPO.keep {S : Nat → Prop} {w w' : World} {rp ib rb vb first : Nat} {H : List Bool} {s : List UInt8} {t : Int} (h : RPO w rp ib rb vb first H s t) (hc : Ch S w w') (h1 : ¬ S rp) (h2 : ¬ S ib) (h3 : ¬ S rb) (h4 : ¬ S vb) : RPO w' rp ib rb vb first H s t := by
  obtain ⟨a1, a2, a3, a4⟩ := h
  exact ⟨hc.blk a1 h1, hc.blk a2 h2, a3.keep hc h3 h4, a4⟩
/-- What the document's call leaves. -/
def RPP (rp ib rb vb first : Nat) (H : List Bool) (s : List UInt8) (t : Int) (v : Value) (w : World) (e : Ending) (w' : World) : Prop :=
  e = .returned v ∧ RPO w' rp ib rb vb first H s t ∧ Ch (fun x => x = ib ∨ x = rb ∨ x = vb) w w'
def takeH (L H : List Bool) (first : Nat) : List Bool := bif takeB L first then H.set (nextL L first (L.length - first)) false else H
def giveH (L H : List Bool) (first : Nat) (k : Int) : List Bool := bif tknB L first k then H.set k.toNat true else H
theorem cntL_le (L : List Bool) (a : Nat) : ∀ n, cntL L a n ≤ n
  | 0 => Nat.le_refl _
  | n + 1 => by have := cntL_le L a n; unfold cntL; split <;> omega
theorem RPO.set {w : World} {rp ib rb vb first : Nat} {H : List Bool} {s : List UInt8} {t : Int} (h : RPO w rp ib rb vb first H s t) (n : Nat) (v : Bool) : RPO (w.setCell ⟨ib, n, none⟩ (.bool v)) rp ib rb vb first (H.set n (!v)) s t := by
  have hc : Ch (· = ib) w (w.setCell ⟨ib, n, none⟩ (.bool v)) := Ch.setCell (S := (· = ib)) (Ch.refl _ w) (.inl rfl) _
  obtain ⟨a1, a2, a3, ⟨n1, n2, n3, n4, n5⟩, a5, a6, a7⟩ := h
  refine ⟨?_, by rw [blk_set a2 n _, had_set], a3.keep hc n4 n5, ⟨n1, n2, n3, n4, n5⟩, ?_, ?_, ?_⟩
  · rw [List.length_set]; exact hc.blk a1 (fun e => n1 e.symm)
  · rw [List.length_set]; exact a5
  · rw [List.length_set]; exact a6
  · rw [List.length_set]; exact a7
theorem RPO.copied {w w' : World} {rp ib rb vb first : Nat} {H : List Bool} {s s' : List UInt8} {t : Int} (h : RPO w rp ib rb vb first H s t) (hR : RMemO w' rb vb s' t) (hl : s'.length = s.length) (hc : Ch (fun x => x = rb ∨ some vb = some x) w w') : RPO w' rp ib rb vb first H s' t := by
  obtain ⟨a1, a2, a3, ⟨n1, n2, n3, n4, n5⟩, a5, a6, a7⟩ := h
  refine ⟨hc.blk a1 (fun e => ?_), hc.blk a2 (fun e => ?_), hR, ⟨n1, n2, n3, n4, n5⟩, by rw [hl]; exact a5, a6, a7⟩
  · rcases e with e | e
    · exact n2 e.symm
    · injection e with e; exact n3 e
  · rcases e with e | e
    · exact n4 e.symm
    · injection e with e; exact n5 e
theorem rcopy_clear (fr : Nat) (s : List UInt8) (n : Nat) (h : n < fr) : rcopyS fr s n (-1) = clearS fr s n ∧ rcopyR fr n (-1) = 0 := by
  unfold rcopyS rcopyR
  rw [if_pos (by decide), if_pos (frB_t ⟨by omega, by omega⟩), if_pos (by omega)]
  exact ⟨rfl, rfl⟩
theorem clear_len (fr : Nat) (s : List UInt8) (n : Nat) (h : n < fr) (hs : s.length = fr * 256) : (clearS fr s n).length = s.length := by
  unfold clearS; split
  · exact putL_len _ _ _ (by rw [List.length_replicate]; omega)
  · rfl
end Go.Proofs.Ytbcnibnkojnpiaa.P
