/- Stage 3: the document's memory: its calls. No condition. -/
import Derived.Test.YtbcnibnkojnpiaaQ13
set_option linter.unusedVariables false
namespace Go.Proofs.Ytbcnibnkojnpiaa.P
open Go.RowKit Go.MuLone Go.Proofs.Ytbcnibnkojnpiaa.W
def RMemO (w : World) (rb vb : Nat) (s : List UInt8) (t : Int) : Prop :=
  w.heap[rb]? = some (.cells #[.slice (some ⟨vb, 0, none⟩) s.length s.length, .int .u64 t] 105) ∧ vb ≠ rb ∧ w.heap[vb]? = some (.cells (bys s) 5) ∧ s.length ≤ 65536
theorem RMemO.keep {S : Nat → Prop} {w w' : World} {rb vb : Nat} {s : List UInt8} {t : Int} (h : RMemO w rb vb s t) (hc : Ch S w w') (h1 : ¬ S rb) (h2 : ¬ S vb) : RMemO w' rb vb s t :=
  ⟨hc.blk h.1 h1, h.2.1, hc.blk h.2.2.1 h2, h.2.2.2⟩
theorem RMemO.ticked {w : World} {rb vb : Nat} {s : List UInt8} {t : Int} (h : RMemO w rb vb s t) : RMemO (w.setCell ⟨rb, 1, none⟩ (.int .u64 (tick t))) rb vb s (tick t) :=
  ⟨by rw [blk_set h.1 1 _]; rfl, h.2.1, blk_other h.2.2.1 _ _ h.2.1, h.2.2.2⟩
theorem r_takes (n : Int) (w : World) : Calls Try.prog 19 #[.int .i64 n] w fun e w' => e = .returned (.bool (decide (1 ≤ n ∧ n ≤ 256))) ∧ w' = w := by
  by_cases h1 : 1 ≤ n
  · by_cases h2 : n ≤ 256
    · go_enter Try.func19, Try.ntmps19
      go_wp2
      go_ret
      exact ⟨ret_b (by simp; omega), rfl⟩
    · go_enter Try.func19, Try.ntmps19
      go_wp2
      go_ret
      exact ⟨ret_b (by simp; omega), rfl⟩
  · go_enter Try.func19, Try.ntmps19
    go_wp2
    go_ret
    exact ⟨ret_b (by simp; omega), rfl⟩
theorem r_new (fr : Nat) (h2 : fr ≤ 256) (w : World) : Calls Try.prog 21 #[.int .i64 fr] w fun e w' =>
    e = .returned (.pointer (some ⟨w.heap.size + 1, 0, none⟩)) ∧ RMemO w' (w.heap.size + 1) w.heap.size (List.replicate (fr * 256) 0) 0 ∧ Gr w w' := by
  have e1 : ((fr * 256 : Nat) : Int) = (fr : Int) * 256 := by omega
  have hmk := fun w => mk_bytes (fr * 256) (by omega) w
  rw [e1] at hmk
  clear e1
  have b1 : (fr : Int) ≤ 256 := by omega
  have b0 : (0 : Int) ≤ fr := by omega
  go_enter Try.func21, Try.ntmps21
  go_wp2
  go_ret
  refine ⟨by simp, ⟨?_, by omega, ?_, by simp; omega⟩, ((Gr.refl w).alloc (Nat.le_refl _) _).alloc (by simp) _⟩
  · rw [blk_new' _ _ _ (by simp)]; simp
  · exact blk_alloc _ (blk_new w _)
def RLoadP (rb vb : Nat) (s : List UInt8) (t v r : Int) (w : World) (e : Ending) (w' : World) : Prop :=
  e = .returned (.tuple #[.int .u64 v, .int .i64 r]) ∧ RMemO w' rb vb s t ∧ Ch (· = rb) w w'
theorem putL_get (s : List UInt8) (a : Nat) (x : List UInt8) (h : a + x.length ≤ s.length) (j : Nat) : (putL s a x)[j]? = if j < a then s[j]? else if j < a + x.length then x[j - a]? else s[j]? := by
  unfold putL
  have e : (s.take a).length = a := by simp; omega
  by_cases h1 : j < a
  · rw [if_pos h1, List.getElem?_append_left (by omega), List.getElem?_take_of_lt h1]
  · rw [if_neg h1, List.getElem?_append_right (by omega), e]
    by_cases h2 : j < a + x.length
    · rw [if_pos h2, List.getElem?_append_left (by omega)]
    · rw [if_neg h2, List.getElem?_append_right (by omega), List.getElem?_drop]
      congr 1; omega
theorem putL_step (s : List UInt8) (a : Nat) (x : List UInt8) (h : a + x.length ≤ s.length) (i : Nat) (hi : i < x.length) : (putL s a (x.take i)).set (a + i) x[i] = putL s a (x.take (i + 1)) := by
  apply List.ext_getElem?
  intro j
  have l1 : (x.take i).length = i := by simp; omega
  have l2 : (x.take (i + 1)).length = i + 1 := by simp; omega
  have hl : (putL s a (x.take i)).length = s.length := putL_len _ _ _ (by omega)
  rw [List.getElem?_set, putL_get _ _ _ (by omega), putL_get _ _ _ (by omega), l1, l2, hl]
  by_cases hj : a + i = j
  · subst hj
    rw [if_pos rfl, if_pos (by omega), if_neg (by omega), if_pos (by omega), show a + i - a = i by omega, List.getElem?_take_of_lt (by omega), List.getElem?_eq_getElem hi]
  · rw [if_neg hj]
    by_cases h1 : j < a
    · rw [if_pos h1, if_pos h1]
    · rw [if_neg h1, if_neg h1]
      by_cases h2 : j < a + i
      · rw [if_pos h2, if_pos (by omega), List.getElem?_take_of_lt (by omega), List.getElem?_take_of_lt (by omega)]
      · rw [if_neg h2, if_neg (by omega)]
theorem bys_set (s : List UInt8) (i : Nat) (x : UInt8) : (bys s).setIfInBounds i (bv x) = bys (s.set i x) := by
  unfold bys
  apply Array.toList_inj.1
  simp [List.map_set]
end Go.Proofs.Ytbcnibnkojnpiaa.P
