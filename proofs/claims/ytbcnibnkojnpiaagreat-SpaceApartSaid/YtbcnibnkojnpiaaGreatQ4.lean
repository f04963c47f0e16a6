/- Stage 3: copy and clear over a row of bytes, as equations. No condition. -/
import Derived.Test.YtbcnibnkojnpiaaGreatQ3
import Derived.Lib.SlBuf
import Derived.Lib.BufferWrite
set_option linter.unusedVariables false
namespace Go.Proofs.YtbcnibnkojnpiaaGreat.P
open Go.RowKit Go.MuLone
/-- The bytes behind a store of others from one on. -/
def putL (s : List UInt8) (at_ : Nat) (x : List UInt8) : List UInt8 := s.take at_ ++ (x ++ s.drop (at_ + x.length))
theorem putL_len (s : List UInt8) (at_ : Nat) (x : List UInt8) (h : at_ + x.length ≤ s.length) : (putL s at_ x).length = s.length := by
  unfold putL; simp; omega
theorem putL_nil (s : List UInt8) (at_ : Nat) : putL s at_ [] = s := by unfold putL; simp
theorem bys_put (s : List UInt8) (at_ : Nat) (x : List UInt8) : ((bys s).toList.take at_ ++ x.map bv ++ (bys s).toList.drop (at_ + x.length)).toArray = bys (putL s at_ x) := by
  unfold bys putL; simp
theorem ch_setRow (w : World) (g : Nat) (cs : Array Value) : Ch (· = g) w (w.setRow g cs) := Ch.setRow (S := (· = g)) (Ch.refl _ w) (.inl rfl) cs
theorem size_u8 : (Tryz.prog.info? 5).map (·.size) = some 1 := by kernel_rfl
theorem copy_str (g : Nat) (s : List UInt8) (at_ : Nat) (x : ByteArray) (hn : at_ + x.size ≤ s.length) (ty : TypeId) (w : World) (h : w.heap[g]? = some (.cells (bys s) 5)) :
    ∃ w', (Builtin.copy_ #[44, 9] ty #[partV g s.length at_ x.size, .string x]).run Tryz.prog w = .ok (goInt x.size) w' ∧ w'.heap[g]? = some (.cells (bys (putL s at_ x.data.toList)) 5) ∧ Ch (· = g) w w' := by
  have hx : x.data.toList.length = x.size := by simp
  by_cases h0 : x.size = 0
  · have := Go.Lib.run_copy_empty_string (P := Tryz.prog) w 44 9 ty 5 (some ⟨g, if s.length = at_ then 0 else at_, none⟩) x.size (s.length - at_) x Tryz.underlying44 (by rw [size_u8]; rfl) h0
    refine ⟨w, ?_, ?_, Ch.refl _ w⟩
    · unfold partV; rw [this, h0]; rfl
    · have e : x.data.toList = [] := List.eq_nil_of_length_eq_zero (by omega)
      rw [e, putL_nil]; exact h
  · have hne : ¬ s.length = at_ := by omega
    have := Go.Lib.run_copy_row_string (P := Tryz.prog) w 44 9 ty 5 g at_ x.size (s.length - at_) x (bys s) 5 Tryz.underlying44 size_u8 h (Nat.le_refl _) (by rw [bys_size]; exact hn)
    have e := bys_put s at_ x.data.toList
    rw [hx] at e
    refine ⟨w.setRow g (bys (putL s at_ x.data.toList)), ?_, setRow_heap _ _ _ _ _ _ h, ch_setRow _ _ _⟩
    unfold partV; rw [if_neg hne, this, ← e]
    rfl
theorem copy_row (g : Nat) (s : List UInt8) (a1 a2 n : Nat) (h1 : a1 + n ≤ s.length) (hn : 0 < n) (ty : TypeId) (w : World) (h : w.heap[g]? = some (.cells (bys s) 5)) (g2 : Nat) (s2 : List UInt8) (h3 : a2 + n ≤ s2.length) (hg2 : w.heap[g2]? = some (.cells (bys s2) 5)) :
    ∃ w', (Builtin.copy_ #[44, 44] ty #[partV g s.length a1 n, partV g2 s2.length a2 n]).run Tryz.prog w = .ok (goInt n) w' ∧ w'.heap[g]? = some (.cells (bys (putL s a1 ((s2.drop a2).take n))) 5) ∧ Ch (· = g) w w' := by
  have hl : ((s2.drop a2).take n).length = n := by simp; omega
  have hne1 : ¬ s.length = a1 := by omega
  have hne2 : ¬ s2.length = a2 := by omega
  have := run_copy_row (P := Tryz.prog) w 44 44 ty 5 g a1 n (s.length - a1) ⟨g2, a2, none⟩ n (s2.length - a2) (bys s) 5 (((s2.drop a2).take n).map bv) Tryz.underlying44 size_u8 h (by rw [List.length_map, hl]; exact (Nat.min_self n).symm) (fun j v hv => by
    have hj : j < n := by
      rcases Nat.lt_or_ge j n with hj | hj
      · exact hj
      · rw [List.getElem?_eq_none (by rw [List.length_map, hl]; exact hj)] at hv; cases hv
    have e2 : (Addr.add ⟨g2, a2, none⟩ j) = ⟨g2, a2 + j, none⟩ := by
      unfold Addr.add; split
      · rename_i hz; rw [hz]; rfl
      · rfl
    have hj2 : a2 + j < s2.length := by omega
    rw [e2, blk_cell hg2 (a2 + j) (bys_get s2 (a2 + j) hj2)]
    rw [List.getElem?_map, List.getElem?_take_of_lt hj, List.getElem?_drop, List.getElem?_eq_getElem hj2] at hv
    exact hv) (by rw [List.length_map, hl, bys_size]; exact h1) (bys_one _)
  have e := bys_put s a1 ((s2.drop a2).take n)
  rw [hl] at e
  rw [List.length_map, hl] at this
  refine ⟨w.setRow g (bys (putL s a1 ((s2.drop a2).take n))), ?_, setRow_heap _ _ _ _ _ _ h, ch_setRow _ _ _⟩
  unfold partV
  rw [if_neg hne1, if_neg hne2, this, e]
theorem clear_row (g : Nat) (s : List UInt8) (a n : Nat) (h1 : a + n ≤ s.length) (hn : 0 < n) (ty : TypeId) (w : World) (h : w.heap[g]? = some (.cells (bys s) 5)) :
    ∃ w', (Builtin.clear_ #[44] ty #[partV g s.length a n]).run Tryz.prog w = .ok (.tuple #[]) w' ∧ w'.heap[g]? = some (.cells (bys (putL s a (List.replicate n 0))) 5) ∧ Ch (· = g) w w' := by
  have hne : ¬ s.length = a := by omega
  have hst := run_storeCells_at Tryz.prog g a 5 (List.replicate n (Value.int .u8 0)) 0 (bys s) w h (by rw [List.length_replicate, bys_size]; simpa using h1) (by intro v hv; rw [List.eq_of_mem_replicate hv]; rfl)
  simp only [Nat.add_zero, List.length_replicate] at hst
  have hzc : (Builtin.zeroCells #[Value.int .u8 0] n).toList = List.replicate n (Value.int .u8 0) := by
    simp [Builtin.zeroCells]
    apply List.ext_getElem
    · simp
    · intro i h1 h2
      simp [Nat.mod_one]
  have e := bys_put s a (List.replicate n 0)
  rw [List.length_replicate, List.map_replicate, show bv 0 = Value.int .u8 0 from rfl] at e
  obtain ⟨m, rfl⟩ : ∃ m, n = m + 1 := ⟨n - 1, by omega⟩
  refine ⟨w.setRow g (bys (putL s a (List.replicate (m + 1) 0))), ?_, setRow_heap _ _ _ _ _ _ h, ch_setRow _ _ _⟩
  unfold partV
  rw [if_neg hne, ← e]
  simp [Builtin.clear_, run_underlying Tryz.underlying44, Tryz.zeroValue5, hzc, hst, show (Value.int .u8 0).cells = #[Value.int .u8 0] from rfl]
end Go.Proofs.YtbcnibnkojnpiaaGreat.P
