/- Stage 5: what the statements are asked of, opened: rows of words, a world. No condition. -/
import Derived.Test.YtngeabphjdfdgaaDoorIF
import Derived.Test.YtngeabphjdfdgaaDoorIB
import Derived.ChangeSlices
set_option linter.unusedVariables false
set_option linter.unusedSimpArgs false
set_option maxRecDepth 100000
namespace Go.Proofs.YtngeabphjdfdgaaDoor.P
open Go.RowKit Go.MuLone Go.Proofs.YtngeabphjdfdgaaDoor.W
theorem wf_u32 {a : Int} (h : (Lit.int .u32 a).wf = true) : u32 a := by
  have h1 : (decide (0 ≤ a) && decide (a ≤ 4294967295)) = true := h
  rw [Bool.and_eq_true] at h1
  have h2 := of_decide_eq_true h1.1
  have h3 := of_decide_eq_true h1.2
  exact ⟨h2, by omega⟩
theorem addr_at (bl off j : Nat) : (Addr.add ⟨bl, off, none⟩ j) = ⟨bl, off + j, none⟩ := by
  unfold Addr.add; split
  · rename_i hz; rw [hz]; rfl
  · rfl
section
open Go.ChangeShapes Go.WideShapes Go.Deep
variable {H : Type} {enc : TypeId × Value → H} {w : World} {base : Nat} {spare : Nat → Bool} {held : Bool}
theorem open_u64s {n : Nat} {x : Value} {y : DataW H × List MemPlace} (h : DataW.trod enc Tryd.prog w base spare held n 32 [x] = some y) :
    ∃ (o : Option Addr) (len cap b f : Nat) (A : Nat → Int), x = .slice o len cap ∧ len ≤ 9223372036854775807 ∧ (0 < len → o = some ⟨b, f, none⟩ ∧ b < w.heap.size) ∧ ∀ i, i < len → Go.Proofs.YtngeabphjdfdgaaDoor.P.u64 (A i) ∧ w.cell? ⟨b, f + i, none⟩ = some (.int .u64 (A i)) := by
  rcases open_ints Tryd.underlying32 Tryd.underlying23 (by kernel_rfl) h with ⟨hcs, _⟩ | ⟨a, len, cap, zs, hcs, hb, hl, hm, hzs, hx, hcell, hsz⟩
  · injection hcs with hcs _
    exact ⟨none, 0, 0, 0, 0, fun _ => 0, hcs, by omega, fun h => absurd h (by omega), fun i h => absurd h (by omega)⟩
  · injection hcs with hcs _
    have hle : len ≤ zs.length := by rw [hzs]; split <;> omega
    unfold maxLen at hm
    obtain ⟨bl, off, sp⟩ := a
    by_cases h0 : 0 < len
    · have hsp : sp = none := by simpa [Addr.add] using World.cell?_spot (hcell 0 (by omega))
      subst hsp
      have hc : ∀ i, i < len → w.cell? ⟨bl, off + i, none⟩ = some (.int .u64 (zs.getD i 0)) := fun i hi => by rw [← addr_at]; exact hcell i (by omega)
      refine ⟨some ⟨bl, off, none⟩, len, cap, bl, off, fun i => zs.getD i 0, hcs, by omega, fun _ => ⟨rfl, cell_lt (hc 0 h0)⟩, fun i hi => ⟨?_, hc i hi⟩⟩
      have hi2 : i < zs.length := by omega
      have hm2 : zs.getD i 0 ∈ zs := by rw [List.getD_eq_getElem?_getD, List.getElem?_eq_getElem hi2]; exact List.getElem_mem hi2
      exact wf_u64 (hsz _ hm2)
    · exact ⟨some ⟨bl, off, sp⟩, len, cap, 0, 0, fun _ => 0, hcs, by omega, fun h => absurd h h0, fun i h => absurd h (by omega)⟩
theorem open_u32s {n : Nat} {x : Value} {y : DataW H × List MemPlace} (h : DataW.trod enc Tryd.prog w base spare held n 22 [x] = some y) :
    ∃ (o : Option Addr) (len cap b f : Nat) (A : Nat → Int), x = .slice o len cap ∧ len ≤ 9223372036854775807 ∧ (0 < len → o = some ⟨b, f, none⟩ ∧ b < w.heap.size) ∧ ∀ i, i < len → u32 (A i) ∧ w.cell? ⟨b, f + i, none⟩ = some (.int .u32 (A i)) := by
  rcases open_ints Tryd.underlying22 Tryd.underlying47 (by kernel_rfl) h with ⟨hcs, _⟩ | ⟨a, len, cap, zs, hcs, hb, hl, hm, hzs, hx, hcell, hsz⟩
  · injection hcs with hcs _
    exact ⟨none, 0, 0, 0, 0, fun _ => 0, hcs, by omega, fun h => absurd h (by omega), fun i h => absurd h (by omega)⟩
  · injection hcs with hcs _
    have hle : len ≤ zs.length := by rw [hzs]; split <;> omega
    unfold maxLen at hm
    obtain ⟨bl, off, sp⟩ := a
    by_cases h0 : 0 < len
    · have hsp : sp = none := by simpa [Addr.add] using World.cell?_spot (hcell 0 (by omega))
      subst hsp
      have hc : ∀ i, i < len → w.cell? ⟨bl, off + i, none⟩ = some (.int .u32 (zs.getD i 0)) := fun i hi => by rw [← addr_at]; exact hcell i (by omega)
      refine ⟨some ⟨bl, off, none⟩, len, cap, bl, off, fun i => zs.getD i 0, hcs, by omega, fun _ => ⟨rfl, cell_lt (hc 0 h0)⟩, fun i hi => ⟨?_, hc i hi⟩⟩
      have hi2 : i < zs.length := by omega
      have hm2 : zs.getD i 0 ∈ zs := by rw [List.getD_eq_getElem?_getD, List.getElem?_eq_getElem hi2]; exact List.getElem_mem hi2
      exact wf_u32 (hsz _ hm2)
    · exact ⟨some ⟨bl, off, sp⟩, len, cap, 0, 0, fun _ => 0, hcs, by omega, fun h => absurd h h0, fun i h => absurd h (by omega)⟩
theorem open_code {v : Value} {d : DataW H} {ps : List MemPlace} (hv : ∃ (o : Option Addr) (l c : Nat), v = .slice o l c) (h : DataW.Trod enc Tryd.prog w base spare held 22 v d ps) :
    ∃ (o : Option Addr) (len cap b f : Nat) (A : Nat → Int), v = .slice o len cap ∧ len ≤ 9223372036854775807 ∧ (0 < len → o = some ⟨b, f, none⟩ ∧ b < w.heap.size) ∧ ∀ i, i < len → u32 (A i) ∧ w.cell? ⟨b, f + i, none⟩ = some (.int .u32 (A i)) := by
  obtain ⟨fuel, hf⟩ := h
  obtain ⟨o, l, c, rfl⟩ := hv
  exact open_u32s hf
theorem open_world {v : Value} {d : DataW H} {ps : List MemPlace} {r : Reach} {b0 : Nat} (hv : Value.okWide Tryd.prog w r b0 34 v) (h : DataW.Trod enc Tryd.prog w base spare held 34 v d ps) :
    ∃ (oa ov oc : Option Addr) (na ca nv cv nc cc ba fa bv fv bc fc : Nat) (A V C : Nat → Int) (K : HS), v = .agg (wC (.slice oa na ca) (.slice ov nv cv) (.slice oc nc cc) K) ∧ K.ok ∧
      na ≤ 9223372036854775807 ∧ nv ≤ 9223372036854775807 ∧ nc ≤ 9223372036854775807 ∧
      (0 < na → oa = some ⟨ba, fa, none⟩ ∧ ba < w.heap.size) ∧ (∀ i, i < na → Go.Proofs.YtngeabphjdfdgaaDoor.P.u64 (A i) ∧ w.cell? ⟨ba, fa + i, none⟩ = some (.int .u64 (A i))) ∧
      (0 < nv → ov = some ⟨bv, fv, none⟩ ∧ bv < w.heap.size) ∧ (∀ i, i < nv → Go.Proofs.YtngeabphjdfdgaaDoor.P.u64 (V i) ∧ w.cell? ⟨bv, fv + i, none⟩ = some (.int .u64 (V i))) ∧
      (0 < nc → oc = some ⟨bc, fc, none⟩ ∧ bc < w.heap.size) ∧ (∀ i, i < nc → u32 (C i) ∧ w.cell? ⟨bc, fc + i, none⟩ = some (.int .u32 (C i))) := by
  obtain ⟨c, rfl, hsz⟩ := okWide_struct Tryd.underlying34 hv
  obtain ⟨fuel, hf⟩ := h
  obtain ⟨ys, n, _, hx, hl, hy, hg⟩ := DataW.trod_struct Tryd.underlying34 hf
  have e0 : Tryd.prog.cellsOf 34 = 38 := by kernel_rfl
  rw [e0] at hl
  obtain ⟨cs⟩ := c
  match ys, hy with
  | [y0, y1, y2, y3], _ =>
    have h0 : DataW.trod enc Tryd.prog w base spare held n 32 ((cs.drop 0).take (Tryd.prog.cellsOf 32)) = some y0 := hg 0 _ rfl
    have h1 : DataW.trod enc Tryd.prog w base spare held n 32 ((cs.drop 1).take (Tryd.prog.cellsOf 32)) = some y1 := hg 1 _ rfl
    have h2 : DataW.trod enc Tryd.prog w base spare held n 22 ((cs.drop 2).take (Tryd.prog.cellsOf 22)) = some y2 := hg 2 _ rfl
    have h3 : DataW.trod enc Tryd.prog w base spare held n 26 ((cs.drop 3).take (Tryd.prog.cellsOf 26)) = some y3 := hg 3 _ rfl
    rw [show Tryd.prog.cellsOf 32 = 1 by kernel_rfl] at h0 h1
    rw [show Tryd.prog.cellsOf 22 = 1 by kernel_rfl] at h2
    rw [show Tryd.prog.cellsOf 26 = 35 by kernel_rfl] at h3
    change cs.length = 38 at hl
    match cs, hl with
    | c0 :: c1 :: c2 :: rest, hl =>
      have hr : rest.length = 35 := by simpa using hl
      change DataW.trod enc Tryd.prog w base spare held n 32 [c0] = some y0 at h0
      change DataW.trod enc Tryd.prog w base spare held n 32 [c1] = some y1 at h1
      change DataW.trod enc Tryd.prog w base spare held n 22 [c2] = some y2 at h2
      change DataW.trod enc Tryd.prog w base spare held n 26 (rest.take 35) = some y3 at h3
      rw [List.take_of_length_le (by omega)] at h3
      obtain ⟨K, hK, ok⟩ := open_hart_c h3
      obtain ⟨oa, na, ca, ba, fa, A, rfl, a1, a2, a3⟩ := open_u64s h0
      obtain ⟨ov, nv, cv, bv, fv, V, rfl, v1, v2, v3⟩ := open_u64s h1
      obtain ⟨oc, nc, cc, bc, fc, C, rfl, q1, q2, q3⟩ := open_u32s h2
      refine ⟨oa, ov, oc, na, ca, nv, cv, nc, cc, ba, fa, bv, fv, bc, fc, A, V, C, K, ?_, ok, a1, v1, q1, a2, a3, v2, v3, q2, q3⟩
      rw [hK]
      rfl
end
end Go.Proofs.YtngeabphjdfdgaaDoor.P
