/- Stage 5: what the laws' walks share. No condition. -/
import Derived.Test.YtngeabphjdfdgaaGreatDoorVA
import Derived.Test.YtngeabphjdfdgaaGreatDoorIF
import Derived.Test.YtngeabphjdfdgaaGreatDoorIC
import Derived.Test.YtngeabphjdfdgaaGreatDoorID
import Derived.ChangeSlices
set_option linter.unusedVariables false
set_option linter.unusedSimpArgs false
set_option maxRecDepth 100000
namespace Go.Proofs.YtngeabphjdfdgaaGreatDoor.P
open Go.RowKit Go.MuLone Go.Proofs.YtngeabphjdfdgaaGreatDoor.W
theorem wpList_load_g5 {P : Program} {ops : Array Oper} {rest : List Oper} {o : Oper} {a : Act} {w : World} {Q : Exit → Act → World → Prop} (hgd : Region.wanted o (yielded ops a.tmps) = true) (ty : TypeId) (x : Operand) (ho : o.op = .load ty x)
    (g : Nat) (hx : a.eval x = .pointer (some ⟨g, 0, none⟩)) (t : TypeId) (cs : Array Value) (fr : Nat × Nat) (d : TypeDesc) (hg : w.heap[g]? = some (.cells cs t fr))
    (hu : P.underlying ty = some d) (hd : (match d with | .struct _ | .array _ _ => true | _ => false) = true) (hi : (P.info? ty).map (·.size) = some cs.size)
    (h : wpList P ops Q rest (a.put o.dst (.agg cs)) w) : wpList P ops Q (o :: rest) a w := by
  rw [wpList, if_pos hgd]
  refine .inl (wp_load_row ty x ho g hx t cs fr d hg hu ?_ hi h)
  cases d <;> simp_all
theorem own_h1 {w0 w w4 : World} {R : Asn} {Z1 c1 : Array Value} {T1 : TypeId} (hW : (w.alloc (.cells Z1 T1)).setRow w.heap.size c1 = w4) (h : Own w0 w R) (hR : Stable R) : Own w0 w4 (Star (blkA w.heap.size (.cells c1 T1)) R) := by
  subst hW
  exact (h.alloc hR (.cells Z1 T1)).setRow hR c1
theorem o_step5 {w0 w : World} {b : Nat} {R : Asn} {s : List UInt8} (h : Own w0 w (Star (memA b 8 s) R)) (hR : Stable R) (hT : PT w0) (hF : FT w0) (H : HS) (hH : H.ok) (S : RS) (hs : stepF 8 s 0 H = S) :
    Calls Tryz.prog 7 #[.pointer (some ⟨b, 0, none⟩), .int .i64 0, .agg (hC H)] w fun e w' => e = .returned (.tuple #[.agg (hC S.H), .agg (evC S.e), .int .i64 0]) ∧ Own w0 w' (Star (memA b 8 S.s) R) := by
  have := o_step h hR 0 (by decide) (by decide) H hH hT hF
  rw [hs] at this
  exact this
theorem wpList_build0r {P : Program} {ops : Array Oper} {rest : List Oper} {o : Oper} {a : Act} {w : World} {Q : Exit → Act → World → Prop} (hg : o.guard = none) (t : TypeId) (ho : o.op = .build t #[])
    (cells : Array Value) (hb : P.built t [] = some cells) (h : wpList P ops Q rest (a.put o.dst (.agg cells)) w) : wpList P ops Q (o :: rest) a w := by
  have hb2 : P.built t ((#[] : Array (Nat × Operand)).map fun (i, x) => (i, a.eval x)).toList = some cells := by simpa using hb
  exact wpList_plain hg fun _ hK => by
    refine wp_build t _ ho (by rw [hb2]; rfl) ?_
    rw [hb2]
    exact hK _ _ h
theorem built_hart0 : Tryz.prog.built 27 [] = some (hC HZ) := by kernel_rfl
theorem star_drop2 {X A B : Asn} {w : World} {F : Nat → Prop} (h : Star X (Star A B) w F) : Star X B w F := by
  obtain ⟨F1, F2, h1, ⟨G1, G2, k1, k2, kd, t1, t2⟩, hd, s1, s2⟩ := h
  exact ⟨F1, G2, h1, k2, fun x hx hy => hd x hx (t2 x hy), s1, fun x hx => s2 x (t2 x hx)⟩
/-- Hart and memory along a run. -/
def seqF (s : List UInt8) (H : HS) : Nat → RS
  | 0 => ⟨H, e0, s⟩
  | k + 1 => stepF 8 (seqF s H k).s 0 (seqF s H k).H
theorem seq_ok (s : List UInt8) {H : HS} (h : H.ok) : ∀ k, (seqF s H k).H.ok
  | 0 => h
  | k + 1 => step_ok (by decide) _ 0 (seq_ok s h k)
end Go.Proofs.YtngeabphjdfdgaaGreatDoor.P
namespace Go.Proofs.YtngeabphjdfdgaaGreatDoor.P
open Go.RowKit Go.MuLone Go.Proofs.YtngeabphjdfdgaaGreatDoor.W
theorem wf_u32 {a : Int} (h : (Lit.int .u32 a).wf = true) : u32 a := by
  have h1 : (decide (0 ≤ a) && decide (a ≤ 4294967295)) = true := h
  rw [Bool.and_eq_true] at h1
  have h2 := of_decide_eq_true h1.1
  have h3 := of_decide_eq_true h1.2
  exact ⟨h2, by omega⟩
theorem addr_at (bl off j : Nat) : (Addr.add ⟨bl, off, none⟩ j) = ⟨bl, off + j, none⟩ := by
  unfold Addr.add; split
  · rename_i hz; rw [hz]; rfl
  · rfl
section
open Go.ChangeShapes Go.WideShapes Go.Deep
variable {H : Type} {enc : TypeId × Value → H} {w : World} {base : Nat} {spare : Nat → Bool} {held : Bool}
theorem open_u64s {n : Nat} {x : Value} {y : DataW H × List MemPlace} (h : DataW.trod enc Tryz.prog w base spare held n 22 [x] = some y) :
    ∃ (o : Option Addr) (len cap b f : Nat) (A : Nat → Int), x = .slice o len cap ∧ len ≤ 9223372036854775807 ∧ (0 < len → o = some ⟨b, f, none⟩ ∧ b < w.heap.size) ∧ ∀ i, i < len → Go.Proofs.YtngeabphjdfdgaaGreatDoor.P.u64 (A i) ∧ w.cell? ⟨b, f + i, none⟩ = some (.int .u64 (A i)) := by
  rcases open_ints Tryz.underlying22 Tryz.underlying24 (by kernel_rfl) h with ⟨hcs, _⟩ | ⟨a, len, cap, zs, hcs, hb, hl, hm, hzs, hx, hcell, hsz⟩
  · injection hcs with hcs _
    exact ⟨none, 0, 0, 0, 0, fun _ => 0, hcs, by omega, fun h => absurd h (by omega), fun i h => absurd h (by omega)⟩
  · injection hcs with hcs _
    have hle : len ≤ zs.length := by rw [hzs]; split <;> omega
    unfold maxLen at hm
    obtain ⟨bl, off, sp⟩ := a
    by_cases h0 : 0 < len
    · have hsp : sp = none := by simpa [Addr.add] using World.cell?_spot (hcell 0 (by omega))
      subst hsp
      have hc : ∀ i, i < len → w.cell? ⟨bl, off + i, none⟩ = some (.int .u64 (zs.getD i 0)) := fun i hi => by rw [← addr_at]; exact hcell i (by omega)
      refine ⟨some ⟨bl, off, none⟩, len, cap, bl, off, fun i => zs.getD i 0, hcs, by omega, fun _ => ⟨rfl, cell_lt (hc 0 h0)⟩, fun i hi => ⟨?_, hc i hi⟩⟩
      have hi2 : i < zs.length := by omega
      have hm2 : zs.getD i 0 ∈ zs := by rw [List.getD_eq_getElem?_getD, List.getElem?_eq_getElem hi2]; exact List.getElem_mem hi2
      exact wf_u64 (hsz _ hm2)
    · exact ⟨some ⟨bl, off, sp⟩, len, cap, 0, 0, fun _ => 0, hcs, by omega, fun h => absurd h h0, fun i h => absurd h (by omega)⟩
theorem open_u32s {n : Nat} {x : Value} {y : DataW H × List MemPlace} (h : DataW.trod enc Tryz.prog w base spare held n 23 [x] = some y) :
    ∃ (o : Option Addr) (len cap b f : Nat) (A : Nat → Int), x = .slice o len cap ∧ len ≤ 9223372036854775807 ∧ (0 < len → o = some ⟨b, f, none⟩ ∧ b < w.heap.size) ∧ ∀ i, i < len → u32 (A i) ∧ w.cell? ⟨b, f + i, none⟩ = some (.int .u32 (A i)) := by
  rcases open_ints Tryz.underlying23 Tryz.underlying49 (by kernel_rfl) h with ⟨hcs, _⟩ | ⟨a, len, cap, zs, hcs, hb, hl, hm, hzs, hx, hcell, hsz⟩
  · injection hcs with hcs _
    exact ⟨none, 0, 0, 0, 0, fun _ => 0, hcs, by omega, fun h => absurd h (by omega), fun i h => absurd h (by omega)⟩
  · injection hcs with hcs _
    have hle : len ≤ zs.length := by rw [hzs]; split <;> omega
    unfold maxLen at hm
    obtain ⟨bl, off, sp⟩ := a
    by_cases h0 : 0 < len
    · have hsp : sp = none := by simpa [Addr.add] using World.cell?_spot (hcell 0 (by omega))
      subst hsp
      have hc : ∀ i, i < len → w.cell? ⟨bl, off + i, none⟩ = some (.int .u32 (zs.getD i 0)) := fun i hi => by rw [← addr_at]; exact hcell i (by omega)
      refine ⟨some ⟨bl, off, none⟩, len, cap, bl, off, fun i => zs.getD i 0, hcs, by omega, fun _ => ⟨rfl, cell_lt (hc 0 h0)⟩, fun i hi => ⟨?_, hc i hi⟩⟩
      have hi2 : i < zs.length := by omega
      have hm2 : zs.getD i 0 ∈ zs := by rw [List.getD_eq_getElem?_getD, List.getElem?_eq_getElem hi2]; exact List.getElem_mem hi2
      exact wf_u32 (hsz _ hm2)
    · exact ⟨some ⟨bl, off, sp⟩, len, cap, 0, 0, fun _ => 0, hcs, by omega, fun h => absurd h h0, fun i h => absurd h (by omega)⟩
theorem open_code {v : Value} {d : DataW H} {ps : List MemPlace} (hv : ∃ (o : Option Addr) (l c : Nat), v = .slice o l c) (h : DataW.Trod enc Tryz.prog w base spare held 23 v d ps) :
    ∃ (o : Option Addr) (len cap b f : Nat) (A : Nat → Int), v = .slice o len cap ∧ len ≤ 9223372036854775807 ∧ (0 < len → o = some ⟨b, f, none⟩ ∧ b < w.heap.size) ∧ ∀ i, i < len → u32 (A i) ∧ w.cell? ⟨b, f + i, none⟩ = some (.int .u32 (A i)) := by
  obtain ⟨fuel, hf⟩ := h
  obtain ⟨o, l, c, rfl⟩ := hv
  exact open_u32s hf
theorem open_world {v : Value} {d : DataW H} {ps : List MemPlace} {r : Reach} {b0 : Nat} (hv : Value.okWide Tryz.prog w r b0 29 v) (h : DataW.Trod enc Tryz.prog w base spare held 29 v d ps) :
    ∃ (oa ov oc : Option Addr) (na ca nv cv nc cc ba fa bv fv bc fc : Nat) (A V C : Nat → Int) (K : HS), v = .agg (wC (.slice oa na ca) (.slice ov nv cv) (.slice oc nc cc) K) ∧ K.ok ∧
      na ≤ 9223372036854775807 ∧ nv ≤ 9223372036854775807 ∧ nc ≤ 9223372036854775807 ∧
      (0 < na → oa = some ⟨ba, fa, none⟩ ∧ ba < w.heap.size) ∧ (∀ i, i < na → Go.Proofs.YtngeabphjdfdgaaGreatDoor.P.u64 (A i) ∧ w.cell? ⟨ba, fa + i, none⟩ = some (.int .u64 (A i))) ∧
      (0 < nv → ov = some ⟨bv, fv, none⟩ ∧ bv < w.heap.size) ∧ (∀ i, i < nv → Go.Proofs.YtngeabphjdfdgaaGreatDoor.P.u64 (V i) ∧ w.cell? ⟨bv, fv + i, none⟩ = some (.int .u64 (V i))) ∧
      (0 < nc → oc = some ⟨bc, fc, none⟩ ∧ bc < w.heap.size) ∧ (∀ i, i < nc → u32 (C i) ∧ w.cell? ⟨bc, fc + i, none⟩ = some (.int .u32 (C i))) := by
  obtain ⟨c, rfl, hsz⟩ := okWide_struct Tryz.underlying29 hv
  obtain ⟨fuel, hf⟩ := h
  obtain ⟨ys, n, _, hx, hl, hy, hg⟩ := DataW.trod_struct Tryz.underlying29 hf
  have e0 : Tryz.prog.cellsOf 29 = 38 := by kernel_rfl
  rw [e0] at hl
  obtain ⟨cs⟩ := c
  match ys, hy with
  | [y0, y1, y2, y3], _ =>
    have h0 : DataW.trod enc Tryz.prog w base spare held n 22 ((cs.drop 0).take (Tryz.prog.cellsOf 22)) = some y0 := hg 0 _ rfl
    have h1 : DataW.trod enc Tryz.prog w base spare held n 22 ((cs.drop 1).take (Tryz.prog.cellsOf 22)) = some y1 := hg 1 _ rfl
    have h2 : DataW.trod enc Tryz.prog w base spare held n 23 ((cs.drop 2).take (Tryz.prog.cellsOf 23)) = some y2 := hg 2 _ rfl
    have h3 : DataW.trod enc Tryz.prog w base spare held n 27 ((cs.drop 3).take (Tryz.prog.cellsOf 27)) = some y3 := hg 3 _ rfl
    rw [show Tryz.prog.cellsOf 22 = 1 by kernel_rfl] at h0 h1
    rw [show Tryz.prog.cellsOf 23 = 1 by kernel_rfl] at h2
    rw [show Tryz.prog.cellsOf 27 = 35 by kernel_rfl] at h3
    change cs.length = 38 at hl
    match cs, hl with
    | c0 :: c1 :: c2 :: rest, hl =>
      have hr : rest.length = 35 := by simpa using hl
      change DataW.trod enc Tryz.prog w base spare held n 22 [c0] = some y0 at h0
      change DataW.trod enc Tryz.prog w base spare held n 22 [c1] = some y1 at h1
      change DataW.trod enc Tryz.prog w base spare held n 23 [c2] = some y2 at h2
      change DataW.trod enc Tryz.prog w base spare held n 27 (rest.take 35) = some y3 at h3
      rw [List.take_of_length_le (by omega)] at h3
      obtain ⟨K, hK, ok⟩ := open_hart_c h3
      obtain ⟨oa, na, ca, ba, fa, A, rfl, a1, a2, a3⟩ := open_u64s h0
      obtain ⟨ov, nv, cv, bv, fv, V, rfl, v1, v2, v3⟩ := open_u64s h1
      obtain ⟨oc, nc, cc, bc, fc, C, rfl, q1, q2, q3⟩ := open_u32s h2
      refine ⟨oa, ov, oc, na, ca, nv, cv, nc, cc, ba, fa, bv, fv, bc, fc, A, V, C, K, ?_, ok, a1, v1, q1, a2, a3, v2, v3, q2, q3⟩
      rw [hK]
      rfl
end
end Go.Proofs.YtngeabphjdfdgaaGreatDoor.P
