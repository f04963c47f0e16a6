/- Stage 5: what the laws' walks share. No condition. -/
import Derived.Test.YtngeabphjdfdgaaDoorJB
import Derived.Test.YtngeabphjdfdgaaDoorIF
import Derived.Test.YtngeabphjdfdgaaDoorIC
set_option linter.unusedVariables false
set_option linter.unusedSimpArgs false
set_option maxRecDepth 100000
namespace Go.Proofs.YtngeabphjdfdgaaDoor.P
open Go.RowKit Go.MuLone Go.Proofs.YtngeabphjdfdgaaDoor.W
theorem wpList_load_g5 {P : Program} {ops : Array Oper} {rest : List Oper} {o : Oper} {a : Act} {w : World} {Q : Exit → Act → World → Prop} (hgd : Region.wanted o (yielded ops a.tmps) = true) (ty : TypeId) (x : Operand) (ho : o.op = .load ty x)
    (g : Nat) (hx : a.eval x = .pointer (some ⟨g, 0, none⟩)) (t : TypeId) (cs : Array Value) (fr : Nat × Nat) (d : TypeDesc) (hg : w.heap[g]? = some (.cells cs t fr))
    (hu : P.underlying ty = some d) (hd : (match d with | .struct _ | .array _ _ => true | _ => false) = true) (hi : (P.info? ty).map (·.size) = some cs.size)
    (h : wpList P ops Q rest (a.put o.dst (.agg cs)) w) : wpList P ops Q (o :: rest) a w := by
  rw [wpList, if_pos hgd]
  refine .inl (wp_load_row ty x ho g hx t cs fr d hg hu ?_ hi h)
  cases d <;> simp_all
theorem own_h1 {w0 w w4 : World} {R : Asn} {Z1 c1 : Array Value} {T1 : TypeId} (hW : (w.alloc (.cells Z1 T1)).setRow w.heap.size c1 = w4) (h : Own w0 w R) (hR : Stable R) : Own w0 w4 (Star (blkA w.heap.size (.cells c1 T1)) R) := by
  subst hW
  exact (h.alloc hR (.cells Z1 T1)).setRow hR c1
theorem o_step5 {w0 w : World} {b : Nat} {R : Asn} {s : List UInt8} (h : Own w0 w (Star (memA b 8 s) R)) (hR : Stable R) (hT : PT w0) (hF : FT w0) (H : HS) (hH : H.ok) (S : RS) (hs : stepF 8 s 0 H = S) :
    Calls Tryd.prog 11 #[.pointer (some ⟨b, 0, none⟩), .int .i64 0, .agg (hC H)] w fun e w' => e = .returned (.tuple #[.agg (hC S.H), .agg (evC S.e), .int .i64 0]) ∧ Own w0 w' (Star (memA b 8 S.s) R) := by
  have := o_step h hR 0 (by decide) (by decide) H hH hT hF
  rw [hs] at this
  exact this
theorem wpList_build0r {P : Program} {ops : Array Oper} {rest : List Oper} {o : Oper} {a : Act} {w : World} {Q : Exit → Act → World → Prop} (hg : o.guard = none) (t : TypeId) (ho : o.op = .build t #[])
    (cells : Array Value) (hb : P.built t [] = some cells) (h : wpList P ops Q rest (a.put o.dst (.agg cells)) w) : wpList P ops Q (o :: rest) a w := by
  have hb2 : P.built t ((#[] : Array (Nat × Operand)).map fun (i, x) => (i, a.eval x)).toList = some cells := by simpa using hb
  exact wpList_plain hg fun _ hK => by
    refine wp_build t _ ho (by rw [hb2]; rfl) ?_
    rw [hb2]
    exact hK _ _ h
theorem built_hart0 : Tryd.prog.built 26 [] = some (hC HZ) := by kernel_rfl
theorem star_drop2 {X A B : Asn} {w : World} {F : Nat → Prop} (h : Star X (Star A B) w F) : Star X B w F := by
  obtain ⟨F1, F2, h1, ⟨G1, G2, k1, k2, kd, t1, t2⟩, hd, s1, s2⟩ := h
  exact ⟨F1, G2, h1, k2, fun x hx hy => hd x hx (t2 x hy), s1, fun x hx => s2 x (t2 x hx)⟩
/-- Hart and memory along a run. -/
def seqF (s : List UInt8) (H : HS) : Nat → RS
  | 0 => ⟨H, e0, s⟩
  | k + 1 => stepF 8 (seqF s H k).s 0 (seqF s H k).H
theorem seq_ok (s : List UInt8) {H : HS} (h : H.ok) : ∀ k, (seqF s H k).H.ok
  | 0 => h
  | k + 1 => step_ok (by decide) _ 0 (seq_ok s h k)
end Go.Proofs.YtngeabphjdfdgaaDoor.P
