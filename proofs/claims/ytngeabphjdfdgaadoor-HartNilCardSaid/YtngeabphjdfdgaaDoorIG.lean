/- Stage 5: HartNil. No condition but what the program's tables hold. -/
import Derived.Test.YtngeabphjdfdgaaDoorIC
import Derived.Test.YtngeabphjdfdgaaDoorIE
import Derived.Test.YtngeabphjdfdgaaDoorIF
set_option linter.unusedVariables false
set_option linter.unusedSimpArgs false
set_option maxRecDepth 100000
namespace Go.Proofs.YtngeabphjdfdgaaDoor.P
open Go.RowKit Go.MuLone Go.Proofs.YtngeabphjdfdgaaDoor.W
theorem wpList_load_g5 {P : Program} {ops : Array Oper} {rest : List Oper} {o : Oper} {a : Act} {w : World} {Q : Exit → Act → World → Prop} (hgd : Region.wanted o (yielded ops a.tmps) = true) (ty : TypeId) (x : Operand) (ho : o.op = .load ty x)
    (g : Nat) (hx : a.eval x = .pointer (some ⟨g, 0, none⟩)) (t : TypeId) (cs : Array Value) (fr : Nat × Nat) (d : TypeDesc) (hg : w.heap[g]? = some (.cells cs t fr))
    (hu : P.underlying ty = some d) (hd : (match d with | .struct _ | .array _ _ => true | _ => false) = true) (hi : (P.info? ty).map (·.size) = some cs.size)
    (h : wpList P ops Q rest (a.put o.dst (.agg cs)) w) : wpList P ops Q (o :: rest) a w := by
  rw [wpList, if_pos hgd]
  refine .inl (wp_load_row ty x ho g hx t cs fr d hg hu ?_ hi h)
  cases d <;> simp_all
theorem wpList_build0_g {P : Program} {ops : Array Oper} {rest : List Oper} {o : Oper} {a : Act} {w : World} {Q : Exit → Act → World → Prop} (hgd : Region.wanted o (yielded ops a.tmps) = true) (t : TypeId) (ho : o.op = .build t #[])
    (cells : Array Value) (hb : P.built t [] = some cells) (h : wpList P ops Q rest (a.put o.dst (.agg cells)) w) : wpList P ops Q (o :: rest) a w := by
  have hb2 : P.built t ((#[] : Array (Nat × Operand)).map fun (i, x) => (i, a.eval x)).toList = some cells := by simpa using hb
  rw [wpList, if_pos hgd]
  refine .inl (wp_build t _ ho (by rw [hb2]; rfl) ?_)
  rw [hb2]
  exact h
theorem own_h2 {w0 w : World} {R : Asn} {Z1 Z2 c1 : Array Value} {T1 T2 : TypeId} (h : Own w0 w R) (hR : Stable R) : Own w0 (((w.alloc (.cells Z1 T1)).alloc (.cells Z2 T2)).setRow w.heap.size c1) (Star (blkA (w.heap.size + 1) (.cells Z2 T2)) (Star (blkA w.heap.size (.cells c1 T1)) R)) := by
  have k1 := h.alloc hR (.cells Z1 T1)
  have k2 := k1.alloc (stable_star (stable_blk _ _) hR) (.cells Z2 T2)
  rw [World.size_alloc] at k2
  exact (k2.swap2.setRow (stable_star (stable_blk _ _) hR) c1).swap2
set_option maxHeartbeats 6400000 in
theorem l_nil5 (w : World) (hT : PT w) (hF : FT w) (r : Int) (hr : i64 r) (H : HS) : Calls Tryd.prog 5 #[.int .i64 r, .agg (hC H)] w fun e w' => e = .returned (.bool true) ∧ Gr w w' := by
  have K0 := Lib.hid ((Own.start (Gr.refl w)).alloc stable_emp (.cells (hC H) 26))
  have S0 := Lib.hid (stable_star (stable_blk w.heap.size (.cells (hC H) 26)) stable_emp)
  have hT1 := hT.gr K0.out.sub
  have hF1 := hF.gr K0.out.sub
  go_enter Tryd.func5, Tryd.ntmps5
  go_upto_region 1 with fail
  generalize (World.alloc w _) = w1 at *
  generalize w.heap.size = hb at *
  have CS := Lib.hid (l_shown5 w1 hT1 hF1)
  go_upto_region 2 with (go_at_call 8; refine CS.out.mono ?_; rintro e w2 ⟨rfl, g2⟩; have K1 := Lib.hid (K0.out.gr S0.out g2); clear g2)
  clear CS K0 hT1 hF1 hT hF
  go_upto_region 3 with (first
    | (refine wpList_load_row rfl 26 _ rfl _ rfl 26 _ (0, 0) _ K1.out.blk Tryd.underlying26 rfl (hC_info _) ?_)
    | (go_at_call 11; refine (o_step_nil _ r hr H).mono ?_; rintro e w3 ⟨rfl, g3⟩; have K2 := Lib.hid (K1.out.gr S0.out g3); clear g3)
    | (refine wpList_store_row rfl 26 _ _ rfl _ _ rfl rfl 26 _ (blk_alloc _ (blk_new _ _)) (hC_info _) rfl (hC_all1 _) ?_; generalize hW : (World.setRow _ _ _) = w4; have K3 : RowKit.Hid (Own w w4 (Star (blkA (w3.heap.size + 1) (.cells #[.int .i64 0, .int .u64 0, .bool false] 39)) (Star (blkA w3.heap.size (.cells (hC HZ) 26)) (Star (blkA hb (.cells (hC H) 26)) emp)))) := Lib.hid (by rw [← hW]; exact own_h2 K2.out S0.out); clear hW; generalize w3.heap.size + 1 = eb at *; generalize w3.heap.size = zb at *)
    | (refine wpList_store_row rfl 39 _ _ rfl _ _ rfl rfl 39 _ K3.out.blk (evC_info _) rfl (evC_all1 _) ?_; have K4 := Lib.hid (K3.out.setRow (stable_star (stable_blk zb _) S0.out) (evC e0)); generalize (World.setRow _ _ _) = w5 at *))
  have z0 := K4.out.blk
  have y0 := blk_cell z0 0 (v := .int .i64 0) rfl
  have y1 := blk_cell z0 1 (v := .int .u64 0) rfl
  have y2 := blk_cell z0 2 (v := .bool false) rfl
  have lz := ldH K4.out.right.blk
  have eqt := eqH HZ
  clear z0
  clear lz
  go_wp2_with (first
    | (refine wpList_build0_g (by first | rfl | decide) 26 rfl _ built_hart ?_)
    | (refine wpList_load_g5 (by first | rfl | decide) 26 _ rfl _ rfl 26 _ (0, 0) _ K4.out.right.blk Tryd.underlying26 rfl (hC_info _) ?_))
  go_ret
  exact ⟨rfl, K4.out.sub⟩
end Go.Proofs.YtngeabphjdfdgaaDoor.P
