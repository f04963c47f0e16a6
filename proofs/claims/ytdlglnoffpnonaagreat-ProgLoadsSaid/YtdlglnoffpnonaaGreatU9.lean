/- Stage 12: two harts compared; laws for guarded operations. No condition. -/
import Derived.Test.YtdlglnoffpnonaaGreatPQ
import Derived.Laws.StructEq
import Derived.ChangeKeysEq
import Derived.OpenShut
import Derived.ProofKit
set_option linter.unusedVariables false
set_option linter.unusedSimpArgs false
set_option maxRecDepth 100000
namespace Go.Proofs.YtdlglnoffpnonaaGreat.P
open Go.RowKit Go.MuLone
structure HS where
  X : Nat → Int
  pc : Int
  hd : Bool
  at_ : Int
def xC (X : Nat → Int) : List Value := [.int .u64 (X 0), .int .u64 (X 1), .int .u64 (X 2), .int .u64 (X 3), .int .u64 (X 4), .int .u64 (X 5), .int .u64 (X 6), .int .u64 (X 7), .int .u64 (X 8), .int .u64 (X 9), .int .u64 (X 10), .int .u64 (X 11), .int .u64 (X 12), .int .u64 (X 13), .int .u64 (X 14), .int .u64 (X 15), .int .u64 (X 16), .int .u64 (X 17), .int .u64 (X 18), .int .u64 (X 19), .int .u64 (X 20), .int .u64 (X 21), .int .u64 (X 22), .int .u64 (X 23), .int .u64 (X 24), .int .u64 (X 25), .int .u64 (X 26), .int .u64 (X 27), .int .u64 (X 28), .int .u64 (X 29), .int .u64 (X 30), .int .u64 (X 31)]
def hC (H : HS) : Array Value := ⟨xC H.X ++ [.int .u64 H.pc, .bool H.hd, .int .u64 H.at_]⟩
theorem thirty2 {p : Nat → Prop} (h0 : p 0) (h1 : p 1) (h2 : p 2) (h3 : p 3) (h4 : p 4) (h5 : p 5) (h6 : p 6) (h7 : p 7) (h8 : p 8) (h9 : p 9) (h10 : p 10) (h11 : p 11) (h12 : p 12) (h13 : p 13) (h14 : p 14) (h15 : p 15) (h16 : p 16) (h17 : p 17) (h18 : p 18) (h19 : p 19) (h20 : p 20) (h21 : p 21) (h22 : p 22) (h23 : p 23) (h24 : p 24) (h25 : p 25) (h26 : p 26) (h27 : p 27) (h28 : p 28) (h29 : p 29) (h30 : p 30) (h31 : p 31) : ∀ i, i < 32 → p i
  | 0, _ => h0
  | 1, _ => h1
  | 2, _ => h2
  | 3, _ => h3
  | 4, _ => h4
  | 5, _ => h5
  | 6, _ => h6
  | 7, _ => h7
  | 8, _ => h8
  | 9, _ => h9
  | 10, _ => h10
  | 11, _ => h11
  | 12, _ => h12
  | 13, _ => h13
  | 14, _ => h14
  | 15, _ => h15
  | 16, _ => h16
  | 17, _ => h17
  | 18, _ => h18
  | 19, _ => h19
  | 20, _ => h20
  | 21, _ => h21
  | 22, _ => h22
  | 23, _ => h23
  | 24, _ => h24
  | 25, _ => h25
  | 26, _ => h26
  | 27, _ => h27
  | 28, _ => h28
  | 29, _ => h29
  | 30, _ => h30
  | 31, _ => h31
  | n + 32, h => absurd h (by omega)
theorem xC_get (X : Nat → Int) (i : Nat) (h : i < 32) : (xC X)[i]? = some (.int .u64 (X i)) := thirty2 (p := fun i => (xC X)[i]? = some (.int .u64 (X i))) rfl rfl rfl rfl rfl rfl rfl rfl rfl rfl rfl rfl rfl rfl rfl rfl rfl rfl rfl rfl rfl rfl rfl rfl rfl rfl rfl rfl rfl rfl rfl rfl i h
theorem xC_len (X : Nat → Int) : (xC X).length = 32 := rfl
theorem eq_nums (X : Nat → Int) (d : Nat) (w : World) : ∀ is : List Nat, (∀ i ∈ is, i < 32) → (Op.eqItems (d + 2) 26 1 ⟨xC X⟩ ⟨xC X⟩ is).run Tryz.prog w = .ok true w
  | [], _ => by simp [Op.eqItems]
  | i :: is, h => by
    have hp : (part 26 ⟨xC X⟩ (i * 1)).run Tryz.prog w = .ok (.int .u64 (X i)) w := run_part_plain w (by kernel_rfl) (by rw [Nat.mul_one]; exact (List.getElem?_toArray).trans (xC_get X i (h i (by simp))))
    have h2 := eq_nums X d w is (fun j hj => h j (by simp [hj]))
    have h1 : (Op.equalIn (d + 2) 26 (.int .u64 (X i)) (.int .u64 (X i))).run Tryz.prog w = .ok true w := by
      simp [Op.equalIn, Sem.run_bind, run_underlying Tryz.underlying26]
    rw [Nat.mul_one] at hp
    simp [Op.eqItems, Sem.run_bind, hp, h1, h2]
theorem eq_x (X : Nat → Int) (d : Nat) (w : World) : (Op.equalIn (d + 3) 27 (.agg ⟨xC X⟩) (.agg ⟨xC X⟩)).run Tryz.prog w = .ok true w := by
  obtain ⟨inf, hi⟩ := info_of_underlying Tryz.underlying26
  have e4 : Tryz.prog.cellsOf 26 = 1 := by kernel_rfl
  rw [run_equalIn_array w (d + 2) ⟨xC X⟩ ⟨xC X⟩ Tryz.underlying27 hi, e4]
  exact eq_nums X d w _ (fun i hi => by simpa using hi)
theorem eqF {P : Program} (d : Nat) (xs : Array Value) (w : World) : ∀ fs : List Field, (∀ f ∈ fs, ∃ a, (part f.type xs f.offset).run P w = .ok a w ∧ (Op.equalIn d f.type a a).run P w = .ok true w) → (Op.eqFields d xs xs fs).run P w = .ok true w
  | [], _ => by simp [Op.eqFields]
  | f :: fs, h => by
    obtain ⟨a, h1, h3⟩ := h f (by simp)
    have h4 := eqF d xs w fs (fun g hg => h g (by simp [hg]))
    by_cases hn : f.name = "_"
    · simp [Op.eqFields, hn, h4]
    · simp [Op.eqFields, hn, Sem.run_bind, h1, h3, h4]
set_option maxHeartbeats 1600000 in
theorem eqHd (K : HS) (d : Nat) (w : World) : (Op.equalIn (d + 4) 29 (.agg (hC K)) (.agg (hC K))).run Tryz.prog w = .ok true w := by
  have h1 : Tryz.prog.stoodInHeld 29 = false := by kernel_rfl
  have p0 : (part 27 (hC K) 0).run Tryz.prog w = .ok (.agg ⟨xC K.X⟩) w := by
    have ex : (hC K).extract 0 (0 + 32) = ⟨xC K.X⟩ := by kernel_rfl
    obtain ⟨inf, hi⟩ := info_of_underlying Tryz.underlying27
    have hs : (Tryz.prog.info? 27).map (·.size) = some 32 := by kernel_rfl
    rw [hi] at hs
    have hs2 : inf.size = 32 := by simpa using hs
    simp [part, isAgg, sizeOf, typeInfo, hi, hs2, run_underlying Tryz.underlying27, ex]
  have p1 : (part 26 (hC K) 32).run Tryz.prog w = .ok (.int .u64 K.pc) w := run_part_plain w (by kernel_rfl) rfl
  have p2 : (part 4 (hC K) 33).run Tryz.prog w = .ok (.bool K.hd) w := run_part_plain w (by kernel_rfl) rfl
  have p3 : (part 26 (hC K) 34).run Tryz.prog w = .ok (.int .u64 K.at_) w := run_part_plain w (by kernel_rfl) rfl
  have hx := eq_x K.X d w
  have hu : ∀ v : Int, (Op.equalIn (d + 3) 26 (.int .u64 v) (.int .u64 v)).run Tryz.prog w = .ok true w := fun v => by simp [Op.equalIn, Sem.run_bind, run_underlying Tryz.underlying26]
  have hb : ∀ v : Bool, (Op.equalIn (d + 3) 4 (.bool v) (.bool v)).run Tryz.prog w = .ok true w := fun v => by simp [Op.equalIn, Sem.run_bind, run_underlying Tryz.underlying4]
  have hf : Tryz.prog.underlying 29 = some (.struct (Tryz.prog.fieldsOf 29)) := by kernel_rfl
  have hl : (Tryz.prog.fieldsOf 29).toList.map (fun f => (f.type, f.offset)) = [(27, 0), (26, 32), (4, 33), (26, 34)] := by kernel_rfl
  refine (run_equalIn_struct w (d + 3) 29 (hC K) (hC K) hf h1).trans (eqF (d + 3) (hC K) w _ (fun f hm => ?_))
  have hm2 := List.mem_map_of_mem (f := fun f : Field => (f.type, f.offset)) hm
  rw [hl] at hm2
  generalize hC K = c at *
  generalize Tryz.prog.fieldsOf 29 = fs at *
  obtain ⟨nm, ty, of_, _⟩ := f
  simp only [List.mem_cons, List.not_mem_nil, or_false, Prod.mk.injEq] at hm2
  rcases hm2 with ⟨e1, e2⟩ | ⟨e1, e2⟩ | ⟨e1, e2⟩ | ⟨e1, e2⟩
  · exact ⟨_, by rw [e1, e2]; exact p0, by rw [e1]; exact hx⟩
  · exact ⟨_, by rw [e1, e2]; exact p1, by rw [e1]; exact hu _⟩
  · exact ⟨_, by rw [e1, e2]; exact p2, by rw [e1]; exact hb _⟩
  · exact ⟨_, by rw [e1, e2]; exact p3, by rw [e1]; exact hu _⟩
theorem eqH (K : HS) (w : World) : (Op.equalIn 10000 29 (.agg (hC K)) (.agg (hC K))).run Tryz.prog w = .ok true w := eqHd K 9996 w
theorem wpList_load_g5 {P : Program} {ops : Array Oper} {rest : List Oper} {o : Oper} {a : Act} {w : World} {Q : Exit → Act → World → Prop} (hgd : Region.wanted o (yielded ops a.tmps) = true) (ty : TypeId) (x : Operand) (ho : o.op = .load ty x)
    (g : Nat) (hx : a.eval x = .pointer (some ⟨g, 0, none⟩)) (t : TypeId) (cs : Array Value) (fr : Nat × Nat) (d : TypeDesc) (hg : w.heap[g]? = some (.cells cs t fr))
    (hu : P.underlying ty = some d) (hd : (match d with | .struct _ | .array _ _ => true | _ => false) = true) (hi : (P.info? ty).map (·.size) = some cs.size)
    (h : wpList P ops Q rest (a.put o.dst (.agg cs)) w) : wpList P ops Q (o :: rest) a w := by
  rw [wpList, if_pos hgd]
  refine .inl (wp_load_row ty x ho g hx t cs fr d hg hu ?_ hi h)
  cases d <;> simp_all
theorem wpList_eql_g {P : Program} {ops : Array Oper} {rest : List Oper} {o : Oper} {a : Act} {w : World} {Q : Exit → Act → World → Prop} (hgd : Region.wanted o (yielded ops a.tmps) = true) (ty ty2 : TypeId) (x y : Operand) (ho : o.op = .binOp .eql ty x y ty2) (u v : Array Value) (hx : a.eval x = .agg u) (hy : a.eval y = .agg v) (b : Bool) (hm : P.eqGuardType P.depth ty = false)
    (hrun : (binOp .eql ty (.agg u) (.agg v)).run P w = .ok (.bool b) w) (h : wpList P ops Q rest (a.put o.dst (.bool b)) w) : wpList P ops Q (o :: rest) a w := by
  rw [wpList, if_pos hgd]
  refine .inl ?_
  unfold Oper.wp
  have hg := run_eqGuard_agg (P := P) (w := w) (op := BinOp.eql) (t := ty) (x := x) (y := y) (xs := u) (ys := v) hm
  simp [execOp, ho, hx, hy, hrun, hg, Result.andThen]
  exact h
theorem egH5 : Tryz.prog.eqGuardType Tryz.prog.depth 29 = false := by kernel_rfl
theorem eqlH (K : HS) (w : World) : (binOp .eql 29 (.agg (hC K)) (.agg (hC K))).run Tryz.prog w = .ok (.bool true) w := by
  rw [run_eql_struct, eqH]; rfl
theorem eqlHC (a v : Int) (w : World) : (binOp .eql 29 (.agg (hartC a v)) (.agg (hartC a v))).run Tryz.prog w = .ok (.bool true) w := eqlH ⟨fun j => if j = 2 then a else 0, v, false, 0⟩ w
end Go.Proofs.YtdlglnoffpnonaaGreat.P
