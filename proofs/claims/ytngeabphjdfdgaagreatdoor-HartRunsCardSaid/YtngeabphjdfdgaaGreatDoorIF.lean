/- Stage 5: a hart that comes in; two harts compared. No condition. -/
import Derived.Test.YtngeabphjdfdgaaGreatDoorIA
import Derived.Laws.StructEq
import Derived.ChangeKeysEq
import Derived.OpenShut
import Derived.ProofKit
set_option linter.unusedVariables false
set_option linter.unusedSimpArgs false
set_option maxRecDepth 100000
namespace Go.Proofs.YtngeabphjdfdgaaGreatDoor.P
open Go.RowKit Go.MuLone Go.Proofs.YtngeabphjdfdgaaGreatDoor.W
theorem xC_get (X : Nat → Int) (i : Nat) (h : i < 32) : (xC X)[i]? = some (.int .u64 (X i)) := thirty2 (p := fun i => (xC X)[i]? = some (.int .u64 (X i))) rfl rfl rfl rfl rfl rfl rfl rfl rfl rfl rfl rfl rfl rfl rfl rfl rfl rfl rfl rfl rfl rfl rfl rfl rfl rfl rfl rfl rfl rfl rfl rfl i h
theorem xC_len (X : Nat → Int) : (xC X).length = 32 := rfl
section
open Go.ChangeShapes Go.WideShapes Go.Deep
variable {H : Type} {enc : TypeId × Value → H} {w : World} {base : Nat} {spare : Nat → Bool} {held : Bool}
theorem open_x {fuel : Nat} {cs : List Value} {x : DataW H × List MemPlace} (h : DataW.trod enc Tryz.prog w base spare held fuel 25 cs = some x) : ∃ X : Nat → Int, cs = xC X ∧ ∀ i, i < 32 → u64 (X i) := by
  obtain ⟨ys, n, _, _, hl, hy, hf⟩ := DataW.trod_array Tryz.underlying25 h
  have e1 : Tryz.prog.cellsOf 24 = 1 := by kernel_rfl
  have e5 : Tryz.prog.cellsOf 25 = 32 := by kernel_rfl
  rw [e5] at hl
  rw [e1] at hf
  have hx : ∀ i, ∃ r : Int, i < 32 → cs[i]? = some (.int .u64 r) ∧ u64 r := by
    intro i
    by_cases hi : i < 32
    · have h1 := hf i hi
      rw [List.getElem?_eq_getElem (by omega)] at h1
      obtain ⟨r, e0, _, k0⟩ := DataW.trod_int Tryz.underlying24 h1
      refine ⟨r, fun _ => ⟨?_, wf_u64 k0⟩⟩
      have e2 := congrArg (fun l : List Value => l[0]?) e0
      simpa using e2
    · exact ⟨0, fun h => absurd h hi⟩
  obtain ⟨X, hX⟩ := Classical.axiomOfChoice hx
  refine ⟨X, ?_, fun i hi => (hX i hi).2⟩
  apply List.ext_getElem?
  intro i
  by_cases hi : i < 32
  · rw [(hX i hi).1, xC_get X i hi]
  · rw [List.getElem?_eq_none (by omega), List.getElem?_eq_none (by rw [xC_len]; omega)]
theorem sp1 {α : Type} (l : List α) (k : Nat) : l.drop k = (l.drop k).take 1 ++ l.drop (k + 1) := by
  rw [← List.drop_drop, List.take_append_drop]
theorem open_hart_c {fuel : Nat} {cs : List Value} {x : DataW H × List MemPlace} (h : DataW.trod enc Tryz.prog w base spare held fuel 27 cs = some x) : ∃ K : HS, cs = (hC K).toList ∧ K.ok := by
  obtain ⟨ys, n, _, hx, hl, hy, hg⟩ := DataW.trod_struct Tryz.underlying27 h
  have e0 : Tryz.prog.cellsOf 27 = 35 := by kernel_rfl
  rw [e0] at hl
  match ys, hy with
  | [y0, y1, y2, y3], _ =>
    have h0 : DataW.trod enc Tryz.prog w base spare held n 25 ((cs.drop 0).take (Tryz.prog.cellsOf 25)) = some y0 := hg 0 _ rfl
    have h1 : DataW.trod enc Tryz.prog w base spare held n 24 ((cs.drop 32).take (Tryz.prog.cellsOf 24)) = some y1 := hg 1 _ rfl
    have h2 : DataW.trod enc Tryz.prog w base spare held n 4 ((cs.drop 33).take (Tryz.prog.cellsOf 4)) = some y2 := hg 2 _ rfl
    have h3 : DataW.trod enc Tryz.prog w base spare held n 24 ((cs.drop 34).take (Tryz.prog.cellsOf 24)) = some y3 := hg 3 _ rfl
    rw [show Tryz.prog.cellsOf 25 = 32 by kernel_rfl] at h0
    rw [show Tryz.prog.cellsOf 24 = 1 by kernel_rfl] at h1 h3
    rw [show Tryz.prog.cellsOf 4 = 1 by kernel_rfl] at h2
    obtain ⟨X, q0, k0⟩ := open_x h0
    obtain ⟨p, q1, _, k1⟩ := DataW.trod_int Tryz.underlying24 h1
    obtain ⟨d, q2, _⟩ := DataW.trod_bool Tryz.underlying4 h2
    obtain ⟨a, q3, _, k3⟩ := DataW.trod_int Tryz.underlying24 h3
    refine ⟨⟨X, p, d, a⟩, ?_, k0, wf_u64 k1, wf_u64 k3⟩
    have z : cs.drop 35 = [] := List.drop_eq_nil_of_le (by omega)
    have s0 : cs = cs.take 32 ++ cs.drop 32 := (List.take_append_drop 32 cs).symm
    rw [s0, sp1 cs 32, sp1 cs (32 + 1), sp1 cs (32 + 1 + 1)]
    rw [List.drop_zero] at q0
    rw [q0, q1, show cs.drop (32 + 1) = cs.drop 33 from rfl, q2, show cs.drop (32 + 1 + 1) = cs.drop 34 from rfl, q3, show cs.drop (32 + 1 + 1 + 1) = [] from z]
    rfl
theorem open_hart {v : Value} {d : DataW H} {ps : List MemPlace} {r : Reach} {b0 : Nat} (hv : Value.okWide Tryz.prog w r b0 27 v) (h : DataW.Trod enc Tryz.prog w base spare held 27 v d ps) : ∃ K : HS, v = .agg (hC K) ∧ K.ok := by
  obtain ⟨c, rfl, hsz⟩ := okWide_struct Tryz.underlying27 hv
  obtain ⟨fuel, hf⟩ := h
  obtain ⟨K, hK, ok⟩ := open_hart_c hf
  refine ⟨K, ?_, ok⟩
  have e : c = hC K := Array.toList_inj.1 hK
  rw [e]
end
theorem eq_nums (X : Nat → Int) (d : Nat) (w : World) : ∀ is : List Nat, (∀ i ∈ is, i < 32) → (Op.eqItems (d + 2) 24 1 ⟨xC X⟩ ⟨xC X⟩ is).run Tryz.prog w = .ok true w
  | [], _ => by simp [Op.eqItems]
  | i :: is, h => by
    have hp : (part 24 ⟨xC X⟩ (i * 1)).run Tryz.prog w = .ok (.int .u64 (X i)) w := run_part_plain w (by kernel_rfl) (by rw [Nat.mul_one]; exact (List.getElem?_toArray).trans (xC_get X i (h i (by simp))))
    have h2 := eq_nums X d w is (fun j hj => h j (by simp [hj]))
    have h1 : (Op.equalIn (d + 2) 24 (.int .u64 (X i)) (.int .u64 (X i))).run Tryz.prog w = .ok true w := by
      simp [Op.equalIn, Sem.run_bind, run_underlying Tryz.underlying24]
    rw [Nat.mul_one] at hp
    simp [Op.eqItems, Sem.run_bind, hp, h1, h2]
theorem eq_x (X : Nat → Int) (d : Nat) (w : World) : (Op.equalIn (d + 3) 25 (.agg ⟨xC X⟩) (.agg ⟨xC X⟩)).run Tryz.prog w = .ok true w := by
  obtain ⟨inf, hi⟩ := info_of_underlying Tryz.underlying24
  have e4 : Tryz.prog.cellsOf 24 = 1 := by kernel_rfl
  rw [run_equalIn_array w (d + 2) ⟨xC X⟩ ⟨xC X⟩ Tryz.underlying25 hi, e4]
  exact eq_nums X d w _ (fun i hi => by simpa using hi)
theorem eqF {P : Program} (d : Nat) (xs : Array Value) (w : World) : ∀ fs : List Field, (∀ f ∈ fs, ∃ a, (part f.type xs f.offset).run P w = .ok a w ∧ (Op.equalIn d f.type a a).run P w = .ok true w) → (Op.eqFields d xs xs fs).run P w = .ok true w
  | [], _ => by simp [Op.eqFields]
  | f :: fs, h => by
    obtain ⟨a, h1, h3⟩ := h f (by simp)
    have h4 := eqF d xs w fs (fun g hg => h g (by simp [hg]))
    by_cases hn : f.name = "_"
    · simp [Op.eqFields, hn, h4]
    · simp [Op.eqFields, hn, Sem.run_bind, h1, h3, h4]
set_option maxHeartbeats 1600000 in
theorem eqHd (K : HS) (d : Nat) (w : World) : (Op.equalIn (d + 4) 27 (.agg (hC K)) (.agg (hC K))).run Tryz.prog w = .ok true w := by
  have h1 : Tryz.prog.stoodInHeld 27 = false := by kernel_rfl
  have p0 : (part 25 (hC K) 0).run Tryz.prog w = .ok (.agg ⟨xC K.X⟩) w := by
    have ex : (hC K).extract 0 (0 + 32) = ⟨xC K.X⟩ := by kernel_rfl
    obtain ⟨inf, hi⟩ := info_of_underlying Tryz.underlying25
    have hs : (Tryz.prog.info? 25).map (·.size) = some 32 := by kernel_rfl
    rw [hi] at hs
    have hs2 : inf.size = 32 := by simpa using hs
    simp [part, isAgg, sizeOf, typeInfo, hi, hs2, run_underlying Tryz.underlying25, ex]
  have p1 : (part 24 (hC K) 32).run Tryz.prog w = .ok (.int .u64 K.pc) w := run_part_plain w (by kernel_rfl) rfl
  have p2 : (part 4 (hC K) 33).run Tryz.prog w = .ok (.bool K.hd) w := run_part_plain w (by kernel_rfl) rfl
  have p3 : (part 24 (hC K) 34).run Tryz.prog w = .ok (.int .u64 K.at_) w := run_part_plain w (by kernel_rfl) rfl
  have hx := eq_x K.X d w
  have hu : ∀ v : Int, (Op.equalIn (d + 3) 24 (.int .u64 v) (.int .u64 v)).run Tryz.prog w = .ok true w := fun v => by simp [Op.equalIn, Sem.run_bind, run_underlying Tryz.underlying24]
  have hb : ∀ v : Bool, (Op.equalIn (d + 3) 4 (.bool v) (.bool v)).run Tryz.prog w = .ok true w := fun v => by simp [Op.equalIn, Sem.run_bind, run_underlying Tryz.underlying4]
  have hf : Tryz.prog.underlying 27 = some (.struct (Tryz.prog.fieldsOf 27)) := by kernel_rfl
  have hl : (Tryz.prog.fieldsOf 27).toList.map (fun f => (f.type, f.offset)) = [(25, 0), (24, 32), (4, 33), (24, 34)] := by kernel_rfl
  refine (run_equalIn_struct w (d + 3) 27 (hC K) (hC K) hf h1).trans (eqF (d + 3) (hC K) w _ (fun f hm => ?_))
  have hm2 := List.mem_map_of_mem (f := fun f : Field => (f.type, f.offset)) hm
  rw [hl] at hm2
  generalize hC K = c at *
  generalize Tryz.prog.fieldsOf 27 = fs at *
  obtain ⟨nm, ty, of_, _⟩ := f
  simp only [List.mem_cons, List.not_mem_nil, or_false, Prod.mk.injEq] at hm2
  rcases hm2 with ⟨e1, e2⟩ | ⟨e1, e2⟩ | ⟨e1, e2⟩ | ⟨e1, e2⟩
  · exact ⟨_, by rw [e1, e2]; exact p0, by rw [e1]; exact hx⟩
  · exact ⟨_, by rw [e1, e2]; exact p1, by rw [e1]; exact hu _⟩
  · exact ⟨_, by rw [e1, e2]; exact p2, by rw [e1]; exact hb _⟩
  · exact ⟨_, by rw [e1, e2]; exact p3, by rw [e1]; exact hu _⟩
theorem eqH (K : HS) (w : World) : (Op.equalIn 10000 27 (.agg (hC K)) (.agg (hC K))).run Tryz.prog w = .ok true w := eqHd K 9996 w
end Go.Proofs.YtngeabphjdfdgaaGreatDoor.P
