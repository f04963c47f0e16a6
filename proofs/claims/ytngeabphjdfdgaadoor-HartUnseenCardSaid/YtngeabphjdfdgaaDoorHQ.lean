/- Stage 5: what a step's copies in memory come to. No condition. -/
import Derived.Test.YtngeabphjdfdgaaDoorHP
import Derived.Deep.QuietTactic
import Derived.Deep.RegionHeld3
import Derived.Deep.RegionWith
import Derived.Laws.Tables
set_option linter.unusedVariables false
set_option linter.unusedSimpArgs false
set_option maxRecDepth 100000
namespace Go.Proofs.YtngeabphjdfdgaaDoor.P
open Go.RowKit Go.MuLone Go.Proofs.YtngeabphjdfdgaaDoor.W
theorem o_framesH {w0 w : World} {b fr : Nat} {s : List UInt8} {R : Asn} (h : Own w0 w (Star (memA b fr s) R)) (w1 : World) (hh : w1.heap = w.heap) : Calls Tryd.prog 19 #[.pointer (some ⟨b, 0, none⟩)] w1 fun e w' => e = .returned (.int .i64 fr) ∧ w' = w1 := by
  obtain ⟨F, y, t, hM, _⟩ := h.left.get
  have hM1 : MemO w1 b y fr s t := by unfold MemO at hM ⊢; rw [hh]; exact hM
  exact c_frames b y fr s t w1 hM1
theorem blk_setRow {w : World} {B : Nat} {cs cs' : Array Value} {T : TypeId} (h : w.heap[B]? = some (.cells cs T)) : (w.setRow B cs').heap[B]? = some (.cells cs' T) := by
  unfold World.setRow; simp only [Array.getElem?_modify, h]; simp
theorem size_setRow (w : World) (B : Nat) (cs : Array Value) : (w.setRow B cs).heap.size = w.heap.size := by simp [World.setRow]
theorem Own.setRow {w0 w : World} {B : Nat} {cs : Array Value} {T : TypeId} {R : Asn} (h : Own w0 w (Star (blkA B (.cells cs T)) R)) (hR : Stable R) (cs' : Array Value) : Own w0 (w.setRow B cs') (Star (blkA B (.cells cs' T)) R) :=
  h.step hR (fun F hF => ⟨fun x => x = B, ⟨rfl, blk_setRow hF.2⟩, fun x hx => ⟨.inl (by rw [hx]; exact hF.1), by rw [hx, size_setRow]; exact blk_lt hF.2⟩, Ch.setRow (Ch.refl _ _) (.inl hF.1) cs'⟩)
theorem evC_info (e : EvS) : (Tryd.prog.info? 39).map (·.size) = some (evC e).size := by
  rw [show (evC e).size = 3 from rfl]; kernel_rfl
theorem evC_all1 (e : EvS) : (evC e).all (·.oneCell') = true := by simp [evC, Value.oneCell']
/-- A hart is loaded out of its block. -/
theorem ex_hart {w : World} {hb : Nat} {G : HS} {e : Operand → Value} {d : Option Tmp} {x : Operand} {ty : TypeId} {p : String} {af : Array Edge} {gd : Option (Nat × Bool)} (h : w.heap[hb]? = some (.cells (hC G) 26)) (hx : e x = .pointer (some ⟨hb, 0, none⟩)) : (execOp e ⟨d, .load 26 x, ty, p, af, gd⟩).run Tryd.prog w = .ok (.value (.agg (hC G))) w := by
  unfold execOp
  simp only [hx, Instr.loadAt, Instr.sureAddr, Sem.run_bind, Sem.run_pure, Result.andThen_ok, ldH h]
theorem ld_after {w : World} {sb : Nat} {I : InS} {a b m : Int} {A : HS} {e : EvS} {ld st : Value} (h : w.heap[sb]? = some (.cells (sC I a b m A e ld st) 69)) : (loadVar 26 ⟨sb, 8, none⟩).run Tryd.prog w = .ok (.agg (hC A)) w :=
  run_loadVar_mid w sb 8 26 (hC A).toList _ (fun j v hv => by
    have hj : j < 35 := (List.getElem?_eq_some_iff.1 hv).1
    refine blk_cell h (8 + j) ?_
    rw [← hv]
    rcases (by omega : j < 32 ∨ j = 32 ∨ j = 33 ∨ j = 34) with h | rfl | rfl | rfl
    · rw [sC_x I a b m A e ld st j h, Array.getElem?_toList, hC_x A j h]
    · rfl
    · rfl
    · rfl) Tryd.underlying26 rfl (by rw [show (hC A).toList.length = 35 from rfl]; kernel_rfl)
theorem ld_event {w : World} {sb : Nat} {I : InS} {a b m : Int} {A : HS} {e : EvS} {ld st : Value} (h : w.heap[sb]? = some (.cells (sC I a b m A e ld st) 69)) : (loadVar 39 ⟨sb, 43, none⟩).run Tryd.prog w = .ok (.agg (evC e)) w :=
  run_loadVar_mid w sb 43 39 (evC e).toList _ (fun j v hv => by
    have hj : j < 3 := (List.getElem?_eq_some_iff.1 hv).1
    refine blk_cell h (43 + j) ?_
    rw [← hv]
    rcases (by omega : j = 0 ∨ j = 1 ∨ j = 2) with rfl | rfl | rfl <;> rfl) Tryd.underlying39 rfl (by rw [show (evC e).toList.length = 3 from rfl]; kernel_rfl)
theorem ex_after {w : World} {sb : Nat} {I : InS} {a b m : Int} {A : HS} {ev : EvS} {ld st : Value} {e : Operand → Value} {d : Option Tmp} {x : Operand} {ty : TypeId} {p : String} {af : Array Edge} {gd : Option (Nat × Bool)} (h : w.heap[sb]? = some (.cells (sC I a b m A ev ld st) 69)) (hx : e x = .pointer (some ⟨sb, 8, none⟩)) : (execOp e ⟨d, .load 26 x, ty, p, af, gd⟩).run Tryd.prog w = .ok (.value (.agg (hC A))) w := by
  unfold execOp
  simp only [hx, Instr.loadAt, Instr.sureAddr, Sem.run_bind, Sem.run_pure, Result.andThen_ok, ld_after h]
theorem ex_event {w : World} {sb : Nat} {I : InS} {a b m : Int} {A : HS} {ev : EvS} {ld st : Value} {e : Operand → Value} {d : Option Tmp} {x : Operand} {ty : TypeId} {p : String} {af : Array Edge} {gd : Option (Nat × Bool)} (h : w.heap[sb]? = some (.cells (sC I a b m A ev ld st) 69)) (hx : e x = .pointer (some ⟨sb, 43, none⟩)) : (execOp e ⟨d, .load 39 x, ty, p, af, gd⟩).run Tryd.prog w = .ok (.value (.agg (evC ev))) w := by
  unfold execOp
  simp only [hx, Instr.loadAt, Instr.sureAddr, Sem.run_bind, Sem.run_pure, Result.andThen_ok, ld_event h]
/-- The results of a step: two cells and a number. -/
theorem res_step {fn : Func} {p q u : Tmp} {ty ty' : TypeId} (h : fn.results = #[.cell p ty, .cell q ty', .tmp u]) (tmps : Array Value) (P : Program) (w : World) (g k : Nat) (v0 v1 : Value)
    (hp : tmps.getD p undef = .pointer (some ⟨g, 0, none⟩)) (hq : tmps.getD q undef = .pointer (some ⟨k, 0, none⟩)) (hl : (loadVar ty ⟨g, 0, none⟩).run P w = .ok v0 w) (hl' : (loadVar ty' ⟨k, 0, none⟩).run P w = .ok v1 w) :
    (results fn tmps).run P w = .ok (.tuple #[v0, v1, tmps.getD u undef]) w := by
  have hp' : tmps[p]?.getD undef = .pointer (some ⟨g, 0, none⟩) := by simpa using hp
  have hq' : tmps[q]?.getD undef = .pointer (some ⟨k, 0, none⟩) := by simpa using hq
  simp [results, h, hp', hq', asAddr, hl, hl']
theorem ldE {w : World} {g : Nat} {e : EvS} (hg : w.heap[g]? = some (.cells (evC e) 39)) : (loadVar 39 ⟨g, 0, none⟩).run Tryd.prog w = .ok (.agg (evC e)) w :=
  run_loadVar_row w g 39 39 _ (0, 0) _ hg Tryd.underlying39 rfl (evC_info e)
end Go.Proofs.YtngeabphjdfdgaaDoor.P
