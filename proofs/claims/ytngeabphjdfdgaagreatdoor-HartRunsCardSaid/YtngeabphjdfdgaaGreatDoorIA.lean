/- Stage 5: what a step's copies in memory come to. No condition. -/
import Derived.Test.YtngeabphjdfdgaaGreatDoorHP
import Derived.Deep.QuietTactic
import Derived.Deep.RegionHeld3
import Derived.Deep.RegionWith
import Derived.Laws.Tables
set_option linter.unusedVariables false
set_option linter.unusedSimpArgs false
set_option maxRecDepth 100000
namespace Go.Proofs.YtngeabphjdfdgaaGreatDoor.P
open Go.RowKit Go.MuLone Go.Proofs.YtngeabphjdfdgaaGreatDoor.W
theorem o_framesH {w0 w : World} {b fr : Nat} {s : List UInt8} {R : Asn} (h : Own w0 w (Star (memA b fr s) R)) (w1 : World) (hh : w1.heap = w.heap) : Calls Tryz.prog 15 #[.pointer (some ⟨b, 0, none⟩)] w1 fun e w' => e = .returned (.int .i64 fr) ∧ w' = w1 := by
  obtain ⟨F, y, t, hM, _⟩ := h.left.get
  have hM1 : MemO w1 b y fr s t := by unfold MemO at hM ⊢; rw [hh]; exact hM
  exact c_frames b y fr s t w1 hM1
theorem blk_setRow {w : World} {B : Nat} {cs cs' : Array Value} {T : TypeId} (h : w.heap[B]? = some (.cells cs T)) : (w.setRow B cs').heap[B]? = some (.cells cs' T) := by
  unfold World.setRow; simp only [Array.getElem?_modify, h]; simp
theorem size_setRow (w : World) (B : Nat) (cs : Array Value) : (w.setRow B cs).heap.size = w.heap.size := by simp [World.setRow]
theorem Own.setRow {w0 w : World} {B : Nat} {cs : Array Value} {T : TypeId} {R : Asn} (h : Own w0 w (Star (blkA B (.cells cs T)) R)) (hR : Stable R) (cs' : Array Value) : Own w0 (w.setRow B cs') (Star (blkA B (.cells cs' T)) R) :=
  h.step hR (fun F hF => ⟨fun x => x = B, ⟨rfl, blk_setRow hF.2⟩, fun x hx => ⟨.inl (by rw [hx]; exact hF.1), by rw [hx, size_setRow]; exact blk_lt hF.2⟩, Ch.setRow (Ch.refl _ _) (.inl hF.1) cs'⟩)
theorem evC_info (e : EvS) : (Tryz.prog.info? 36).map (·.size) = some (evC e).size := by
  rw [show (evC e).size = 3 from rfl]; kernel_rfl
theorem evC_all1 (e : EvS) : (evC e).all (·.oneCell') = true := by simp [evC, Value.oneCell']
/-- A hart is loaded out of its block. -/
theorem ex_hart {w : World} {hb : Nat} {G : HS} {e : Operand → Value} {d : Option Tmp} {x : Operand} {ty : TypeId} {p : String} {af : Array Edge} {gd : Option (Nat × Bool)} (h : w.heap[hb]? = some (.cells (hC G) 27)) (hx : e x = .pointer (some ⟨hb, 0, none⟩)) : (execOp e ⟨d, .load 27 x, ty, p, af, gd⟩).run Tryz.prog w = .ok (.value (.agg (hC G))) w := by
  unfold execOp
  simp only [hx, Instr.loadAt, Instr.sureAddr, Sem.run_bind, Sem.run_pure, Result.andThen_ok, ldH h]
theorem ld_after {w : World} {sb : Nat} {I : InS} {a b m : Int} {A : HS} {e : EvS} {ld st : Value} (h : w.heap[sb]? = some (.cells (sC I a b m A e ld st) 67)) : (loadVar 27 ⟨sb, 8, none⟩).run Tryz.prog w = .ok (.agg (hC A)) w :=
  run_loadVar_mid w sb 8 27 (hC A).toList _ (fun j v hv => by
    have hj : j < 35 := (List.getElem?_eq_some_iff.1 hv).1
    refine blk_cell h (8 + j) ?_
    rw [← hv]
    rcases (by omega : j < 32 ∨ j = 32 ∨ j = 33 ∨ j = 34) with h | rfl | rfl | rfl
    · rw [sC_x I a b m A e ld st j h, Array.getElem?_toList, hC_x A j h]
    · rfl
    · rfl
    · rfl) Tryz.underlying27 rfl (by rw [show (hC A).toList.length = 35 from rfl]; kernel_rfl)
theorem ld_event {w : World} {sb : Nat} {I : InS} {a b m : Int} {A : HS} {e : EvS} {ld st : Value} (h : w.heap[sb]? = some (.cells (sC I a b m A e ld st) 67)) : (loadVar 36 ⟨sb, 43, none⟩).run Tryz.prog w = .ok (.agg (evC e)) w :=
  run_loadVar_mid w sb 43 36 (evC e).toList _ (fun j v hv => by
    have hj : j < 3 := (List.getElem?_eq_some_iff.1 hv).1
    refine blk_cell h (43 + j) ?_
    rw [← hv]
    rcases (by omega : j = 0 ∨ j = 1 ∨ j = 2) with rfl | rfl | rfl <;> rfl) Tryz.underlying36 rfl (by rw [show (evC e).toList.length = 3 from rfl]; kernel_rfl)
theorem ex_after {w : World} {sb : Nat} {I : InS} {a b m : Int} {A : HS} {ev : EvS} {ld st : Value} {e : Operand → Value} {d : Option Tmp} {x : Operand} {ty : TypeId} {p : String} {af : Array Edge} {gd : Option (Nat × Bool)} (h : w.heap[sb]? = some (.cells (sC I a b m A ev ld st) 67)) (hx : e x = .pointer (some ⟨sb, 8, none⟩)) : (execOp e ⟨d, .load 27 x, ty, p, af, gd⟩).run Tryz.prog w = .ok (.value (.agg (hC A))) w := by
  unfold execOp
  simp only [hx, Instr.loadAt, Instr.sureAddr, Sem.run_bind, Sem.run_pure, Result.andThen_ok, ld_after h]
theorem ex_event {w : World} {sb : Nat} {I : InS} {a b m : Int} {A : HS} {ev : EvS} {ld st : Value} {e : Operand → Value} {d : Option Tmp} {x : Operand} {ty : TypeId} {p : String} {af : Array Edge} {gd : Option (Nat × Bool)} (h : w.heap[sb]? = some (.cells (sC I a b m A ev ld st) 67)) (hx : e x = .pointer (some ⟨sb, 43, none⟩)) : (execOp e ⟨d, .load 36 x, ty, p, af, gd⟩).run Tryz.prog w = .ok (.value (.agg (evC ev))) w := by
  unfold execOp
  simp only [hx, Instr.loadAt, Instr.sureAddr, Sem.run_bind, Sem.run_pure, Result.andThen_ok, ld_event h]
/-- The results of a step: two cells and a number. -/
theorem res_step {fn : Func} {p q u : Tmp} {ty ty' : TypeId} (h : fn.results = #[.cell p ty, .cell q ty', .tmp u]) (tmps : Array Value) (P : Program) (w : World) (g k : Nat) (v0 v1 : Value)
    (hp : tmps.getD p undef = .pointer (some ⟨g, 0, none⟩)) (hq : tmps.getD q undef = .pointer (some ⟨k, 0, none⟩)) (hl : (loadVar ty ⟨g, 0, none⟩).run P w = .ok v0 w) (hl' : (loadVar ty' ⟨k, 0, none⟩).run P w = .ok v1 w) :
    (results fn tmps).run P w = .ok (.tuple #[v0, v1, tmps.getD u undef]) w := by
  have hp' : tmps[p]?.getD undef = .pointer (some ⟨g, 0, none⟩) := by simpa using hp
  have hq' : tmps[q]?.getD undef = .pointer (some ⟨k, 0, none⟩) := by simpa using hq
  simp [results, h, hp', hq', asAddr, hl, hl']
theorem ldE {w : World} {g : Nat} {e : EvS} (hg : w.heap[g]? = some (.cells (evC e) 36)) : (loadVar 36 ⟨g, 0, none⟩).run Tryz.prog w = .ok (.agg (evC e)) w :=
  run_loadVar_row w g 36 36 _ (0, 0) _ hg Tryz.underlying36 rfl (evC_info e)
end Go.Proofs.YtngeabphjdfdgaaGreatDoor.P
namespace Go.Proofs.YtngeabphjdfdgaaGreatDoor.P
open Go.RowKit Go.MuLone Go.Proofs.YtngeabphjdfdgaaGreatDoor.W
theorem built_step (I : InS) (a b m : Int) (G : HS) : Tryz.prog.built 67 [(0, .agg #[.int .i64 I.op, .int .i64 (I.rd : Int), .int .i64 (I.a : Int), .int .i64 (I.b : Int), .int .i64 I.i]), (1, .int .u64 a), (2, .int .u64 b), (3, .int .u64 m), (4, .agg (hC G))] = some (sC I a b m G e0 .nilFunc .nilFunc) := by kernel_rfl
theorem ex_step {w : World} {I : InS} {a b m : Int} {G : HS} {x0 x1 x2 x3 x4 : Operand} {e : Operand → Value} {d : Option Tmp} {ty : TypeId} {p : String} {af : Array Edge} {gd : Option (Nat × Bool)}
    (h0 : e x0 = .agg #[.int .i64 I.op, .int .i64 (I.rd : Int), .int .i64 (I.a : Int), .int .i64 (I.b : Int), .int .i64 I.i]) (h1 : e x1 = .int .u64 a) (h2 : e x2 = .int .u64 b) (h3 : e x3 = .int .u64 m) (h4 : e x4 = .agg (hC G)) :
    (execOp e ⟨d, .build 67 #[(0, x0), (1, x1), (2, x2), (3, x3), (4, x4)], ty, p, af, gd⟩).run Tryz.prog w = .ok (.value (.agg (sC I a b m G e0 .nilFunc .nilFunc))) w := by
  have hb : Tryz.prog.built 67 ((#[(0, x0), (1, x1), (2, x2), (3, x3), (4, x4)] : Array (Nat × Operand)).map fun (i, x) => (i, e x)).toList = some (sC I a b m G e0 .nilFunc .nilFunc) := by
    simp only [List.map_toArray, List.map_cons, List.map_nil, h0, h1, h2, h3, h4]
    exact built_step I a b m G
  unfold execOp
  simp only [Sem.run_bind, run_build w 67 _ _ hb, Result.andThen_ok]
  rfl
end Go.Proofs.YtngeabphjdfdgaaGreatDoor.P
namespace Go.Proofs.YtngeabphjdfdgaaGreatDoor.P
open Go.RowKit Go.MuLone Go.Proofs.YtngeabphjdfdgaaGreatDoor.W
set_option maxHeartbeats 6400000 in
theorem o_step_fetch {w0 w : World} {b fr : Nat} {s : List UInt8} {R : Asn} (h : Own w0 w (Star (memA b fr s) R)) (hR : Stable R) (r : Int) (hr0 : 0 ≤ r) (hr1 : r < fr) (H : HS) (hH : H.ok) (hT : PT w0) (hF : FT w0) (V : Int) (hV : rchV fr s r H.pc 4 3 = V) (hB : rchB fr s r H.pc 4 3 = false) :
    Calls Tryz.prog 7 #[.pointer (some ⟨b, 0, none⟩), .int .i64 r, .agg (hC H)] w fun e w' => e = .returned (.tuple #[.agg (hC (H.set 0 0)), evV ⟨4, H.pc, false⟩, .int .i64 0]) ∧ Own w0 w' (Star (memA b fr s) R) := by
  have hi := step_in h hR r H
  have hl := o_mlen h
  clear h
  go_enter Tryz.func7, Tryz.ntmps7
  go_upto_region 1 with fail
  generalize (World.alloc _ (.cells _ 36)) = w1 at *
  generalize w.heap.size + 1 + 1 + 1 + 1 = eb at *
  generalize w.heap.size + 1 + 1 + 1 = zb at *
  generalize w.heap.size + 1 + 1 = hb at *
  generalize w.heap.size + 1 = rb at *
  generalize w.heap.size = mb at *
  have HI := Lib.hid hi
  have c0 := blk_cell hi.right.blk 0 (v := .pointer (some ⟨b, 0, none⟩)) rfl
  have c1 := blk_cell hi.right.right.blk 0 (v := .int .i64 r) rfl
  have CF := Lib.hid (o_framesH hi)
  clear hi
  have d1 : ¬ r < 0 := by omega
  have d2 : ¬ (fr : Int) ≤ r := by omega
  go_wp2_with fail
  have c2 := blk_cell HI.out.right.right.right.blk 0 (hC_x H 0 (by decide))
  have f2 := blk_frozen HI.out.right.right.right.blk 0
  go_quiet ((go_at_call 15; exact Calls.quiet_of_same (CF.out _ rfl)))
  have S0 := stable_star (stable_mem b fr s) (stable_box mb rb b r (stable_star (stable_blk zb (.cells (hC HZ) 27)) (stable_star (stable_blk eb (.cells (evC e0) 36)) hR)))
  have k2 := (HI.out.gr (stable_star (stable_mem b fr s) (stable_box mb rb b r (stable_star (stable_blk hb _) (stable_star (stable_blk zb _) (stable_star (stable_blk eb _) hR))))) (gr_dN2 w1 nq)).mono (fun F h => st4 h)
  have k3 := k2.set S0 0 (.int .u64 0)
  rw [hC_setx H 0 0 (by decide)] at k3
  have HS0 := Lib.hid S0
  have K3 := Lib.hid k3
  have c0' : (w1.drewN nq).cell? ⟨mb, 0, none⟩ = _ := c0
  have c1' : (w1.drewN nq).cell? ⟨rb, 0, none⟩ = _ := c1
  have c2' : (w1.drewN nq).cell? ⟨hb, 0, none⟩ = _ := c2
  have f2' : (w1.drewN nq).frozen? ⟨hb, 0, none⟩ = _ := f2
  clear k2 k3 HI c0 c1 c2 f2 S0 CF
  generalize w1.drewN nq = w2 at *
  go_upto_region 4 with fail
  obtain ⟨G, hG⟩ : ∃ G, H.set 0 0 = G := ⟨_, rfl⟩
  rw [hG] at K3
  have p1 : G.pc = H.pc := by rw [← hG]; rfl
  have c0 := blk_cell K3.out.right.right.blk 0 (v := .pointer (some ⟨b, 0, none⟩)) rfl
  have c1 := blk_cell K3.out.right.right.right.blk 0 (v := .int .i64 r) rfl
  have c2 := blk_cell K3.out.blk 32 (v := .int .u64 H.pc) (by rw [← p1]; rfl)
  clear c0' c1' c2' f2'
  generalize World.setCell w2 ⟨hb, 0, none⟩ _ = w3 at *
  have S1 := Lib.hid (stable_star (stable_blk hb (.cells (hC G) 27)) (stable_box mb rb b r (stable_star (stable_blk zb (.cells (hC HZ) 27)) (stable_star (stable_blk eb (.cells (evC e0) 36)) hR))))
  have CR := Lib.hid (o_reach K3.out.swap2 S1.out r H.pc 4 3 hH.2.1 ⟨by omega, by omega⟩ (by decide) V false hV hB)
  have SK := Lib.hid (stable_star (stable_blk hb (.cells (hC G) 27)) (stable_star (stable_mem b fr s) (stable_star (stable_blk mb (.cells #[.pointer (some ⟨b, 0, none⟩)] 31)) (stable_star (stable_blk rb (.cells #[.int .i64 r] 3)) (stable_star (stable_blk zb (.cells (hC HZ) 27)) (stable_star (stable_blk eb (.cells (evC e0) 36)) (hR)))))))
  have ST1 := Lib.hid (stable_star (stable_blk hb (.cells (hC G) 27)) (stable_star (stable_mem b fr s) (stable_star (stable_blk mb (.cells #[.pointer (some ⟨b, 0, none⟩)] 31)) (stable_star (stable_blk rb (.cells #[.int .i64 r] 3)) (stable_star (stable_blk eb (.cells (evC e0) 36)) (hR))))))
  have ST2 := Lib.hid (stable_star (stable_blk zb (.cells (hC G) 27)) (stable_star (stable_blk hb (.cells (hC G) 27)) (stable_star (stable_mem b fr s) (stable_star (stable_blk mb (.cells #[.pointer (some ⟨b, 0, none⟩)] 31)) (stable_star (stable_blk rb (.cells #[.int .i64 r] 3)) (hR))))))
  clear hV hB
  go_wp2_with (go_at_call 16; refine CR.out.mono ?_; rintro e w4 ⟨rfl, h4⟩; have K4 := Lib.hid h4.swap2; clear h4)
  have KD := Lib.hid (K4.out.drew SK.out)
  clear CR K3 c0 c1 c2 HS0 S1
  refine wp_region_held_drew (S := fun w' => w'.heap[hb]? = some (.cells (hC G) 27)) (by kernel_rfl) KD.out.blk (fun hH => ?_)
  refine wpAnyH_take (i := 0) (oi := { dst := some 38, op := Go.Op.load 27 (Go.Operand.tmp 5), type := 27, pos := "hart.go:36", after := #[], guard := none }) (v := .agg (hC G)) rfl (by kernel_rfl) (by kernel_rfl) (by kernel_rfl) (fun _ _ _ h => h) (Or.inl ⟨by rfl, fun w' hS' => ex_hart hS' rfl⟩) hH ?_
  try simp only [Act.put, List.setIfInBounds_toArray, List.set_cons_zero, List.set_cons_succ]
  refine wpAnyH_take (i := 1) (oi := { dst := some 39, op := Go.Op.fieldAddr 27 (Go.Operand.tmp 5) 1, type := 0, pos := "hart.go:36", after := #[{ on := 4, ground := Go.Ground.gcOnly Go.Departure.lateStores }], guard := none }) (v := .pointer (some ⟨hb, 32, none⟩)) rfl (by kernel_rfl) (by kernel_rfl) (by kernel_rfl) (fun _ _ _ h => h) (Or.inl ⟨by rfl, fun w' hS' => by first | rfl | (go_simp; done) | (go_simp; rfl)⟩) hH ?_
  try simp only [Act.put, List.setIfInBounds_toArray, List.set_cons_zero, List.set_cons_succ]
  refine wpAnyH_take (i := 2) (oi := { dst := some 40, op := Go.Op.load 24 (Go.Operand.tmp 39), type := 24, pos := "hart.go:36", after := #[{ on := 1, ground := Go.Ground.data }, { on := 4, ground := Go.Ground.gcOnly Go.Departure.lateStores }], guard := none }) (v := .int .u64 G.pc) rfl (by kernel_rfl) (by kernel_rfl) (by kernel_rfl) (fun _ _ _ h => h) (Or.inl ⟨by rfl, fun w' hS' => by have c := blk_cell hS' 32 (v := .int .u64 (G.pc)) rfl; go_simp⟩) hH ?_
  try simp only [Act.put, List.setIfInBounds_toArray, List.set_cons_zero, List.set_cons_succ]
  refine wpAnyH_take (i := 3) (oi := { dst := some 41, op := Go.Op.build 36 #[(0, Go.Operand.const (Go.Value.int Go.IntKind.i64 4)), (1, Go.Operand.tmp 40)], type := 36, pos := "hart.go:36", after := #[{ on := 2, ground := Go.Ground.data }, { on := 4, ground := Go.Ground.gcOnly Go.Departure.lateStores }], guard := none }) (v := .agg (evC ⟨4, G.pc, false⟩)) rfl (by kernel_rfl) (by kernel_rfl) (by kernel_rfl) (fun _ _ _ h => h) (Or.inl ⟨by rfl, fun w' hS' => by first | rfl | (go_simp; done) | (go_simp; rfl)⟩) hH ?_
  try simp only [Act.put, List.setIfInBounds_toArray, List.set_cons_zero, List.set_cons_succ]
  have Z1 := Lib.hid (KD.out.mono (fun F h => st5 h))
  refine wpAnyH_ready (rs := [4]) (by kernel_rfl) (by simp) ?_
  refine AllReadyH.cons (o := { dst := none, op := Go.Op.store 27 (Go.Operand.tmp 6) (Go.Operand.tmp 38), type := 0, pos := "hart.go:36", after := #[{ on := 0, ground := Go.Ground.data }, { on := 0, ground := Go.Ground.phase }, { on := 1, ground := Go.Ground.textOnly Go.Departure.lateStores }, { on := 2, ground := Go.Ground.textOnly Go.Departure.lateStores }, { on := 3, ground := Go.Ground.textOnly Go.Departure.lateStores }], guard := none }) rfl (fun K' hK => ?_) AllReadyH.nil
  rw [if_pos (by rfl)]
  refine wp_store_row 27 _ _ rfl zb (hC G) rfl rfl 27 _ Z1.out.blk (hC_info _) rfl (hC_all1 _) ?_
  have Z2 := Lib.hid ((Z1.out.setRow ST1.out (hC G)).mono (fun F h => st6 h))
  refine hK.out _ _ (Z2.out.right.right.blk) (fun hH2 => ?_)
  clear hK K'
  try simp only [Act.put, List.setIfInBounds_toArray, List.set_cons_zero, List.set_cons_succ]
  refine wpAnyH_ready (rs := [5]) (by kernel_rfl) (by simp) ?_
  refine AllReadyH.cons (o := { dst := none, op := Go.Op.store 36 (Go.Operand.tmp 7) (Go.Operand.tmp 41), type := 0, pos := "hart.go:36", after := #[{ on := 3, ground := Go.Ground.data }, { on := 4, ground := Go.Ground.chain }, { on := 0, ground := Go.Ground.phase }, { on := 1, ground := Go.Ground.phase }, { on := 2, ground := Go.Ground.phase }, { on := 3, ground := Go.Ground.phase }, { on := 4, ground := Go.Ground.phase }], guard := none }) rfl (fun K' hK => ?_) AllReadyH.nil
  rw [if_pos (by rfl)]
  refine wp_store_row 36 _ _ rfl eb (evC ⟨4, G.pc, false⟩) rfl rfl 36 _ Z2.out.blk (evC_info _) rfl (evC_all1 _) ?_
  have Z3 := Lib.hid (Z2.out.setRow ST2.out (evC ⟨4, G.pc, false⟩))
  refine hK.out _ _ (Z3.out.right.right.blk) (fun hH3 => ?_)
  clear hK K'
  try simp only [Act.put, List.setIfInBounds_toArray, List.set_cons_zero, List.set_cons_succ]
  refine wpAnyH_take (i := 6) (oi := { dst := some 8, op := Go.Op.assign (Go.Operand.const (Go.Value.int Go.IntKind.i64 0)), type := 37, pos := "hart.go:36", after := #[{ on := 5, ground := Go.Ground.chain }, { on := 0, ground := Go.Ground.phase }, { on := 1, ground := Go.Ground.phase }, { on := 2, ground := Go.Ground.phase }, { on := 3, ground := Go.Ground.phase }, { on := 4, ground := Go.Ground.phase }, { on := 5, ground := Go.Ground.phase }], guard := none }) (v := .int .i64 0) rfl (by kernel_rfl) (by kernel_rfl) (by kernel_rfl) (fun _ _ _ h => h) (Or.inl ⟨by rfl, fun w' hS' => by first | rfl | (go_simp; done) | (go_simp; rfl)⟩) hH3 ?_
  try simp only [Act.put, List.setIfInBounds_toArray, List.set_cons_zero, List.set_cons_succ]
  refine wpAnyH_done (by kernel_rfl) ?_ _
  go_wp2_with fail
  refine bodyPost_ret (res_step rfl _ _ _ zb eb _ _ rfl rfl (ldH Z3.out.right.blk) (ldE Z3.out.blk)) rfl ⟨?_, Z3.out.right.right.right.drop2.drop2⟩
  rw [hG, ← p1]
  rfl
end Go.Proofs.YtngeabphjdfdgaaGreatDoor.P
namespace Go.Proofs.YtngeabphjdfdgaaGreatDoor.P
open Go.RowKit Go.MuLone Go.Proofs.YtngeabphjdfdgaaGreatDoor.W
set_option maxHeartbeats 6400000 in
theorem o_step_bad {w0 w : World} {b fr : Nat} {s : List UInt8} {R : Asn} (h : Own w0 w (Star (memA b fr s) R)) (hR : Stable R) (r : Int) (hr0 : 0 ≤ r) (hr1 : r < fr) (H : HS) (hH : H.ok) (hT : PT w0) (hF : FT w0) (V : Int) (hV : rchV fr s r H.pc 4 3 = V) (hB : rchB fr s r H.pc 4 3 = true) (x : Int) (hx : loadV s V 4 = x) (hx4 : u32 x) (dop drd da db di DE : Int) (hdv : decV x = iv dop drd da db di) (hde : decE x = DE) (hne : (DE != 0) = true) :
    Calls Tryz.prog 7 #[.pointer (some ⟨b, 0, none⟩), .int .i64 r, .agg (hC H)] w fun e w' => e = .returned (.tuple #[.agg (hC (H.set 0 0)), evV ⟨3, 0, false⟩, .int .i64 0]) ∧ Own w0 w' (Star (memA b fr s) R) := by
  have hi := step_in h hR r H
  have hl := o_mlen h
  clear h
  go_enter Tryz.func7, Tryz.ntmps7
  go_upto_region 1 with fail
  generalize (World.alloc _ (.cells _ 36)) = w1 at *
  generalize w.heap.size + 1 + 1 + 1 + 1 = eb at *
  generalize w.heap.size + 1 + 1 + 1 = zb at *
  generalize w.heap.size + 1 + 1 = hb at *
  generalize w.heap.size + 1 = rb at *
  generalize w.heap.size = mb at *
  have HI := Lib.hid hi
  have c0 := blk_cell hi.right.blk 0 (v := .pointer (some ⟨b, 0, none⟩)) rfl
  have c1 := blk_cell hi.right.right.blk 0 (v := .int .i64 r) rfl
  have CF := Lib.hid (o_framesH hi)
  clear hi
  have d1 : ¬ r < 0 := by omega
  have d2 : ¬ (fr : Int) ≤ r := by omega
  go_wp2_with fail
  have c2 := blk_cell HI.out.right.right.right.blk 0 (hC_x H 0 (by decide))
  have f2 := blk_frozen HI.out.right.right.right.blk 0
  go_quiet ((go_at_call 15; exact Calls.quiet_of_same (CF.out _ rfl)))
  have S0 := stable_star (stable_mem b fr s) (stable_box mb rb b r (stable_star (stable_blk zb (.cells (hC HZ) 27)) (stable_star (stable_blk eb (.cells (evC e0) 36)) hR)))
  have k2 := (HI.out.gr (stable_star (stable_mem b fr s) (stable_box mb rb b r (stable_star (stable_blk hb _) (stable_star (stable_blk zb _) (stable_star (stable_blk eb _) hR))))) (gr_dN2 w1 nq)).mono (fun F h => st4 h)
  have k3 := k2.set S0 0 (.int .u64 0)
  rw [hC_setx H 0 0 (by decide)] at k3
  have HS0 := Lib.hid S0
  have K3 := Lib.hid k3
  have c0' : (w1.drewN nq).cell? ⟨mb, 0, none⟩ = _ := c0
  have c1' : (w1.drewN nq).cell? ⟨rb, 0, none⟩ = _ := c1
  have c2' : (w1.drewN nq).cell? ⟨hb, 0, none⟩ = _ := c2
  have f2' : (w1.drewN nq).frozen? ⟨hb, 0, none⟩ = _ := f2
  clear k2 k3 HI c0 c1 c2 f2 S0 CF
  generalize w1.drewN nq = w2 at *
  go_upto_region 4 with fail
  obtain ⟨G, hG⟩ : ∃ G, H.set 0 0 = G := ⟨_, rfl⟩
  rw [hG] at K3
  have p1 : G.pc = H.pc := by rw [← hG]; rfl
  have c0 := blk_cell K3.out.right.right.blk 0 (v := .pointer (some ⟨b, 0, none⟩)) rfl
  have c1 := blk_cell K3.out.right.right.right.blk 0 (v := .int .i64 r) rfl
  have c2 := blk_cell K3.out.blk 32 (v := .int .u64 H.pc) (by rw [← p1]; rfl)
  clear c0' c1' c2' f2'
  generalize World.setCell w2 ⟨hb, 0, none⟩ _ = w3 at *
  have S1 := Lib.hid (stable_star (stable_blk hb (.cells (hC G) 27)) (stable_box mb rb b r (stable_star (stable_blk zb (.cells (hC HZ) 27)) (stable_star (stable_blk eb (.cells (evC e0) 36)) hR))))
  have CR := Lib.hid (o_reach K3.out.swap2 S1.out r H.pc 4 3 hH.2.1 ⟨by omega, by omega⟩ (by decide) V true hV hB)
  have HVU := Lib.hid (by rw [← hV]; exact (rch_u64 (s := s) (r := r) (n := 4) (acc := 3) hl.2.2 hH.2.1).1 : u64 V)
  have SK := Lib.hid (stable_star (stable_blk hb (.cells (hC G) 27)) (stable_star (stable_mem b fr s) (stable_star (stable_blk mb (.cells #[.pointer (some ⟨b, 0, none⟩)] 31)) (stable_star (stable_blk rb (.cells #[.int .i64 r] 3)) (stable_star (stable_blk zb (.cells (hC HZ) 27)) (stable_star (stable_blk eb (.cells (evC e0) 36)) (hR)))))))
  have SM := Lib.hid (stable_star (stable_mem b fr s) S1.out)
  have ST1 := Lib.hid (stable_star (stable_blk hb (.cells (hC G) 27)) (stable_star (stable_mem b fr s) (stable_star (stable_blk mb (.cells #[.pointer (some ⟨b, 0, none⟩)] 31)) (stable_star (stable_blk rb (.cells #[.int .i64 r] 3)) (stable_star (stable_blk eb (.cells (evC e0) 36)) (hR))))))
  have ST2 := Lib.hid (stable_star (stable_blk zb (.cells (hC G) 27)) (stable_star (stable_blk hb (.cells (hC G) 27)) (stable_star (stable_mem b fr s) (stable_star (stable_blk mb (.cells #[.pointer (some ⟨b, 0, none⟩)] 31)) (stable_star (stable_blk rb (.cells #[.int .i64 r] 3)) (hR))))))
  have wx : IntKind.u32.wrap x = x := by rw [IntKind.wrap_u32]; obtain ⟨q0, q1⟩ := hx4; omega
  have HX := Lib.hid hx
  have HDE := Lib.hid (show ∀ w', Gr w0 w' → Calls Tryz.prog 18 #[.int .u32 x] w' fun e w'' => e = .returned (.tuple #[iv dop drd da db di, .int .i64 DE]) ∧ Gr w' w'' from fun w' g => by have := c_decode x hx4 w' (hF.gr g); rw [hdv, hde] at this; exact this)
  clear hx hdv hde hV hB
  go_upto_region 9 with (first
    | (go_at_call 16; refine CR.out.mono ?_; rintro e w4 ⟨rfl, h4⟩; have K4 := Lib.hid h4; have d0 := blk_cell h4.right.right.blk 0 (v := .pointer (some ⟨b, 0, none⟩)) rfl; clear h4)
    | (go_at_call 17; refine (o_mload K4.out S1.out V 4 _ _ HVU.out HX.out rfl).mono ?_; rintro e w5 ⟨rfl, h5⟩; have K5 := Lib.hid h5; clear h5)
    | (go_at_call 18; refine (HDE.out _ K5.out.sub).mono ?_; rintro e w6 ⟨rfl, g6⟩; have K6 := Lib.hid ((K5.out.gr SM.out g6).swap2); clear g6))
  have K7 := Lib.hid (K6.out.alloc SK.out (.cells #[.int .i64 dop, .int .i64 drd, .int .i64 da, .int .i64 db, .int .i64 di] 61))
  clear CR K3 K4 K5 K6 c0 c1 c2 d0 HS0 HDE
  generalize (World.alloc w6 _) = w7 at *
  generalize w6.heap.size = xb at *
  have R7 := Lib.hid K7.out.right
  have Z1 := Lib.hid (R7.out.mono (fun F h => st5 h))
  have Z2 := Lib.hid ((Z1.out.setRow ST1.out (hC G)).mono (fun F h => st6 h))
  have Z3 := Lib.hid (Z2.out.setRow ST2.out (evC ⟨3, 0, false⟩))
  clear K7
  go_wp2_with (first
    | (refine wpList_load_row rfl 27 _ rfl _ rfl 27 _ (0, 0) _ R7.out.blk Tryz.underlying27 rfl (hC_info _) ?_)
    | (refine wpList_store_row rfl 27 _ _ rfl _ _ rfl rfl 27 _ Z1.out.blk (hC_info _) rfl (hC_all1 _) ?_)
    | (refine wpList_store_row rfl 36 _ _ rfl _ _ rfl rfl 36 _ Z2.out.blk (evC_info ⟨3, 0, false⟩) rfl (evC_all1 ⟨3, 0, false⟩) ?_))
  refine bodyPost_ret (res_step rfl _ _ _ zb eb _ _ rfl rfl (ldH Z3.out.right.blk) (ldE Z3.out.blk)) rfl ⟨?_, Z3.out.right.right.right.drop2.drop2⟩
  rw [hG]
  rfl
end Go.Proofs.YtngeabphjdfdgaaGreatDoor.P
namespace Go.Proofs.YtngeabphjdfdgaaGreatDoor.P
open Go.RowKit Go.MuLone Go.Proofs.YtngeabphjdfdgaaGreatDoor.W
theorem st7 {A B C D E G I J : Asn} {w : World} {F : Nat → Prop} (h : Star A (Star B (Star C (Star D (Star E (Star G (Star I J)))))) w F) : Star I (Star A (Star B (Star C (Star D (Star E (Star G J)))))) w F := star_swap2 (star_mono_r (fun F h => st6 h) h)
theorem st8 {A B C D E G I J K : Asn} {w : World} {F : Nat → Prop} (h : Star A (Star B (Star C (Star D (Star E (Star G (Star I (Star J K))))))) w F) : Star J (Star A (Star B (Star C (Star D (Star E (Star G (Star I K))))))) w F := star_swap2 (star_mono_r (fun F h => st7 h) h)
theorem ex_inst {w : World} {g : Nat} {c0 c1 c2 c3 c4 : Value} {e : Operand → Value} {d : Option Tmp} {x : Operand} {ty : TypeId} {p : String} {af : Array Edge} {gd : Option (Nat × Bool)} (h : w.heap[g]? = some (.cells #[c0, c1, c2, c3, c4] 61)) (hx : e x = .pointer (some ⟨g, 0, none⟩)) : (execOp e ⟨d, .load 61 x, ty, p, af, gd⟩).run Tryz.prog w = .ok (.value (.agg #[c0, c1, c2, c3, c4])) w := by
  unfold execOp
  simp only [hx, Instr.loadAt, Instr.sureAddr, Sem.run_bind, Sem.run_pure, Result.andThen_ok, run_loadVar_row w g 61 61 _ (0, 0) _ h Tryz.underlying61 rfl (show (Tryz.prog.info? 61).map (·.size) = some 5 by kernel_rfl)]
theorem sC_info (I : InS) (a b m : Int) (A : HS) (e : EvS) (ld st : Value) : (Tryz.prog.info? 67).map (·.size) = some (sC I a b m A e ld st).size := by
  rw [sC_size]; kernel_rfl
theorem sC_all1 (I : InS) (a b m : Int) (A : HS) (e : EvS) (ld st : Value) (h1 : ld.oneCell' = true) (h2 : st.oneCell' = true) : (sC I a b m A e ld st).all (·.oneCell') = true := by
  simp [sC, xC, h1, h2]
  all_goals simp [Value.oneCell']
set_option maxHeartbeats 6400000 in
theorem o_step_do {w0 w : World} {b fr : Nat} {s : List UInt8} {R : Asn} (h : Own w0 w (Star (memA b fr s) R)) (hR : Stable R) (r : Int) (hr0 : 0 ≤ r) (hr1 : r < fr) (H : HS) (hH : H.ok) (hT : PT w0) (hF : FT w0) (V : Int) (hV : rchV fr s r H.pc 4 3 = V) (hB : rchB fr s r H.pc 4 3 = true) (x : Int) (hx : loadV s V 4 = x) (hx4 : u32 x) (I : InS) (hI : I.rd < 32 ∧ I.a < 32 ∧ I.b < 32 ∧ 1 ≤ I.op ∧ I.op ≤ 87) (DE : Int) (hdv : decV x = iv I.op (I.rd : Int) (I.a : Int) (I.b : Int) I.i) (hde : decE x = DE) (hD0 : DE = 0) (D : DS) (hD : doF fr s r I.op I.rd ((H.set 0 0).X I.a) ((H.set 0 0).X I.b) (w64 I.i) H.pc { H.set 0 0 with pc := w64 (H.pc + 4) } = D) :
    Calls Tryz.prog 7 #[.pointer (some ⟨b, 0, none⟩), .int .i64 r, .agg (hC H)] w fun e w' => e = .returned (.tuple #[.agg (hC (if D.e.k = 0 then D.A.set 0 0 else H.set 0 0)), evV D.e, .int .i64 0]) ∧ Own w0 w' (Star (memA b fr D.s) R) := by
  obtain ⟨FH, hFH⟩ : ∃ FH, (if D.e.k = 0 then D.A.set 0 0 else H.set 0 0) = FH := ⟨_, rfl⟩
  rw [hFH]
  have HFH := Lib.hid hFH
  clear hFH
  have hi := step_in h hR r H
  have hl := o_mlen h
  clear h
  go_enter Tryz.func7, Tryz.ntmps7
  go_upto_region 1 with fail
  generalize (World.alloc _ (.cells _ 36)) = w1 at *
  generalize w.heap.size + 1 + 1 + 1 + 1 = eb at *
  generalize w.heap.size + 1 + 1 + 1 = zb at *
  generalize w.heap.size + 1 + 1 = hb at *
  generalize w.heap.size + 1 = rb at *
  generalize w.heap.size = mb at *
  have HI := Lib.hid hi
  have c0 := blk_cell hi.right.blk 0 (v := .pointer (some ⟨b, 0, none⟩)) rfl
  have c1 := blk_cell hi.right.right.blk 0 (v := .int .i64 r) rfl
  have CF := Lib.hid (o_framesH hi)
  clear hi
  have d1 : ¬ r < 0 := by omega
  have d2 : ¬ (fr : Int) ≤ r := by omega
  go_wp2_with fail
  have c2 := blk_cell HI.out.right.right.right.blk 0 (hC_x H 0 (by decide))
  have f2 := blk_frozen HI.out.right.right.right.blk 0
  go_quiet ((go_at_call 15; exact Calls.quiet_of_same (CF.out _ rfl)))
  have S0 := stable_star (stable_mem b fr s) (stable_box mb rb b r (stable_star (stable_blk zb (.cells (hC HZ) 27)) (stable_star (stable_blk eb (.cells (evC e0) 36)) hR)))
  have k2 := (HI.out.gr (stable_star (stable_mem b fr s) (stable_box mb rb b r (stable_star (stable_blk hb _) (stable_star (stable_blk zb _) (stable_star (stable_blk eb _) hR))))) (gr_dN2 w1 nq)).mono (fun F h => st4 h)
  have k3 := k2.set S0 0 (.int .u64 0)
  rw [hC_setx H 0 0 (by decide)] at k3
  have HS0 := Lib.hid S0
  have K3 := Lib.hid k3
  have c0' : (w1.drewN nq).cell? ⟨mb, 0, none⟩ = _ := c0
  have c1' : (w1.drewN nq).cell? ⟨rb, 0, none⟩ = _ := c1
  have c2' : (w1.drewN nq).cell? ⟨hb, 0, none⟩ = _ := c2
  have f2' : (w1.drewN nq).frozen? ⟨hb, 0, none⟩ = _ := f2
  clear k2 k3 HI c0 c1 c2 f2 S0 CF
  generalize w1.drewN nq = w2 at *
  go_upto_region 4 with fail
  obtain ⟨G, hG⟩ : ∃ G, H.set 0 0 = G := ⟨_, rfl⟩
  rw [hG] at K3
  have p1 : G.pc = H.pc := by rw [← hG]; rfl
  have c0 := blk_cell K3.out.right.right.blk 0 (v := .pointer (some ⟨b, 0, none⟩)) rfl
  have c1 := blk_cell K3.out.right.right.right.blk 0 (v := .int .i64 r) rfl
  have c2 := blk_cell K3.out.blk 32 (v := .int .u64 H.pc) (by rw [← p1]; rfl)
  clear c0' c1' c2' f2'
  generalize World.setCell w2 ⟨hb, 0, none⟩ _ = w3 at *
  have S1 := Lib.hid (stable_star (stable_blk hb (.cells (hC G) 27)) (stable_box mb rb b r (stable_star (stable_blk zb (.cells (hC HZ) 27)) (stable_star (stable_blk eb (.cells (evC e0) 36)) hR))))
  have CR := Lib.hid (o_reach K3.out.swap2 S1.out r H.pc 4 3 hH.2.1 ⟨by omega, by omega⟩ (by decide) V true hV hB)
  have HVU := Lib.hid (by rw [← hV]; exact (rch_u64 (s := s) (r := r) (n := 4) (acc := 3) hl.2.2 hH.2.1).1 : u64 V)
  have SK := Lib.hid (stable_star (stable_blk hb (.cells (hC G) 27)) (stable_star (stable_mem b fr s) (stable_star (stable_blk mb (.cells #[.pointer (some ⟨b, 0, none⟩)] 31)) (stable_star (stable_blk rb (.cells #[.int .i64 r] 3)) (stable_star (stable_blk zb (.cells (hC HZ) 27)) (stable_star (stable_blk eb (.cells (evC e0) 36)) (hR)))))))
  have SM := Lib.hid (stable_star (stable_mem b fr s) S1.out)
  have ST1 := Lib.hid (stable_star (stable_blk hb (.cells (hC G) 27)) (stable_star (stable_mem b fr s) (stable_star (stable_blk mb (.cells #[.pointer (some ⟨b, 0, none⟩)] 31)) (stable_star (stable_blk rb (.cells #[.int .i64 r] 3)) (stable_star (stable_blk eb (.cells (evC e0) 36)) (hR))))))
  have ST2 := Lib.hid (stable_star (stable_blk zb (.cells (hC G) 27)) (stable_star (stable_blk hb (.cells (hC G) 27)) (stable_star (stable_mem b fr s) (stable_star (stable_blk mb (.cells #[.pointer (some ⟨b, 0, none⟩)] 31)) (stable_star (stable_blk rb (.cells #[.int .i64 r] 3)) (hR))))))
  have wx : IntKind.u32.wrap x = x := by rw [IntKind.wrap_u32]; obtain ⟨q0, q1⟩ := hx4; omega
  have HX := Lib.hid hx
  have HDE := Lib.hid (show ∀ w', Gr w0 w' → Calls Tryz.prog 18 #[.int .u32 x] w' fun e w'' => e = .returned (.tuple #[iv I.op (I.rd : Int) (I.a : Int) (I.b : Int) I.i, .int .i64 DE]) ∧ Gr w' w'' from fun w' g => by have := c_decode x hx4 w' (hF.gr g); rw [hdv, hde] at this; exact this)
  clear hx hdv hde hV hB
  go_upto_region 9 with (first
    | (go_at_call 16; refine CR.out.mono ?_; rintro e w4 ⟨rfl, h4⟩; have K4 := Lib.hid h4; have d0 := blk_cell h4.right.right.blk 0 (v := .pointer (some ⟨b, 0, none⟩)) rfl; clear h4)
    | (go_at_call 17; refine (o_mload K4.out S1.out V 4 _ _ HVU.out HX.out rfl).mono ?_; rintro e w5 ⟨rfl, h5⟩; have K5 := Lib.hid h5; clear h5)
    | (go_at_call 18; refine (HDE.out _ K5.out.sub).mono ?_; rintro e w6 ⟨rfl, g6⟩; have K6 := Lib.hid ((K5.out.gr SM.out g6).swap2); clear g6))
  have K7 := Lib.hid (K6.out.alloc SK.out (.cells #[.int .i64 I.op, .int .i64 (I.rd : Int), .int .i64 (I.a : Int), .int .i64 (I.b : Int), .int .i64 I.i] 61))
  clear CR K3 K4 K5 K6 c0 c1 c2 d0 HS0 HDE
  generalize (World.alloc w6 _) = w7 at *
  generalize w6.heap.size = xb at *
  subst hD0
  have HOK := Lib.hid hH
  go_wp2_with fail
  have SK7 := Lib.hid (stable_star (stable_blk xb (.cells #[.int .i64 I.op, .int .i64 (I.rd : Int), .int .i64 (I.a : Int), .int .i64 (I.b : Int), .int .i64 I.i] 61)) (SK.out))
  have KD := Lib.hid (K7.out.drew SK7.out)
  have ha : (I.a : Int) < 32 := by omega
  have hb2 : (I.b : Int) < 32 := by omega
  have cA := hC_x G I.a hI.2.1
  have cB := hC_x G I.b hI.2.2.1
  refine wp_region_held_drew (S := fun w' => w'.heap[xb]? = some (.cells #[.int .i64 I.op, .int .i64 (I.rd : Int), .int .i64 (I.a : Int), .int .i64 (I.b : Int), .int .i64 I.i] 61) ∧ w'.heap[hb]? = some (.cells (hC G) 27)) (by kernel_rfl) ⟨KD.out.blk, KD.out.right.blk⟩ (fun hH => ?_)
  refine wpAnyH_take (i := 0) (oi := { dst := some 58, op := Go.Op.load 61 (Go.Operand.tmp 13), type := 61, pos := "hart.go:43", after := #[], guard := none }) (v := .agg #[.int .i64 I.op, .int .i64 (I.rd : Int), .int .i64 (I.a : Int), .int .i64 (I.b : Int), .int .i64 I.i]) rfl (by kernel_rfl) (by kernel_rfl) (by kernel_rfl) (fun _ _ _ h => h) (Or.inl ⟨by rfl, fun w' hS' => ex_inst hS'.1 rfl⟩) hH ?_
  try simp only [Act.put, List.setIfInBounds_toArray, List.set_cons_zero, List.set_cons_succ]
  refine wpAnyH_take (i := 1) (oi := { dst := some 59, op := Go.Op.fieldAddr 61 (Go.Operand.tmp 13) 2, type := 0, pos := "hart.go:43", after := #[], guard := none }) (v := .pointer (some ⟨xb, 2, none⟩)) rfl (by kernel_rfl) (by kernel_rfl) (by kernel_rfl) (fun _ _ _ h => h) (Or.inl ⟨by rfl, fun w' hS' => by first | rfl | (go_simp; done) | (go_simp; rfl)⟩) hH ?_
  try simp only [Act.put, List.setIfInBounds_toArray, List.set_cons_zero, List.set_cons_succ]
  refine wpAnyH_take (i := 2) (oi := { dst := some 60, op := Go.Op.load 3 (Go.Operand.tmp 59), type := 3, pos := "hart.go:43", after := #[{ on := 1, ground := Go.Ground.data }], guard := none }) (v := .int .i64 (I.a : Int)) rfl (by kernel_rfl) (by kernel_rfl) (by kernel_rfl) (fun _ _ _ h => h) (Or.inl ⟨by rfl, fun w' hS' => by have c := blk_cell hS'.1 2 (v := .int .i64 (I.a : Int)) rfl; go_simp⟩) hH ?_
  try simp only [Act.put, List.setIfInBounds_toArray, List.set_cons_zero, List.set_cons_succ]
  refine wpAnyH_take (i := 3) (oi := { dst := some 61, op := Go.Op.fieldAddr 27 (Go.Operand.tmp 5) 0, type := 0, pos := "hart.go:43", after := #[], guard := none }) (v := .pointer (some ⟨hb, 0, none⟩)) rfl (by kernel_rfl) (by kernel_rfl) (by kernel_rfl) (fun _ _ _ h => h) (Or.inl ⟨by rfl, fun w' hS' => by first | rfl | (go_simp; done) | (go_simp; rfl)⟩) hH ?_
  try simp only [Act.put, List.setIfInBounds_toArray, List.set_cons_zero, List.set_cons_succ]
  refine wpAnyH_take (i := 4) (oi := { dst := some 62, op := Go.Op.indexAddr 25 (Go.Operand.tmp 61) (Go.Operand.tmp 60), type := 0, pos := "hart.go:43", after := #[{ on := 3, ground := Go.Ground.data }, { on := 2, ground := Go.Ground.data }], guard := none }) (v := .pointer (some ⟨hb, I.a, none⟩)) rfl (by kernel_rfl) (by kernel_rfl) (by kernel_rfl) (fun _ _ _ h => h) (Or.inl ⟨by rfl, fun w' hS' => by first | rfl | (go_simp; done) | (go_simp; rfl)⟩) hH ?_
  try simp only [Act.put, List.setIfInBounds_toArray, List.set_cons_zero, List.set_cons_succ]
  refine wpAnyH_take (i := 5) (oi := { dst := some 63, op := Go.Op.load 24 (Go.Operand.tmp 62), type := 24, pos := "hart.go:43", after := #[{ on := 4, ground := Go.Ground.data }], guard := none }) (v := .int .u64 (G.X I.a)) rfl (by kernel_rfl) (by kernel_rfl) (by kernel_rfl) (fun _ _ _ h => h) (Or.inl ⟨by rfl, fun w' hS' => by have c := blk_cell hS'.2 I.a cA; go_simp⟩) hH ?_
  try simp only [Act.put, List.setIfInBounds_toArray, List.set_cons_zero, List.set_cons_succ]
  refine wpAnyH_take (i := 6) (oi := { dst := some 64, op := Go.Op.fieldAddr 61 (Go.Operand.tmp 13) 3, type := 0, pos := "hart.go:43", after := #[], guard := none }) (v := .pointer (some ⟨xb, 3, none⟩)) rfl (by kernel_rfl) (by kernel_rfl) (by kernel_rfl) (fun _ _ _ h => h) (Or.inl ⟨by rfl, fun w' hS' => by first | rfl | (go_simp; done) | (go_simp; rfl)⟩) hH ?_
  try simp only [Act.put, List.setIfInBounds_toArray, List.set_cons_zero, List.set_cons_succ]
  refine wpAnyH_take (i := 7) (oi := { dst := some 65, op := Go.Op.load 3 (Go.Operand.tmp 64), type := 3, pos := "hart.go:43", after := #[{ on := 6, ground := Go.Ground.data }], guard := none }) (v := .int .i64 (I.b : Int)) rfl (by kernel_rfl) (by kernel_rfl) (by kernel_rfl) (fun _ _ _ h => h) (Or.inl ⟨by rfl, fun w' hS' => by have c := blk_cell hS'.1 3 (v := .int .i64 (I.b : Int)) rfl; go_simp⟩) hH ?_
  try simp only [Act.put, List.setIfInBounds_toArray, List.set_cons_zero, List.set_cons_succ]
  refine wpAnyH_take (i := 8) (oi := { dst := some 66, op := Go.Op.fieldAddr 27 (Go.Operand.tmp 5) 0, type := 0, pos := "hart.go:43", after := #[], guard := none }) (v := .pointer (some ⟨hb, 0, none⟩)) rfl (by kernel_rfl) (by kernel_rfl) (by kernel_rfl) (fun _ _ _ h => h) (Or.inl ⟨by rfl, fun w' hS' => by first | rfl | (go_simp; done) | (go_simp; rfl)⟩) hH ?_
  try simp only [Act.put, List.setIfInBounds_toArray, List.set_cons_zero, List.set_cons_succ]
  refine wpAnyH_take (i := 9) (oi := { dst := some 67, op := Go.Op.indexAddr 25 (Go.Operand.tmp 66) (Go.Operand.tmp 65), type := 0, pos := "hart.go:43", after := #[{ on := 8, ground := Go.Ground.data }, { on := 7, ground := Go.Ground.data }], guard := none }) (v := .pointer (some ⟨hb, I.b, none⟩)) rfl (by kernel_rfl) (by kernel_rfl) (by kernel_rfl) (fun _ _ _ h => h) (Or.inl ⟨by rfl, fun w' hS' => by first | rfl | (go_simp; done) | (go_simp; rfl)⟩) hH ?_
  try simp only [Act.put, List.setIfInBounds_toArray, List.set_cons_zero, List.set_cons_succ]
  refine wpAnyH_take (i := 10) (oi := { dst := some 68, op := Go.Op.load 24 (Go.Operand.tmp 67), type := 24, pos := "hart.go:43", after := #[{ on := 9, ground := Go.Ground.data }], guard := none }) (v := .int .u64 (G.X I.b)) rfl (by kernel_rfl) (by kernel_rfl) (by kernel_rfl) (fun _ _ _ h => h) (Or.inl ⟨by rfl, fun w' hS' => by have c := blk_cell hS'.2 I.b cB; go_simp⟩) hH ?_
  try simp only [Act.put, List.setIfInBounds_toArray, List.set_cons_zero, List.set_cons_succ]
  refine wpAnyH_take (i := 11) (oi := { dst := some 69, op := Go.Op.fieldAddr 61 (Go.Operand.tmp 13) 4, type := 0, pos := "hart.go:43", after := #[], guard := none }) (v := .pointer (some ⟨xb, 4, none⟩)) rfl (by kernel_rfl) (by kernel_rfl) (by kernel_rfl) (fun _ _ _ h => h) (Or.inl ⟨by rfl, fun w' hS' => by first | rfl | (go_simp; done) | (go_simp; rfl)⟩) hH ?_
  try simp only [Act.put, List.setIfInBounds_toArray, List.set_cons_zero, List.set_cons_succ]
  refine wpAnyH_take (i := 12) (oi := { dst := some 70, op := Go.Op.load 2 (Go.Operand.tmp 69), type := 2, pos := "hart.go:43", after := #[{ on := 11, ground := Go.Ground.data }], guard := none }) (v := .int .i64 I.i) rfl (by kernel_rfl) (by kernel_rfl) (by kernel_rfl) (fun _ _ _ h => h) (Or.inl ⟨by rfl, fun w' hS' => by have c := blk_cell hS'.1 4 (v := .int .i64 I.i) rfl; go_simp⟩) hH ?_
  try simp only [Act.put, List.setIfInBounds_toArray, List.set_cons_zero, List.set_cons_succ]
  refine wpAnyH_take (i := 13) (oi := { dst := some 71, op := Go.Op.convert 2 24 (Go.Operand.tmp 70), type := 24, pos := "hart.go:43", after := #[{ on := 12, ground := Go.Ground.data }], guard := none }) (v := .int .u64 (IntKind.u64.wrap I.i)) rfl (by kernel_rfl) (by kernel_rfl) (by kernel_rfl) (fun _ _ _ h => h) (Or.inl ⟨by rfl, fun w' hS' => by first | rfl | (go_simp; done) | (go_simp; rfl)⟩) hH ?_
  try simp only [Act.put, List.setIfInBounds_toArray, List.set_cons_zero, List.set_cons_succ]
  refine wpAnyH_take (i := 14) (oi := { dst := some 72, op := Go.Op.load 27 (Go.Operand.tmp 5), type := 27, pos := "hart.go:43", after := #[], guard := none }) (v := .agg (hC G)) rfl (by kernel_rfl) (by kernel_rfl) (by kernel_rfl) (fun _ _ _ h => h) (Or.inl ⟨by rfl, fun w' hS' => ex_hart hS'.2 rfl⟩) hH ?_
  try simp only [Act.put, List.setIfInBounds_toArray, List.set_cons_zero, List.set_cons_succ]
  refine wpAnyH_take (i := 15) (oi := { dst := some 73, op := Go.Op.build 67 #[(0, Go.Operand.tmp 58), (1, Go.Operand.tmp 63), (2, Go.Operand.tmp 68), (3, Go.Operand.tmp 71), (4, Go.Operand.tmp 72)], type := 67, pos := "hart.go:43", after := #[{ on := 0, ground := Go.Ground.data }, { on := 5, ground := Go.Ground.data }, { on := 10, ground := Go.Ground.data }, { on := 13, ground := Go.Ground.data }, { on := 14, ground := Go.Ground.data }], guard := none }) (v := .agg (sC I (G.X I.a) (G.X I.b) (IntKind.u64.wrap I.i) G e0 .nilFunc .nilFunc)) rfl (by kernel_rfl) (by kernel_rfl) (by kernel_rfl) (fun _ _ _ h => h) (Or.inl ⟨by rfl, fun w' hS' => ex_step rfl rfl rfl rfl rfl⟩) hH ?_
  try simp only [Act.put, List.setIfInBounds_toArray, List.set_cons_zero, List.set_cons_succ]
  refine wpAnyH_ready (rs := [16]) (by kernel_rfl) (by simp) ?_
  refine AllReadyH.cons (o := { dst := some 15, op := Go.Op.alloc 67, type := 0, pos := "hart.go:43", after := #[], guard := none }) rfl (fun K' hK => ?_) AllReadyH.nil
  rw [if_pos (by rfl)]
  go_simp
  have K8 := Lib.hid ((K7.out.alloc SK7.out (.cells #[.int .i64 0, .int .i64 0, .int .i64 0, .int .i64 0, .int .i64 0, .int .u64 0, .int .u64 0, .int .u64 0, .int .u64 0, .int .u64 0, .int .u64 0, .int .u64 0, .int .u64 0, .int .u64 0, .int .u64 0, .int .u64 0, .int .u64 0, .int .u64 0, .int .u64 0, .int .u64 0, .int .u64 0, .int .u64 0, .int .u64 0, .int .u64 0, .int .u64 0, .int .u64 0, .int .u64 0, .int .u64 0, .int .u64 0, .int .u64 0, .int .u64 0, .int .u64 0, .int .u64 0, .int .u64 0, .int .u64 0, .int .u64 0, .int .u64 0, .int .u64 0, .int .u64 0, .int .u64 0, .int .u64 0, .bool false, .int .u64 0, .int .i64 0, .int .u64 0, .bool false, .nilFunc, .nilFunc] 67)).drew (stable_star (stable_blk _ _) SK7.out))
  refine hK.out _ _ (⟨K8.out.right.blk, K8.out.right.right.blk⟩) (fun hH2 => ?_)
  clear hK K'
  try simp only [Act.put, List.setIfInBounds_toArray, List.set_cons_zero, List.set_cons_succ]
  refine wpAnyH_ready (rs := [17]) (by kernel_rfl) (by simp) ?_
  refine AllReadyH.cons (o := { dst := none, op := Go.Op.store 67 (Go.Operand.tmp 15) (Go.Operand.tmp 73), type := 0, pos := "hart.go:43", after := #[{ on := 16, ground := Go.Ground.data }, { on := 15, ground := Go.Ground.data }, { on := 0, ground := Go.Ground.phase }, { on := 1, ground := Go.Ground.phase }, { on := 2, ground := Go.Ground.phase }, { on := 3, ground := Go.Ground.phase }, { on := 4, ground := Go.Ground.phase }, { on := 5, ground := Go.Ground.phase }, { on := 6, ground := Go.Ground.phase }, { on := 7, ground := Go.Ground.phase }, { on := 8, ground := Go.Ground.phase }, { on := 9, ground := Go.Ground.phase }, { on := 10, ground := Go.Ground.phase }, { on := 11, ground := Go.Ground.phase }, { on := 12, ground := Go.Ground.phase }, { on := 13, ground := Go.Ground.phase }, { on := 14, ground := Go.Ground.phase }, { on := 15, ground := Go.Ground.phase }, { on := 16, ground := Go.Ground.phase }], guard := none }) rfl (fun K' hK => ?_) AllReadyH.nil
  rw [if_pos (by rfl)]
  refine wp_store_row 67 _ _ rfl w7.heap.size (sC I (G.X I.a) (G.X I.b) (IntKind.u64.wrap I.i) G e0 .nilFunc .nilFunc) rfl rfl 67 _ K8.out.blk (sC_info _ _ _ _ _ _ _ _) rfl (sC_all1 _ _ _ _ _ _ _ _ rfl rfl) ?_
  have K9 := Lib.hid (K8.out.setRow SK7.out (sC I (G.X I.a) (G.X I.b) (IntKind.u64.wrap I.i) G e0 .nilFunc .nilFunc))
  refine hK.out _ _ (⟨K9.out.right.blk, K9.out.right.right.blk⟩) (fun hH3 => ?_)
  clear hK K'
  try simp only [Act.put, List.setIfInBounds_toArray, List.set_cons_zero, List.set_cons_succ]
  refine wpAnyH_done (by kernel_rfl) ?_ _
  clear K7 K8 KD hH hH2 hH3 cA cB
  generalize (World.setRow _ w7.heap.size _) = w8 at *
  generalize w7.heap.size = sb at *
  have hmf : ∀ (fn : Fn) (first cap : Array Value) (w : World), (Instr.makeFunc fn first cap).run Tryz.prog w = .ok (.func fn first cap) w := fun _ _ _ _ => rfl
  have SR9 := Lib.hid (stable_star (stable_blk hb (.cells (hC G) 27)) (stable_star (stable_blk xb (.cells #[.int .i64 I.op, .int .i64 (I.rd : Int), .int .i64 (I.a : Int), .int .i64 (I.b : Int), .int .i64 I.i] 61)) (stable_star (stable_blk zb (.cells (hC HZ) 27)) (stable_star (stable_blk eb (.cells (evC e0) 36)) (hR)))))
  have SM9 := Lib.hid (stable_star (stable_mem b fr s) (stable_box mb rb b r SR9.out))
  have K10 := Lib.hid (K9.out.mono (fun F h => star_mono_r (fun F h => star_mono_r (fun F h => star_mono_r (fun F h => star_mono_r (fun F h => star_swap2 h) (st3 h)) (st3 h)) (st3 h)) h))
  have c40 := blk_cell K10.out.blk 40 (v := .int .u64 G.pc) rfl
  have f40 := blk_frozen K10.out.blk 40
  have c46 := blk_cell K10.out.blk 46 (v := .nilFunc) rfl
  have f46 := blk_frozen K10.out.blk 46
  have c47 := blk_cell K10.out.blk 47 (v := .nilFunc) rfl
  have f47 := blk_frozen K10.out.blk 47
  have e4 : IntKind.u64.wrap (H.pc + 4) = w64 (H.pc + 4) := w64_wrap _
  have K11 : RowKit.Hid (Own w0 (((w8.setCell ⟨sb, 40, none⟩ (.int .u64 (w64 (H.pc + 4)))).setCell ⟨sb, 46, none⟩ (ldV mb rb sb)).setCell ⟨sb, 47, none⟩ (stV mb rb sb)) (cxA sb mb rb b fr r s I (G.X I.a) (G.X I.b) (IntKind.u64.wrap I.i) { G with pc := w64 (H.pc + 4) } e0 (Star (blkA hb (.cells (hC G) 27)) (Star (blkA xb (.cells #[.int .i64 I.op, .int .i64 (I.rd : Int), .int .i64 (I.a : Int), .int .i64 (I.b : Int), .int .i64 I.i] 61)) (Star (blkA zb (.cells (hC HZ) 27)) (Star (blkA eb (.cells (evC e0) 36)) R)))))) := Lib.hid (((K10.out.set SM9.out 40 (.int .u64 (w64 (H.pc + 4)))).set SM9.out 46 (ldV mb rb sb)).set SM9.out 47 (stV mb rb sb))
  clear K9 K10
  rw [p1] at c40
  go_upto_region 13 with fail
  go_upto_region 14 with fail
  go_upto_region 15 with fail
  generalize (World.setCell _ ⟨sb, 47, none⟩ _) = w9 at *
  clear c40 f40 c46 f46 c47 f47 hmf
  have hGok : G.ok := by rw [← hG]; exact HS.set_ok HOK.out 0 ⟨by decide, by decide⟩
  have wo : ∀ v, u64 v → word v := fun v hv => ⟨hv.1, by have := hv.2; omega⟩
  have CD : RowKit.Hid (Calls Tryz.prog 21 #[.pointer (some ⟨sb, 0, none⟩), .pointer (some ⟨b, 0, none⟩), .int .i64 r, .int .u64 H.pc] w9 fun e' w' => e' = .returned (.tuple #[]) ∧ DoneP w0 sb mb rb b fr r I (G.X I.a) (G.X I.b) (IntKind.u64.wrap I.i) (Star (blkA hb (.cells (hC G) 27)) (Star (blkA xb (.cells #[.int .i64 I.op, .int .i64 (I.rd : Int), .int .i64 (I.a : Int), .int .i64 (I.b : Int), .int .i64 I.i] 61)) (Star (blkA zb (.cells (hC HZ) 27)) (Star (blkA eb (.cells (evC e0) 36)) R)))) D w') := Lib.hid (by
    have := do_all K11.out SR9.out ⟨by omega, by omega⟩ hI.1 (wo _ (hGok.1 I.a hI.2.1)) (wo _ (hGok.1 I.b hI.2.2.1)) (by rw [w64_wrap]; exact w64_word _) H.pc HOK.out.2.1 hT hI.2.2.2
    rw [w64_wrap] at this
    rw [hG] at hD
    rw [hD] at this
    rw [w64_wrap]
    exact this)
  have c0 := blk_cell K11.out.right.right.blk 0 (v := .pointer (some ⟨b, 0, none⟩)) rfl
  have c1 := blk_cell K11.out.right.right.right.blk 0 (v := .int .i64 r) rfl
  have c2 := blk_cell K11.out.right.right.right.right.blk 32 (v := .int .u64 H.pc) (by rw [← p1]; rfl)
  have HG := Lib.hid hG
  clear hD hG hGok wo e4 K11
  go_upto_region 16 with (go_at_call 21; refine CD.out.mono ?_; rintro e w10 ⟨rfl, A9, h10, hA9⟩; have K12 := Lib.hid h10; have HA9 := Lib.hid hA9; have c43 := blk_cell h10.blk 43 (v := .int .i64 D.e.k) rfl; clear h10 hA9)
  clear CD c0 c1 c2
  by_cases hk : D.e.k = 0
  · have hk2 : (D.e.k != 0) = false := by simpa using hk
    have c8 := blk_cell K12.out.blk 8 (sC_x I (G.X I.a) (G.X I.b) (IntKind.u64.wrap I.i) A9 D.e (ldV mb rb sb) (stV mb rb sb) 0 (by decide))
    have f8 := blk_frozen K12.out.blk 8
    have SR12 := Lib.hid (stable_star (stable_mem b fr D.s) (stable_box mb rb b r SR9.out))
    have k13 := K12.out.set SR12.out 8 (.int .u64 0)
    have es := sC_setx I (G.X I.a) (G.X I.b) (IntKind.u64.wrap I.i) A9 D.e (ldV mb rb sb) (stV mb rb sb) 0 0 (by decide)
    rw [show (8 + 0 : Nat) = 8 from rfl] at es
    rw [es, HA9.out hk] at k13
    have K13 := Lib.hid k13
    clear k13 es K12
    have HK := Lib.hid hk
    clear hk
    go_wp2_with fail
    generalize (World.setCell w10 ⟨sb, 8, none⟩ _) = w11 at *
    have hk := HK.out
    clear hk2 c8 f8 c43
    have ST1 := Lib.hid (stable_star (stable_blk sb (.cells (sC I (G.X I.a) (G.X I.b) (IntKind.u64.wrap I.i) (D.A.set 0 0) D.e (ldV mb rb sb) (stV mb rb sb)) 67)) (stable_star (stable_mem b fr D.s) (stable_star (stable_blk mb (.cells #[.pointer (some ⟨b, 0, none⟩)] 31)) (stable_star (stable_blk rb (.cells #[.int .i64 r] 3)) (stable_star (stable_blk hb (.cells (hC G) 27)) (stable_star (stable_blk xb (.cells #[.int .i64 I.op, .int .i64 (I.rd : Int), .int .i64 (I.a : Int), .int .i64 (I.b : Int), .int .i64 I.i] 61)) (stable_star (stable_blk eb (.cells (evC e0) 36)) (hR))))))))
    have ST2 := Lib.hid (stable_star (stable_blk zb (.cells (hC (D.A.set 0 0)) 27)) (stable_star (stable_blk sb (.cells (sC I (G.X I.a) (G.X I.b) (IntKind.u64.wrap I.i) (D.A.set 0 0) D.e (ldV mb rb sb) (stV mb rb sb)) 67)) (stable_star (stable_mem b fr D.s) (stable_star (stable_blk mb (.cells #[.pointer (some ⟨b, 0, none⟩)] 31)) (stable_star (stable_blk rb (.cells #[.int .i64 r] 3)) (stable_star (stable_blk hb (.cells (hC G) 27)) (stable_star (stable_blk xb (.cells #[.int .i64 I.op, .int .i64 (I.rd : Int), .int .i64 (I.a : Int), .int .i64 (I.b : Int), .int .i64 I.i] 61)) (hR))))))))
    have KD := Lib.hid (K13.out.drew (stable_star (stable_blk sb (.cells (sC I (G.X I.a) (G.X I.b) (IntKind.u64.wrap I.i) (D.A.set 0 0) D.e (ldV mb rb sb) (stV mb rb sb)) 67)) (stable_star (stable_mem b fr D.s) (stable_star (stable_blk mb (.cells #[.pointer (some ⟨b, 0, none⟩)] 31)) (stable_star (stable_blk rb (.cells #[.int .i64 r] 3)) (stable_star (stable_blk hb (.cells (hC G) 27)) (stable_star (stable_blk xb (.cells #[.int .i64 I.op, .int .i64 (I.rd : Int), .int .i64 (I.a : Int), .int .i64 (I.b : Int), .int .i64 I.i] 61)) (stable_star (stable_blk zb (.cells (hC HZ) 27)) (stable_star (stable_blk eb (.cells (evC e0) 36)) (hR))))))))))
    refine wp_region_held_drew (S := fun w' => w'.heap[sb]? = some (.cells (sC I (G.X I.a) (G.X I.b) (IntKind.u64.wrap I.i) (D.A.set 0 0) D.e (ldV mb rb sb) (stV mb rb sb)) 67)) (by kernel_rfl) KD.out.blk (fun hH => ?_)
    refine wpAnyH_take (i := 0) (oi := { dst := some 99, op := Go.Op.fieldAddr 67 (Go.Operand.tmp 15) 4, type := 0, pos := "hart.go:68", after := #[], guard := none }) (v := .pointer (some ⟨sb, 8, none⟩)) rfl (by kernel_rfl) (by kernel_rfl) (by kernel_rfl) (fun _ _ _ h => h) (Or.inl ⟨by rfl, fun w' hS' => by first | rfl | (go_simp; done) | (go_simp; rfl)⟩) hH ?_
    try simp only [Act.put, List.setIfInBounds_toArray, List.set_cons_zero, List.set_cons_succ]
    refine wpAnyH_take (i := 1) (oi := { dst := some 100, op := Go.Op.load 27 (Go.Operand.tmp 99), type := 27, pos := "hart.go:68", after := #[{ on := 0, ground := Go.Ground.data }], guard := none }) (v := .agg (hC (D.A.set 0 0))) rfl (by kernel_rfl) (by kernel_rfl) (by kernel_rfl) (fun _ _ _ h => h) (Or.inl ⟨by rfl, fun w' hS' => ex_after hS' rfl⟩) hH ?_
    try simp only [Act.put, List.setIfInBounds_toArray, List.set_cons_zero, List.set_cons_succ]
    refine wpAnyH_take (i := 2) (oi := { dst := some 101, op := Go.Op.fieldAddr 67 (Go.Operand.tmp 15) 5, type := 0, pos := "hart.go:68", after := #[{ on := 4, ground := Go.Ground.gcOnly Go.Departure.lateStores }], guard := none }) (v := .pointer (some ⟨sb, 43, none⟩)) rfl (by kernel_rfl) (by kernel_rfl) (by kernel_rfl) (fun _ _ _ h => h) (Or.inl ⟨by rfl, fun w' hS' => by first | rfl | (go_simp; done) | (go_simp; rfl)⟩) hH ?_
    try simp only [Act.put, List.setIfInBounds_toArray, List.set_cons_zero, List.set_cons_succ]
    refine wpAnyH_take (i := 3) (oi := { dst := some 102, op := Go.Op.load 36 (Go.Operand.tmp 101), type := 36, pos := "hart.go:68", after := #[{ on := 2, ground := Go.Ground.data }, { on := 4, ground := Go.Ground.gcOnly Go.Departure.lateStores }], guard := none }) (v := .agg (evC D.e)) rfl (by kernel_rfl) (by kernel_rfl) (by kernel_rfl) (fun _ _ _ h => h) (Or.inl ⟨by rfl, fun w' hS' => ex_event hS' rfl⟩) hH ?_
    try simp only [Act.put, List.setIfInBounds_toArray, List.set_cons_zero, List.set_cons_succ]
    have Z1 := Lib.hid (KD.out.mono (fun F h => st7 h))
    refine wpAnyH_ready (rs := [4]) (by kernel_rfl) (by simp) ?_
    refine AllReadyH.cons (o := { dst := none, op := Go.Op.store 27 (Go.Operand.tmp 6) (Go.Operand.tmp 100), type := 0, pos := "hart.go:68", after := #[{ on := 1, ground := Go.Ground.data }, { on := 0, ground := Go.Ground.phase }, { on := 1, ground := Go.Ground.phase }, { on := 2, ground := Go.Ground.textOnly Go.Departure.lateStores }, { on := 3, ground := Go.Ground.textOnly Go.Departure.lateStores }], guard := none }) rfl (fun K' hK => ?_) AllReadyH.nil
    rw [if_pos (by rfl)]
    refine wp_store_row 27 _ _ rfl zb (hC (D.A.set 0 0)) rfl rfl 27 _ Z1.out.blk (hC_info _) rfl (hC_all1 _) ?_
    have Z2 := Lib.hid ((Z1.out.setRow ST1.out (hC (D.A.set 0 0))).mono (fun F h => st8 h))
    refine hK.out _ _ (Z2.out.right.right.blk) (fun hH2 => ?_)
    clear hK K'
    try simp only [Act.put, List.setIfInBounds_toArray, List.set_cons_zero, List.set_cons_succ]
    refine wpAnyH_ready (rs := [5]) (by kernel_rfl) (by simp) ?_
    refine AllReadyH.cons (o := { dst := none, op := Go.Op.store 36 (Go.Operand.tmp 7) (Go.Operand.tmp 102), type := 0, pos := "hart.go:68", after := #[{ on := 3, ground := Go.Ground.data }, { on := 4, ground := Go.Ground.chain }, { on := 0, ground := Go.Ground.phase }, { on := 1, ground := Go.Ground.phase }, { on := 2, ground := Go.Ground.phase }, { on := 3, ground := Go.Ground.phase }, { on := 4, ground := Go.Ground.phase }], guard := none }) rfl (fun K' hK => ?_) AllReadyH.nil
    rw [if_pos (by rfl)]
    refine wp_store_row 36 _ _ rfl eb (evC D.e) rfl rfl 36 _ Z2.out.blk (evC_info _) rfl (evC_all1 _) ?_
    have Z3 := Lib.hid (Z2.out.setRow ST2.out (evC D.e))
    refine hK.out _ _ (Z3.out.right.right.blk) (fun hH3 => ?_)
    clear hK K'
    try simp only [Act.put, List.setIfInBounds_toArray, List.set_cons_zero, List.set_cons_succ]
    refine wpAnyH_take (i := 6) (oi := { dst := some 8, op := Go.Op.assign (Go.Operand.const (Go.Value.int Go.IntKind.i64 0)), type := 37, pos := "hart.go:68", after := #[{ on := 5, ground := Go.Ground.chain }, { on := 0, ground := Go.Ground.phase }, { on := 1, ground := Go.Ground.phase }, { on := 2, ground := Go.Ground.phase }, { on := 3, ground := Go.Ground.phase }, { on := 4, ground := Go.Ground.phase }, { on := 5, ground := Go.Ground.phase }], guard := none }) (v := .int .i64 0) rfl (by kernel_rfl) (by kernel_rfl) (by kernel_rfl) (fun _ _ _ h => h) (Or.inl ⟨by rfl, fun w' hS' => by first | rfl | (go_simp; done) | (go_simp; rfl)⟩) hH3 ?_
    try simp only [Act.put, List.setIfInBounds_toArray, List.set_cons_zero, List.set_cons_succ]
    refine wpAnyH_done (by kernel_rfl) ?_ _
    go_wp2_with fail
    refine bodyPost_ret (res_step rfl _ _ _ zb eb _ _ rfl rfl (ldH Z3.out.right.blk) (ldE Z3.out.blk)) rfl ⟨?_, Z3.out.right.right.right.drop2.drop2.drop2.drop2⟩
    rw [show D.A.set 0 0 = FH from by rw [← HFH.out, if_pos hk]]
    rfl
  · have hk2 : (D.e.k != 0) = true := by simpa using hk
    have HK := Lib.hid hk
    clear hk
    go_wp2_with fail
    have hk := HK.out
    clear hk2 c43
    have ST1 := Lib.hid (stable_star (stable_blk sb (.cells (sC I (G.X I.a) (G.X I.b) (IntKind.u64.wrap I.i) A9 D.e (ldV mb rb sb) (stV mb rb sb)) 67)) (stable_star (stable_mem b fr D.s) (stable_star (stable_blk mb (.cells #[.pointer (some ⟨b, 0, none⟩)] 31)) (stable_star (stable_blk rb (.cells #[.int .i64 r] 3)) (stable_star (stable_blk hb (.cells (hC G) 27)) (stable_star (stable_blk xb (.cells #[.int .i64 I.op, .int .i64 (I.rd : Int), .int .i64 (I.a : Int), .int .i64 (I.b : Int), .int .i64 I.i] 61)) (stable_star (stable_blk eb (.cells (evC e0) 36)) (hR))))))))
    have ST2 := Lib.hid (stable_star (stable_blk zb (.cells (hC G) 27)) (stable_star (stable_blk sb (.cells (sC I (G.X I.a) (G.X I.b) (IntKind.u64.wrap I.i) A9 D.e (ldV mb rb sb) (stV mb rb sb)) 67)) (stable_star (stable_mem b fr D.s) (stable_star (stable_blk mb (.cells #[.pointer (some ⟨b, 0, none⟩)] 31)) (stable_star (stable_blk rb (.cells #[.int .i64 r] 3)) (stable_star (stable_blk hb (.cells (hC G) 27)) (stable_star (stable_blk xb (.cells #[.int .i64 I.op, .int .i64 (I.rd : Int), .int .i64 (I.a : Int), .int .i64 (I.b : Int), .int .i64 I.i] 61)) (hR))))))))
    have KD := Lib.hid (K12.out.drew (stable_star (stable_blk sb (.cells (sC I (G.X I.a) (G.X I.b) (IntKind.u64.wrap I.i) A9 D.e (ldV mb rb sb) (stV mb rb sb)) 67)) (stable_star (stable_mem b fr D.s) (stable_star (stable_blk mb (.cells #[.pointer (some ⟨b, 0, none⟩)] 31)) (stable_star (stable_blk rb (.cells #[.int .i64 r] 3)) (stable_star (stable_blk hb (.cells (hC G) 27)) (stable_star (stable_blk xb (.cells #[.int .i64 I.op, .int .i64 (I.rd : Int), .int .i64 (I.a : Int), .int .i64 (I.b : Int), .int .i64 I.i] 61)) (stable_star (stable_blk zb (.cells (hC HZ) 27)) (stable_star (stable_blk eb (.cells (evC e0) 36)) (hR))))))))))
    refine wp_region_held_drew (S := fun w' => w'.heap[hb]? = some (.cells (hC G) 27) ∧ w'.heap[sb]? = some (.cells (sC I (G.X I.a) (G.X I.b) (IntKind.u64.wrap I.i) A9 D.e (ldV mb rb sb) (stV mb rb sb)) 67)) (by kernel_rfl) ⟨KD.out.right.right.right.right.blk, KD.out.blk⟩ (fun hH => ?_)
    refine wpAnyH_take (i := 0) (oi := { dst := some 93, op := Go.Op.load 27 (Go.Operand.tmp 5), type := 27, pos := "hart.go:65", after := #[], guard := none }) (v := .agg (hC G)) rfl (by kernel_rfl) (by kernel_rfl) (by kernel_rfl) (fun _ _ _ h => h) (Or.inl ⟨by rfl, fun w' hS' => ex_hart hS'.1 rfl⟩) hH ?_
    try simp only [Act.put, List.setIfInBounds_toArray, List.set_cons_zero, List.set_cons_succ]
    refine wpAnyH_take (i := 1) (oi := { dst := some 94, op := Go.Op.fieldAddr 67 (Go.Operand.tmp 15) 5, type := 0, pos := "hart.go:65", after := #[{ on := 3, ground := Go.Ground.gcOnly Go.Departure.lateStores }], guard := none }) (v := .pointer (some ⟨sb, 43, none⟩)) rfl (by kernel_rfl) (by kernel_rfl) (by kernel_rfl) (fun _ _ _ h => h) (Or.inl ⟨by rfl, fun w' hS' => by first | rfl | (go_simp; done) | (go_simp; rfl)⟩) hH ?_
    try simp only [Act.put, List.setIfInBounds_toArray, List.set_cons_zero, List.set_cons_succ]
    refine wpAnyH_take (i := 2) (oi := { dst := some 95, op := Go.Op.load 36 (Go.Operand.tmp 94), type := 36, pos := "hart.go:65", after := #[{ on := 1, ground := Go.Ground.data }, { on := 3, ground := Go.Ground.gcOnly Go.Departure.lateStores }], guard := none }) (v := .agg (evC D.e)) rfl (by kernel_rfl) (by kernel_rfl) (by kernel_rfl) (fun _ _ _ h => h) (Or.inl ⟨by rfl, fun w' hS' => ex_event hS'.2 rfl⟩) hH ?_
    try simp only [Act.put, List.setIfInBounds_toArray, List.set_cons_zero, List.set_cons_succ]
    have Z1 := Lib.hid (KD.out.mono (fun F h => st7 h))
    refine wpAnyH_ready (rs := [3]) (by kernel_rfl) (by simp) ?_
    refine AllReadyH.cons (o := { dst := none, op := Go.Op.store 27 (Go.Operand.tmp 6) (Go.Operand.tmp 93), type := 0, pos := "hart.go:65", after := #[{ on := 0, ground := Go.Ground.data }, { on := 0, ground := Go.Ground.phase }, { on := 1, ground := Go.Ground.textOnly Go.Departure.lateStores }, { on := 2, ground := Go.Ground.textOnly Go.Departure.lateStores }], guard := none }) rfl (fun K' hK => ?_) AllReadyH.nil
    rw [if_pos (by rfl)]
    refine wp_store_row 27 _ _ rfl zb (hC G) rfl rfl 27 _ Z1.out.blk (hC_info _) rfl (hC_all1 _) ?_
    have Z2 := Lib.hid ((Z1.out.setRow ST1.out (hC G)).mono (fun F h => st8 h))
    refine hK.out _ _ (⟨Z2.out.right.right.right.right.right.right.blk, Z2.out.right.right.blk⟩) (fun hH2 => ?_)
    clear hK K'
    try simp only [Act.put, List.setIfInBounds_toArray, List.set_cons_zero, List.set_cons_succ]
    refine wpAnyH_ready (rs := [4]) (by kernel_rfl) (by simp) ?_
    refine AllReadyH.cons (o := { dst := none, op := Go.Op.store 36 (Go.Operand.tmp 7) (Go.Operand.tmp 95), type := 0, pos := "hart.go:65", after := #[{ on := 2, ground := Go.Ground.data }, { on := 3, ground := Go.Ground.chain }, { on := 0, ground := Go.Ground.phase }, { on := 1, ground := Go.Ground.phase }, { on := 2, ground := Go.Ground.phase }, { on := 3, ground := Go.Ground.phase }], guard := none }) rfl (fun K' hK => ?_) AllReadyH.nil
    rw [if_pos (by rfl)]
    refine wp_store_row 36 _ _ rfl eb (evC D.e) rfl rfl 36 _ Z2.out.blk (evC_info _) rfl (evC_all1 _) ?_
    have Z3 := Lib.hid (Z2.out.setRow ST2.out (evC D.e))
    refine hK.out _ _ (⟨Z3.out.right.right.right.right.right.right.blk, Z3.out.right.right.blk⟩) (fun hH3 => ?_)
    clear hK K'
    try simp only [Act.put, List.setIfInBounds_toArray, List.set_cons_zero, List.set_cons_succ]
    refine wpAnyH_take (i := 5) (oi := { dst := some 8, op := Go.Op.assign (Go.Operand.const (Go.Value.int Go.IntKind.i64 0)), type := 37, pos := "hart.go:65", after := #[{ on := 4, ground := Go.Ground.chain }, { on := 0, ground := Go.Ground.phase }, { on := 1, ground := Go.Ground.phase }, { on := 2, ground := Go.Ground.phase }, { on := 3, ground := Go.Ground.phase }, { on := 4, ground := Go.Ground.phase }], guard := none }) (v := .int .i64 0) rfl (by kernel_rfl) (by kernel_rfl) (by kernel_rfl) (fun _ _ _ h => h) (Or.inl ⟨by rfl, fun w' hS' => by first | rfl | (go_simp; done) | (go_simp; rfl)⟩) hH3 ?_
    try simp only [Act.put, List.setIfInBounds_toArray, List.set_cons_zero, List.set_cons_succ]
    refine wpAnyH_done (by kernel_rfl) ?_ _
    go_wp2_with fail
    refine bodyPost_ret (res_step rfl _ _ _ zb eb _ _ rfl rfl (ldH Z3.out.right.blk) (ldE Z3.out.blk)) rfl ⟨?_, Z3.out.right.right.right.drop2.drop2.drop2.drop2⟩
    rw [show G = FH from by rw [← HFH.out, if_neg hk, HG.out]]
    rfl

end Go.Proofs.YtngeabphjdfdgaaGreatDoor.P
namespace Go.Proofs.YtngeabphjdfdgaaGreatDoor.P
open Go.RowKit Go.MuLone Go.Proofs.YtngeabphjdfdgaaGreatDoor.W
theorem load4 (s : List UInt8) (a : Int) (ha : 0 ≤ a) : u32 (loadV s a 4) := by
  unfold loadV
  rw [if_pos (show sizedB 4 = true from rfl)]
  split
  · rename_i h
    have h' : a + 4 ≤ s.length := of_decide_eq_true h
    have hs : (subB s a.toNat (4 : Int).toNat).size = 4 := sub_size s a.toNat 4 (by omega)
    unfold ofF
    rw [hs]
    have hb := ofN_bd (subB s a.toNat (4 : Int).toNat) 4
    obtain ⟨h1, h2⟩ := hb
    have e : (2 : Int) ^ (8 * 4) = 4294967296 := by decide
    rw [e] at h2
    exact ⟨h1, h2⟩
  · exact ⟨by decide, by decide⟩
theorem o_step {w0 w : World} {b fr : Nat} {s : List UInt8} {R : Asn} (h : Own w0 w (Star (memA b fr s) R)) (hR : Stable R) (r : Int) (hr0 : 0 ≤ r) (hr1 : r < fr) (H : HS) (hH : H.ok) (hT : PT w0) (hF : FT w0) :
    Calls Tryz.prog 7 #[.pointer (some ⟨b, 0, none⟩), .int .i64 r, .agg (hC H)] w fun e w' => e = .returned (.tuple #[.agg (hC (stepF fr s r H).H), evV (stepF fr s r H).e, .int .i64 0]) ∧ Own w0 w' (Star (memA b fr (stepF fr s r H).s) R) := by
  have hp : 0 ≤ rchV fr s r H.pc 4 3 := (rch_u64 (s := s) (r := r) (n := 4) (acc := 3) (o_mlen h).2.2 hH.2.1).1.1
  unfold stepF
  cases hB : rchB fr s r H.pc 4 3 with
  | false =>
    rw [if_neg (by decide)]
    exact o_step_fetch h hR r hr0 hr1 H hH hT hF _ rfl hB
  | true =>
    rw [if_pos rfl]
    have hx4 := load4 s (rchV fr s r H.pc 4 3) hp
    obtain ⟨V, hV⟩ : ∃ V, rchV fr s r H.pc 4 3 = V := ⟨_, rfl⟩
    rw [hV] at hx4 ⊢
    obtain ⟨x, hx⟩ : ∃ x, loadV s V 4 = x := ⟨_, rfl⟩
    rw [hx] at hx4 ⊢
    by_cases hd : decE x = 0
    · rw [if_pos hd]
      obtain ⟨hi, h1, h2, h3, h4, h5⟩ := ins_of hx4 hd
      have hq := o_step_do h hR r hr0 hr1 H hH hT hF V hV hB x hx hx4 (insF x) ⟨h1, h2, h3, h4, h5⟩ 0 hi hd rfl _ rfl
      generalize doF fr s r (insF x).op (insF x).rd ((H.set 0 0).X (insF x).a) ((H.set 0 0).X (insF x).b) (w64 (insF x).i) H.pc { H.set 0 0 with pc := w64 (H.pc + 4) } = D at *
      by_cases hk : D.e.k = 0
      · rw [if_pos hk] at hq ⊢; exact hq
      · rw [if_neg hk] at hq ⊢; exact hq
    · rw [if_neg hd]
      have h0 : decK x = 0 := by unfold decE at hd; split at hd; · assumption
                                 · exact absurd rfl hd
      have hdv : decV x = iv 0 0 0 0 0 := by unfold decV; rw [if_pos h0]
      have hde : decE x = 2 := by unfold decE; rw [if_pos h0]
      exact o_step_bad h hR r hr0 hr1 H hH hT hF V hV hB x hx hx4 0 0 0 0 0 2 hdv hde rfl
end Go.Proofs.YtngeabphjdfdgaaGreatDoor.P
