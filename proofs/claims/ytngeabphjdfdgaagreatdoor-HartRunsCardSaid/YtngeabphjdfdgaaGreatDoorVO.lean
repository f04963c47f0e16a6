/- Stage 5: what the document says that an instruction does, whole. No condition. -/
import Derived.Test.YtngeabphjdfdgaaGreatDoorVG
import Derived.Test.YtngeabphjdfdgaaGreatDoorVH
import Derived.Test.YtngeabphjdfdgaaGreatDoorVI
import Derived.Test.YtngeabphjdfdgaaGreatDoorVK
import Derived.Test.YtngeabphjdfdgaaGreatDoorDT
import Derived.Deep.QuietTactic
import Derived.Deep.RegionHeld3
import Derived.Deep.RegionWith
import Derived.Laws.Tables
set_option linter.unusedVariables false
set_option linter.unusedSimpArgs false
set_option maxRecDepth 100000
namespace Go.Proofs.YtngeabphjdfdgaaGreatDoor.P
open Go.RowKit Go.MuLone Go.Proofs.YtngeabphjdfdgaaGreatDoor.W
theorem o_does {w0 w : World} {b fr : Nat} {s : List UInt8} {R : Asn} (h : Own w0 w (Star (rmA b fr s) R)) (hR : Stable R) (hf : fr ≤ 256) (r : Int) (hr : i64 r) (I : InS) (hia : I.a < 32) (hib : I.b < 32) (H : HS) (hH : H.ok) (hop : 1 ≤ I.op ∧ I.op ≤ 63 ∨ 66 ≤ I.op ∧ I.op ≤ 87) :
    Calls Tryz.prog 25 #[.pointer (some ⟨b, 0, none⟩), .int .i64 r, .agg (insC I), .agg (hC H)] w (MemP w0 b fr R (docF fr s r I.op (H.X I.a) (H.X I.b) (w64 I.i) H.pc (d0F H))) := by
  obtain ⟨op, rd, ia, ib', im⟩ := I
  simp only at hia hib hop ⊢
  by_cases h1 : op = 1
  · exact o_does_1 h hR hf r hr op rd ia ib' im hia hib H hH h1
  by_cases h1 : op = 2
  · exact o_does_2 h hR hf r hr op rd ia ib' im hia hib H hH h1
  by_cases h1 : op = 3
  · exact o_does_3 h hR hf r hr op rd ia ib' im hia hib H hH h1
  by_cases h1 : op = 4
  · exact o_does_4 h hR hf r hr op rd ia ib' im hia hib H hH h1
  by_cases h1 : op ≤ 10
  · cases hh : holdF op (H.X ia) (H.X ib') with
    | true => exact o_does_5t h hR hf r hr op rd ia ib' im hia hib H hH ⟨⟨by omega, h1⟩, hh⟩
    | false => exact o_does_5n h hR hf r hr op rd ia ib' im hia hib H hH ⟨⟨by omega, h1⟩, hh⟩
  by_cases h1 : op ≤ 21
  · exact o_does_11 h hR hf r hr op rd ia ib' im hia hib H hH ⟨by omega, h1⟩
  by_cases h1 : op ≤ 34
  · exact o_does_22 h hR hf r hr op rd ia ib' im hia hib H hH ⟨by omega, h1⟩
  by_cases h1 : op ≤ 62
  · exact o_does_35 h hR hf r hr op rd ia ib' im hia hib H hH ⟨by omega, h1⟩
  by_cases h1 : op = 63
  · exact o_does_63 h hR hf r hr op rd ia ib' im hia hib H hH h1
  · exact o_does_66 h hR hf r hr op rd ia ib' im hia hib H hH (by omega)
end Go.Proofs.YtngeabphjdfdgaaGreatDoor.P
namespace Go.Proofs.YtngeabphjdfdgaaGreatDoor.P
open Go.RowKit Go.MuLone Go.Proofs.YtngeabphjdfdgaaGreatDoor.W
theorem res_two {fn : Func} {p q : Tmp} {ty ty' : TypeId} (h : fn.results = #[.cell p ty, .cell q ty']) (tmps : Array Value) (P : Program) (w : World) (g k : Nat) (v0 v1 : Value)
    (hp : tmps.getD p undef = .pointer (some ⟨g, 0, none⟩)) (hq : tmps.getD q undef = .pointer (some ⟨k, 0, none⟩)) (hl : (loadVar ty ⟨g, 0, none⟩).run P w = .ok v0 w) (hl' : (loadVar ty' ⟨k, 0, none⟩).run P w = .ok v1 w) :
    (results fn tmps).run P w = .ok (.tuple #[v0, v1]) w := by
  have hp' : tmps[p]?.getD undef = .pointer (some ⟨g, 0, none⟩) := by simpa using hp
  have hq' : tmps[q]?.getD undef = .pointer (some ⟨k, 0, none⟩) := by simpa using hq
  simp [results, h, hp', hq', asAddr, hl, hl']
theorem ld_devent {w : World} {g : Nat} {d : DN} (h : w.heap[g]? = some (.cells (dnC d) 74)) : (loadVar 36 ⟨g, 3, none⟩).run Tryz.prog w = .ok (.agg (evC d.e)) w :=
  run_loadVar_mid w g 3 36 (evC d.e).toList _ (fun j v hv => by
    have hj : j < 3 := (List.getElem?_eq_some_iff.1 hv).1
    refine blk_cell h (3 + j) ?_
    rw [← hv]
    rcases (by omega : j = 0 ∨ j = 1 ∨ j = 2) with rfl | rfl | rfl <;> rfl) Tryz.underlying36 rfl (by rw [show (evC d.e).toList.length = 3 from rfl]; kernel_rfl)
theorem ex_devent {w : World} {g : Nat} {dn : DN} {e : Operand → Value} {d : Option Tmp} {x : Operand} {ty : TypeId} {p : String} {af : Array Edge} {gd : Option (Nat × Bool)} (h : w.heap[g]? = some (.cells (dnC dn) 74)) (hx : e x = .pointer (some ⟨g, 3, none⟩)) : (execOp e ⟨d, .load 36 x, ty, p, af, gd⟩).run Tryz.prog w = .ok (.value (.agg (evC dn.e))) w := by
  unfold execOp
  simp only [hx, Instr.loadAt, Instr.sureAddr, Sem.run_bind, Sem.run_pure, Result.andThen_ok, ld_devent h]
theorem dstep_in {w0 w : World} {b fr : Nat} {s : List UInt8} {R : Asn} (h : Own w0 w (Star (rmA b fr s) R)) (hR : Stable R) (H : HS) :
    Own w0 (((w.alloc (.cells (hC H) 27)).alloc (.cells #[.int .u64 0, .int .u64 0, .int .u64 0, .int .u64 0, .int .u64 0, .int .u64 0, .int .u64 0, .int .u64 0, .int .u64 0, .int .u64 0, .int .u64 0, .int .u64 0, .int .u64 0, .int .u64 0, .int .u64 0, .int .u64 0, .int .u64 0, .int .u64 0, .int .u64 0, .int .u64 0, .int .u64 0, .int .u64 0, .int .u64 0, .int .u64 0, .int .u64 0, .int .u64 0, .int .u64 0, .int .u64 0, .int .u64 0, .int .u64 0, .int .u64 0, .int .u64 0, .int .u64 0, .bool false, .int .u64 0] 27)).alloc (.cells #[.int .i64 0, .int .u64 0, .bool false] 36))
      (Star (blkA w.heap.size (.cells (hC H) 27)) (Star (rmA b fr s) (Star (blkA (w.heap.size + 1) (.cells (hC HZ) 27)) (Star (blkA (w.heap.size + 1 + 1) (.cells (evC e0) 36)) R)))) := by
  have S := stable_star (stable_rm b fr s) hR
  have k1 := h.alloc S (.cells (hC H) 27)
  have k2 := k1.alloc (stable_star (stable_blk _ _) S) (.cells (hC HZ) 27)
  have k3 := k2.alloc (stable_star (stable_blk _ _) (stable_star (stable_blk _ _) S)) (.cells (evC e0) 36)
  rw [World.size_alloc, World.size_alloc] at k3
  -- e, z, h, rm, R
  refine k3.mono (fun F h => ?_)
  have q := st3 h
  -- h, e, z, rm, R
  exact star_mono_r (fun F h => star_mono_r (fun F h => star_swap2 h) (st3 h)) q
set_option maxHeartbeats 6400000 in
theorem o_dstep_fetch {w0 w : World} {b fr : Nat} {s : List UInt8} {R : Asn} (h : Own w0 w (Star (rmA b fr s) R)) (hR : Stable R) (hf : fr ≤ 256) (r : Int) (hr : i64 r) (H : HS) (hH : H.ok) (V : Int) (hV : rchV fr s r H.pc 4 3 = V) (hB : rchB fr s r H.pc 4 3 = false) :
    Calls Tryz.prog 9 #[.pointer (some ⟨b, 0, none⟩), .int .i64 r, .agg (hC H)] w fun e w' => e = .returned (.tuple #[.agg (hC (H.set 0 0)), .agg (evC ⟨4, H.pc, false⟩)]) ∧ Own w0 w' (Star (rmA b fr s) R) := by
  have hi := dstep_in h hR H
  clear h
  have HR := Lib.hid hR
  have HRI := Lib.hid hr
  have HFR := Lib.hid hf
  have hpc := hH.2.1
  have HPC := Lib.hid hpc
  have HOK := Lib.hid hH
  have HB := Lib.hid hB
  have HVE := Lib.hid hV
  obtain ⟨G, hG⟩ : ∃ G, H.set 0 0 = G := ⟨_, rfl⟩
  have p1 : G.pc = H.pc := by rw [← hG]; rfl
  have HG := Lib.hid hG
  try rw [hG]
  clear hR hr hf hH hpc hB hV hG
  go_enter Tryz.func9, Tryz.ntmps9
  go_upto_region 1 with fail
  generalize (World.alloc _ (.cells _ 36)) = w1 at *
  generalize w.heap.size + 1 + 1 = eb at *
  generalize w.heap.size + 1 = zb at *
  generalize w.heap.size = hb at *
  have S0 := Lib.hid (stable_star (stable_rm b fr s) (stable_star (stable_blk zb (.cells (hC HZ) 27)) (stable_star (stable_blk eb (.cells (evC e0) 36)) HR.out)))
  have HI := Lib.hid hi
  clear hi
  have c0 := blk_cell HI.out.blk 0 (hC_x H 0 (by decide))
  have f0 := blk_frozen HI.out.blk 0
  have k3 := HI.out.set S0.out 0 (.int .u64 0)
  rw [hC_setx H 0 0 (by decide), HG.out] at k3
  have K3 := Lib.hid k3
  clear k3
  go_upto_region 2 with fail
  clear c0 f0 HI
  generalize World.setCell w1 ⟨hb, 0, none⟩ _ = w3 at *
  have c2 := blk_cell K3.out.blk 32 (v := .int .u64 H.pc) (by rw [← p1]; rfl)
  have S1 := Lib.hid (stable_star (stable_blk hb (.cells (hC G) 27)) (stable_star (stable_blk zb (.cells (hC HZ) 27)) (stable_star (stable_blk eb (.cells (evC e0) 36)) HR.out)))
  obtain ⟨U, hU⟩ : ∃ q, walkV fr s r H.pc 3 = q := ⟨_, rfl⟩
  have CR := Lib.hid (o_access K3.out.swap2 S1.out r H.pc 4 3 HPC.out HRI.out (.inr (.inr (.inl rfl))) U false hU HB.out)
  clear hU
  have ST1 := Lib.hid (stable_star (stable_blk hb (.cells (hC G) 27)) (stable_star (stable_rm b fr s) (stable_star (stable_blk eb (.cells (evC e0) 36)) (HR.out))))
  have ST2 := Lib.hid (stable_star (stable_blk zb (.cells (hC G) 27)) (stable_star (stable_blk hb (.cells (hC G) 27)) (stable_star (stable_rm b fr s) (HR.out))))
  have SK := Lib.hid (stable_star (stable_blk hb (.cells (hC G) 27)) (stable_star (stable_rm b fr s) (stable_star (stable_blk zb (.cells (hC HZ) 27)) (stable_star (stable_blk eb (.cells (evC e0) 36)) (HR.out)))))
  go_wp2_with (go_at_call 22; refine CR.out.mono ?_; rintro e w4 ⟨rfl, h4⟩; have K4 := Lib.hid h4.swap2; clear h4)
  have KD := Lib.hid (K4.out.drew SK.out)
  clear CR K3 c2 S1
  refine wp_region_held_drew (S := fun w' => w'.heap[hb]? = some (.cells (hC G) 27)) (by kernel_rfl) KD.out.blk (fun hH => ?_)
  refine wpAnyH_take (i := 0) (oi := { dst := some 25, op := Go.Op.load 27 (Go.Operand.tmp 5), type := 27, pos := "ref.go:193", after := #[], guard := none }) (v := .agg (hC G)) rfl (by kernel_rfl) (by kernel_rfl) (by kernel_rfl) (fun _ _ _ h => h) (Or.inl ⟨by rfl, fun w' hS' => ex_hart hS' rfl⟩) hH ?_
  try simp only [Act.put, List.setIfInBounds_toArray, List.set_cons_zero, List.set_cons_succ]
  refine wpAnyH_take (i := 1) (oi := { dst := some 26, op := Go.Op.fieldAddr 27 (Go.Operand.tmp 5) 1, type := 0, pos := "ref.go:193", after := #[{ on := 4, ground := Go.Ground.gcOnly Go.Departure.lateStores }], guard := none }) (v := .pointer (some ⟨hb, 32, none⟩)) rfl (by kernel_rfl) (by kernel_rfl) (by kernel_rfl) (fun _ _ _ h => h) (Or.inl ⟨by rfl, fun w' hS' => by first | rfl | (go_simp; done) | (go_simp; rfl)⟩) hH ?_
  try simp only [Act.put, List.setIfInBounds_toArray, List.set_cons_zero, List.set_cons_succ]
  refine wpAnyH_take (i := 2) (oi := { dst := some 27, op := Go.Op.load 24 (Go.Operand.tmp 26), type := 24, pos := "ref.go:193", after := #[{ on := 1, ground := Go.Ground.data }, { on := 4, ground := Go.Ground.gcOnly Go.Departure.lateStores }], guard := none }) (v := .int .u64 G.pc) rfl (by kernel_rfl) (by kernel_rfl) (by kernel_rfl) (fun _ _ _ h => h) (Or.inl ⟨by rfl, fun w' hS' => by have c := blk_cell hS' 32 (v := .int .u64 (G.pc)) rfl; go_simp⟩) hH ?_
  try simp only [Act.put, List.setIfInBounds_toArray, List.set_cons_zero, List.set_cons_succ]
  refine wpAnyH_take (i := 3) (oi := { dst := some 28, op := Go.Op.build 36 #[(0, Go.Operand.const (Go.Value.int Go.IntKind.i64 4)), (1, Go.Operand.tmp 27)], type := 36, pos := "ref.go:193", after := #[{ on := 2, ground := Go.Ground.data }, { on := 4, ground := Go.Ground.gcOnly Go.Departure.lateStores }], guard := none }) (v := .agg (evC ⟨4, G.pc, false⟩)) rfl (by kernel_rfl) (by kernel_rfl) (by kernel_rfl) (fun _ _ _ h => h) (Or.inl ⟨by rfl, fun w' hS' => by first | rfl | (go_simp; done) | (go_simp; rfl)⟩) hH ?_
  try simp only [Act.put, List.setIfInBounds_toArray, List.set_cons_zero, List.set_cons_succ]
  have Z1 := Lib.hid (KD.out.mono (fun F h => st3 h))
  refine wpAnyH_ready (rs := [4]) (by kernel_rfl) (by simp) ?_
  refine AllReadyH.cons (o := { dst := none, op := Go.Op.store 27 (Go.Operand.tmp 6) (Go.Operand.tmp 25), type := 0, pos := "ref.go:193", after := #[{ on := 0, ground := Go.Ground.data }, { on := 0, ground := Go.Ground.phase }, { on := 1, ground := Go.Ground.textOnly Go.Departure.lateStores }, { on := 2, ground := Go.Ground.textOnly Go.Departure.lateStores }, { on := 3, ground := Go.Ground.textOnly Go.Departure.lateStores }], guard := none }) rfl (fun K' hK => ?_) AllReadyH.nil
  rw [if_pos (by rfl)]
  refine wp_store_row 27 _ _ rfl zb (hC G) rfl rfl 27 _ Z1.out.blk (hC_info _) rfl (hC_all1 _) ?_
  have Z2 := Lib.hid ((Z1.out.setRow ST1.out (hC G)).mono (fun F h => st4 h))
  refine hK.out _ _ (Z2.out.right.right.blk) (fun hH2 => ?_)
  clear hK K'
  try simp only [Act.put, List.setIfInBounds_toArray, List.set_cons_zero, List.set_cons_succ]
  refine wpAnyH_ready (rs := [5]) (by kernel_rfl) (by simp) ?_
  refine AllReadyH.cons (o := { dst := none, op := Go.Op.store 36 (Go.Operand.tmp 7) (Go.Operand.tmp 28), type := 0, pos := "ref.go:193", after := #[{ on := 3, ground := Go.Ground.data }, { on := 4, ground := Go.Ground.chain }, { on := 0, ground := Go.Ground.phase }, { on := 1, ground := Go.Ground.phase }, { on := 2, ground := Go.Ground.phase }, { on := 3, ground := Go.Ground.phase }, { on := 4, ground := Go.Ground.phase }], guard := none }) rfl (fun K' hK => ?_) AllReadyH.nil
  rw [if_pos (by rfl)]
  refine wp_store_row 36 _ _ rfl eb (evC ⟨4, G.pc, false⟩) rfl rfl 36 _ Z2.out.blk (evC_info _) rfl (evC_all1 _) ?_
  have Z3 := Lib.hid (Z2.out.setRow ST2.out (evC ⟨4, G.pc, false⟩))
  refine hK.out _ _ (Z3.out.right.right.blk) (fun hH3 => ?_)
  clear hK K'
  try simp only [Act.put, List.setIfInBounds_toArray, List.set_cons_zero, List.set_cons_succ]
  refine wpAnyH_done (by kernel_rfl) ?_ _
  go_wp2_with fail
  refine bodyPost_ret (res_two rfl _ _ _ zb eb _ _ rfl rfl (ldH Z3.out.right.blk) (ldE Z3.out.blk)) rfl ?_
  refine ⟨?_, Z3.out.right.right.right⟩
  rw [p1]
set_option maxHeartbeats 6400000 in
theorem o_dstep_bad {w0 w : World} {b fr : Nat} {s : List UInt8} {R : Asn} (h : Own w0 w (Star (rmA b fr s) R)) (hR : Stable R) (hf : fr ≤ 256) (r : Int) (hr : i64 r) (H : HS) (hH : H.ok) (V : Int) (hV : rchV fr s r H.pc 4 3 = V) (hB : rchB fr s r H.pc 4 3 = true) (x : Int) (hx : loadV s V 4 = x) (hx4 : u32 x) (dop drd da db di DE : Int) (hdv : decV x = iv dop drd da db di) (hde : decE x = DE) (hne : (DE != 0) = true) :
    Calls Tryz.prog 9 #[.pointer (some ⟨b, 0, none⟩), .int .i64 r, .agg (hC H)] w fun e w' => e = .returned (.tuple #[.agg (hC (H.set 0 0)), .agg (evC ⟨3, 0, false⟩)]) ∧ Own w0 w' (Star (rmA b fr s) R) := by
  have hi := dstep_in h hR H
  clear h
  have HR := Lib.hid hR
  have HRI := Lib.hid hr
  have HFR := Lib.hid hf
  have hpc := hH.2.1
  have HPC := Lib.hid hpc
  have HOK := Lib.hid hH
  have HB := Lib.hid hB
  have HVE := Lib.hid hV
  obtain ⟨G, hG⟩ : ∃ G, H.set 0 0 = G := ⟨_, rfl⟩
  have p1 : G.pc = H.pc := by rw [← hG]; rfl
  have HG := Lib.hid hG
  try rw [hG]
  clear hR hr hf hH hpc hB hV hG
  go_enter Tryz.func9, Tryz.ntmps9
  go_upto_region 1 with fail
  generalize (World.alloc _ (.cells _ 36)) = w1 at *
  generalize w.heap.size + 1 + 1 = eb at *
  generalize w.heap.size + 1 = zb at *
  generalize w.heap.size = hb at *
  have S0 := Lib.hid (stable_star (stable_rm b fr s) (stable_star (stable_blk zb (.cells (hC HZ) 27)) (stable_star (stable_blk eb (.cells (evC e0) 36)) HR.out)))
  have HI := Lib.hid hi
  clear hi
  have c0 := blk_cell HI.out.blk 0 (hC_x H 0 (by decide))
  have f0 := blk_frozen HI.out.blk 0
  have k3 := HI.out.set S0.out 0 (.int .u64 0)
  rw [hC_setx H 0 0 (by decide), HG.out] at k3
  have K3 := Lib.hid k3
  clear k3
  go_upto_region 2 with fail
  clear c0 f0 HI
  generalize World.setCell w1 ⟨hb, 0, none⟩ _ = w3 at *
  have c2 := blk_cell K3.out.blk 32 (v := .int .u64 H.pc) (by rw [← p1]; rfl)
  have S1 := Lib.hid (stable_star (stable_blk hb (.cells (hC G) 27)) (stable_star (stable_blk zb (.cells (hC HZ) 27)) (stable_star (stable_blk eb (.cells (evC e0) 36)) HR.out)))
  have HVU := Lib.hid (by rw [← HVE.out]; exact (rch_u64 (s := s) (r := r) (n := 4) (acc := 3) HFR.out HPC.out).1 : Go.Proofs.YtngeabphjdfdgaaGreatDoor.P.u64 V)
  have hw := rch_walk HB.out
  rw [HVE.out] at hw
  have CR := Lib.hid (o_access K3.out.swap2 S1.out r H.pc 4 3 HPC.out HRI.out (.inr (.inr (.inl rfl))) V true hw HB.out)
  clear hw
  have ST1 := Lib.hid (stable_star (stable_blk hb (.cells (hC G) 27)) (stable_star (stable_rm b fr s) (stable_star (stable_blk eb (.cells (evC e0) 36)) (HR.out))))
  have ST2 := Lib.hid (stable_star (stable_blk zb (.cells (hC G) 27)) (stable_star (stable_blk hb (.cells (hC G) 27)) (stable_star (stable_rm b fr s) (HR.out))))
  have SK := Lib.hid (stable_star (stable_blk hb (.cells (hC G) 27)) (stable_star (stable_rm b fr s) (stable_star (stable_blk zb (.cells (hC HZ) 27)) (stable_star (stable_blk eb (.cells (evC e0) 36)) (HR.out)))))
  have wx : IntKind.u32.wrap x = x := by rw [IntKind.wrap_u32]; obtain ⟨q0, q1⟩ := hx4; omega
  have HX := Lib.hid hx
  have HDE := Lib.hid (fun w' => r_decode x hx4 w')
  rw [hdv, hde] at HDE
  clear hx hdv hde
  go_upto_region 5 with (go_at_call 22; refine CR.out.mono ?_; rintro e w4 ⟨rfl, h4⟩; have K4 := Lib.hid h4; clear h4)
  have CL0 := o_load5 K4.out S1.out V 4 HVU.out
  rw [HX.out] at CL0
  have CL := Lib.hid CL0
  clear CL0
  go_upto_region 6 with (first
    | (go_at_call 24; refine CL.out.mono ?_; rintro e w5 ⟨rfl, h5⟩; have K5 := Lib.hid h5; clear h5)
    | (go_at_call 23; refine (HDE.out _).mono ?_; rintro e w6 ⟨rfl, g6⟩; have K6 := Lib.hid ((K5.out.gr (stable_star (stable_rm b fr s) S1.out) g6).swap2); clear g6))
  have K7 := Lib.hid (K6.out.alloc SK.out (.cells #[.int .i64 dop, .int .i64 drd, .int .i64 da, .int .i64 db, .int .i64 di] 61))
  clear CR K3 K4 K5 K6 c2 HDE CL
  generalize (World.alloc w6 _) = w7 at *
  generalize w6.heap.size = xb at *
  have R7 := Lib.hid K7.out.right
  have c0 := blk_cell K7.out.blk 0 (v := .int .i64 dop) rfl
  have Z1 := Lib.hid (R7.out.mono (fun F h => st3 h))
  have Z2 := Lib.hid ((Z1.out.setRow ST1.out (hC G)).mono (fun F h => st4 h))
  have Z3 := Lib.hid (Z2.out.setRow ST2.out (evC ⟨3, 0, false⟩))
  clear K7
  go_wp2_with (first
    | (refine wpList_load_g5 (by first | rfl | fail) 27 _ rfl hb rfl 27 _ (0, 0) _ R7.out.blk Tryz.underlying27 rfl (hC_info _) ?_)
    | (refine wpList_store_row rfl 27 _ _ rfl _ _ rfl rfl 27 _ Z1.out.blk (hC_info _) rfl (hC_all1 _) ?_)
    | (refine wpList_store_row rfl 36 _ _ rfl _ _ rfl rfl 36 _ Z2.out.blk (evC_info ⟨3, 0, false⟩) rfl (evC_all1 ⟨3, 0, false⟩) ?_))
  refine bodyPost_ret (res_two rfl _ _ _ zb eb _ _ rfl rfl (ldH Z3.out.right.blk) (ldE Z3.out.blk)) rfl ⟨rfl, Z3.out.right.right.right⟩
set_option maxHeartbeats 6400000 in
theorem o_dstep_64 {w0 w : World} {b fr : Nat} {s : List UInt8} {R : Asn} (h : Own w0 w (Star (rmA b fr s) R)) (hR : Stable R) (hf : fr ≤ 256) (r : Int) (hr : i64 r) (H : HS) (hH : H.ok) (V : Int) (hV : rchV fr s r H.pc 4 3 = V) (hB : rchB fr s r H.pc 4 3 = true) (x : Int) (hx : loadV s V 4 = x) (hx4 : u32 x) (dop drd da db di DE : Int) (hdv : decV x = iv dop drd da db di) (hde : decE x = DE) (hd0 : DE = 0) (h64 : dop = 64) :
    Calls Tryz.prog 9 #[.pointer (some ⟨b, 0, none⟩), .int .i64 r, .agg (hC H)] w fun e w' => e = .returned (.tuple #[.agg (hC (H.set 0 0)), .agg (evC ⟨1, 0, false⟩)]) ∧ Own w0 w' (Star (rmA b fr s) R) := by
  subst hd0
  subst h64
  have hi := dstep_in h hR H
  clear h
  have HR := Lib.hid hR
  have HRI := Lib.hid hr
  have HFR := Lib.hid hf
  have hpc := hH.2.1
  have HPC := Lib.hid hpc
  have HOK := Lib.hid hH
  have HB := Lib.hid hB
  have HVE := Lib.hid hV
  obtain ⟨G, hG⟩ : ∃ G, H.set 0 0 = G := ⟨_, rfl⟩
  have p1 : G.pc = H.pc := by rw [← hG]; rfl
  have HG := Lib.hid hG
  try rw [hG]
  clear hR hr hf hH hpc hB hV hG
  go_enter Tryz.func9, Tryz.ntmps9
  go_upto_region 1 with fail
  generalize (World.alloc _ (.cells _ 36)) = w1 at *
  generalize w.heap.size + 1 + 1 = eb at *
  generalize w.heap.size + 1 = zb at *
  generalize w.heap.size = hb at *
  have S0 := Lib.hid (stable_star (stable_rm b fr s) (stable_star (stable_blk zb (.cells (hC HZ) 27)) (stable_star (stable_blk eb (.cells (evC e0) 36)) HR.out)))
  have HI := Lib.hid hi
  clear hi
  have c0 := blk_cell HI.out.blk 0 (hC_x H 0 (by decide))
  have f0 := blk_frozen HI.out.blk 0
  have k3 := HI.out.set S0.out 0 (.int .u64 0)
  rw [hC_setx H 0 0 (by decide), HG.out] at k3
  have K3 := Lib.hid k3
  clear k3
  go_upto_region 2 with fail
  clear c0 f0 HI
  generalize World.setCell w1 ⟨hb, 0, none⟩ _ = w3 at *
  have c2 := blk_cell K3.out.blk 32 (v := .int .u64 H.pc) (by rw [← p1]; rfl)
  have S1 := Lib.hid (stable_star (stable_blk hb (.cells (hC G) 27)) (stable_star (stable_blk zb (.cells (hC HZ) 27)) (stable_star (stable_blk eb (.cells (evC e0) 36)) HR.out)))
  have HVU := Lib.hid (by rw [← HVE.out]; exact (rch_u64 (s := s) (r := r) (n := 4) (acc := 3) HFR.out HPC.out).1 : Go.Proofs.YtngeabphjdfdgaaGreatDoor.P.u64 V)
  have hw := rch_walk HB.out
  rw [HVE.out] at hw
  have CR := Lib.hid (o_access K3.out.swap2 S1.out r H.pc 4 3 HPC.out HRI.out (.inr (.inr (.inl rfl))) V true hw HB.out)
  clear hw
  have ST1 := Lib.hid (stable_star (stable_blk hb (.cells (hC G) 27)) (stable_star (stable_rm b fr s) (stable_star (stable_blk eb (.cells (evC e0) 36)) (HR.out))))
  have ST2 := Lib.hid (stable_star (stable_blk zb (.cells (hC G) 27)) (stable_star (stable_blk hb (.cells (hC G) 27)) (stable_star (stable_rm b fr s) (HR.out))))
  have SK := Lib.hid (stable_star (stable_blk hb (.cells (hC G) 27)) (stable_star (stable_rm b fr s) (stable_star (stable_blk zb (.cells (hC HZ) 27)) (stable_star (stable_blk eb (.cells (evC e0) 36)) (HR.out)))))
  have wx : IntKind.u32.wrap x = x := by rw [IntKind.wrap_u32]; obtain ⟨q0, q1⟩ := hx4; omega
  have HX := Lib.hid hx
  have HDE := Lib.hid (fun w' => r_decode x hx4 w')
  rw [hdv, hde] at HDE
  clear hx hdv hde
  go_upto_region 5 with (go_at_call 22; refine CR.out.mono ?_; rintro e w4 ⟨rfl, h4⟩; have K4 := Lib.hid h4; clear h4)
  have CL0 := o_load5 K4.out S1.out V 4 HVU.out
  rw [HX.out] at CL0
  have CL := Lib.hid CL0
  clear CL0
  go_upto_region 6 with (first
    | (go_at_call 24; refine CL.out.mono ?_; rintro e w5 ⟨rfl, h5⟩; have K5 := Lib.hid h5; clear h5)
    | (go_at_call 23; refine (HDE.out _).mono ?_; rintro e w6 ⟨rfl, g6⟩; have K6 := Lib.hid ((K5.out.gr (stable_star (stable_rm b fr s) S1.out) g6).swap2); clear g6))
  have K7 := Lib.hid (K6.out.alloc SK.out (.cells #[.int .i64 64, .int .i64 drd, .int .i64 da, .int .i64 db, .int .i64 di] 61))
  clear CR K3 K4 K5 K6 c2 HDE CL
  generalize (World.alloc w6 _) = w7 at *
  generalize w6.heap.size = xb at *
  have R7 := Lib.hid K7.out.right
  have c0 := blk_cell K7.out.blk 0 (v := .int .i64 64) rfl
  have Z1 := Lib.hid (R7.out.mono (fun F h => st3 h))
  have Z2 := Lib.hid ((Z1.out.setRow ST1.out (hC G)).mono (fun F h => st4 h))
  have Z3 := Lib.hid (Z2.out.setRow ST2.out (evC ⟨1, 0, false⟩))
  clear K7
  go_wp2_with (first
    | (refine wpList_load_g5 (by first | rfl | fail) 27 _ rfl hb rfl 27 _ (0, 0) _ R7.out.blk Tryz.underlying27 rfl (hC_info _) ?_)
    | (refine wpList_store_row rfl 27 _ _ rfl _ _ rfl rfl 27 _ Z1.out.blk (hC_info _) rfl (hC_all1 _) ?_)
    | (refine wpList_store_row rfl 36 _ _ rfl _ _ rfl rfl 36 _ Z2.out.blk (evC_info ⟨1, 0, false⟩) rfl (evC_all1 ⟨1, 0, false⟩) ?_))
  refine bodyPost_ret (res_two rfl _ _ _ zb eb _ _ rfl rfl (ldH Z3.out.right.blk) (ldE Z3.out.blk)) rfl ⟨rfl, Z3.out.right.right.right⟩
set_option maxHeartbeats 6400000 in
theorem o_dstep_65 {w0 w : World} {b fr : Nat} {s : List UInt8} {R : Asn} (h : Own w0 w (Star (rmA b fr s) R)) (hR : Stable R) (hf : fr ≤ 256) (r : Int) (hr : i64 r) (H : HS) (hH : H.ok) (V : Int) (hV : rchV fr s r H.pc 4 3 = V) (hB : rchB fr s r H.pc 4 3 = true) (x : Int) (hx : loadV s V 4 = x) (hx4 : u32 x) (dop drd da db di DE : Int) (hdv : decV x = iv dop drd da db di) (hde : decE x = DE) (hd0 : DE = 0) (h65 : dop = 65) :
    Calls Tryz.prog 9 #[.pointer (some ⟨b, 0, none⟩), .int .i64 r, .agg (hC H)] w fun e w' => e = .returned (.tuple #[.agg (hC (H.set 0 0)), .agg (evC ⟨2, 0, false⟩)]) ∧ Own w0 w' (Star (rmA b fr s) R) := by
  subst hd0
  subst h65
  have hi := dstep_in h hR H
  clear h
  have HR := Lib.hid hR
  have HRI := Lib.hid hr
  have HFR := Lib.hid hf
  have hpc := hH.2.1
  have HPC := Lib.hid hpc
  have HOK := Lib.hid hH
  have HB := Lib.hid hB
  have HVE := Lib.hid hV
  obtain ⟨G, hG⟩ : ∃ G, H.set 0 0 = G := ⟨_, rfl⟩
  have p1 : G.pc = H.pc := by rw [← hG]; rfl
  have HG := Lib.hid hG
  try rw [hG]
  clear hR hr hf hH hpc hB hV hG
  go_enter Tryz.func9, Tryz.ntmps9
  go_upto_region 1 with fail
  generalize (World.alloc _ (.cells _ 36)) = w1 at *
  generalize w.heap.size + 1 + 1 = eb at *
  generalize w.heap.size + 1 = zb at *
  generalize w.heap.size = hb at *
  have S0 := Lib.hid (stable_star (stable_rm b fr s) (stable_star (stable_blk zb (.cells (hC HZ) 27)) (stable_star (stable_blk eb (.cells (evC e0) 36)) HR.out)))
  have HI := Lib.hid hi
  clear hi
  have c0 := blk_cell HI.out.blk 0 (hC_x H 0 (by decide))
  have f0 := blk_frozen HI.out.blk 0
  have k3 := HI.out.set S0.out 0 (.int .u64 0)
  rw [hC_setx H 0 0 (by decide), HG.out] at k3
  have K3 := Lib.hid k3
  clear k3
  go_upto_region 2 with fail
  clear c0 f0 HI
  generalize World.setCell w1 ⟨hb, 0, none⟩ _ = w3 at *
  have c2 := blk_cell K3.out.blk 32 (v := .int .u64 H.pc) (by rw [← p1]; rfl)
  have S1 := Lib.hid (stable_star (stable_blk hb (.cells (hC G) 27)) (stable_star (stable_blk zb (.cells (hC HZ) 27)) (stable_star (stable_blk eb (.cells (evC e0) 36)) HR.out)))
  have HVU := Lib.hid (by rw [← HVE.out]; exact (rch_u64 (s := s) (r := r) (n := 4) (acc := 3) HFR.out HPC.out).1 : Go.Proofs.YtngeabphjdfdgaaGreatDoor.P.u64 V)
  have hw := rch_walk HB.out
  rw [HVE.out] at hw
  have CR := Lib.hid (o_access K3.out.swap2 S1.out r H.pc 4 3 HPC.out HRI.out (.inr (.inr (.inl rfl))) V true hw HB.out)
  clear hw
  have ST1 := Lib.hid (stable_star (stable_blk hb (.cells (hC G) 27)) (stable_star (stable_rm b fr s) (stable_star (stable_blk eb (.cells (evC e0) 36)) (HR.out))))
  have ST2 := Lib.hid (stable_star (stable_blk zb (.cells (hC G) 27)) (stable_star (stable_blk hb (.cells (hC G) 27)) (stable_star (stable_rm b fr s) (HR.out))))
  have SK := Lib.hid (stable_star (stable_blk hb (.cells (hC G) 27)) (stable_star (stable_rm b fr s) (stable_star (stable_blk zb (.cells (hC HZ) 27)) (stable_star (stable_blk eb (.cells (evC e0) 36)) (HR.out)))))
  have wx : IntKind.u32.wrap x = x := by rw [IntKind.wrap_u32]; obtain ⟨q0, q1⟩ := hx4; omega
  have HX := Lib.hid hx
  have HDE := Lib.hid (fun w' => r_decode x hx4 w')
  rw [hdv, hde] at HDE
  clear hx hdv hde
  go_upto_region 5 with (go_at_call 22; refine CR.out.mono ?_; rintro e w4 ⟨rfl, h4⟩; have K4 := Lib.hid h4; clear h4)
  have CL0 := o_load5 K4.out S1.out V 4 HVU.out
  rw [HX.out] at CL0
  have CL := Lib.hid CL0
  clear CL0
  go_upto_region 6 with (first
    | (go_at_call 24; refine CL.out.mono ?_; rintro e w5 ⟨rfl, h5⟩; have K5 := Lib.hid h5; clear h5)
    | (go_at_call 23; refine (HDE.out _).mono ?_; rintro e w6 ⟨rfl, g6⟩; have K6 := Lib.hid ((K5.out.gr (stable_star (stable_rm b fr s) S1.out) g6).swap2); clear g6))
  have K7 := Lib.hid (K6.out.alloc SK.out (.cells #[.int .i64 65, .int .i64 drd, .int .i64 da, .int .i64 db, .int .i64 di] 61))
  clear CR K3 K4 K5 K6 c2 HDE CL
  generalize (World.alloc w6 _) = w7 at *
  generalize w6.heap.size = xb at *
  have R7 := Lib.hid K7.out.right
  have c0 := blk_cell K7.out.blk 0 (v := .int .i64 65) rfl
  have Z1 := Lib.hid (R7.out.mono (fun F h => st3 h))
  have Z2 := Lib.hid ((Z1.out.setRow ST1.out (hC G)).mono (fun F h => st4 h))
  have Z3 := Lib.hid (Z2.out.setRow ST2.out (evC ⟨2, 0, false⟩))
  clear K7
  go_wp2_with (first
    | (refine wpList_load_g5 (by first | rfl | fail) 27 _ rfl hb rfl 27 _ (0, 0) _ R7.out.blk Tryz.underlying27 rfl (hC_info _) ?_)
    | (refine wpList_store_row rfl 27 _ _ rfl _ _ rfl rfl 27 _ Z1.out.blk (hC_info _) rfl (hC_all1 _) ?_)
    | (refine wpList_store_row rfl 36 _ _ rfl _ _ rfl rfl 36 _ Z2.out.blk (evC_info ⟨2, 0, false⟩) rfl (evC_all1 ⟨2, 0, false⟩) ?_))
  refine bodyPost_ret (res_two rfl _ _ _ zb eb _ _ rfl rfl (ldH Z3.out.right.blk) (ldE Z3.out.blk)) rfl ⟨rfl, Z3.out.right.right.right⟩
end Go.Proofs.YtngeabphjdfdgaaGreatDoor.P
namespace Go.Proofs.YtngeabphjdfdgaaGreatDoor.P
open Go.RowKit Go.MuLone Go.Proofs.YtngeabphjdfdgaaGreatDoor.W
set_option maxHeartbeats 6400000 in
theorem o_dstep_ev {w0 w : World} {b fr : Nat} {s : List UInt8} {R : Asn} (h : Own w0 w (Star (rmA b fr s) R)) (hR : Stable R) (hf : fr ≤ 256) (r : Int) (hr : i64 r) (H : HS) (hH : H.ok) (V : Int) (hV : rchV fr s r H.pc 4 3 = V) (hB : rchB fr s r H.pc 4 3 = true) (x : Int) (hx : loadV s V 4 = x) (hx4 : u32 x) (I : InS) (hI : I.rd < 32 ∧ I.a < 32 ∧ I.b < 32) (hop : 1 ≤ I.op ∧ I.op ≤ 63 ∨ 66 ≤ I.op ∧ I.op ≤ 87) (hdv : decV x = iv I.op (I.rd : Int) (I.a : Int) (I.b : Int) I.i) (hde : decE x = 0) (D : DR) (hD : docF fr s r I.op ((H.set 0 0).X I.a) ((H.set 0 0).X I.b) (w64 I.i) H.pc (d0F (H.set 0 0)) = D) (hk : D.d.e.k ≠ 0) :
    Calls Tryz.prog 9 #[.pointer (some ⟨b, 0, none⟩), .int .i64 r, .agg (hC H)] w fun e w' => e = .returned (.tuple #[.agg (hC (H.set 0 0)), .agg (evC D.d.e)]) ∧ Own w0 w' (Star (rmA b fr D.s) R) := by
  have hk2 : (D.d.e.k != 0) = true := by simpa using hk
  clear hk
  have hi := dstep_in h hR H
  clear h
  have HR := Lib.hid hR
  have HRI := Lib.hid hr
  have HFR := Lib.hid hf
  have hpc := hH.2.1
  have HPC := Lib.hid hpc
  have HOK := Lib.hid hH
  have HB := Lib.hid hB
  have HVE := Lib.hid hV
  obtain ⟨G, hG⟩ : ∃ G, H.set 0 0 = G := ⟨_, rfl⟩
  have p1 : G.pc = H.pc := by rw [← hG]; rfl
  have HG := Lib.hid hG
  try rw [hG]
  clear hR hr hf hH hpc hB hV hG
  go_enter Tryz.func9, Tryz.ntmps9
  go_upto_region 1 with fail
  generalize (World.alloc _ (.cells _ 36)) = w1 at *
  generalize w.heap.size + 1 + 1 = eb at *
  generalize w.heap.size + 1 = zb at *
  generalize w.heap.size = hb at *
  have S0 := Lib.hid (stable_star (stable_rm b fr s) (stable_star (stable_blk zb (.cells (hC HZ) 27)) (stable_star (stable_blk eb (.cells (evC e0) 36)) HR.out)))
  have HI := Lib.hid hi
  clear hi
  have c0 := blk_cell HI.out.blk 0 (hC_x H 0 (by decide))
  have f0 := blk_frozen HI.out.blk 0
  have k3 := HI.out.set S0.out 0 (.int .u64 0)
  rw [hC_setx H 0 0 (by decide), HG.out] at k3
  have K3 := Lib.hid k3
  clear k3
  go_upto_region 2 with fail
  clear c0 f0 HI
  generalize World.setCell w1 ⟨hb, 0, none⟩ _ = w3 at *
  have c2 := blk_cell K3.out.blk 32 (v := .int .u64 H.pc) (by rw [← p1]; rfl)
  have S1 := Lib.hid (stable_star (stable_blk hb (.cells (hC G) 27)) (stable_star (stable_blk zb (.cells (hC HZ) 27)) (stable_star (stable_blk eb (.cells (evC e0) 36)) HR.out)))
  have HVU := Lib.hid (by rw [← HVE.out]; exact (rch_u64 (s := s) (r := r) (n := 4) (acc := 3) HFR.out HPC.out).1 : Go.Proofs.YtngeabphjdfdgaaGreatDoor.P.u64 V)
  have hw := rch_walk HB.out
  rw [HVE.out] at hw
  have CR := Lib.hid (o_access K3.out.swap2 S1.out r H.pc 4 3 HPC.out HRI.out (.inr (.inr (.inl rfl))) V true hw HB.out)
  clear hw
  have ST1 := Lib.hid (stable_star (stable_blk hb (.cells (hC G) 27)) (stable_star (stable_rm b fr s) (stable_star (stable_blk eb (.cells (evC e0) 36)) (HR.out))))
  have ST2 := Lib.hid (stable_star (stable_blk zb (.cells (hC G) 27)) (stable_star (stable_blk hb (.cells (hC G) 27)) (stable_star (stable_rm b fr s) (HR.out))))
  have SK := Lib.hid (stable_star (stable_blk hb (.cells (hC G) 27)) (stable_star (stable_rm b fr s) (stable_star (stable_blk zb (.cells (hC HZ) 27)) (stable_star (stable_blk eb (.cells (evC e0) 36)) (HR.out)))))
  have wx : IntKind.u32.wrap x = x := by rw [IntKind.wrap_u32]; obtain ⟨q0, q1⟩ := hx4; omega
  have HX := Lib.hid hx
  have HDE := Lib.hid (fun w' => r_decode x hx4 w')
  rw [hdv, hde] at HDE
  clear hx hdv hde
  go_upto_region 5 with (go_at_call 22; refine CR.out.mono ?_; rintro e w4 ⟨rfl, h4⟩; have K4 := Lib.hid h4; clear h4)
  have CL0 := o_load5 K4.out S1.out V 4 HVU.out
  rw [HX.out] at CL0
  have CL := Lib.hid CL0
  clear CL0
  go_upto_region 6 with (first
    | (go_at_call 24; refine CL.out.mono ?_; rintro e w5 ⟨rfl, h5⟩; have K5 := Lib.hid h5; clear h5)
    | (go_at_call 23; refine (HDE.out _).mono ?_; rintro e w6 ⟨rfl, g6⟩; have K6 := Lib.hid ((K5.out.gr (stable_star (stable_rm b fr s) S1.out) g6).swap2); clear g6))
  have K7 := Lib.hid (K6.out.alloc SK.out (.cells #[.int .i64 I.op, .int .i64 (I.rd : Int), .int .i64 (I.a : Int), .int .i64 (I.b : Int), .int .i64 I.i] 61))
  clear CR K3 K4 K5 K6 c2 HDE CL
  generalize (World.alloc w6 _) = w7 at *
  generalize w6.heap.size = xb at *
  have HI3 := Lib.hid hI
  have n64 : (I.op == 64) = false := by simp; omega
  have n65 : (I.op == 65) = false := by simp; omega
  have HOP := Lib.hid hop
  have hGok : G.ok := by rw [← HG.out]; exact HS.set_ok HOK.out 0 ⟨by decide, by decide⟩
  have c0 := blk_cell K7.out.blk 0 (v := .int .i64 I.op) rfl
  have K7' : RowKit.Hid (Own w0 w7 (Star (blkA xb (.cells (insC I) 61)) _)) := Lib.hid K7.out
  have L1 := Lib.hid K7'.out.blk
  have L2 := Lib.hid K7'.out.right.blk
  have K8 := Lib.hid (K7'.out.mono (fun F h => st3 h))
  have S8 := Lib.hid (stable_star (stable_blk xb (.cells (insC I) 61)) (stable_star (stable_blk hb (.cells (hC G) 27)) (stable_star (stable_blk zb (.cells (hC HZ) 27)) (stable_star (stable_blk eb (.cells (evC e0) 36)) (HR.out)))))
  have CD : RowKit.Hid (Calls Tryz.prog 25 #[.pointer (some ⟨b, 0, none⟩), .int .i64 r, .agg (insC I), .agg (hC G)] w7 (MemP w0 b fr _ D)) := Lib.hid (by
    have := o_does K8.out S8.out HFR.out r HRI.out I HI3.out.2.1 HI3.out.2.2 G hGok HOP.out
    rw [p1] at this
    rw [HG.out] at hD
    rw [hD] at this
    exact this)
  have SD := Lib.hid (stable_star (stable_rm b fr D.s) S8.out)
  clear hD hop hI hGok K7
  go_upto_region 12 with fail
  clear c0
  go_upto_region 13 with (first
    | (refine wpList_load_g5 (by first | rfl | fail) 61 _ rfl xb rfl 61 _ (0, 0) _ L1.out Tryz.underlying61 rfl (ins_info _) ?_)
    | (refine wpList_load_g5 (by first | rfl | fail) 27 _ rfl hb rfl 27 _ (0, 0) _ L2.out Tryz.underlying27 rfl (hC_info _) ?_)
    | (go_at_call 25; refine CD.out.mono ?_; rintro e w8 ⟨rfl, h8⟩; have K9 := Lib.hid h8; clear h8)
    | (refine wpList_store_row rfl 74 _ _ rfl _ _ rfl rfl 74 _ (blk_new _ _) (dn_info _) rfl (dn_all1 _) ?_; generalize hW : (World.setRow _ _ _) = w9; have K10 := Lib.hid (own_h1 (c1 := dnC D.d) hW K9.out SD.out); clear hW; generalize w8.heap.size = qb at *))
  clear CD K9 K8 K7' L1 L2 SD n64 n65
  have y3 := blk_cell K10.out.blk 3 (v := .int .i64 D.d.e.k) rfl
  go_upto_region 14 with fail
  clear y3 hk2
  have T1 := Lib.hid (stable_star (stable_blk qb (.cells (dnC D.d) 74)) (stable_star (stable_rm b fr D.s) (stable_star (stable_blk xb (.cells (insC I) 61)) (stable_star (stable_blk hb (.cells (hC G) 27)) (stable_star (stable_blk eb (.cells (evC e0) 36)) (HR.out))))))
  have T2 := Lib.hid (stable_star (stable_blk zb (.cells (hC G) 27)) (stable_star (stable_blk qb (.cells (dnC D.d) 74)) (stable_star (stable_rm b fr D.s) (stable_star (stable_blk xb (.cells (insC I) 61)) (stable_star (stable_blk hb (.cells (hC G) 27)) (HR.out))))))
  have TK := Lib.hid (stable_star (stable_blk qb (.cells (dnC D.d) 74)) (stable_star (stable_rm b fr D.s) (stable_star (stable_blk xb (.cells (insC I) 61)) (stable_star (stable_blk hb (.cells (hC G) 27)) (stable_star (stable_blk zb (.cells (hC HZ) 27)) (stable_star (stable_blk eb (.cells (evC e0) 36)) (HR.out)))))))
  have KD := Lib.hid (K10.out.drew TK.out)
  refine wp_region_held_drew (S := fun w' => w'.heap[hb]? = some (.cells (hC G) 27) ∧ w'.heap[qb]? = some (.cells (dnC D.d) 74)) (by kernel_rfl) ⟨KD.out.right.right.right.blk, KD.out.blk⟩ (fun hH => ?_)
  refine wpAnyH_take (i := 0) (oi := { dst := some 60, op := Go.Op.load 27 (Go.Operand.tmp 5), type := 27, pos := "ref.go:207", after := #[], guard := none }) (v := .agg (hC G)) rfl (by kernel_rfl) (by kernel_rfl) (by kernel_rfl) (fun _ _ _ h => h) (Or.inl ⟨by rfl, fun w' hS' => ex_hart hS'.1 rfl⟩) hH ?_
  try simp only [Act.put, List.setIfInBounds_toArray, List.set_cons_zero, List.set_cons_succ]
  refine wpAnyH_take (i := 1) (oi := { dst := some 61, op := Go.Op.fieldAddr 74 (Go.Operand.tmp 12) 3, type := 0, pos := "ref.go:207", after := #[{ on := 3, ground := Go.Ground.gcOnly Go.Departure.lateStores }], guard := none }) (v := .pointer (some ⟨qb, 3, none⟩)) rfl (by kernel_rfl) (by kernel_rfl) (by kernel_rfl) (fun _ _ _ h => h) (Or.inl ⟨by rfl, fun w' hS' => by first | rfl | (go_simp; done) | (go_simp; rfl)⟩) hH ?_
  try simp only [Act.put, List.setIfInBounds_toArray, List.set_cons_zero, List.set_cons_succ]
  refine wpAnyH_take (i := 2) (oi := { dst := some 62, op := Go.Op.load 36 (Go.Operand.tmp 61), type := 36, pos := "ref.go:207", after := #[{ on := 1, ground := Go.Ground.data }, { on := 3, ground := Go.Ground.gcOnly Go.Departure.lateStores }], guard := none }) (v := .agg (evC D.d.e)) rfl (by kernel_rfl) (by kernel_rfl) (by kernel_rfl) (fun _ _ _ h => h) (Or.inl ⟨by rfl, fun w' hS' => ex_devent hS'.2 rfl⟩) hH ?_
  try simp only [Act.put, List.setIfInBounds_toArray, List.set_cons_zero, List.set_cons_succ]
  have Z1 := Lib.hid (KD.out.mono (fun F h => st5 h))
  refine wpAnyH_ready (rs := [3]) (by kernel_rfl) (by simp) ?_
  refine AllReadyH.cons (o := { dst := none, op := Go.Op.store 27 (Go.Operand.tmp 6) (Go.Operand.tmp 60), type := 0, pos := "ref.go:207", after := #[{ on := 0, ground := Go.Ground.data }, { on := 0, ground := Go.Ground.phase }, { on := 1, ground := Go.Ground.textOnly Go.Departure.lateStores }, { on := 2, ground := Go.Ground.textOnly Go.Departure.lateStores }], guard := none }) rfl (fun K' hK => ?_) AllReadyH.nil
  rw [if_pos (by rfl)]
  refine wp_store_row 27 _ _ rfl zb (hC G) rfl rfl 27 _ Z1.out.blk (hC_info _) rfl (hC_all1 _) ?_
  have Z2 := Lib.hid ((Z1.out.setRow T1.out (hC G)).mono (fun F h => st6 h))
  refine hK.out _ _ (⟨Z2.out.right.right.right.right.right.blk, Z2.out.right.right.blk⟩) (fun hH2 => ?_)
  clear hK K'
  try simp only [Act.put, List.setIfInBounds_toArray, List.set_cons_zero, List.set_cons_succ]
  refine wpAnyH_ready (rs := [4]) (by kernel_rfl) (by simp) ?_
  refine AllReadyH.cons (o := { dst := none, op := Go.Op.store 36 (Go.Operand.tmp 7) (Go.Operand.tmp 62), type := 0, pos := "ref.go:207", after := #[{ on := 2, ground := Go.Ground.data }, { on := 3, ground := Go.Ground.chain }, { on := 0, ground := Go.Ground.phase }, { on := 1, ground := Go.Ground.phase }, { on := 2, ground := Go.Ground.phase }, { on := 3, ground := Go.Ground.phase }], guard := none }) rfl (fun K' hK => ?_) AllReadyH.nil
  rw [if_pos (by rfl)]
  refine wp_store_row 36 _ _ rfl eb (evC D.d.e) rfl rfl 36 _ Z2.out.blk (evC_info _) rfl (evC_all1 _) ?_
  have Z3 := Lib.hid (Z2.out.setRow T2.out (evC D.d.e))
  refine hK.out _ _ (⟨Z3.out.right.right.right.right.right.blk, Z3.out.right.right.blk⟩) (fun hH3 => ?_)
  clear hK K'
  try simp only [Act.put, List.setIfInBounds_toArray, List.set_cons_zero, List.set_cons_succ]
  refine wpAnyH_done (by kernel_rfl) ?_ _
  go_wp2_with fail
  refine bodyPost_ret (res_two rfl _ _ _ zb eb _ _ rfl rfl (ldH Z3.out.right.blk) (ldE Z3.out.blk)) rfl ?_
  refine ⟨?_, Z3.out.right.right.right.drop2.drop2⟩
  rfl
end Go.Proofs.YtngeabphjdfdgaaGreatDoor.P
namespace Go.Proofs.YtngeabphjdfdgaaGreatDoor.P
open Go.RowKit Go.MuLone Go.Proofs.YtngeabphjdfdgaaGreatDoor.W
set_option maxHeartbeats 6400000 in
theorem o_dstep_ok1 {w0 w : World} {b fr : Nat} {s : List UInt8} {R : Asn} (h : Own w0 w (Star (rmA b fr s) R)) (hR : Stable R) (hf : fr ≤ 256) (r : Int) (hr : i64 r) (H : HS) (hH : H.ok) (V : Int) (hV : rchV fr s r H.pc 4 3 = V) (hB : rchB fr s r H.pc 4 3 = true) (x : Int) (hx : loadV s V 4 = x) (hx4 : u32 x) (I : InS) (hI : I.rd < 32 ∧ I.a < 32 ∧ I.b < 32) (hop : 1 ≤ I.op ∧ I.op ≤ 63 ∨ 66 ≤ I.op ∧ I.op ≤ 87) (hdv : decV x = iv I.op (I.rd : Int) (I.a : Int) (I.b : Int) I.i) (hde : decE x = 0) (D : DR) (hD : docF fr s r I.op ((H.set 0 0).X I.a) ((H.set 0 0).X I.b) (w64 I.i) H.pc (d0F (H.set 0 0)) = D) (hk : D.d.e.k = 0) (hc : D.d.sets = true ∧ 0 < I.rd) :
    Calls Tryz.prog 9 #[.pointer (some ⟨b, 0, none⟩), .int .i64 r, .agg (hC H)] w fun e w' => e = .returned (.tuple #[.agg (hC (appF D.d I.rd (H.set 0 0))), .agg (evC D.d.e)]) ∧ Own w0 w' (Star (rmA b fr D.s) R) := by
  have hk2 : (D.d.e.k != 0) = false := by simpa using hk
  clear hk
  obtain ⟨hs, hrd⟩ := hc
  have r0 : 0 < (I.rd : Int) := by omega
  have eA : appF D.d I.rd (H.set 0 0) = ⟨upX (H.set 0 0).X I.rd D.d.v, D.d.pc, D.d.hd, D.d.at_⟩ := by unfold appF; rw [hs, decide_eq_true hrd]; rfl
  have hi := dstep_in h hR H
  clear h
  have HR := Lib.hid hR
  have HRI := Lib.hid hr
  have HFR := Lib.hid hf
  have hpc := hH.2.1
  have HPC := Lib.hid hpc
  have HOK := Lib.hid hH
  have HB := Lib.hid hB
  have HVE := Lib.hid hV
  obtain ⟨G, hG⟩ : ∃ G, H.set 0 0 = G := ⟨_, rfl⟩
  have p1 : G.pc = H.pc := by rw [← hG]; rfl
  have HG := Lib.hid hG
  rw [eA]
  try rw [hG]
  clear eA
  obtain ⟨FH, hFH⟩ : ∃ q : HS, (⟨upX G.X I.rd D.d.v, D.d.pc, D.d.hd, D.d.at_⟩ : HS) = q := ⟨_, rfl⟩
  rw [hFH]
  have HFH := Lib.hid hFH
  clear hFH
  clear hR hr hf hH hpc hB hV hG
  go_enter Tryz.func9, Tryz.ntmps9
  go_upto_region 1 with fail
  generalize (World.alloc _ (.cells _ 36)) = w1 at *
  generalize w.heap.size + 1 + 1 = eb at *
  generalize w.heap.size + 1 = zb at *
  generalize w.heap.size = hb at *
  have S0 := Lib.hid (stable_star (stable_rm b fr s) (stable_star (stable_blk zb (.cells (hC HZ) 27)) (stable_star (stable_blk eb (.cells (evC e0) 36)) HR.out)))
  have HI := Lib.hid hi
  clear hi
  have c0 := blk_cell HI.out.blk 0 (hC_x H 0 (by decide))
  have f0 := blk_frozen HI.out.blk 0
  have k3 := HI.out.set S0.out 0 (.int .u64 0)
  rw [hC_setx H 0 0 (by decide), HG.out] at k3
  have K3 := Lib.hid k3
  clear k3
  go_upto_region 2 with fail
  clear c0 f0 HI
  generalize World.setCell w1 ⟨hb, 0, none⟩ _ = w3 at *
  have c2 := blk_cell K3.out.blk 32 (v := .int .u64 H.pc) (by rw [← p1]; rfl)
  have S1 := Lib.hid (stable_star (stable_blk hb (.cells (hC G) 27)) (stable_star (stable_blk zb (.cells (hC HZ) 27)) (stable_star (stable_blk eb (.cells (evC e0) 36)) HR.out)))
  have HVU := Lib.hid (by rw [← HVE.out]; exact (rch_u64 (s := s) (r := r) (n := 4) (acc := 3) HFR.out HPC.out).1 : Go.Proofs.YtngeabphjdfdgaaGreatDoor.P.u64 V)
  have hw := rch_walk HB.out
  rw [HVE.out] at hw
  have CR := Lib.hid (o_access K3.out.swap2 S1.out r H.pc 4 3 HPC.out HRI.out (.inr (.inr (.inl rfl))) V true hw HB.out)
  clear hw
  have ST1 := Lib.hid (stable_star (stable_blk hb (.cells (hC G) 27)) (stable_star (stable_rm b fr s) (stable_star (stable_blk eb (.cells (evC e0) 36)) (HR.out))))
  have ST2 := Lib.hid (stable_star (stable_blk zb (.cells (hC G) 27)) (stable_star (stable_blk hb (.cells (hC G) 27)) (stable_star (stable_rm b fr s) (HR.out))))
  have SK := Lib.hid (stable_star (stable_blk hb (.cells (hC G) 27)) (stable_star (stable_rm b fr s) (stable_star (stable_blk zb (.cells (hC HZ) 27)) (stable_star (stable_blk eb (.cells (evC e0) 36)) (HR.out)))))
  have wx : IntKind.u32.wrap x = x := by rw [IntKind.wrap_u32]; obtain ⟨q0, q1⟩ := hx4; omega
  have HX := Lib.hid hx
  have HDE := Lib.hid (fun w' => r_decode x hx4 w')
  rw [hdv, hde] at HDE
  clear hx hdv hde
  go_upto_region 5 with (go_at_call 22; refine CR.out.mono ?_; rintro e w4 ⟨rfl, h4⟩; have K4 := Lib.hid h4; clear h4)
  have CL0 := o_load5 K4.out S1.out V 4 HVU.out
  rw [HX.out] at CL0
  have CL := Lib.hid CL0
  clear CL0
  go_upto_region 6 with (first
    | (go_at_call 24; refine CL.out.mono ?_; rintro e w5 ⟨rfl, h5⟩; have K5 := Lib.hid h5; clear h5)
    | (go_at_call 23; refine (HDE.out _).mono ?_; rintro e w6 ⟨rfl, g6⟩; have K6 := Lib.hid ((K5.out.gr (stable_star (stable_rm b fr s) S1.out) g6).swap2); clear g6))
  have K7 := Lib.hid (K6.out.alloc SK.out (.cells #[.int .i64 I.op, .int .i64 (I.rd : Int), .int .i64 (I.a : Int), .int .i64 (I.b : Int), .int .i64 I.i] 61))
  clear CR K3 K4 K5 K6 c2 HDE CL
  generalize (World.alloc w6 _) = w7 at *
  generalize w6.heap.size = xb at *
  have HI3 := Lib.hid hI
  have n64 : (I.op == 64) = false := by simp; omega
  have n65 : (I.op == 65) = false := by simp; omega
  have HOP := Lib.hid hop
  have hGok : G.ok := by rw [← HG.out]; exact HS.set_ok HOK.out 0 ⟨by decide, by decide⟩
  have c0 := blk_cell K7.out.blk 0 (v := .int .i64 I.op) rfl
  have K7' : RowKit.Hid (Own w0 w7 (Star (blkA xb (.cells (insC I) 61)) _)) := Lib.hid K7.out
  have L1 := Lib.hid K7'.out.blk
  have L2 := Lib.hid K7'.out.right.blk
  have K8 := Lib.hid (K7'.out.mono (fun F h => st3 h))
  have S8 := Lib.hid (stable_star (stable_blk xb (.cells (insC I) 61)) (stable_star (stable_blk hb (.cells (hC G) 27)) (stable_star (stable_blk zb (.cells (hC HZ) 27)) (stable_star (stable_blk eb (.cells (evC e0) 36)) (HR.out)))))
  have CD : RowKit.Hid (Calls Tryz.prog 25 #[.pointer (some ⟨b, 0, none⟩), .int .i64 r, .agg (insC I), .agg (hC G)] w7 (MemP w0 b fr _ D)) := Lib.hid (by
    have := o_does K8.out S8.out HFR.out r HRI.out I HI3.out.2.1 HI3.out.2.2 G hGok HOP.out
    rw [p1] at this
    rw [HG.out] at hD
    rw [hD] at this
    exact this)
  have SD := Lib.hid (stable_star (stable_rm b fr D.s) S8.out)
  clear hD hop hI hGok K7
  go_upto_region 12 with fail
  clear c0
  go_upto_region 13 with (first
    | (refine wpList_load_g5 (by first | rfl | fail) 61 _ rfl xb rfl 61 _ (0, 0) _ L1.out Tryz.underlying61 rfl (ins_info _) ?_)
    | (refine wpList_load_g5 (by first | rfl | fail) 27 _ rfl hb rfl 27 _ (0, 0) _ L2.out Tryz.underlying27 rfl (hC_info _) ?_)
    | (go_at_call 25; refine CD.out.mono ?_; rintro e w8 ⟨rfl, h8⟩; have K9 := Lib.hid h8; clear h8)
    | (refine wpList_store_row rfl 74 _ _ rfl _ _ rfl rfl 74 _ (blk_new _ _) (dn_info _) rfl (dn_all1 _) ?_; generalize hW : (World.setRow _ _ _) = w9; have K10 := Lib.hid (own_h1 (c1 := dnC D.d) hW K9.out SD.out); clear hW; generalize w8.heap.size = qb at *))
  clear CD K9 K8 K7' L1 L2 SD n64 n65
  have y3 := blk_cell K10.out.blk 3 (v := .int .i64 D.d.e.k) rfl
  have KH := Lib.hid (K10.out.mono (fun F h => st4 h))
  have SH := Lib.hid (stable_star (stable_blk qb (.cells (dnC D.d) 74)) (stable_star (stable_rm b fr D.s) (stable_star (stable_blk xb (.cells (insC I) 61)) (stable_star (stable_blk zb (.cells (hC HZ) 27)) (stable_star (stable_blk eb (.cells (evC e0) 36)) (HR.out))))))
  have y0 := blk_cell K10.out.blk 0 (v := .bool D.d.sets) rfl
  have x1 := blk_cell K10.out.right.right.blk 1 (v := .int .i64 (I.rd : Int)) rfl
  rw [hs] at y0
  clear hs
  go_upto_region 16 with fail
  clear y0 y3 hk2
  have y1 := blk_cell K10.out.blk 1 (v := .int .u64 D.d.v) rfl
  have r1 : (I.rd : Int) < 32 := by have := HI3.out.1; omega
  have crd := blk_cell KH.out.blk I.rd (hC_x G I.rd HI3.out.1)
  have frd := blk_frozen KH.out.blk I.rd
  have kx := KH.out.set SH.out I.rd (.int .u64 D.d.v)
  rw [hC_setx G D.d.v I.rd HI3.out.1] at kx
  have KX := Lib.hid kx
  clear kx
  go_upto_region 17 with fail
  clear crd frd y1 x1 KH K10
  generalize World.setCell w9 _ _ = w11 at *
  have z32 := blk_cell KX.out.right.blk 2 (v := .int .u64 D.d.pc) rfl
  have c32 := blk_cell KX.out.blk 32 (v := .int .u64 (G.set I.rd D.d.v).pc) rfl
  have f32 := blk_frozen KX.out.blk 32
  have K32 : RowKit.Hid (Own w0 (w11.setCell ⟨hb, 32, none⟩ (.int .u64 D.d.pc)) (Star (blkA hb (.cells (hC ({ (G.set I.rd D.d.v) with pc := D.d.pc } : HS)) 27)) _)) := Lib.hid (KX.out.set SH.out 32 (.int .u64 D.d.pc))
  go_upto_region 18 with fail
  clear z32 c32 f32 KX
  generalize World.setCell w11 _ _ = w32 at *
  have z33 := blk_cell K32.out.right.blk 6 (v := .bool D.d.hd) rfl
  have c33 := blk_cell K32.out.blk 33 (v := .bool ({ (G.set I.rd D.d.v) with pc := D.d.pc } : HS).hd) rfl
  have f33 := blk_frozen K32.out.blk 33
  have K33 : RowKit.Hid (Own w0 (w32.setCell ⟨hb, 33, none⟩ (.bool D.d.hd)) (Star (blkA hb (.cells (hC ({ ({ (G.set I.rd D.d.v) with pc := D.d.pc } : HS) with hd := D.d.hd } : HS)) 27)) _)) := Lib.hid (K32.out.set SH.out 33 (.bool D.d.hd))
  go_upto_region 19 with fail
  clear z33 c33 f33 K32
  generalize World.setCell w32 _ _ = w33 at *
  have z34 := blk_cell K33.out.right.blk 7 (v := .int .u64 D.d.at_) rfl
  have c34 := blk_cell K33.out.blk 34 (v := .int .u64 ({ ({ (G.set I.rd D.d.v) with pc := D.d.pc } : HS) with hd := D.d.hd } : HS).at_) rfl
  have f34 := blk_frozen K33.out.blk 34
  have K34 : RowKit.Hid (Own w0 (w33.setCell ⟨hb, 34, none⟩ (.int .u64 D.d.at_)) (Star (blkA hb (.cells (hC ({ ({ ({ (G.set I.rd D.d.v) with pc := D.d.pc } : HS) with hd := D.d.hd } : HS) with at_ := D.d.at_ } : HS)) 27)) _)) := Lib.hid (K33.out.set SH.out 34 (.int .u64 D.d.at_))
  go_upto_region 20 with fail
  clear z34 c34 f34 K33
  generalize World.setCell w33 _ _ = w34 at *
  have KB : RowKit.Hid (Own w0 w34 (Star (blkA qb (.cells (dnC D.d) 74)) (Star (rmA b fr D.s) (Star (blkA xb (.cells (insC I) 61)) (Star (blkA hb (.cells (hC FH) 27)) _))))) := Lib.hid (by rw [← HFH.out]; exact K34.out.mono (fun F h => bk4 h))
  clear K34 SH
  have T1 := Lib.hid (stable_star (stable_blk qb (.cells (dnC D.d) 74)) (stable_star (stable_rm b fr D.s) (stable_star (stable_blk xb (.cells (insC I) 61)) (stable_star (stable_blk hb (.cells (hC FH) 27)) (stable_star (stable_blk eb (.cells (evC e0) 36)) (HR.out))))))
  have T2 := Lib.hid (stable_star (stable_blk zb (.cells (hC FH) 27)) (stable_star (stable_blk qb (.cells (dnC D.d) 74)) (stable_star (stable_rm b fr D.s) (stable_star (stable_blk xb (.cells (insC I) 61)) (stable_star (stable_blk hb (.cells (hC FH) 27)) (HR.out))))))
  have TK := Lib.hid (stable_star (stable_blk qb (.cells (dnC D.d) 74)) (stable_star (stable_rm b fr D.s) (stable_star (stable_blk xb (.cells (insC I) 61)) (stable_star (stable_blk hb (.cells (hC FH) 27)) (stable_star (stable_blk zb (.cells (hC HZ) 27)) (stable_star (stable_blk eb (.cells (evC e0) 36)) (HR.out)))))))
  have KD := Lib.hid (KB.out.drew TK.out)
  refine wp_region_held_drew (S := fun w' => w'.heap[hb]? = some (.cells (hC FH) 27) ∧ w'.heap[qb]? = some (.cells (dnC D.d) 74)) (by kernel_rfl) ⟨KD.out.right.right.right.blk, KD.out.blk⟩ (fun hH => ?_)
  refine wpAnyH_take (i := 0) (oi := { dst := some 85, op := Go.Op.load 27 (Go.Operand.tmp 5), type := 27, pos := "ref.go:215", after := #[], guard := none }) (v := .agg (hC FH)) rfl (by kernel_rfl) (by kernel_rfl) (by kernel_rfl) (fun _ _ _ h => h) (Or.inl ⟨by rfl, fun w' hS' => ex_hart hS'.1 rfl⟩) hH ?_
  try simp only [Act.put, List.setIfInBounds_toArray, List.set_cons_zero, List.set_cons_succ]
  refine wpAnyH_take (i := 1) (oi := { dst := some 86, op := Go.Op.fieldAddr 74 (Go.Operand.tmp 12) 3, type := 0, pos := "ref.go:215", after := #[{ on := 3, ground := Go.Ground.gcOnly Go.Departure.lateStores }], guard := none }) (v := .pointer (some ⟨qb, 3, none⟩)) rfl (by kernel_rfl) (by kernel_rfl) (by kernel_rfl) (fun _ _ _ h => h) (Or.inl ⟨by rfl, fun w' hS' => by first | rfl | (go_simp; done) | (go_simp; rfl)⟩) hH ?_
  try simp only [Act.put, List.setIfInBounds_toArray, List.set_cons_zero, List.set_cons_succ]
  refine wpAnyH_take (i := 2) (oi := { dst := some 87, op := Go.Op.load 36 (Go.Operand.tmp 86), type := 36, pos := "ref.go:215", after := #[{ on := 1, ground := Go.Ground.data }, { on := 3, ground := Go.Ground.gcOnly Go.Departure.lateStores }], guard := none }) (v := .agg (evC D.d.e)) rfl (by kernel_rfl) (by kernel_rfl) (by kernel_rfl) (fun _ _ _ h => h) (Or.inl ⟨by rfl, fun w' hS' => ex_devent hS'.2 rfl⟩) hH ?_
  try simp only [Act.put, List.setIfInBounds_toArray, List.set_cons_zero, List.set_cons_succ]
  have Z1 := Lib.hid (KD.out.mono (fun F h => st5 h))
  refine wpAnyH_ready (rs := [3]) (by kernel_rfl) (by simp) ?_
  refine AllReadyH.cons (o := { dst := none, op := Go.Op.store 27 (Go.Operand.tmp 6) (Go.Operand.tmp 85), type := 0, pos := "ref.go:215", after := #[{ on := 0, ground := Go.Ground.data }, { on := 0, ground := Go.Ground.phase }, { on := 1, ground := Go.Ground.textOnly Go.Departure.lateStores }, { on := 2, ground := Go.Ground.textOnly Go.Departure.lateStores }], guard := none }) rfl (fun K' hK => ?_) AllReadyH.nil
  rw [if_pos (by rfl)]
  refine wp_store_row 27 _ _ rfl zb (hC FH) rfl rfl 27 _ Z1.out.blk (hC_info _) rfl (hC_all1 _) ?_
  have Z2 := Lib.hid ((Z1.out.setRow T1.out (hC FH)).mono (fun F h => st6 h))
  refine hK.out _ _ (⟨Z2.out.right.right.right.right.right.blk, Z2.out.right.right.blk⟩) (fun hH2 => ?_)
  clear hK K'
  try simp only [Act.put, List.setIfInBounds_toArray, List.set_cons_zero, List.set_cons_succ]
  refine wpAnyH_ready (rs := [4]) (by kernel_rfl) (by simp) ?_
  refine AllReadyH.cons (o := { dst := none, op := Go.Op.store 36 (Go.Operand.tmp 7) (Go.Operand.tmp 87), type := 0, pos := "ref.go:215", after := #[{ on := 2, ground := Go.Ground.data }, { on := 3, ground := Go.Ground.chain }, { on := 0, ground := Go.Ground.phase }, { on := 1, ground := Go.Ground.phase }, { on := 2, ground := Go.Ground.phase }, { on := 3, ground := Go.Ground.phase }], guard := none }) rfl (fun K' hK => ?_) AllReadyH.nil
  rw [if_pos (by rfl)]
  refine wp_store_row 36 _ _ rfl eb (evC D.d.e) rfl rfl 36 _ Z2.out.blk (evC_info _) rfl (evC_all1 _) ?_
  have Z3 := Lib.hid (Z2.out.setRow T2.out (evC D.d.e))
  refine hK.out _ _ (⟨Z3.out.right.right.right.right.right.blk, Z3.out.right.right.blk⟩) (fun hH3 => ?_)
  clear hK K'
  try simp only [Act.put, List.setIfInBounds_toArray, List.set_cons_zero, List.set_cons_succ]
  refine wpAnyH_done (by kernel_rfl) ?_ _
  go_wp2_with fail
  refine bodyPost_ret (res_two rfl _ _ _ zb eb _ _ rfl rfl (ldH Z3.out.right.blk) (ldE Z3.out.blk)) rfl ?_
  refine ⟨?_, Z3.out.right.right.right.drop2.drop2⟩
  rfl
set_option maxHeartbeats 6400000 in
theorem o_dstep_ok0 {w0 w : World} {b fr : Nat} {s : List UInt8} {R : Asn} (h : Own w0 w (Star (rmA b fr s) R)) (hR : Stable R) (hf : fr ≤ 256) (r : Int) (hr : i64 r) (H : HS) (hH : H.ok) (V : Int) (hV : rchV fr s r H.pc 4 3 = V) (hB : rchB fr s r H.pc 4 3 = true) (x : Int) (hx : loadV s V 4 = x) (hx4 : u32 x) (I : InS) (hI : I.rd < 32 ∧ I.a < 32 ∧ I.b < 32) (hop : 1 ≤ I.op ∧ I.op ≤ 63 ∨ 66 ≤ I.op ∧ I.op ≤ 87) (hdv : decV x = iv I.op (I.rd : Int) (I.a : Int) (I.b : Int) I.i) (hde : decE x = 0) (D : DR) (hD : docF fr s r I.op ((H.set 0 0).X I.a) ((H.set 0 0).X I.b) (w64 I.i) H.pc (d0F (H.set 0 0)) = D) (hk : D.d.e.k = 0) (hc : (D.d.sets && decide (0 < I.rd)) = false) :
    Calls Tryz.prog 9 #[.pointer (some ⟨b, 0, none⟩), .int .i64 r, .agg (hC H)] w fun e w' => e = .returned (.tuple #[.agg (hC (appF D.d I.rd (H.set 0 0))), .agg (evC D.d.e)]) ∧ Own w0 w' (Star (rmA b fr D.s) R) := by
  have hk2 : (D.d.e.k != 0) = false := by simpa using hk
  clear hk
  have eA : appF D.d I.rd (H.set 0 0) = ⟨(H.set 0 0).X, D.d.pc, D.d.hd, D.d.at_⟩ := by unfold appF; rw [if_neg (by rw [hc]; decide)]
  have hcc : D.d.sets = false ∨ (D.d.sets = true ∧ ¬ 0 < (I.rd : Int)) := by
    cases h5 : D.d.sets with
    | false => exact .inl rfl
    | true => rw [h5, Bool.true_and] at hc; exact .inr ⟨rfl, by have := of_decide_eq_false hc; omega⟩
  have hi := dstep_in h hR H
  clear h
  have HR := Lib.hid hR
  have HRI := Lib.hid hr
  have HFR := Lib.hid hf
  have hpc := hH.2.1
  have HPC := Lib.hid hpc
  have HOK := Lib.hid hH
  have HB := Lib.hid hB
  have HVE := Lib.hid hV
  obtain ⟨G, hG⟩ : ∃ G, H.set 0 0 = G := ⟨_, rfl⟩
  have p1 : G.pc = H.pc := by rw [← hG]; rfl
  have HG := Lib.hid hG
  rw [eA]
  try rw [hG]
  clear eA
  obtain ⟨FH, hFH⟩ : ∃ q : HS, (⟨G.X, D.d.pc, D.d.hd, D.d.at_⟩ : HS) = q := ⟨_, rfl⟩
  rw [hFH]
  have HFH := Lib.hid hFH
  clear hFH
  clear hR hr hf hH hpc hB hV hG
  go_enter Tryz.func9, Tryz.ntmps9
  go_upto_region 1 with fail
  generalize (World.alloc _ (.cells _ 36)) = w1 at *
  generalize w.heap.size + 1 + 1 = eb at *
  generalize w.heap.size + 1 = zb at *
  generalize w.heap.size = hb at *
  have S0 := Lib.hid (stable_star (stable_rm b fr s) (stable_star (stable_blk zb (.cells (hC HZ) 27)) (stable_star (stable_blk eb (.cells (evC e0) 36)) HR.out)))
  have HI := Lib.hid hi
  clear hi
  have c0 := blk_cell HI.out.blk 0 (hC_x H 0 (by decide))
  have f0 := blk_frozen HI.out.blk 0
  have k3 := HI.out.set S0.out 0 (.int .u64 0)
  rw [hC_setx H 0 0 (by decide), HG.out] at k3
  have K3 := Lib.hid k3
  clear k3
  go_upto_region 2 with fail
  clear c0 f0 HI
  generalize World.setCell w1 ⟨hb, 0, none⟩ _ = w3 at *
  have c2 := blk_cell K3.out.blk 32 (v := .int .u64 H.pc) (by rw [← p1]; rfl)
  have S1 := Lib.hid (stable_star (stable_blk hb (.cells (hC G) 27)) (stable_star (stable_blk zb (.cells (hC HZ) 27)) (stable_star (stable_blk eb (.cells (evC e0) 36)) HR.out)))
  have HVU := Lib.hid (by rw [← HVE.out]; exact (rch_u64 (s := s) (r := r) (n := 4) (acc := 3) HFR.out HPC.out).1 : Go.Proofs.YtngeabphjdfdgaaGreatDoor.P.u64 V)
  have hw := rch_walk HB.out
  rw [HVE.out] at hw
  have CR := Lib.hid (o_access K3.out.swap2 S1.out r H.pc 4 3 HPC.out HRI.out (.inr (.inr (.inl rfl))) V true hw HB.out)
  clear hw
  have ST1 := Lib.hid (stable_star (stable_blk hb (.cells (hC G) 27)) (stable_star (stable_rm b fr s) (stable_star (stable_blk eb (.cells (evC e0) 36)) (HR.out))))
  have ST2 := Lib.hid (stable_star (stable_blk zb (.cells (hC G) 27)) (stable_star (stable_blk hb (.cells (hC G) 27)) (stable_star (stable_rm b fr s) (HR.out))))
  have SK := Lib.hid (stable_star (stable_blk hb (.cells (hC G) 27)) (stable_star (stable_rm b fr s) (stable_star (stable_blk zb (.cells (hC HZ) 27)) (stable_star (stable_blk eb (.cells (evC e0) 36)) (HR.out)))))
  have wx : IntKind.u32.wrap x = x := by rw [IntKind.wrap_u32]; obtain ⟨q0, q1⟩ := hx4; omega
  have HX := Lib.hid hx
  have HDE := Lib.hid (fun w' => r_decode x hx4 w')
  rw [hdv, hde] at HDE
  clear hx hdv hde
  go_upto_region 5 with (go_at_call 22; refine CR.out.mono ?_; rintro e w4 ⟨rfl, h4⟩; have K4 := Lib.hid h4; clear h4)
  have CL0 := o_load5 K4.out S1.out V 4 HVU.out
  rw [HX.out] at CL0
  have CL := Lib.hid CL0
  clear CL0
  go_upto_region 6 with (first
    | (go_at_call 24; refine CL.out.mono ?_; rintro e w5 ⟨rfl, h5⟩; have K5 := Lib.hid h5; clear h5)
    | (go_at_call 23; refine (HDE.out _).mono ?_; rintro e w6 ⟨rfl, g6⟩; have K6 := Lib.hid ((K5.out.gr (stable_star (stable_rm b fr s) S1.out) g6).swap2); clear g6))
  have K7 := Lib.hid (K6.out.alloc SK.out (.cells #[.int .i64 I.op, .int .i64 (I.rd : Int), .int .i64 (I.a : Int), .int .i64 (I.b : Int), .int .i64 I.i] 61))
  clear CR K3 K4 K5 K6 c2 HDE CL
  generalize (World.alloc w6 _) = w7 at *
  generalize w6.heap.size = xb at *
  have HI3 := Lib.hid hI
  have n64 : (I.op == 64) = false := by simp; omega
  have n65 : (I.op == 65) = false := by simp; omega
  have HOP := Lib.hid hop
  have hGok : G.ok := by rw [← HG.out]; exact HS.set_ok HOK.out 0 ⟨by decide, by decide⟩
  have c0 := blk_cell K7.out.blk 0 (v := .int .i64 I.op) rfl
  have K7' : RowKit.Hid (Own w0 w7 (Star (blkA xb (.cells (insC I) 61)) _)) := Lib.hid K7.out
  have L1 := Lib.hid K7'.out.blk
  have L2 := Lib.hid K7'.out.right.blk
  have K8 := Lib.hid (K7'.out.mono (fun F h => st3 h))
  have S8 := Lib.hid (stable_star (stable_blk xb (.cells (insC I) 61)) (stable_star (stable_blk hb (.cells (hC G) 27)) (stable_star (stable_blk zb (.cells (hC HZ) 27)) (stable_star (stable_blk eb (.cells (evC e0) 36)) (HR.out)))))
  have CD : RowKit.Hid (Calls Tryz.prog 25 #[.pointer (some ⟨b, 0, none⟩), .int .i64 r, .agg (insC I), .agg (hC G)] w7 (MemP w0 b fr _ D)) := Lib.hid (by
    have := o_does K8.out S8.out HFR.out r HRI.out I HI3.out.2.1 HI3.out.2.2 G hGok HOP.out
    rw [p1] at this
    rw [HG.out] at hD
    rw [hD] at this
    exact this)
  have SD := Lib.hid (stable_star (stable_rm b fr D.s) S8.out)
  clear hD hop hI hGok K7
  go_upto_region 12 with fail
  clear c0
  go_upto_region 13 with (first
    | (refine wpList_load_g5 (by first | rfl | fail) 61 _ rfl xb rfl 61 _ (0, 0) _ L1.out Tryz.underlying61 rfl (ins_info _) ?_)
    | (refine wpList_load_g5 (by first | rfl | fail) 27 _ rfl hb rfl 27 _ (0, 0) _ L2.out Tryz.underlying27 rfl (hC_info _) ?_)
    | (go_at_call 25; refine CD.out.mono ?_; rintro e w8 ⟨rfl, h8⟩; have K9 := Lib.hid h8; clear h8)
    | (refine wpList_store_row rfl 74 _ _ rfl _ _ rfl rfl 74 _ (blk_new _ _) (dn_info _) rfl (dn_all1 _) ?_; generalize hW : (World.setRow _ _ _) = w9; have K10 := Lib.hid (own_h1 (c1 := dnC D.d) hW K9.out SD.out); clear hW; generalize w8.heap.size = qb at *))
  clear CD K9 K8 K7' L1 L2 SD n64 n65
  have y3 := blk_cell K10.out.blk 3 (v := .int .i64 D.d.e.k) rfl
  have KH := Lib.hid (K10.out.mono (fun F h => st4 h))
  have SH := Lib.hid (stable_star (stable_blk qb (.cells (dnC D.d) 74)) (stable_star (stable_rm b fr D.s) (stable_star (stable_blk xb (.cells (insC I) 61)) (stable_star (stable_blk zb (.cells (hC HZ) 27)) (stable_star (stable_blk eb (.cells (evC e0) 36)) (HR.out))))))
  have y0 := blk_cell K10.out.blk 0 (v := .bool D.d.sets) rfl
  have x1 := blk_cell K10.out.right.right.blk 1 (v := .int .i64 (I.rd : Int)) rfl
  rcases hcc with hs | ⟨hs, hrd⟩
  · skip
    rw [hs] at y0
    clear hs
    go_upto_region 17 with fail
    clear y0 y3 hk2 x1
    have KX := KH
    clear KH K10
    have z32 := blk_cell KX.out.right.blk 2 (v := .int .u64 D.d.pc) rfl
    have c32 := blk_cell KX.out.blk 32 (v := .int .u64 G.pc) rfl
    have f32 := blk_frozen KX.out.blk 32
    have K32 : RowKit.Hid (Own w0 (w9.setCell ⟨hb, 32, none⟩ (.int .u64 D.d.pc)) (Star (blkA hb (.cells (hC ({ G with pc := D.d.pc } : HS)) 27)) _)) := Lib.hid (KX.out.set SH.out 32 (.int .u64 D.d.pc))
    go_upto_region 18 with fail
    clear z32 c32 f32 KX
    generalize World.setCell w9 _ _ = w32 at *
    have z33 := blk_cell K32.out.right.blk 6 (v := .bool D.d.hd) rfl
    have c33 := blk_cell K32.out.blk 33 (v := .bool ({ G with pc := D.d.pc } : HS).hd) rfl
    have f33 := blk_frozen K32.out.blk 33
    have K33 : RowKit.Hid (Own w0 (w32.setCell ⟨hb, 33, none⟩ (.bool D.d.hd)) (Star (blkA hb (.cells (hC ({ ({ G with pc := D.d.pc } : HS) with hd := D.d.hd } : HS)) 27)) _)) := Lib.hid (K32.out.set SH.out 33 (.bool D.d.hd))
    go_upto_region 19 with fail
    clear z33 c33 f33 K32
    generalize World.setCell w32 _ _ = w33 at *
    have z34 := blk_cell K33.out.right.blk 7 (v := .int .u64 D.d.at_) rfl
    have c34 := blk_cell K33.out.blk 34 (v := .int .u64 ({ ({ G with pc := D.d.pc } : HS) with hd := D.d.hd } : HS).at_) rfl
    have f34 := blk_frozen K33.out.blk 34
    have K34 : RowKit.Hid (Own w0 (w33.setCell ⟨hb, 34, none⟩ (.int .u64 D.d.at_)) (Star (blkA hb (.cells (hC ({ ({ ({ G with pc := D.d.pc } : HS) with hd := D.d.hd } : HS) with at_ := D.d.at_ } : HS)) 27)) _)) := Lib.hid (K33.out.set SH.out 34 (.int .u64 D.d.at_))
    go_upto_region 20 with fail
    clear z34 c34 f34 K33
    generalize World.setCell w33 _ _ = w34 at *
    have KB : RowKit.Hid (Own w0 w34 (Star (blkA qb (.cells (dnC D.d) 74)) (Star (rmA b fr D.s) (Star (blkA xb (.cells (insC I) 61)) (Star (blkA hb (.cells (hC FH) 27)) _))))) := Lib.hid (by rw [← HFH.out]; exact K34.out.mono (fun F h => bk4 h))
    clear K34 SH
    have T1 := Lib.hid (stable_star (stable_blk qb (.cells (dnC D.d) 74)) (stable_star (stable_rm b fr D.s) (stable_star (stable_blk xb (.cells (insC I) 61)) (stable_star (stable_blk hb (.cells (hC FH) 27)) (stable_star (stable_blk eb (.cells (evC e0) 36)) (HR.out))))))
    have T2 := Lib.hid (stable_star (stable_blk zb (.cells (hC FH) 27)) (stable_star (stable_blk qb (.cells (dnC D.d) 74)) (stable_star (stable_rm b fr D.s) (stable_star (stable_blk xb (.cells (insC I) 61)) (stable_star (stable_blk hb (.cells (hC FH) 27)) (HR.out))))))
    have TK := Lib.hid (stable_star (stable_blk qb (.cells (dnC D.d) 74)) (stable_star (stable_rm b fr D.s) (stable_star (stable_blk xb (.cells (insC I) 61)) (stable_star (stable_blk hb (.cells (hC FH) 27)) (stable_star (stable_blk zb (.cells (hC HZ) 27)) (stable_star (stable_blk eb (.cells (evC e0) 36)) (HR.out)))))))
    have KD := Lib.hid (KB.out.drew TK.out)
    refine wp_region_held_drew (S := fun w' => w'.heap[hb]? = some (.cells (hC FH) 27) ∧ w'.heap[qb]? = some (.cells (dnC D.d) 74)) (by kernel_rfl) ⟨KD.out.right.right.right.blk, KD.out.blk⟩ (fun hH => ?_)
    refine wpAnyH_take (i := 0) (oi := { dst := some 85, op := Go.Op.load 27 (Go.Operand.tmp 5), type := 27, pos := "ref.go:215", after := #[], guard := none }) (v := .agg (hC FH)) rfl (by kernel_rfl) (by kernel_rfl) (by kernel_rfl) (fun _ _ _ h => h) (Or.inl ⟨by rfl, fun w' hS' => ex_hart hS'.1 rfl⟩) hH ?_
    try simp only [Act.put, List.setIfInBounds_toArray, List.set_cons_zero, List.set_cons_succ]
    refine wpAnyH_take (i := 1) (oi := { dst := some 86, op := Go.Op.fieldAddr 74 (Go.Operand.tmp 12) 3, type := 0, pos := "ref.go:215", after := #[{ on := 3, ground := Go.Ground.gcOnly Go.Departure.lateStores }], guard := none }) (v := .pointer (some ⟨qb, 3, none⟩)) rfl (by kernel_rfl) (by kernel_rfl) (by kernel_rfl) (fun _ _ _ h => h) (Or.inl ⟨by rfl, fun w' hS' => by first | rfl | (go_simp; done) | (go_simp; rfl)⟩) hH ?_
    try simp only [Act.put, List.setIfInBounds_toArray, List.set_cons_zero, List.set_cons_succ]
    refine wpAnyH_take (i := 2) (oi := { dst := some 87, op := Go.Op.load 36 (Go.Operand.tmp 86), type := 36, pos := "ref.go:215", after := #[{ on := 1, ground := Go.Ground.data }, { on := 3, ground := Go.Ground.gcOnly Go.Departure.lateStores }], guard := none }) (v := .agg (evC D.d.e)) rfl (by kernel_rfl) (by kernel_rfl) (by kernel_rfl) (fun _ _ _ h => h) (Or.inl ⟨by rfl, fun w' hS' => ex_devent hS'.2 rfl⟩) hH ?_
    try simp only [Act.put, List.setIfInBounds_toArray, List.set_cons_zero, List.set_cons_succ]
    have Z1 := Lib.hid (KD.out.mono (fun F h => st5 h))
    refine wpAnyH_ready (rs := [3]) (by kernel_rfl) (by simp) ?_
    refine AllReadyH.cons (o := { dst := none, op := Go.Op.store 27 (Go.Operand.tmp 6) (Go.Operand.tmp 85), type := 0, pos := "ref.go:215", after := #[{ on := 0, ground := Go.Ground.data }, { on := 0, ground := Go.Ground.phase }, { on := 1, ground := Go.Ground.textOnly Go.Departure.lateStores }, { on := 2, ground := Go.Ground.textOnly Go.Departure.lateStores }], guard := none }) rfl (fun K' hK => ?_) AllReadyH.nil
    rw [if_pos (by rfl)]
    refine wp_store_row 27 _ _ rfl zb (hC FH) rfl rfl 27 _ Z1.out.blk (hC_info _) rfl (hC_all1 _) ?_
    have Z2 := Lib.hid ((Z1.out.setRow T1.out (hC FH)).mono (fun F h => st6 h))
    refine hK.out _ _ (⟨Z2.out.right.right.right.right.right.blk, Z2.out.right.right.blk⟩) (fun hH2 => ?_)
    clear hK K'
    try simp only [Act.put, List.setIfInBounds_toArray, List.set_cons_zero, List.set_cons_succ]
    refine wpAnyH_ready (rs := [4]) (by kernel_rfl) (by simp) ?_
    refine AllReadyH.cons (o := { dst := none, op := Go.Op.store 36 (Go.Operand.tmp 7) (Go.Operand.tmp 87), type := 0, pos := "ref.go:215", after := #[{ on := 2, ground := Go.Ground.data }, { on := 3, ground := Go.Ground.chain }, { on := 0, ground := Go.Ground.phase }, { on := 1, ground := Go.Ground.phase }, { on := 2, ground := Go.Ground.phase }, { on := 3, ground := Go.Ground.phase }], guard := none }) rfl (fun K' hK => ?_) AllReadyH.nil
    rw [if_pos (by rfl)]
    refine wp_store_row 36 _ _ rfl eb (evC D.d.e) rfl rfl 36 _ Z2.out.blk (evC_info _) rfl (evC_all1 _) ?_
    have Z3 := Lib.hid (Z2.out.setRow T2.out (evC D.d.e))
    refine hK.out _ _ (⟨Z3.out.right.right.right.right.right.blk, Z3.out.right.right.blk⟩) (fun hH3 => ?_)
    clear hK K'
    try simp only [Act.put, List.setIfInBounds_toArray, List.set_cons_zero, List.set_cons_succ]
    refine wpAnyH_done (by kernel_rfl) ?_ _
    go_wp2_with fail
    refine bodyPost_ret (res_two rfl _ _ _ zb eb _ _ rfl rfl (ldH Z3.out.right.blk) (ldE Z3.out.blk)) rfl ?_
    refine ⟨?_, Z3.out.right.right.right.drop2.drop2⟩
    rfl
  · skip
    rw [hs] at y0
    clear hs
    go_upto_region 17 with fail
    clear y0 y3 hk2 x1
    have KX := KH
    clear KH K10
    have z32 := blk_cell KX.out.right.blk 2 (v := .int .u64 D.d.pc) rfl
    have c32 := blk_cell KX.out.blk 32 (v := .int .u64 G.pc) rfl
    have f32 := blk_frozen KX.out.blk 32
    have K32 : RowKit.Hid (Own w0 (w9.setCell ⟨hb, 32, none⟩ (.int .u64 D.d.pc)) (Star (blkA hb (.cells (hC ({ G with pc := D.d.pc } : HS)) 27)) _)) := Lib.hid (KX.out.set SH.out 32 (.int .u64 D.d.pc))
    go_upto_region 18 with fail
    clear z32 c32 f32 KX
    generalize World.setCell w9 _ _ = w32 at *
    have z33 := blk_cell K32.out.right.blk 6 (v := .bool D.d.hd) rfl
    have c33 := blk_cell K32.out.blk 33 (v := .bool ({ G with pc := D.d.pc } : HS).hd) rfl
    have f33 := blk_frozen K32.out.blk 33
    have K33 : RowKit.Hid (Own w0 (w32.setCell ⟨hb, 33, none⟩ (.bool D.d.hd)) (Star (blkA hb (.cells (hC ({ ({ G with pc := D.d.pc } : HS) with hd := D.d.hd } : HS)) 27)) _)) := Lib.hid (K32.out.set SH.out 33 (.bool D.d.hd))
    go_upto_region 19 with fail
    clear z33 c33 f33 K32
    generalize World.setCell w32 _ _ = w33 at *
    have z34 := blk_cell K33.out.right.blk 7 (v := .int .u64 D.d.at_) rfl
    have c34 := blk_cell K33.out.blk 34 (v := .int .u64 ({ ({ G with pc := D.d.pc } : HS) with hd := D.d.hd } : HS).at_) rfl
    have f34 := blk_frozen K33.out.blk 34
    have K34 : RowKit.Hid (Own w0 (w33.setCell ⟨hb, 34, none⟩ (.int .u64 D.d.at_)) (Star (blkA hb (.cells (hC ({ ({ ({ G with pc := D.d.pc } : HS) with hd := D.d.hd } : HS) with at_ := D.d.at_ } : HS)) 27)) _)) := Lib.hid (K33.out.set SH.out 34 (.int .u64 D.d.at_))
    go_upto_region 20 with fail
    clear z34 c34 f34 K33
    generalize World.setCell w33 _ _ = w34 at *
    have KB : RowKit.Hid (Own w0 w34 (Star (blkA qb (.cells (dnC D.d) 74)) (Star (rmA b fr D.s) (Star (blkA xb (.cells (insC I) 61)) (Star (blkA hb (.cells (hC FH) 27)) _))))) := Lib.hid (by rw [← HFH.out]; exact K34.out.mono (fun F h => bk4 h))
    clear K34 SH
    have T1 := Lib.hid (stable_star (stable_blk qb (.cells (dnC D.d) 74)) (stable_star (stable_rm b fr D.s) (stable_star (stable_blk xb (.cells (insC I) 61)) (stable_star (stable_blk hb (.cells (hC FH) 27)) (stable_star (stable_blk eb (.cells (evC e0) 36)) (HR.out))))))
    have T2 := Lib.hid (stable_star (stable_blk zb (.cells (hC FH) 27)) (stable_star (stable_blk qb (.cells (dnC D.d) 74)) (stable_star (stable_rm b fr D.s) (stable_star (stable_blk xb (.cells (insC I) 61)) (stable_star (stable_blk hb (.cells (hC FH) 27)) (HR.out))))))
    have TK := Lib.hid (stable_star (stable_blk qb (.cells (dnC D.d) 74)) (stable_star (stable_rm b fr D.s) (stable_star (stable_blk xb (.cells (insC I) 61)) (stable_star (stable_blk hb (.cells (hC FH) 27)) (stable_star (stable_blk zb (.cells (hC HZ) 27)) (stable_star (stable_blk eb (.cells (evC e0) 36)) (HR.out)))))))
    have KD := Lib.hid (KB.out.drew TK.out)
    refine wp_region_held_drew (S := fun w' => w'.heap[hb]? = some (.cells (hC FH) 27) ∧ w'.heap[qb]? = some (.cells (dnC D.d) 74)) (by kernel_rfl) ⟨KD.out.right.right.right.blk, KD.out.blk⟩ (fun hH => ?_)
    refine wpAnyH_take (i := 0) (oi := { dst := some 85, op := Go.Op.load 27 (Go.Operand.tmp 5), type := 27, pos := "ref.go:215", after := #[], guard := none }) (v := .agg (hC FH)) rfl (by kernel_rfl) (by kernel_rfl) (by kernel_rfl) (fun _ _ _ h => h) (Or.inl ⟨by rfl, fun w' hS' => ex_hart hS'.1 rfl⟩) hH ?_
    try simp only [Act.put, List.setIfInBounds_toArray, List.set_cons_zero, List.set_cons_succ]
    refine wpAnyH_take (i := 1) (oi := { dst := some 86, op := Go.Op.fieldAddr 74 (Go.Operand.tmp 12) 3, type := 0, pos := "ref.go:215", after := #[{ on := 3, ground := Go.Ground.gcOnly Go.Departure.lateStores }], guard := none }) (v := .pointer (some ⟨qb, 3, none⟩)) rfl (by kernel_rfl) (by kernel_rfl) (by kernel_rfl) (fun _ _ _ h => h) (Or.inl ⟨by rfl, fun w' hS' => by first | rfl | (go_simp; done) | (go_simp; rfl)⟩) hH ?_
    try simp only [Act.put, List.setIfInBounds_toArray, List.set_cons_zero, List.set_cons_succ]
    refine wpAnyH_take (i := 2) (oi := { dst := some 87, op := Go.Op.load 36 (Go.Operand.tmp 86), type := 36, pos := "ref.go:215", after := #[{ on := 1, ground := Go.Ground.data }, { on := 3, ground := Go.Ground.gcOnly Go.Departure.lateStores }], guard := none }) (v := .agg (evC D.d.e)) rfl (by kernel_rfl) (by kernel_rfl) (by kernel_rfl) (fun _ _ _ h => h) (Or.inl ⟨by rfl, fun w' hS' => ex_devent hS'.2 rfl⟩) hH ?_
    try simp only [Act.put, List.setIfInBounds_toArray, List.set_cons_zero, List.set_cons_succ]
    have Z1 := Lib.hid (KD.out.mono (fun F h => st5 h))
    refine wpAnyH_ready (rs := [3]) (by kernel_rfl) (by simp) ?_
    refine AllReadyH.cons (o := { dst := none, op := Go.Op.store 27 (Go.Operand.tmp 6) (Go.Operand.tmp 85), type := 0, pos := "ref.go:215", after := #[{ on := 0, ground := Go.Ground.data }, { on := 0, ground := Go.Ground.phase }, { on := 1, ground := Go.Ground.textOnly Go.Departure.lateStores }, { on := 2, ground := Go.Ground.textOnly Go.Departure.lateStores }], guard := none }) rfl (fun K' hK => ?_) AllReadyH.nil
    rw [if_pos (by rfl)]
    refine wp_store_row 27 _ _ rfl zb (hC FH) rfl rfl 27 _ Z1.out.blk (hC_info _) rfl (hC_all1 _) ?_
    have Z2 := Lib.hid ((Z1.out.setRow T1.out (hC FH)).mono (fun F h => st6 h))
    refine hK.out _ _ (⟨Z2.out.right.right.right.right.right.blk, Z2.out.right.right.blk⟩) (fun hH2 => ?_)
    clear hK K'
    try simp only [Act.put, List.setIfInBounds_toArray, List.set_cons_zero, List.set_cons_succ]
    refine wpAnyH_ready (rs := [4]) (by kernel_rfl) (by simp) ?_
    refine AllReadyH.cons (o := { dst := none, op := Go.Op.store 36 (Go.Operand.tmp 7) (Go.Operand.tmp 87), type := 0, pos := "ref.go:215", after := #[{ on := 2, ground := Go.Ground.data }, { on := 3, ground := Go.Ground.chain }, { on := 0, ground := Go.Ground.phase }, { on := 1, ground := Go.Ground.phase }, { on := 2, ground := Go.Ground.phase }, { on := 3, ground := Go.Ground.phase }], guard := none }) rfl (fun K' hK => ?_) AllReadyH.nil
    rw [if_pos (by rfl)]
    refine wp_store_row 36 _ _ rfl eb (evC D.d.e) rfl rfl 36 _ Z2.out.blk (evC_info _) rfl (evC_all1 _) ?_
    have Z3 := Lib.hid (Z2.out.setRow T2.out (evC D.d.e))
    refine hK.out _ _ (⟨Z3.out.right.right.right.right.right.blk, Z3.out.right.right.blk⟩) (fun hH3 => ?_)
    clear hK K'
    try simp only [Act.put, List.setIfInBounds_toArray, List.set_cons_zero, List.set_cons_succ]
    refine wpAnyH_done (by kernel_rfl) ?_ _
    go_wp2_with fail
    refine bodyPost_ret (res_two rfl _ _ _ zb eb _ _ rfl rfl (ldH Z3.out.right.blk) (ldE Z3.out.blk)) rfl ?_
    refine ⟨?_, Z3.out.right.right.right.drop2.drop2⟩
    rfl
end Go.Proofs.YtngeabphjdfdgaaGreatDoor.P
namespace Go.Proofs.YtngeabphjdfdgaaGreatDoor.P
open Go.RowKit Go.MuLone Go.Proofs.YtngeabphjdfdgaaGreatDoor.W
theorem o_dstep {w0 w : World} {b fr : Nat} {s : List UInt8} {R : Asn} (h : Own w0 w (Star (rmA b fr s) R)) (hR : Stable R) (hf : fr ≤ 256) (r : Int) (hr : i64 r) (H : HS) (hH : H.ok) :
    Calls Tryz.prog 9 #[.pointer (some ⟨b, 0, none⟩), .int .i64 r, .agg (hC H)] w fun e w' => e = .returned (.tuple #[.agg (hC (stepF fr s r H).H), .agg (evC (stepF fr s r H).e)]) ∧ Own w0 w' (Star (rmA b fr (stepF fr s r H).s) R) := by
  have hp : 0 ≤ rchV fr s r H.pc 4 3 := (rch_u64 (s := s) (r := r) (n := 4) (acc := 3) hf hH.2.1).1.1
  have hx4 := load4 s (rchV fr s r H.pc 4 3) hp
  rw [← dstep_is fr s r H hx4]
  unfold dStepF
  cases hB : rchB fr s r H.pc 4 3 with
  | false =>
    rw [if_neg (by decide)]
    exact o_dstep_fetch h hR hf r hr H hH _ rfl hB
  | true =>
    rw [if_pos rfl]
    obtain ⟨V, hV⟩ : ∃ V, rchV fr s r H.pc 4 3 = V := ⟨_, rfl⟩
    rw [hV] at hx4 ⊢
    obtain ⟨x, hx⟩ : ∃ x, loadV s V 4 = x := ⟨_, rfl⟩
    rw [hx] at hx4 ⊢
    by_cases hd : decE x = 0
    · rw [if_pos hd]
      obtain ⟨hi, h1, h2, h3, h4, h5⟩ := ins_of hx4 hd
      by_cases h64 : (insF x).op = 64
      · rw [if_pos h64]
        exact o_dstep_64 h hR hf r hr H hH V hV hB x hx hx4 (insF x).op _ _ _ _ 0 hi hd rfl h64
      rw [if_neg h64]
      by_cases h65 : (insF x).op = 65
      · rw [if_pos h65]
        exact o_dstep_65 h hR hf r hr H hH V hV hB x hx hx4 (insF x).op _ _ _ _ 0 hi hd rfl h65
      rw [if_neg h65]
      have hop : 1 ≤ (insF x).op ∧ (insF x).op ≤ 63 ∨ 66 ≤ (insF x).op ∧ (insF x).op ≤ 87 := by omega
      obtain ⟨D, hD⟩ : ∃ D, docF fr s r (insF x).op ((H.set 0 0).X (insF x).a) ((H.set 0 0).X (insF x).b) (w64 (insF x).i) H.pc (d0F (H.set 0 0)) = D := ⟨_, rfl⟩
      rw [hD]
      by_cases hk : D.d.e.k = 0
      · rw [if_pos hk]
        by_cases hc : (D.d.sets && decide (0 < (insF x).rd)) = true
        · rw [Bool.and_eq_true, decide_eq_true_eq] at hc
          exact o_dstep_ok1 h hR hf r hr H hH V hV hB x hx hx4 (insF x) ⟨h1, h2, h3⟩ hop hi hd D hD hk hc
        · exact o_dstep_ok0 h hR hf r hr H hH V hV hB x hx hx4 (insF x) ⟨h1, h2, h3⟩ hop hi hd D hD hk (by simpa using hc)
      · rw [if_neg hk]
        exact o_dstep_ev h hR hf r hr H hH V hV hB x hx hx4 (insF x) ⟨h1, h2, h3⟩ hop hi hd D hD hk
    · rw [if_neg hd]
      have h0 : decK x = 0 := by unfold decE at hd; split at hd; · assumption
                                 · exact absurd rfl hd
      have hdv : decV x = iv 0 0 0 0 0 := by unfold decV; rw [if_pos h0]
      have hde : decE x = 2 := by unfold decE; rw [if_pos h0]
      exact o_dstep_bad h hR hf r hr H hH V hV hB x hx hx4 0 0 0 0 0 2 hdv hde rfl
/-- Is a root a frame? -/
theorem o_takes {w0 w : World} {b fr : Nat} {s : List UInt8} {R : Asn} (h : Own w0 w (Star (rmA b fr s) R)) (hf : fr ≤ 256) (r : Int) (hr : i64 r) :
    Calls Tryz.prog 8 #[.pointer (some ⟨b, 0, none⟩), .int .i64 r] w fun e w' => e = .returned (.bool (decide (0 ≤ r) && decide (r < fr))) ∧ w' = w := by
  obtain ⟨F, vb, t, hM, hl, _⟩ := h.left.get
  have c0 := blk_cell hM.1 0 (v := .slice (some ⟨vb, 0, none⟩) s.length s.length) rfl
  have hl2 : (s.length : Int) = (fr : Int) * 256 := by omega
  obtain ⟨n, hn⟩ : ∃ n : Nat, s.length = n := ⟨_, rfl⟩
  rw [hn] at c0 hl2
  have e1 : (n : Int) / 256 = fr := by omega
  have n0 : (0 : Int) ≤ n := by omega
  have n1 : (n : Int) ≤ 9223372036854775807 := by omega
  clear hl hn hM h
  obtain ⟨r0, r1⟩ := hr
  by_cases h0 : 0 ≤ r
  · rw [decide_eq_true h0, Bool.true_and]
    go_enter Tryz.func8, Tryz.ntmps8
    go_wp2_with fail
    go_ret
    exact ⟨by first | rfl | (rw [e1]) | simp [e1], rfl⟩
  · rw [decide_eq_false h0, Bool.false_and]
    go_enter Tryz.func8, Tryz.ntmps8
    go_wp2_with fail
    go_ret
    exact ⟨rfl, rfl⟩
end Go.Proofs.YtngeabphjdfdgaaGreatDoor.P
