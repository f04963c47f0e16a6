/- Stage 5: a step whose instruction cannot be fetched. No condition. -/
import Derived.Test.YtngeabphjdfdgaaDoorHQ
set_option linter.unusedVariables false
set_option linter.unusedSimpArgs false
set_option maxRecDepth 100000
namespace Go.Proofs.YtngeabphjdfdgaaDoor.P
open Go.RowKit Go.MuLone Go.Proofs.YtngeabphjdfdgaaDoor.W
set_option maxHeartbeats 6400000 in
theorem o_step_fetch {w0 w : World} {b fr : Nat} {s : List UInt8} {R : Asn} (h : Own w0 w (Star (memA b fr s) R)) (hR : Stable R) (r : Int) (hr0 : 0 ≤ r) (hr1 : r < fr) (H : HS) (hH : H.ok) (hT : PT w0) (hF : FT w0) (V : Int) (hV : rchV fr s r H.pc 4 3 = V) (hB : rchB fr s r H.pc 4 3 = false) :
    Calls Tryd.prog 11 #[.pointer (some ⟨b, 0, none⟩), .int .i64 r, .agg (hC H)] w fun e w' => e = .returned (.tuple #[.agg (hC (H.set 0 0)), evV ⟨4, H.pc, false⟩, .int .i64 0]) ∧ Own w0 w' (Star (memA b fr s) R) := by
  have hi := step_in h hR r H
  have hl := o_mlen h
  clear h
  go_enter Tryd.func11, Tryd.ntmps11
  go_upto_region 1 with fail
  generalize (World.alloc _ (.cells _ 39)) = w1 at *
  generalize w.heap.size + 1 + 1 + 1 + 1 = eb at *
  generalize w.heap.size + 1 + 1 + 1 = zb at *
  generalize w.heap.size + 1 + 1 = hb at *
  generalize w.heap.size + 1 = rb at *
  generalize w.heap.size = mb at *
  have HI := Lib.hid hi
  have c0 := blk_cell hi.right.blk 0 (v := .pointer (some ⟨b, 0, none⟩)) rfl
  have c1 := blk_cell hi.right.right.blk 0 (v := .int .i64 r) rfl
  have CF := Lib.hid (o_framesH hi)
  clear hi
  have d1 : ¬ r < 0 := by omega
  have d2 : ¬ (fr : Int) ≤ r := by omega
  go_wp2_with fail
  have c2 := blk_cell HI.out.right.right.right.blk 0 (hC_x H 0 (by decide))
  have f2 := blk_frozen HI.out.right.right.right.blk 0
  go_quiet ((go_at_call 19; exact Calls.quiet_of_same (CF.out _ rfl)))
  have S0 := stable_star (stable_mem b fr s) (stable_box mb rb b r (stable_star (stable_blk zb (.cells (hC HZ) 26)) (stable_star (stable_blk eb (.cells (evC e0) 39)) hR)))
  have k2 := (HI.out.gr (stable_star (stable_mem b fr s) (stable_box mb rb b r (stable_star (stable_blk hb _) (stable_star (stable_blk zb _) (stable_star (stable_blk eb _) hR))))) (gr_dN2 w1 nq)).mono (fun F h => st4 h)
  have k3 := k2.set S0 0 (.int .u64 0)
  rw [hC_setx H 0 0 (by decide)] at k3
  have HS0 := Lib.hid S0
  have K3 := Lib.hid k3
  have c0' : (w1.drewN nq).cell? ⟨mb, 0, none⟩ = _ := c0
  have c1' : (w1.drewN nq).cell? ⟨rb, 0, none⟩ = _ := c1
  have c2' : (w1.drewN nq).cell? ⟨hb, 0, none⟩ = _ := c2
  have f2' : (w1.drewN nq).frozen? ⟨hb, 0, none⟩ = _ := f2
  clear k2 k3 HI c0 c1 c2 f2 S0 CF
  generalize w1.drewN nq = w2 at *
  go_upto_region 4 with fail
  obtain ⟨G, hG⟩ : ∃ G, H.set 0 0 = G := ⟨_, rfl⟩
  rw [hG] at K3
  have p1 : G.pc = H.pc := by rw [← hG]; rfl
  have c0 := blk_cell K3.out.right.right.blk 0 (v := .pointer (some ⟨b, 0, none⟩)) rfl
  have c1 := blk_cell K3.out.right.right.right.blk 0 (v := .int .i64 r) rfl
  have c2 := blk_cell K3.out.blk 32 (v := .int .u64 H.pc) (by rw [← p1]; rfl)
  clear c0' c1' c2' f2'
  generalize World.setCell w2 ⟨hb, 0, none⟩ _ = w3 at *
  have S1 := Lib.hid (stable_star (stable_blk hb (.cells (hC G) 26)) (stable_box mb rb b r (stable_star (stable_blk zb (.cells (hC HZ) 26)) (stable_star (stable_blk eb (.cells (evC e0) 39)) hR))))
  have CR := Lib.hid (o_reach K3.out.swap2 S1.out r H.pc 4 3 hH.2.1 ⟨by omega, by omega⟩ (by decide) V false hV hB)
  have SK := Lib.hid (stable_star (stable_blk hb (.cells (hC G) 26)) (stable_star (stable_mem b fr s) (stable_star (stable_blk mb (.cells #[.pointer (some ⟨b, 0, none⟩)] 28)) (stable_star (stable_blk rb (.cells #[.int .i64 r] 3)) (stable_star (stable_blk zb (.cells (hC HZ) 26)) (stable_star (stable_blk eb (.cells (evC e0) 39)) (hR)))))))
  have ST1 := Lib.hid (stable_star (stable_blk hb (.cells (hC G) 26)) (stable_star (stable_mem b fr s) (stable_star (stable_blk mb (.cells #[.pointer (some ⟨b, 0, none⟩)] 28)) (stable_star (stable_blk rb (.cells #[.int .i64 r] 3)) (stable_star (stable_blk eb (.cells (evC e0) 39)) (hR))))))
  have ST2 := Lib.hid (stable_star (stable_blk zb (.cells (hC G) 26)) (stable_star (stable_blk hb (.cells (hC G) 26)) (stable_star (stable_mem b fr s) (stable_star (stable_blk mb (.cells #[.pointer (some ⟨b, 0, none⟩)] 28)) (stable_star (stable_blk rb (.cells #[.int .i64 r] 3)) (hR))))))
  clear hV hB
  go_wp2_with (go_at_call 20; refine CR.out.mono ?_; rintro e w4 ⟨rfl, h4⟩; have K4 := Lib.hid h4.swap2; clear h4)
  have KD := Lib.hid (K4.out.drew SK.out)
  clear CR K3 c0 c1 c2 HS0 S1
  refine wp_region_held_drew (S := fun w' => w'.heap[hb]? = some (.cells (hC G) 26)) (by kernel_rfl) KD.out.blk (fun hH => ?_)
  refine wpAnyH_take (i := 0) (oi := { dst := some 38, op := Go.Op.load 26 (Go.Operand.tmp 5), type := 26, pos := "hart.go:36", after := #[], guard := none }) (v := .agg (hC G)) rfl (by kernel_rfl) (by kernel_rfl) (by kernel_rfl) (fun _ _ _ h => h) (Or.inl ⟨by rfl, fun w' hS' => ex_hart hS' rfl⟩) hH ?_
  try simp only [Act.put, List.setIfInBounds_toArray, List.set_cons_zero, List.set_cons_succ]
  refine wpAnyH_take (i := 1) (oi := { dst := some 39, op := Go.Op.fieldAddr 26 (Go.Operand.tmp 5) 1, type := 0, pos := "hart.go:36", after := #[{ on := 4, ground := Go.Ground.gcOnly Go.Departure.lateStores }], guard := none }) (v := .pointer (some ⟨hb, 32, none⟩)) rfl (by kernel_rfl) (by kernel_rfl) (by kernel_rfl) (fun _ _ _ h => h) (Or.inl ⟨by rfl, fun w' hS' => by first | rfl | (go_simp; done) | (go_simp; rfl)⟩) hH ?_
  try simp only [Act.put, List.setIfInBounds_toArray, List.set_cons_zero, List.set_cons_succ]
  refine wpAnyH_take (i := 2) (oi := { dst := some 40, op := Go.Op.load 23 (Go.Operand.tmp 39), type := 23, pos := "hart.go:36", after := #[{ on := 1, ground := Go.Ground.data }, { on := 4, ground := Go.Ground.gcOnly Go.Departure.lateStores }], guard := none }) (v := .int .u64 G.pc) rfl (by kernel_rfl) (by kernel_rfl) (by kernel_rfl) (fun _ _ _ h => h) (Or.inl ⟨by rfl, fun w' hS' => by have c := blk_cell hS' 32 (v := .int .u64 (G.pc)) rfl; go_simp⟩) hH ?_
  try simp only [Act.put, List.setIfInBounds_toArray, List.set_cons_zero, List.set_cons_succ]
  refine wpAnyH_take (i := 3) (oi := { dst := some 41, op := Go.Op.build 39 #[(0, Go.Operand.const (Go.Value.int Go.IntKind.i64 4)), (1, Go.Operand.tmp 40)], type := 39, pos := "hart.go:36", after := #[{ on := 2, ground := Go.Ground.data }, { on := 4, ground := Go.Ground.gcOnly Go.Departure.lateStores }], guard := none }) (v := .agg (evC ⟨4, G.pc, false⟩)) rfl (by kernel_rfl) (by kernel_rfl) (by kernel_rfl) (fun _ _ _ h => h) (Or.inl ⟨by rfl, fun w' hS' => by first | rfl | (go_simp; done) | (go_simp; rfl)⟩) hH ?_
  try simp only [Act.put, List.setIfInBounds_toArray, List.set_cons_zero, List.set_cons_succ]
  have Z1 := Lib.hid (KD.out.mono (fun F h => st5 h))
  refine wpAnyH_ready (rs := [4]) (by kernel_rfl) (by simp) ?_
  refine AllReadyH.cons (o := { dst := none, op := Go.Op.store 26 (Go.Operand.tmp 6) (Go.Operand.tmp 38), type := 0, pos := "hart.go:36", after := #[{ on := 0, ground := Go.Ground.data }, { on := 0, ground := Go.Ground.phase }, { on := 1, ground := Go.Ground.textOnly Go.Departure.lateStores }, { on := 2, ground := Go.Ground.textOnly Go.Departure.lateStores }, { on := 3, ground := Go.Ground.textOnly Go.Departure.lateStores }], guard := none }) rfl (fun K' hK => ?_) AllReadyH.nil
  rw [if_pos (by rfl)]
  refine wp_store_row 26 _ _ rfl zb (hC G) rfl rfl 26 _ Z1.out.blk (hC_info _) rfl (hC_all1 _) ?_
  have Z2 := Lib.hid ((Z1.out.setRow ST1.out (hC G)).mono (fun F h => st6 h))
  refine hK.out _ _ (Z2.out.right.right.blk) (fun hH2 => ?_)
  clear hK K'
  try simp only [Act.put, List.setIfInBounds_toArray, List.set_cons_zero, List.set_cons_succ]
  refine wpAnyH_ready (rs := [5]) (by kernel_rfl) (by simp) ?_
  refine AllReadyH.cons (o := { dst := none, op := Go.Op.store 39 (Go.Operand.tmp 7) (Go.Operand.tmp 41), type := 0, pos := "hart.go:36", after := #[{ on := 3, ground := Go.Ground.data }, { on := 4, ground := Go.Ground.chain }, { on := 0, ground := Go.Ground.phase }, { on := 1, ground := Go.Ground.phase }, { on := 2, ground := Go.Ground.phase }, { on := 3, ground := Go.Ground.phase }, { on := 4, ground := Go.Ground.phase }], guard := none }) rfl (fun K' hK => ?_) AllReadyH.nil
  rw [if_pos (by rfl)]
  refine wp_store_row 39 _ _ rfl eb (evC ⟨4, G.pc, false⟩) rfl rfl 39 _ Z2.out.blk (evC_info _) rfl (evC_all1 _) ?_
  have Z3 := Lib.hid (Z2.out.setRow ST2.out (evC ⟨4, G.pc, false⟩))
  refine hK.out _ _ (Z3.out.right.right.blk) (fun hH3 => ?_)
  clear hK K'
  try simp only [Act.put, List.setIfInBounds_toArray, List.set_cons_zero, List.set_cons_succ]
  refine wpAnyH_take (i := 6) (oi := { dst := some 8, op := Go.Op.assign (Go.Operand.const (Go.Value.int Go.IntKind.i64 0)), type := 35, pos := "hart.go:36", after := #[{ on := 5, ground := Go.Ground.chain }, { on := 0, ground := Go.Ground.phase }, { on := 1, ground := Go.Ground.phase }, { on := 2, ground := Go.Ground.phase }, { on := 3, ground := Go.Ground.phase }, { on := 4, ground := Go.Ground.phase }, { on := 5, ground := Go.Ground.phase }], guard := none }) (v := .int .i64 0) rfl (by kernel_rfl) (by kernel_rfl) (by kernel_rfl) (fun _ _ _ h => h) (Or.inl ⟨by rfl, fun w' hS' => by first | rfl | (go_simp; done) | (go_simp; rfl)⟩) hH3 ?_
  try simp only [Act.put, List.setIfInBounds_toArray, List.set_cons_zero, List.set_cons_succ]
  refine wpAnyH_done (by kernel_rfl) ?_ _
  go_wp2_with fail
  refine bodyPost_ret (res_step rfl _ _ _ zb eb _ _ rfl rfl (ldH Z3.out.right.blk) (ldE Z3.out.blk)) rfl ⟨?_, Z3.out.right.right.right.drop2.drop2⟩
  rw [hG, ← p1]
  rfl
end Go.Proofs.YtngeabphjdfdgaaDoor.P
