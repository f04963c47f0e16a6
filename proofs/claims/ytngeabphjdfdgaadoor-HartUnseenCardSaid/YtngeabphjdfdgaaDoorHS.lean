/- Stage 5: a step whose word is no instruction. No condition. -/
import Derived.Test.YtngeabphjdfdgaaDoorHQ
set_option linter.unusedVariables false
set_option linter.unusedSimpArgs false
set_option maxRecDepth 100000
namespace Go.Proofs.YtngeabphjdfdgaaDoor.P
open Go.RowKit Go.MuLone Go.Proofs.YtngeabphjdfdgaaDoor.W
set_option maxHeartbeats 6400000 in
theorem o_step_bad {w0 w : World} {b fr : Nat} {s : List UInt8} {R : Asn} (h : Own w0 w (Star (memA b fr s) R)) (hR : Stable R) (r : Int) (hr0 : 0 ≤ r) (hr1 : r < fr) (H : HS) (hH : H.ok) (hT : PT w0) (hF : FT w0) (V : Int) (hV : rchV fr s r H.pc 4 3 = V) (hB : rchB fr s r H.pc 4 3 = true) (x : Int) (hx : loadV s V 4 = x) (hx4 : u32 x) (dop drd da db di DE : Int) (hdv : decV x = iv dop drd da db di) (hde : decE x = DE) (hne : (DE != 0) = true) :
    Calls Tryd.prog 11 #[.pointer (some ⟨b, 0, none⟩), .int .i64 r, .agg (hC H)] w fun e w' => e = .returned (.tuple #[.agg (hC (H.set 0 0)), evV ⟨3, 0, false⟩, .int .i64 0]) ∧ Own w0 w' (Star (memA b fr s) R) := by
  have hi := step_in h hR r H
  have hl := o_mlen h
  clear h
  go_enter Tryd.func11, Tryd.ntmps11
  go_upto_region 1 with fail
  generalize (World.alloc _ (.cells _ 39)) = w1 at *
  generalize w.heap.size + 1 + 1 + 1 + 1 = eb at *
  generalize w.heap.size + 1 + 1 + 1 = zb at *
  generalize w.heap.size + 1 + 1 = hb at *
  generalize w.heap.size + 1 = rb at *
  generalize w.heap.size = mb at *
  have HI := Lib.hid hi
  have c0 := blk_cell hi.right.blk 0 (v := .pointer (some ⟨b, 0, none⟩)) rfl
  have c1 := blk_cell hi.right.right.blk 0 (v := .int .i64 r) rfl
  have CF := Lib.hid (o_framesH hi)
  clear hi
  have d1 : ¬ r < 0 := by omega
  have d2 : ¬ (fr : Int) ≤ r := by omega
  go_wp2_with fail
  have c2 := blk_cell HI.out.right.right.right.blk 0 (hC_x H 0 (by decide))
  have f2 := blk_frozen HI.out.right.right.right.blk 0
  go_quiet ((go_at_call 19; exact Calls.quiet_of_same (CF.out _ rfl)))
  have S0 := stable_star (stable_mem b fr s) (stable_box mb rb b r (stable_star (stable_blk zb (.cells (hC HZ) 26)) (stable_star (stable_blk eb (.cells (evC e0) 39)) hR)))
  have k2 := (HI.out.gr (stable_star (stable_mem b fr s) (stable_box mb rb b r (stable_star (stable_blk hb _) (stable_star (stable_blk zb _) (stable_star (stable_blk eb _) hR))))) (gr_dN2 w1 nq)).mono (fun F h => st4 h)
  have k3 := k2.set S0 0 (.int .u64 0)
  rw [hC_setx H 0 0 (by decide)] at k3
  have HS0 := Lib.hid S0
  have K3 := Lib.hid k3
  have c0' : (w1.drewN nq).cell? ⟨mb, 0, none⟩ = _ := c0
  have c1' : (w1.drewN nq).cell? ⟨rb, 0, none⟩ = _ := c1
  have c2' : (w1.drewN nq).cell? ⟨hb, 0, none⟩ = _ := c2
  have f2' : (w1.drewN nq).frozen? ⟨hb, 0, none⟩ = _ := f2
  clear k2 k3 HI c0 c1 c2 f2 S0 CF
  generalize w1.drewN nq = w2 at *
  go_upto_region 4 with fail
  obtain ⟨G, hG⟩ : ∃ G, H.set 0 0 = G := ⟨_, rfl⟩
  rw [hG] at K3
  have p1 : G.pc = H.pc := by rw [← hG]; rfl
  have c0 := blk_cell K3.out.right.right.blk 0 (v := .pointer (some ⟨b, 0, none⟩)) rfl
  have c1 := blk_cell K3.out.right.right.right.blk 0 (v := .int .i64 r) rfl
  have c2 := blk_cell K3.out.blk 32 (v := .int .u64 H.pc) (by rw [← p1]; rfl)
  clear c0' c1' c2' f2'
  generalize World.setCell w2 ⟨hb, 0, none⟩ _ = w3 at *
  have S1 := Lib.hid (stable_star (stable_blk hb (.cells (hC G) 26)) (stable_box mb rb b r (stable_star (stable_blk zb (.cells (hC HZ) 26)) (stable_star (stable_blk eb (.cells (evC e0) 39)) hR))))
  have CR := Lib.hid (o_reach K3.out.swap2 S1.out r H.pc 4 3 hH.2.1 ⟨by omega, by omega⟩ (by decide) V true hV hB)
  have HVU := Lib.hid (by rw [← hV]; exact (rch_u64 (s := s) (r := r) (n := 4) (acc := 3) hl.2.2 hH.2.1).1 : u64 V)
  have SK := Lib.hid (stable_star (stable_blk hb (.cells (hC G) 26)) (stable_star (stable_mem b fr s) (stable_star (stable_blk mb (.cells #[.pointer (some ⟨b, 0, none⟩)] 28)) (stable_star (stable_blk rb (.cells #[.int .i64 r] 3)) (stable_star (stable_blk zb (.cells (hC HZ) 26)) (stable_star (stable_blk eb (.cells (evC e0) 39)) (hR)))))))
  have SM := Lib.hid (stable_star (stable_mem b fr s) S1.out)
  have ST1 := Lib.hid (stable_star (stable_blk hb (.cells (hC G) 26)) (stable_star (stable_mem b fr s) (stable_star (stable_blk mb (.cells #[.pointer (some ⟨b, 0, none⟩)] 28)) (stable_star (stable_blk rb (.cells #[.int .i64 r] 3)) (stable_star (stable_blk eb (.cells (evC e0) 39)) (hR))))))
  have ST2 := Lib.hid (stable_star (stable_blk zb (.cells (hC G) 26)) (stable_star (stable_blk hb (.cells (hC G) 26)) (stable_star (stable_mem b fr s) (stable_star (stable_blk mb (.cells #[.pointer (some ⟨b, 0, none⟩)] 28)) (stable_star (stable_blk rb (.cells #[.int .i64 r] 3)) (hR))))))
  have wx : IntKind.u32.wrap x = x := by rw [IntKind.wrap_u32]; obtain ⟨q0, q1⟩ := hx4; omega
  have HX := Lib.hid hx
  have HDE := Lib.hid (show ∀ w', Gr w0 w' → Calls Tryd.prog 21 #[.int .u32 x] w' fun e w'' => e = .returned (.tuple #[iv dop drd da db di, .int .i64 DE]) ∧ Gr w' w'' from fun w' g => by have := c_decode x hx4 w' (hF.gr g); rw [hdv, hde] at this; exact this)
  clear hx hdv hde hV hB
  go_upto_region 9 with (first
    | (go_at_call 20; refine CR.out.mono ?_; rintro e w4 ⟨rfl, h4⟩; have K4 := Lib.hid h4; have d0 := blk_cell h4.right.right.blk 0 (v := .pointer (some ⟨b, 0, none⟩)) rfl; clear h4)
    | (go_at_call 13; refine (o_mload K4.out S1.out V 4 _ _ HVU.out HX.out rfl).mono ?_; rintro e w5 ⟨rfl, h5⟩; have K5 := Lib.hid h5; clear h5)
    | (go_at_call 21; refine (HDE.out _ K5.out.sub).mono ?_; rintro e w6 ⟨rfl, g6⟩; have K6 := Lib.hid ((K5.out.gr SM.out g6).swap2); clear g6))
  have K7 := Lib.hid (K6.out.alloc SK.out (.cells #[.int .i64 dop, .int .i64 drd, .int .i64 da, .int .i64 db, .int .i64 di] 63))
  clear CR K3 K4 K5 K6 c0 c1 c2 d0 HS0 HDE
  generalize (World.alloc w6 _) = w7 at *
  generalize w6.heap.size = xb at *
  have R7 := Lib.hid K7.out.right
  have Z1 := Lib.hid (R7.out.mono (fun F h => st5 h))
  have Z2 := Lib.hid ((Z1.out.setRow ST1.out (hC G)).mono (fun F h => st6 h))
  have Z3 := Lib.hid (Z2.out.setRow ST2.out (evC ⟨3, 0, false⟩))
  clear K7
  go_wp2_with (first
    | (refine wpList_load_row rfl 26 _ rfl _ rfl 26 _ (0, 0) _ R7.out.blk Tryd.underlying26 rfl (hC_info _) ?_)
    | (refine wpList_store_row rfl 26 _ _ rfl _ _ rfl rfl 26 _ Z1.out.blk (hC_info _) rfl (hC_all1 _) ?_)
    | (refine wpList_store_row rfl 39 _ _ rfl _ _ rfl rfl 39 _ Z2.out.blk (evC_info ⟨3, 0, false⟩) rfl (evC_all1 ⟨3, 0, false⟩) ?_))
  refine bodyPost_ret (res_step rfl _ _ _ zb eb _ _ rfl rfl (ldH Z3.out.right.blk) (ldE Z3.out.blk)) rfl ⟨?_, Z3.out.right.right.right.drop2.drop2⟩
  rw [hG]
  rfl
end Go.Proofs.YtngeabphjdfdgaaDoor.P
