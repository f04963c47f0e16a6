/- Stage 5: what the document says that an instruction does: numbers reckoned with, memory. No condition. -/
import Derived.Test.YtngeabphjdfdgaaGreatDoorVK
set_option linter.unusedVariables false
set_option linter.unusedSimpArgs false
set_option maxRecDepth 100000
namespace Go.Proofs.YtngeabphjdfdgaaGreatDoor.P
open Go.RowKit Go.MuLone Go.Proofs.YtngeabphjdfdgaaGreatDoor.W
def aluC : Array Value := #[.int .i64 35, .int .i64 38, .int .i64 39, .int .i64 40, .int .i64 43, .int .i64 44, .int .i64 37, .int .i64 41, .int .i64 42, .int .i64 45, .int .i64 47, .int .i64 48, .int .i64 49]
theorem alu_at (k : Nat) (hk : k < 13) : aluC[k]? = some (.int .i64 (aluL.getD k 0)) := by
  rcases (by omega : k = 0 ∨ k = 1 ∨ k = 2 ∨ k = 3 ∨ k = 4 ∨ k = 5 ∨ k = 6 ∨ k = 7 ∨ k = 8 ∨ k = 9 ∨ k = 10 ∨ k = 11 ∨ k = 12) with rfl | rfl | rfl | rfl | rfl | rfl | rfl | rfl | rfl | rfl | rfl | rfl | rfl <;> rfl
set_option maxHeartbeats 3200000 in
theorem o_does_22 {w0 w : World} {b fr : Nat} {s : List UInt8} {R : Asn} (h : Own w0 w (Star (rmA b fr s) R)) (hR : Stable R) (hf : fr ≤ 256) (r : Int) (hr : i64 r) (op : Int) (rd ia ib' : Nat) (im : Int) (hia : ia < 32) (hib : ib' < 32) (H : HS) (hH : H.ok) (hop : 22 ≤ op ∧ op ≤ 34) :
    Calls Tryz.prog 25 #[.pointer (some ⟨b, 0, none⟩), .int .i64 r, .agg (insC ⟨op, rd, ia, ib', im⟩), .agg (hC H)] w (MemP w0 b fr R (docF fr s r op (H.X ia) (H.X ib') (w64 im) H.pc (d0F H))) := by
  unfold MemP
  obtain ⟨k, hk, rfl⟩ : ∃ k : Nat, k < 13 ∧ op = 22 + (k : Int) := ⟨(op - 22).toNat, by omega, by omega⟩
  unfold docF
  rw [if_neg (by omega), if_neg (by omega), if_neg (by omega), if_neg (by omega), if_neg (by omega), if_neg (by omega), if_pos hop.2, show (22 + (k : Int) - 22).toNat = k by omega]
  have n1 : (22 + (k : Int) == 1) = false := by simp; omega
  have n2 : (22 + (k : Int) == 2) = false := by simp; omega
  have n3 : (22 + (k : Int) == 3) = false := by simp; omega
  have n4 : (22 + (k : Int) == 4) = false := by simp; omega
  have l1 : ¬ 22 + (k : Int) ≤ 10 := by omega
  have l2 : ¬ 22 + (k : Int) ≤ 21 := by omega
  have l3 : 22 + (k : Int) ≤ 34 := hop.2
  have k1 : IntKind.i64.wrap (22 + (k : Int) - 22) = (k : Int) := by rw [IntKind.wrap_i64]; omega
  have k2 : (0 : Int) ≤ k := by omega
  have k3 : (k : Int) < 13 := by omega
  have hcell := alu_at k hk
  obtain ⟨AL, hAL⟩ : ∃ q, aluL.getD k 0 = q := ⟨_, rfl⟩
  rw [hAL] at hcell ⊢
  clear hAL hop
  have hi := does_in h hR ⟨22 + (k : Int), rd, ia, ib', im⟩ H
  clear h
  have HR := Lib.hid hR
  have HF := Lib.hid hf
  have HRI := Lib.hid hr
  have hxa := hH.1 ia hia
  have hxb := hH.1 ib' hib
  have hpc := hH.2.1
  have cxa := hC_x H ia hia
  have cxb := hC_x H ib' hib
  obtain ⟨xa, hxa'⟩ : ∃ q, H.X ia = q := ⟨_, rfl⟩
  obtain ⟨xb, hxb'⟩ : ∃ q, H.X ib' = q := ⟨_, rfl⟩
  rw [hxa'] at hxa cxa
  rw [hxb'] at hxb cxb
  try rw [hxa']
  try rw [hxb']
  have HXA := Lib.hid (word_of_u64 hxa)
  have HXB := Lib.hid (word_of_u64 hxb)
  have HXAU := Lib.hid hxa
  have i0 : (0 : Int) ≤ ia := by omega
  have i1 : (ia : Int) < 32 := by omega
  have j0 : (0 : Int) ≤ ib' := by omega
  have j1 : (ib' : Int) < 32 := by omega
  have m1 : IntKind.u64.wrap im = w64 im := w64_w im
  have m2 : IntKind.u64.wrap (H.pc + 4) = w64 (H.pc + 4) := w64_w _
  obtain ⟨M, hM⟩ : ∃ q, w64 im = q := ⟨_, rfl⟩
  have hMw : word M := by rw [← hM]; exact word_of_u64 (u64_w64 im)
  rw [hM] at m1
  try rw [hM]
  have HM := Lib.hid hMw
  have m3 : IntKind.u64.wrap (H.pc + M) = w64 (H.pc + M) := w64_w _
  have m4 : IntKind.u64.wrap (xa + M) = w64 (xa + M) := w64_w _
  clear hR hf hr hH hxa' hxb' hM hMw hxa hxb
  have CR := Lib.hid (fun w => c_rreckon AL xa M HXA.out HM.out w)
  obtain ⟨V, hV⟩ : ∃ q, reckV AL xa M = q := ⟨_, rfl⟩
  obtain ⟨VB, hVB⟩ : ∃ q, reckB AL = q := ⟨_, rfl⟩
  rw [hV, hVB] at CR
  rw [hV]
  clear hV hVB
  have hto : (w64 (H.pc + 4)) % 4 = 0 ∨ ¬ (w64 (H.pc + 4)) % 4 = 0 := by omega
  rcases hto with ht | ht
  · rw [fin_al ht]
    have ht2 : (w64 (H.pc + 4) % 4 == 0) = true := by simpa using ht
    have ht3 : (w64 (H.pc + 4) % 4 != 0) = false := by simpa using ht
    have hn0 : 0 ≤ w64 (H.pc + 4) := by first | exact (u64_w64 _).1 | omega
    have ht4 : ((w64 (H.pc + 4)).tmod 4 != 0) = false := by rw [Int.tmod_eq_emod_of_nonneg hn0]; exact ht3
    clear ht
    go_enter Tryz.func25, Tryz.ntmps25
    go_upto_region 1 with fail
    generalize (World.alloc _ (.cells _ 74)) = w1 at *
    generalize w.heap.size + 1 + 1 = zb at *
    generalize w.heap.size + 1 = hb at *
    generalize w.heap.size = ib at *
    have S0 := Lib.hid (stable_star (stable_blk ib (.cells (insC ⟨22 + (k : Int), rd, ia, ib', im⟩) 61)) (stable_star (stable_blk hb (.cells (hC H) 27)) (stable_star (stable_blk zb (.cells (dnC dZ) 74)) HR.out)))
    have HI := Lib.hid hi
    clear hi
    have c0 := blk_cell HI.out.right.blk 0 (v := .int .i64 (22 + (k : Int))) rfl
    have c2 := blk_cell HI.out.right.blk 2 (v := .int .i64 (ia : Int)) rfl
    have c3 := blk_cell HI.out.right.blk 3 (v := .int .i64 (ib' : Int)) rfl
    have c4 := blk_cell HI.out.right.blk 4 (v := .int .i64 im) rfl
    have ca := blk_cell HI.out.right.right.blk ia cxa
    have cb := blk_cell HI.out.right.right.blk ib' cxb
    have c32 := blk_cell HI.out.right.right.blk 32 (v := .int .u64 H.pc) rfl
    have c33 := blk_cell HI.out.right.right.blk 33 (v := .bool H.hd) rfl
    have c34 := blk_cell HI.out.right.right.blk 34 (v := .int .u64 H.at_) rfl
    have SM := Lib.hid (stable_star (stable_rm b fr s) S0.out)
    go_upto_region 4 with fail
    clear c2 c3 c4 ca cb cxa cxb
    go_upto_region 5 with (first
      | (refine wpList_build3 rfl 74 2 4 5 _ _ _ rfl (.int .u64 (w64 (H.pc + 4))) (.bool H.hd) (.int .u64 H.at_) rfl rfl rfl (dnC (d0F H)) (built_done (w64 (H.pc + 4)) H.at_ H.hd) ?_)
      | (refine wpList_store_row rfl 74 _ _ rfl _ _ rfl rfl 74 _ (blk_new _ _) (dn_info _) rfl (dn_all1 _) ?_; generalize hW : (World.setRow _ _ _) = w2; have K2 := Lib.hid (own_h1 (c1 := dnC (d0F H)) hW HI.out SM.out); clear hW; generalize w1.heap.size = db at *))
    clear c0 c32 c33 c34 HI
    have c0 := blk_cell K2.out.right.right.blk 0 (v := .int .i64 (22 + (k : Int))) rfl
    have c32 := blk_cell K2.out.right.right.right.blk 32 (v := .int .u64 H.pc) rfl
    have cd2 := blk_cell K2.out.blk 2 (v := .int .u64 (w64 (H.pc + 4))) rfl
    go_upto_region 7 with fail
    clear cd2
    have KL : RowKit.Hid (Own w0 (w2.alloc (.cells #[.int .i64 35, .int .i64 38, .int .i64 39, .int .i64 40, .int .i64 43, .int .i64 44, .int .i64 37, .int .i64 41, .int .i64 42, .int .i64 45, .int .i64 47, .int .i64 48, .int .i64 49] 3)) (Star (blkA w2.heap.size (.cells aluC 3)) (Star (blkA db (.cells (dnC (d0F H)) 74)) _))) := Lib.hid (K2.out.alloc (stable_star (stable_blk _ _) SM.out) (.cells aluC 3))
    go_upto_region 29 with fail
    generalize (World.alloc w2 _) = w21 at *
    generalize w2.heap.size = lb at *
    clear K2
    have KM := Lib.hid (KL.out.mono (fun F h => star_swap2 h))
    have SL := Lib.hid (stable_star (stable_blk lb (.cells aluC 3)) SM.out)
    clear KL
    have s0 := blk_cell KM.out.blk 0 (v := .bool (d0F H).sets) rfl
    have sf0 := blk_frozen KM.out.blk 0
    have KN : RowKit.Hid (Own w0 (w21.setCell ⟨db, 0, none⟩ (.bool true)) (Star (blkA db (.cells (dnC { d0F H with sets := true }) 74)) _)) := Lib.hid (KM.out.set SL.out 0 (.bool true))
    go_upto_region 30 with fail
    clear s0 sf0 KM
    generalize World.setCell w21 _ _ = w3 at *
    have cl := blk_cell KN.out.right.blk k hcell
    have K3 := Lib.hid (KN.out.mono (fun F h => star_drop2 h))
    clear KN
    have S3 := Lib.hid (stable_star (stable_blk db (.cells (dnC { d0F H with sets := true }) 74)) SM.out)
    go_upto_region 36 with (go_at_call 53; refine (CR.out _).mono ?_; rintro e w5 ⟨rfl, g5⟩; have K5 := Lib.hid (K3.out.gr S3.out g5); have s1 := blk_cell K5.out.blk 1 (v := .int .u64 (d0F H).v) rfl; have sf1 := blk_frozen K5.out.blk 1; clear g5)
    have K6 : RowKit.Hid (Own w0 (w5.setCell ⟨db, 1, none⟩ (.int .u64 V)) (Star (blkA db (.cells (dnC { d0F H with sets := true, v := V }) 74)) _)) := Lib.hid (K5.out.set SM.out 1 (.int .u64 V))
    clear s1 sf1 K5 K3 CR
    generalize World.setCell w5 _ _ = w6 at *
    have t2 := blk_cell K6.out.blk 2 (v := .int .u64 ({ d0F H with sets := true, v := V }).pc) rfl
    have tf2 := blk_frozen K6.out.blk 2
    have KD : RowKit.Hid (Own w0 (w6.setCell ⟨db, 2, none⟩ (.int .u64 (w64 (H.pc + 4)))) (Star (blkA db (.cells (dnC { { d0F H with sets := true, v := V } with pc := w64 (H.pc + 4) }) 74)) _)) := Lib.hid (K6.out.set SM.out 2 (.int .u64 (w64 (H.pc + 4))))
    go_upto_region 39 with fail
    clear t2 tf2
    generalize World.setCell w6 _ _ = w19 at *
    have L6 := Lib.hid KD.out.blk
    have KZ := Lib.hid (KD.out.mono (fun F h => st5 h))
    have SZ := Lib.hid (stable_star (stable_blk db (.cells (dnC { { d0F H with sets := true, v := V } with pc := w64 (H.pc + 4) }) 74)) (stable_star (stable_rm b fr s) (stable_star (stable_blk ib (.cells (insC ⟨22 + (k : Int), rd, ia, ib', im⟩) 61)) (stable_star (stable_blk hb (.cells (hC H) 27)) HR.out))))
    have KF := Lib.hid (KZ.out.setRow SZ.out (dnC { { d0F H with sets := true, v := V } with pc := w64 (H.pc + 4) }))
    go_wp2_with (first
      | (refine wpList_load_row rfl 74 _ rfl _ rfl 74 _ (0, 0) _ L6.out Tryz.underlying74 rfl (dn_info _) ?_)
      | (refine wpList_store_row rfl 74 _ _ rfl _ _ rfl rfl 74 _ KZ.out.blk (dn_info _) rfl (dn_all1 _) ?_))
    refine bodyPost_ret (res_done rfl _ _ _ zb _ rfl (ldDn KF.out.blk)) rfl ?_
    refine ⟨rfl, KF.out.mono (fun F h => ?_)⟩
    exact star_drop2 (star_drop2 (star_drop2 (star_drop2 (st3 h))))
  · rw [fin_no ht]
    have ht2 : (w64 (H.pc + 4) % 4 == 0) = false := by simpa using ht
    have ht3 : (w64 (H.pc + 4) % 4 != 0) = true := by simpa using ht
    have hn0 : 0 ≤ w64 (H.pc + 4) := by first | exact (u64_w64 _).1 | omega
    have ht4 : ((w64 (H.pc + 4)).tmod 4 != 0) = true := by rw [Int.tmod_eq_emod_of_nonneg hn0]; exact ht3
    clear ht
    go_enter Tryz.func25, Tryz.ntmps25
    go_upto_region 1 with fail
    generalize (World.alloc _ (.cells _ 74)) = w1 at *
    generalize w.heap.size + 1 + 1 = zb at *
    generalize w.heap.size + 1 = hb at *
    generalize w.heap.size = ib at *
    have S0 := Lib.hid (stable_star (stable_blk ib (.cells (insC ⟨22 + (k : Int), rd, ia, ib', im⟩) 61)) (stable_star (stable_blk hb (.cells (hC H) 27)) (stable_star (stable_blk zb (.cells (dnC dZ) 74)) HR.out)))
    have HI := Lib.hid hi
    clear hi
    have c0 := blk_cell HI.out.right.blk 0 (v := .int .i64 (22 + (k : Int))) rfl
    have c2 := blk_cell HI.out.right.blk 2 (v := .int .i64 (ia : Int)) rfl
    have c3 := blk_cell HI.out.right.blk 3 (v := .int .i64 (ib' : Int)) rfl
    have c4 := blk_cell HI.out.right.blk 4 (v := .int .i64 im) rfl
    have ca := blk_cell HI.out.right.right.blk ia cxa
    have cb := blk_cell HI.out.right.right.blk ib' cxb
    have c32 := blk_cell HI.out.right.right.blk 32 (v := .int .u64 H.pc) rfl
    have c33 := blk_cell HI.out.right.right.blk 33 (v := .bool H.hd) rfl
    have c34 := blk_cell HI.out.right.right.blk 34 (v := .int .u64 H.at_) rfl
    have SM := Lib.hid (stable_star (stable_rm b fr s) S0.out)
    go_upto_region 4 with fail
    clear c2 c3 c4 ca cb cxa cxb
    go_upto_region 5 with (first
      | (refine wpList_build3 rfl 74 2 4 5 _ _ _ rfl (.int .u64 (w64 (H.pc + 4))) (.bool H.hd) (.int .u64 H.at_) rfl rfl rfl (dnC (d0F H)) (built_done (w64 (H.pc + 4)) H.at_ H.hd) ?_)
      | (refine wpList_store_row rfl 74 _ _ rfl _ _ rfl rfl 74 _ (blk_new _ _) (dn_info _) rfl (dn_all1 _) ?_; generalize hW : (World.setRow _ _ _) = w2; have K2 := Lib.hid (own_h1 (c1 := dnC (d0F H)) hW HI.out SM.out); clear hW; generalize w1.heap.size = db at *))
    clear c0 c32 c33 c34 HI
    have c0 := blk_cell K2.out.right.right.blk 0 (v := .int .i64 (22 + (k : Int))) rfl
    have c32 := blk_cell K2.out.right.right.right.blk 32 (v := .int .u64 H.pc) rfl
    have cd2 := blk_cell K2.out.blk 2 (v := .int .u64 (w64 (H.pc + 4))) rfl
    go_upto_region 7 with fail
    clear cd2
    have KL : RowKit.Hid (Own w0 (w2.alloc (.cells #[.int .i64 35, .int .i64 38, .int .i64 39, .int .i64 40, .int .i64 43, .int .i64 44, .int .i64 37, .int .i64 41, .int .i64 42, .int .i64 45, .int .i64 47, .int .i64 48, .int .i64 49] 3)) (Star (blkA w2.heap.size (.cells aluC 3)) (Star (blkA db (.cells (dnC (d0F H)) 74)) _))) := Lib.hid (K2.out.alloc (stable_star (stable_blk _ _) SM.out) (.cells aluC 3))
    go_upto_region 29 with fail
    generalize (World.alloc w2 _) = w21 at *
    generalize w2.heap.size = lb at *
    clear K2
    have KM := Lib.hid (KL.out.mono (fun F h => star_swap2 h))
    have SL := Lib.hid (stable_star (stable_blk lb (.cells aluC 3)) SM.out)
    clear KL
    have s0 := blk_cell KM.out.blk 0 (v := .bool (d0F H).sets) rfl
    have sf0 := blk_frozen KM.out.blk 0
    have KN : RowKit.Hid (Own w0 (w21.setCell ⟨db, 0, none⟩ (.bool true)) (Star (blkA db (.cells (dnC { d0F H with sets := true }) 74)) _)) := Lib.hid (KM.out.set SL.out 0 (.bool true))
    go_upto_region 30 with fail
    clear s0 sf0 KM
    generalize World.setCell w21 _ _ = w3 at *
    have cl := blk_cell KN.out.right.blk k hcell
    have K3 := Lib.hid (KN.out.mono (fun F h => star_drop2 h))
    clear KN
    have S3 := Lib.hid (stable_star (stable_blk db (.cells (dnC { d0F H with sets := true }) 74)) SM.out)
    go_upto_region 36 with (go_at_call 53; refine (CR.out _).mono ?_; rintro e w5 ⟨rfl, g5⟩; have K5 := Lib.hid (K3.out.gr S3.out g5); have s1 := blk_cell K5.out.blk 1 (v := .int .u64 (d0F H).v) rfl; have sf1 := blk_frozen K5.out.blk 1; clear g5)
    have K6 : RowKit.Hid (Own w0 (w5.setCell ⟨db, 1, none⟩ (.int .u64 V)) (Star (blkA db (.cells (dnC { d0F H with sets := true, v := V }) 74)) _)) := Lib.hid (K5.out.set SM.out 1 (.int .u64 V))
    clear s1 sf1 K5 K3 CR
    generalize World.setCell w5 _ _ = w6 at *
    have t2 := blk_cell K6.out.blk 2 (v := .int .u64 ({ d0F H with sets := true, v := V }).pc) rfl
    have tf2 := blk_frozen K6.out.blk 2
    have t3 := blk_cell K6.out.blk 3 (v := .int .i64 ({ d0F H with sets := true, v := V }).e.k) rfl
    have tf3 := blk_frozen K6.out.blk 3
    have t4 := blk_cell K6.out.blk 4 (v := .int .u64 ({ d0F H with sets := true, v := V }).e.ad) rfl
    have tf4 := blk_frozen K6.out.blk 4
    have t5 := blk_cell K6.out.blk 5 (v := .bool ({ d0F H with sets := true, v := V }).e.wr) rfl
    have tf5 := blk_frozen K6.out.blk 5
    have KD : RowKit.Hid (Own w0 ((((w6.setCell ⟨db, 3, none⟩ (.int .i64 4)).setCell ⟨db, 4, none⟩ (.int .u64 (w64 (H.pc + 4)))).setCell ⟨db, 5, none⟩ (.bool false)).setCell ⟨db, 2, none⟩ (.int .u64 (w64 (H.pc + 4)))) (Star (blkA db (.cells (dnC { { d0F H with sets := true, v := V } with e := ⟨4, w64 (H.pc + 4), false⟩, pc := w64 (H.pc + 4) }) 74)) _)) := Lib.hid ((((K6.out.set SM.out 3 (.int .i64 4)).set SM.out 4 (.int .u64 (w64 (H.pc + 4)))).set SM.out 5 (.bool false)).set SM.out 2 (.int .u64 (w64 (H.pc + 4))))
    go_upto_region 39 with fail
    clear t2 tf2 t3 tf3 t4 tf4 t5 tf5
    generalize World.setCell (World.setCell (World.setCell (World.setCell w6 _ _) _ _) _ _) _ _ = w19 at *
    have L6 := Lib.hid KD.out.blk
    have KZ := Lib.hid (KD.out.mono (fun F h => st5 h))
    have SZ := Lib.hid (stable_star (stable_blk db (.cells (dnC { { d0F H with sets := true, v := V } with e := ⟨4, w64 (H.pc + 4), false⟩, pc := w64 (H.pc + 4) }) 74)) (stable_star (stable_rm b fr s) (stable_star (stable_blk ib (.cells (insC ⟨22 + (k : Int), rd, ia, ib', im⟩) 61)) (stable_star (stable_blk hb (.cells (hC H) 27)) HR.out))))
    have KF := Lib.hid (KZ.out.setRow SZ.out (dnC { { d0F H with sets := true, v := V } with e := ⟨4, w64 (H.pc + 4), false⟩, pc := w64 (H.pc + 4) }))
    go_wp2_with (first
      | (refine wpList_load_row rfl 74 _ rfl _ rfl 74 _ (0, 0) _ L6.out Tryz.underlying74 rfl (dn_info _) ?_)
      | (refine wpList_store_row rfl 74 _ _ rfl _ _ rfl rfl 74 _ KZ.out.blk (dn_info _) rfl (dn_all1 _) ?_))
    refine bodyPost_ret (res_done rfl _ _ _ zb _ rfl (ldDn KF.out.blk)) rfl ?_
    refine ⟨rfl, KF.out.mono (fun F h => ?_)⟩
    exact star_drop2 (star_drop2 (star_drop2 (star_drop2 (st3 h))))
set_option maxHeartbeats 3200000 in
theorem o_does_11 {w0 w : World} {b fr : Nat} {s : List UInt8} {R : Asn} (h : Own w0 w (Star (rmA b fr s) R)) (hR : Stable R) (hf : fr ≤ 256) (r : Int) (hr : i64 r) (op : Int) (rd ia ib' : Nat) (im : Int) (hia : ia < 32) (hib : ib' < 32) (H : HS) (hH : H.ok) (hop : 11 ≤ op ∧ op ≤ 21) :
    Calls Tryz.prog 25 #[.pointer (some ⟨b, 0, none⟩), .int .i64 r, .agg (insC ⟨op, rd, ia, ib', im⟩), .agg (hC H)] w (MemP w0 b fr R (docF fr s r op (H.X ia) (H.X ib') (w64 im) H.pc (d0F H))) := by
  unfold docF
  rw [if_neg (by omega), if_neg (by omega), if_neg (by omega), if_neg (by omega), if_neg (by omega), if_pos hop.2]
  have n1 : (op == 1) = false := by simp; omega
  have n2 : (op == 2) = false := by simp; omega
  have n3 : (op == 3) = false := by simp; omega
  have n4 : (op == 4) = false := by simp; omega
  have l1 : ¬ op ≤ 10 := by omega
  have l2 : op ≤ 21 := hop.2
  have HOP := Lib.hid hop
  clear hop
  have hi := does_in h hR ⟨op, rd, ia, ib', im⟩ H
  clear h
  have HR := Lib.hid hR
  have HF := Lib.hid hf
  have HRI := Lib.hid hr
  have hxa := hH.1 ia hia
  have hxb := hH.1 ib' hib
  have hpc := hH.2.1
  have cxa := hC_x H ia hia
  have cxb := hC_x H ib' hib
  obtain ⟨xa, hxa'⟩ : ∃ q, H.X ia = q := ⟨_, rfl⟩
  obtain ⟨xb, hxb'⟩ : ∃ q, H.X ib' = q := ⟨_, rfl⟩
  rw [hxa'] at hxa cxa
  rw [hxb'] at hxb cxb
  try rw [hxa']
  try rw [hxb']
  have HXA := Lib.hid (word_of_u64 hxa)
  have HXB := Lib.hid (word_of_u64 hxb)
  have HXAU := Lib.hid hxa
  have i0 : (0 : Int) ≤ ia := by omega
  have i1 : (ia : Int) < 32 := by omega
  have j0 : (0 : Int) ≤ ib' := by omega
  have j1 : (ib' : Int) < 32 := by omega
  have m1 : IntKind.u64.wrap im = w64 im := w64_w im
  have m2 : IntKind.u64.wrap (H.pc + 4) = w64 (H.pc + 4) := w64_w _
  obtain ⟨M, hM⟩ : ∃ q, w64 im = q := ⟨_, rfl⟩
  have hMw : word M := by rw [← hM]; exact word_of_u64 (u64_w64 im)
  rw [hM] at m1
  try rw [hM]
  have HM := Lib.hid hMw
  have m3 : IntKind.u64.wrap (H.pc + M) = w64 (H.pc + M) := w64_w _
  have m4 : IntKind.u64.wrap (xa + M) = w64 (xa + M) := w64_w _
  clear hR hf hr hH hxa' hxb' hM hMw hxa hxb
  obtain ⟨D, hD⟩ : ∃ q, dMemF fr s r op (w64 (xa + M)) xb (d0F H) = q := ⟨_, rfl⟩
  rw [hD]
  have HD := Lib.hid hD
  unfold MemP
  clear hD
  go_enter Tryz.func25, Tryz.ntmps25
  go_upto_region 1 with fail
  generalize (World.alloc _ (.cells _ 74)) = w1 at *
  generalize w.heap.size + 1 + 1 = zb at *
  generalize w.heap.size + 1 = hb at *
  generalize w.heap.size = ib at *
  have S0 := Lib.hid (stable_star (stable_blk ib (.cells (insC ⟨op, rd, ia, ib', im⟩) 61)) (stable_star (stable_blk hb (.cells (hC H) 27)) (stable_star (stable_blk zb (.cells (dnC dZ) 74)) HR.out)))
  have HI := Lib.hid hi
  clear hi
  have c0 := blk_cell HI.out.right.blk 0 (v := .int .i64 op) rfl
  have c2 := blk_cell HI.out.right.blk 2 (v := .int .i64 (ia : Int)) rfl
  have c3 := blk_cell HI.out.right.blk 3 (v := .int .i64 (ib' : Int)) rfl
  have c4 := blk_cell HI.out.right.blk 4 (v := .int .i64 im) rfl
  have ca := blk_cell HI.out.right.right.blk ia cxa
  have cb := blk_cell HI.out.right.right.blk ib' cxb
  have c32 := blk_cell HI.out.right.right.blk 32 (v := .int .u64 H.pc) rfl
  have c33 := blk_cell HI.out.right.right.blk 33 (v := .bool H.hd) rfl
  have c34 := blk_cell HI.out.right.right.blk 34 (v := .int .u64 H.at_) rfl
  have SM := Lib.hid (stable_star (stable_rm b fr s) S0.out)
  go_upto_region 4 with fail
  clear c2 c3 c4 ca cb cxa cxb
  go_upto_region 5 with (first
    | (refine wpList_build3 rfl 74 2 4 5 _ _ _ rfl (.int .u64 (w64 (H.pc + 4))) (.bool H.hd) (.int .u64 H.at_) rfl rfl rfl (dnC (d0F H)) (built_done (w64 (H.pc + 4)) H.at_ H.hd) ?_)
    | (refine wpList_store_row rfl 74 _ _ rfl _ _ rfl rfl 74 _ (blk_new _ _) (dn_info _) rfl (dn_all1 _) ?_; generalize hW : (World.setRow _ _ _) = w2; have K2 := Lib.hid (own_h1 (c1 := dnC (d0F H)) hW HI.out SM.out); clear hW; generalize w1.heap.size = db at *))
  clear c0 c32 c33 c34 HI
  have c0 := blk_cell K2.out.right.right.blk 0 (v := .int .i64 op) rfl
  have c32 := blk_cell K2.out.right.right.right.blk 32 (v := .int .u64 H.pc) rfl
  have cd2 := blk_cell K2.out.blk 2 (v := .int .u64 (w64 (H.pc + 4))) rfl
  go_upto_region 7 with fail
  clear cd2
  have L1 := Lib.hid K2.out.right.right.blk
  have L2 := Lib.hid K2.out.blk
  have KR := Lib.hid (K2.out.mono (fun F h => star_swap2 h))
  have SR := Lib.hid (stable_star (stable_blk db (.cells (dnC (d0F H)) 74)) S0.out)
  have CC := o_mem KR.out SR.out HF.out r HRI.out ⟨op, rd, ia, ib', im⟩ HOP.out _ _ (u64_w64 (xa + M)) HXB.out (d0F H)
  simp only at CC
  rw [HD.out] at CC
  unfold MemP at CC
  have CD := Lib.hid CC
  have SD := Lib.hid (stable_star (stable_rm b fr D.s) SR.out)
  clear CC c32
  go_wp2_with (first
    | (refine wpList_load_g5 (by first | rfl | fail) 61 _ rfl ib rfl 61 _ (0, 0) _ L1.out Tryz.underlying61 rfl (ins_info _) ?_)
    | (refine wpList_load_g5 (by first | rfl | fail) 74 _ rfl db rfl 74 _ (0, 0) _ L2.out Tryz.underlying74 rfl (dn_info _) ?_)
    | (go_at_call 52; refine CD.out.mono ?_; rintro e w5 ⟨rfl, h5⟩; have K5 := Lib.hid h5; have KZ := Lib.hid (h5.mono (fun F h => st5 h)); clear h5)
    | (refine wpList_store_row rfl 74 _ _ rfl _ _ rfl rfl 74 _ KZ.out.blk (dn_info _) rfl (dn_all1 _) ?_))
  have SZ := Lib.hid (stable_star (stable_rm b fr D.s) (stable_star (stable_blk db (.cells (dnC (d0F H)) 74)) (stable_star (stable_blk ib (.cells (insC ⟨op, rd, ia, ib', im⟩) 61)) (stable_star (stable_blk hb (.cells (hC H) 27)) HR.out))))
  have KF := Lib.hid (KZ.out.setRow SZ.out (dnC D.d))
  refine bodyPost_ret (res_done rfl _ _ _ zb _ rfl (ldDn KF.out.blk)) rfl ⟨rfl, KF.out.mono (fun F h => ?_)⟩
  exact star_drop2 (star_drop2 (star_drop2 (star_drop2 (star_swap2 h))))
set_option maxHeartbeats 3200000 in
theorem o_does_66 {w0 w : World} {b fr : Nat} {s : List UInt8} {R : Asn} (h : Own w0 w (Star (rmA b fr s) R)) (hR : Stable R) (hf : fr ≤ 256) (r : Int) (hr : i64 r) (op : Int) (rd ia ib' : Nat) (im : Int) (hia : ia < 32) (hib : ib' < 32) (H : HS) (hH : H.ok) (hop : 66 ≤ op ∧ op ≤ 87) :
    Calls Tryz.prog 25 #[.pointer (some ⟨b, 0, none⟩), .int .i64 r, .agg (insC ⟨op, rd, ia, ib', im⟩), .agg (hC H)] w (MemP w0 b fr R (docF fr s r op (H.X ia) (H.X ib') (w64 im) H.pc (d0F H))) := by
  unfold docF
  rw [if_neg (by omega), if_neg (by omega), if_neg (by omega), if_neg (by omega), if_neg (by omega), if_neg (by omega), if_neg (by omega), if_neg (by omega), if_neg (by omega)]
  have n1 : (op == 1) = false := by simp; omega
  have n2 : (op == 2) = false := by simp; omega
  have n3 : (op == 3) = false := by simp; omega
  have n4 : (op == 4) = false := by simp; omega
  have l1 : ¬ op ≤ 10 := by omega
  have l2 : ¬ op ≤ 21 := by omega
  have l3 : ¬ op ≤ 34 := by omega
  have l4 : ¬ op ≤ 62 := by omega
  have l5 : 66 ≤ op := hop.1
  have HOP := Lib.hid hop
  clear hop
  have hi := does_in h hR ⟨op, rd, ia, ib', im⟩ H
  clear h
  have HR := Lib.hid hR
  have HF := Lib.hid hf
  have HRI := Lib.hid hr
  have hxa := hH.1 ia hia
  have hxb := hH.1 ib' hib
  have hpc := hH.2.1
  have cxa := hC_x H ia hia
  have cxb := hC_x H ib' hib
  obtain ⟨xa, hxa'⟩ : ∃ q, H.X ia = q := ⟨_, rfl⟩
  obtain ⟨xb, hxb'⟩ : ∃ q, H.X ib' = q := ⟨_, rfl⟩
  rw [hxa'] at hxa cxa
  rw [hxb'] at hxb cxb
  try rw [hxa']
  try rw [hxb']
  have HXA := Lib.hid (word_of_u64 hxa)
  have HXB := Lib.hid (word_of_u64 hxb)
  have HXAU := Lib.hid hxa
  have i0 : (0 : Int) ≤ ia := by omega
  have i1 : (ia : Int) < 32 := by omega
  have j0 : (0 : Int) ≤ ib' := by omega
  have j1 : (ib' : Int) < 32 := by omega
  have m1 : IntKind.u64.wrap im = w64 im := w64_w im
  have m2 : IntKind.u64.wrap (H.pc + 4) = w64 (H.pc + 4) := w64_w _
  obtain ⟨M, hM⟩ : ∃ q, w64 im = q := ⟨_, rfl⟩
  have hMw : word M := by rw [← hM]; exact word_of_u64 (u64_w64 im)
  rw [hM] at m1
  try rw [hM]
  have HM := Lib.hid hMw
  have m3 : IntKind.u64.wrap (H.pc + M) = w64 (H.pc + M) := w64_w _
  have m4 : IntKind.u64.wrap (xa + M) = w64 (xa + M) := w64_w _
  clear hR hf hr hH hxa' hxb' hM hMw hxa hxb
  obtain ⟨D, hD⟩ : ∃ q, dAtF fr s r op xa xb (d0F H) = q := ⟨_, rfl⟩
  rw [hD]
  have HD := Lib.hid hD
  unfold MemP
  clear hD
  go_enter Tryz.func25, Tryz.ntmps25
  go_upto_region 1 with fail
  generalize (World.alloc _ (.cells _ 74)) = w1 at *
  generalize w.heap.size + 1 + 1 = zb at *
  generalize w.heap.size + 1 = hb at *
  generalize w.heap.size = ib at *
  have S0 := Lib.hid (stable_star (stable_blk ib (.cells (insC ⟨op, rd, ia, ib', im⟩) 61)) (stable_star (stable_blk hb (.cells (hC H) 27)) (stable_star (stable_blk zb (.cells (dnC dZ) 74)) HR.out)))
  have HI := Lib.hid hi
  clear hi
  have c0 := blk_cell HI.out.right.blk 0 (v := .int .i64 op) rfl
  have c2 := blk_cell HI.out.right.blk 2 (v := .int .i64 (ia : Int)) rfl
  have c3 := blk_cell HI.out.right.blk 3 (v := .int .i64 (ib' : Int)) rfl
  have c4 := blk_cell HI.out.right.blk 4 (v := .int .i64 im) rfl
  have ca := blk_cell HI.out.right.right.blk ia cxa
  have cb := blk_cell HI.out.right.right.blk ib' cxb
  have c32 := blk_cell HI.out.right.right.blk 32 (v := .int .u64 H.pc) rfl
  have c33 := blk_cell HI.out.right.right.blk 33 (v := .bool H.hd) rfl
  have c34 := blk_cell HI.out.right.right.blk 34 (v := .int .u64 H.at_) rfl
  have SM := Lib.hid (stable_star (stable_rm b fr s) S0.out)
  go_upto_region 4 with fail
  clear c2 c3 c4 ca cb cxa cxb
  go_upto_region 5 with (first
    | (refine wpList_build3 rfl 74 2 4 5 _ _ _ rfl (.int .u64 (w64 (H.pc + 4))) (.bool H.hd) (.int .u64 H.at_) rfl rfl rfl (dnC (d0F H)) (built_done (w64 (H.pc + 4)) H.at_ H.hd) ?_)
    | (refine wpList_store_row rfl 74 _ _ rfl _ _ rfl rfl 74 _ (blk_new _ _) (dn_info _) rfl (dn_all1 _) ?_; generalize hW : (World.setRow _ _ _) = w2; have K2 := Lib.hid (own_h1 (c1 := dnC (d0F H)) hW HI.out SM.out); clear hW; generalize w1.heap.size = db at *))
  clear c0 c32 c33 c34 HI
  have c0 := blk_cell K2.out.right.right.blk 0 (v := .int .i64 op) rfl
  have c32 := blk_cell K2.out.right.right.right.blk 32 (v := .int .u64 H.pc) rfl
  have cd2 := blk_cell K2.out.blk 2 (v := .int .u64 (w64 (H.pc + 4))) rfl
  go_upto_region 7 with fail
  clear cd2
  have L1 := Lib.hid K2.out.right.right.blk
  have L2 := Lib.hid K2.out.blk
  have KR := Lib.hid (K2.out.mono (fun F h => star_swap2 h))
  have SR := Lib.hid (stable_star (stable_blk db (.cells (dnC (d0F H)) 74)) S0.out)
  have CC := o_atm KR.out SR.out HF.out r HRI.out ⟨op, rd, ia, ib', im⟩ HOP.out _ _ HXAU.out HXB.out (d0F H)
  simp only at CC
  rw [HD.out] at CC
  unfold MemP at CC
  have CD := Lib.hid CC
  have SD := Lib.hid (stable_star (stable_rm b fr D.s) SR.out)
  clear CC c32
  go_wp2_with (first
    | (refine wpList_load_g5 (by first | rfl | fail) 61 _ rfl ib rfl 61 _ (0, 0) _ L1.out Tryz.underlying61 rfl (ins_info _) ?_)
    | (refine wpList_load_g5 (by first | rfl | fail) 74 _ rfl db rfl 74 _ (0, 0) _ L2.out Tryz.underlying74 rfl (dn_info _) ?_)
    | (go_at_call 54; refine CD.out.mono ?_; rintro e w5 ⟨rfl, h5⟩; have K5 := Lib.hid h5; have KZ := Lib.hid (h5.mono (fun F h => st5 h)); clear h5)
    | (refine wpList_store_row rfl 74 _ _ rfl _ _ rfl rfl 74 _ KZ.out.blk (dn_info _) rfl (dn_all1 _) ?_))
  have SZ := Lib.hid (stable_star (stable_rm b fr D.s) (stable_star (stable_blk db (.cells (dnC (d0F H)) 74)) (stable_star (stable_blk ib (.cells (insC ⟨op, rd, ia, ib', im⟩) 61)) (stable_star (stable_blk hb (.cells (hC H) 27)) HR.out))))
  have KF := Lib.hid (KZ.out.setRow SZ.out (dnC D.d))
  refine bodyPost_ret (res_done rfl _ _ _ zb _ rfl (ldDn KF.out.blk)) rfl ⟨rfl, KF.out.mono (fun F h => ?_)⟩
  exact star_drop2 (star_drop2 (star_drop2 (star_drop2 (star_swap2 h))))
end Go.Proofs.YtngeabphjdfdgaaGreatDoor.P
