/- Stage 5: what the document says that an instruction does: branches, reckoning. No condition. -/
import Derived.Test.YtngeabphjdfdgaaGreatDoorVK
set_option linter.unusedVariables false
set_option linter.unusedSimpArgs false
set_option maxRecDepth 100000
namespace Go.Proofs.YtngeabphjdfdgaaGreatDoor.P
open Go.RowKit Go.MuLone Go.Proofs.YtngeabphjdfdgaaGreatDoor.W
set_option maxHeartbeats 3200000 in
theorem o_does_5t {w0 w : World} {b fr : Nat} {s : List UInt8} {R : Asn} (h : Own w0 w (Star (rmA b fr s) R)) (hR : Stable R) (hf : fr ≤ 256) (r : Int) (hr : i64 r) (op : Int) (rd ia ib' : Nat) (im : Int) (hia : ia < 32) (hib : ib' < 32) (H : HS) (hH : H.ok) (hop : (5 ≤ op ∧ op ≤ 10) ∧ holdF op (H.X ia) (H.X ib') = true) :
    Calls Tryz.prog 25 #[.pointer (some ⟨b, 0, none⟩), .int .i64 r, .agg (insC ⟨op, rd, ia, ib', im⟩), .agg (hC H)] w (MemP w0 b fr R (docF fr s r op (H.X ia) (H.X ib') (w64 im) H.pc (d0F H))) := by
  unfold MemP
  obtain ⟨hop, hh⟩ := hop
  unfold docF
  rw [if_neg (by omega), if_neg (by omega), if_neg (by omega), if_neg (by omega), if_pos hop.2, if_pos hh]
  have n1 : (op == 1) = false := by simp; omega
  have n2 : (op == 2) = false := by simp; omega
  have n3 : (op == 3) = false := by simp; omega
  have n4 : (op == 4) = false := by simp; omega
  have l10 : op ≤ 10 := hop.2
  have HOP := Lib.hid hop
  have HH := Lib.hid hh
  clear hop hh
  have hi := does_in h hR ⟨op, rd, ia, ib', im⟩ H
  clear h
  have HR := Lib.hid hR
  have HF := Lib.hid hf
  have HRI := Lib.hid hr
  have hxa := hH.1 ia hia
  have hxb := hH.1 ib' hib
  have hpc := hH.2.1
  have cxa := hC_x H ia hia
  have cxb := hC_x H ib' hib
  obtain ⟨xa, hxa'⟩ : ∃ q, H.X ia = q := ⟨_, rfl⟩
  obtain ⟨xb, hxb'⟩ : ∃ q, H.X ib' = q := ⟨_, rfl⟩
  rw [hxa'] at hxa cxa
  rw [hxb'] at hxb cxb
  try rw [hxa']
  try rw [hxb']
  have HXA := Lib.hid (word_of_u64 hxa)
  have HXB := Lib.hid (word_of_u64 hxb)
  have HXAU := Lib.hid hxa
  have i0 : (0 : Int) ≤ ia := by omega
  have i1 : (ia : Int) < 32 := by omega
  have j0 : (0 : Int) ≤ ib' := by omega
  have j1 : (ib' : Int) < 32 := by omega
  have m1 : IntKind.u64.wrap im = w64 im := w64_w im
  have m2 : IntKind.u64.wrap (H.pc + 4) = w64 (H.pc + 4) := w64_w _
  obtain ⟨M, hM⟩ : ∃ q, w64 im = q := ⟨_, rfl⟩
  have hMw : word M := by rw [← hM]; exact word_of_u64 (u64_w64 im)
  rw [hM] at m1
  try rw [hM]
  have HM := Lib.hid hMw
  have m3 : IntKind.u64.wrap (H.pc + M) = w64 (H.pc + M) := w64_w _
  have m4 : IntKind.u64.wrap (xa + M) = w64 (xa + M) := w64_w _
  have hxa'' := hxa'
  have hxb'' := hxb'
  clear hR hf hr hH hM hMw hxa hxb
  have CT := Lib.hid (fun w => r_taken op xa xb HXA.out HXB.out HOP.out w)
  have hq : holdF op xa xb = true := by have := HH.out; rw [hxa'', hxb''] at this; exact this
  rw [hq] at CT
  clear hq hxa' hxb' hxa'' hxb''
  have hto : (w64 (H.pc + M)) % 4 = 0 ∨ ¬ (w64 (H.pc + M)) % 4 = 0 := by omega
  rcases hto with ht | ht
  · rw [fin_al ht]
    have ht2 : (w64 (H.pc + M) % 4 == 0) = true := by simpa using ht
    have ht3 : (w64 (H.pc + M) % 4 != 0) = false := by simpa using ht
    have hn0 : 0 ≤ w64 (H.pc + M) := by first | exact (u64_w64 _).1 | omega
    have ht4 : ((w64 (H.pc + M)).tmod 4 != 0) = false := by rw [Int.tmod_eq_emod_of_nonneg hn0]; exact ht3
    clear ht
    go_enter Tryz.func25, Tryz.ntmps25
    go_upto_region 1 with fail
    generalize (World.alloc _ (.cells _ 74)) = w1 at *
    generalize w.heap.size + 1 + 1 = zb at *
    generalize w.heap.size + 1 = hb at *
    generalize w.heap.size = ib at *
    have S0 := Lib.hid (stable_star (stable_blk ib (.cells (insC ⟨op, rd, ia, ib', im⟩) 61)) (stable_star (stable_blk hb (.cells (hC H) 27)) (stable_star (stable_blk zb (.cells (dnC dZ) 74)) HR.out)))
    have HI := Lib.hid hi
    clear hi
    have c0 := blk_cell HI.out.right.blk 0 (v := .int .i64 op) rfl
    have c2 := blk_cell HI.out.right.blk 2 (v := .int .i64 (ia : Int)) rfl
    have c3 := blk_cell HI.out.right.blk 3 (v := .int .i64 (ib' : Int)) rfl
    have c4 := blk_cell HI.out.right.blk 4 (v := .int .i64 im) rfl
    have ca := blk_cell HI.out.right.right.blk ia cxa
    have cb := blk_cell HI.out.right.right.blk ib' cxb
    have c32 := blk_cell HI.out.right.right.blk 32 (v := .int .u64 H.pc) rfl
    have c33 := blk_cell HI.out.right.right.blk 33 (v := .bool H.hd) rfl
    have c34 := blk_cell HI.out.right.right.blk 34 (v := .int .u64 H.at_) rfl
    have SM := Lib.hid (stable_star (stable_rm b fr s) S0.out)
    go_upto_region 4 with fail
    clear c2 c3 c4 ca cb cxa cxb
    go_upto_region 5 with (first
      | (refine wpList_build3 rfl 74 2 4 5 _ _ _ rfl (.int .u64 (w64 (H.pc + 4))) (.bool H.hd) (.int .u64 H.at_) rfl rfl rfl (dnC (d0F H)) (built_done (w64 (H.pc + 4)) H.at_ H.hd) ?_)
      | (refine wpList_store_row rfl 74 _ _ rfl _ _ rfl rfl 74 _ (blk_new _ _) (dn_info _) rfl (dn_all1 _) ?_; generalize hW : (World.setRow _ _ _) = w2; have K2 := Lib.hid (own_h1 (c1 := dnC (d0F H)) hW HI.out SM.out); clear hW; generalize w1.heap.size = db at *))
    clear c0 c32 c33 c34 HI
    have c0 := blk_cell K2.out.right.right.blk 0 (v := .int .i64 op) rfl
    have c32 := blk_cell K2.out.right.right.right.blk 32 (v := .int .u64 H.pc) rfl
    have cd2 := blk_cell K2.out.blk 2 (v := .int .u64 (w64 (H.pc + 4))) rfl
    go_upto_region 7 with fail
    clear cd2
    go_upto_region 36 with (go_at_call 51; refine (CT.out _).mono ?_; rintro e w3 ⟨rfl, rfl⟩)
    have t2 := blk_cell K2.out.blk 2 (v := .int .u64 (d0F H).pc) rfl
    have tf2 := blk_frozen K2.out.blk 2
    have KD : RowKit.Hid (Own w0 (w3.setCell ⟨db, 2, none⟩ (.int .u64 (w64 (H.pc + M)))) (Star (blkA db (.cells (dnC { d0F H with pc := w64 (H.pc + M) }) 74)) _)) := Lib.hid (K2.out.set SM.out 2 (.int .u64 (w64 (H.pc + M))))
    go_upto_region 39 with fail
    clear t2 tf2
    generalize World.setCell w3 _ _ = w19 at *
    have L6 := Lib.hid KD.out.blk
    have KZ := Lib.hid (KD.out.mono (fun F h => st5 h))
    have SZ := Lib.hid (stable_star (stable_blk db (.cells (dnC { d0F H with pc := w64 (H.pc + M) }) 74)) (stable_star (stable_rm b fr s) (stable_star (stable_blk ib (.cells (insC ⟨op, rd, ia, ib', im⟩) 61)) (stable_star (stable_blk hb (.cells (hC H) 27)) HR.out))))
    have KF := Lib.hid (KZ.out.setRow SZ.out (dnC { d0F H with pc := w64 (H.pc + M) }))
    go_wp2_with (first
      | (refine wpList_load_row rfl 74 _ rfl _ rfl 74 _ (0, 0) _ L6.out Tryz.underlying74 rfl (dn_info _) ?_)
      | (refine wpList_store_row rfl 74 _ _ rfl _ _ rfl rfl 74 _ KZ.out.blk (dn_info _) rfl (dn_all1 _) ?_))
    refine bodyPost_ret (res_done rfl _ _ _ zb _ rfl (ldDn KF.out.blk)) rfl ?_
    refine ⟨rfl, KF.out.mono (fun F h => ?_)⟩
    exact star_drop2 (star_drop2 (star_drop2 (star_drop2 (st3 h))))
  · rw [fin_no ht]
    have ht2 : (w64 (H.pc + M) % 4 == 0) = false := by simpa using ht
    have ht3 : (w64 (H.pc + M) % 4 != 0) = true := by simpa using ht
    have hn0 : 0 ≤ w64 (H.pc + M) := by first | exact (u64_w64 _).1 | omega
    have ht4 : ((w64 (H.pc + M)).tmod 4 != 0) = true := by rw [Int.tmod_eq_emod_of_nonneg hn0]; exact ht3
    clear ht
    go_enter Tryz.func25, Tryz.ntmps25
    go_upto_region 1 with fail
    generalize (World.alloc _ (.cells _ 74)) = w1 at *
    generalize w.heap.size + 1 + 1 = zb at *
    generalize w.heap.size + 1 = hb at *
    generalize w.heap.size = ib at *
    have S0 := Lib.hid (stable_star (stable_blk ib (.cells (insC ⟨op, rd, ia, ib', im⟩) 61)) (stable_star (stable_blk hb (.cells (hC H) 27)) (stable_star (stable_blk zb (.cells (dnC dZ) 74)) HR.out)))
    have HI := Lib.hid hi
    clear hi
    have c0 := blk_cell HI.out.right.blk 0 (v := .int .i64 op) rfl
    have c2 := blk_cell HI.out.right.blk 2 (v := .int .i64 (ia : Int)) rfl
    have c3 := blk_cell HI.out.right.blk 3 (v := .int .i64 (ib' : Int)) rfl
    have c4 := blk_cell HI.out.right.blk 4 (v := .int .i64 im) rfl
    have ca := blk_cell HI.out.right.right.blk ia cxa
    have cb := blk_cell HI.out.right.right.blk ib' cxb
    have c32 := blk_cell HI.out.right.right.blk 32 (v := .int .u64 H.pc) rfl
    have c33 := blk_cell HI.out.right.right.blk 33 (v := .bool H.hd) rfl
    have c34 := blk_cell HI.out.right.right.blk 34 (v := .int .u64 H.at_) rfl
    have SM := Lib.hid (stable_star (stable_rm b fr s) S0.out)
    go_upto_region 4 with fail
    clear c2 c3 c4 ca cb cxa cxb
    go_upto_region 5 with (first
      | (refine wpList_build3 rfl 74 2 4 5 _ _ _ rfl (.int .u64 (w64 (H.pc + 4))) (.bool H.hd) (.int .u64 H.at_) rfl rfl rfl (dnC (d0F H)) (built_done (w64 (H.pc + 4)) H.at_ H.hd) ?_)
      | (refine wpList_store_row rfl 74 _ _ rfl _ _ rfl rfl 74 _ (blk_new _ _) (dn_info _) rfl (dn_all1 _) ?_; generalize hW : (World.setRow _ _ _) = w2; have K2 := Lib.hid (own_h1 (c1 := dnC (d0F H)) hW HI.out SM.out); clear hW; generalize w1.heap.size = db at *))
    clear c0 c32 c33 c34 HI
    have c0 := blk_cell K2.out.right.right.blk 0 (v := .int .i64 op) rfl
    have c32 := blk_cell K2.out.right.right.right.blk 32 (v := .int .u64 H.pc) rfl
    have cd2 := blk_cell K2.out.blk 2 (v := .int .u64 (w64 (H.pc + 4))) rfl
    go_upto_region 7 with fail
    clear cd2
    go_upto_region 36 with (go_at_call 51; refine (CT.out _).mono ?_; rintro e w3 ⟨rfl, rfl⟩)
    have t2 := blk_cell K2.out.blk 2 (v := .int .u64 (d0F H).pc) rfl
    have tf2 := blk_frozen K2.out.blk 2
    have t3 := blk_cell K2.out.blk 3 (v := .int .i64 (d0F H).e.k) rfl
    have tf3 := blk_frozen K2.out.blk 3
    have t4 := blk_cell K2.out.blk 4 (v := .int .u64 (d0F H).e.ad) rfl
    have tf4 := blk_frozen K2.out.blk 4
    have t5 := blk_cell K2.out.blk 5 (v := .bool (d0F H).e.wr) rfl
    have tf5 := blk_frozen K2.out.blk 5
    have KD : RowKit.Hid (Own w0 ((((w3.setCell ⟨db, 3, none⟩ (.int .i64 4)).setCell ⟨db, 4, none⟩ (.int .u64 (w64 (H.pc + M)))).setCell ⟨db, 5, none⟩ (.bool false)).setCell ⟨db, 2, none⟩ (.int .u64 (w64 (H.pc + M)))) (Star (blkA db (.cells (dnC { d0F H with e := ⟨4, w64 (H.pc + M), false⟩, pc := w64 (H.pc + M) }) 74)) _)) := Lib.hid ((((K2.out.set SM.out 3 (.int .i64 4)).set SM.out 4 (.int .u64 (w64 (H.pc + M)))).set SM.out 5 (.bool false)).set SM.out 2 (.int .u64 (w64 (H.pc + M))))
    go_upto_region 39 with fail
    clear t2 tf2 t3 tf3 t4 tf4 t5 tf5
    generalize World.setCell (World.setCell (World.setCell (World.setCell w3 _ _) _ _) _ _) _ _ = w19 at *
    have L6 := Lib.hid KD.out.blk
    have KZ := Lib.hid (KD.out.mono (fun F h => st5 h))
    have SZ := Lib.hid (stable_star (stable_blk db (.cells (dnC { d0F H with e := ⟨4, w64 (H.pc + M), false⟩, pc := w64 (H.pc + M) }) 74)) (stable_star (stable_rm b fr s) (stable_star (stable_blk ib (.cells (insC ⟨op, rd, ia, ib', im⟩) 61)) (stable_star (stable_blk hb (.cells (hC H) 27)) HR.out))))
    have KF := Lib.hid (KZ.out.setRow SZ.out (dnC { d0F H with e := ⟨4, w64 (H.pc + M), false⟩, pc := w64 (H.pc + M) }))
    go_wp2_with (first
      | (refine wpList_load_row rfl 74 _ rfl _ rfl 74 _ (0, 0) _ L6.out Tryz.underlying74 rfl (dn_info _) ?_)
      | (refine wpList_store_row rfl 74 _ _ rfl _ _ rfl rfl 74 _ KZ.out.blk (dn_info _) rfl (dn_all1 _) ?_))
    refine bodyPost_ret (res_done rfl _ _ _ zb _ rfl (ldDn KF.out.blk)) rfl ?_
    refine ⟨rfl, KF.out.mono (fun F h => ?_)⟩
    exact star_drop2 (star_drop2 (star_drop2 (star_drop2 (st3 h))))
set_option maxHeartbeats 3200000 in
theorem o_does_5n {w0 w : World} {b fr : Nat} {s : List UInt8} {R : Asn} (h : Own w0 w (Star (rmA b fr s) R)) (hR : Stable R) (hf : fr ≤ 256) (r : Int) (hr : i64 r) (op : Int) (rd ia ib' : Nat) (im : Int) (hia : ia < 32) (hib : ib' < 32) (H : HS) (hH : H.ok) (hop : (5 ≤ op ∧ op ≤ 10) ∧ holdF op (H.X ia) (H.X ib') = false) :
    Calls Tryz.prog 25 #[.pointer (some ⟨b, 0, none⟩), .int .i64 r, .agg (insC ⟨op, rd, ia, ib', im⟩), .agg (hC H)] w (MemP w0 b fr R (docF fr s r op (H.X ia) (H.X ib') (w64 im) H.pc (d0F H))) := by
  unfold MemP
  obtain ⟨hop, hh⟩ := hop
  unfold docF
  rw [if_neg (by omega), if_neg (by omega), if_neg (by omega), if_neg (by omega), if_pos hop.2, if_neg (by rw [hh]; decide)]
  have n1 : (op == 1) = false := by simp; omega
  have n2 : (op == 2) = false := by simp; omega
  have n3 : (op == 3) = false := by simp; omega
  have n4 : (op == 4) = false := by simp; omega
  have l10 : op ≤ 10 := hop.2
  have HOP := Lib.hid hop
  have HH := Lib.hid hh
  clear hop hh
  have hi := does_in h hR ⟨op, rd, ia, ib', im⟩ H
  clear h
  have HR := Lib.hid hR
  have HF := Lib.hid hf
  have HRI := Lib.hid hr
  have hxa := hH.1 ia hia
  have hxb := hH.1 ib' hib
  have hpc := hH.2.1
  have cxa := hC_x H ia hia
  have cxb := hC_x H ib' hib
  obtain ⟨xa, hxa'⟩ : ∃ q, H.X ia = q := ⟨_, rfl⟩
  obtain ⟨xb, hxb'⟩ : ∃ q, H.X ib' = q := ⟨_, rfl⟩
  rw [hxa'] at hxa cxa
  rw [hxb'] at hxb cxb
  try rw [hxa']
  try rw [hxb']
  have HXA := Lib.hid (word_of_u64 hxa)
  have HXB := Lib.hid (word_of_u64 hxb)
  have HXAU := Lib.hid hxa
  have i0 : (0 : Int) ≤ ia := by omega
  have i1 : (ia : Int) < 32 := by omega
  have j0 : (0 : Int) ≤ ib' := by omega
  have j1 : (ib' : Int) < 32 := by omega
  have m1 : IntKind.u64.wrap im = w64 im := w64_w im
  have m2 : IntKind.u64.wrap (H.pc + 4) = w64 (H.pc + 4) := w64_w _
  obtain ⟨M, hM⟩ : ∃ q, w64 im = q := ⟨_, rfl⟩
  have hMw : word M := by rw [← hM]; exact word_of_u64 (u64_w64 im)
  rw [hM] at m1
  try rw [hM]
  have HM := Lib.hid hMw
  have m3 : IntKind.u64.wrap (H.pc + M) = w64 (H.pc + M) := w64_w _
  have m4 : IntKind.u64.wrap (xa + M) = w64 (xa + M) := w64_w _
  have hxa'' := hxa'
  have hxb'' := hxb'
  clear hR hf hr hH hM hMw hxa hxb
  have CT := Lib.hid (fun w => r_taken op xa xb HXA.out HXB.out HOP.out w)
  have hq : holdF op xa xb = false := by have := HH.out; rw [hxa'', hxb''] at this; exact this
  rw [hq] at CT
  clear hq hxa' hxb' hxa'' hxb''
  have hto : (w64 (H.pc + 4)) % 4 = 0 ∨ ¬ (w64 (H.pc + 4)) % 4 = 0 := by omega
  rcases hto with ht | ht
  · rw [fin_al ht]
    have ht2 : (w64 (H.pc + 4) % 4 == 0) = true := by simpa using ht
    have ht3 : (w64 (H.pc + 4) % 4 != 0) = false := by simpa using ht
    have hn0 : 0 ≤ w64 (H.pc + 4) := by first | exact (u64_w64 _).1 | omega
    have ht4 : ((w64 (H.pc + 4)).tmod 4 != 0) = false := by rw [Int.tmod_eq_emod_of_nonneg hn0]; exact ht3
    clear ht
    go_enter Tryz.func25, Tryz.ntmps25
    go_upto_region 1 with fail
    generalize (World.alloc _ (.cells _ 74)) = w1 at *
    generalize w.heap.size + 1 + 1 = zb at *
    generalize w.heap.size + 1 = hb at *
    generalize w.heap.size = ib at *
    have S0 := Lib.hid (stable_star (stable_blk ib (.cells (insC ⟨op, rd, ia, ib', im⟩) 61)) (stable_star (stable_blk hb (.cells (hC H) 27)) (stable_star (stable_blk zb (.cells (dnC dZ) 74)) HR.out)))
    have HI := Lib.hid hi
    clear hi
    have c0 := blk_cell HI.out.right.blk 0 (v := .int .i64 op) rfl
    have c2 := blk_cell HI.out.right.blk 2 (v := .int .i64 (ia : Int)) rfl
    have c3 := blk_cell HI.out.right.blk 3 (v := .int .i64 (ib' : Int)) rfl
    have c4 := blk_cell HI.out.right.blk 4 (v := .int .i64 im) rfl
    have ca := blk_cell HI.out.right.right.blk ia cxa
    have cb := blk_cell HI.out.right.right.blk ib' cxb
    have c32 := blk_cell HI.out.right.right.blk 32 (v := .int .u64 H.pc) rfl
    have c33 := blk_cell HI.out.right.right.blk 33 (v := .bool H.hd) rfl
    have c34 := blk_cell HI.out.right.right.blk 34 (v := .int .u64 H.at_) rfl
    have SM := Lib.hid (stable_star (stable_rm b fr s) S0.out)
    go_upto_region 4 with fail
    clear c2 c3 c4 ca cb cxa cxb
    go_upto_region 5 with (first
      | (refine wpList_build3 rfl 74 2 4 5 _ _ _ rfl (.int .u64 (w64 (H.pc + 4))) (.bool H.hd) (.int .u64 H.at_) rfl rfl rfl (dnC (d0F H)) (built_done (w64 (H.pc + 4)) H.at_ H.hd) ?_)
      | (refine wpList_store_row rfl 74 _ _ rfl _ _ rfl rfl 74 _ (blk_new _ _) (dn_info _) rfl (dn_all1 _) ?_; generalize hW : (World.setRow _ _ _) = w2; have K2 := Lib.hid (own_h1 (c1 := dnC (d0F H)) hW HI.out SM.out); clear hW; generalize w1.heap.size = db at *))
    clear c0 c32 c33 c34 HI
    have c0 := blk_cell K2.out.right.right.blk 0 (v := .int .i64 op) rfl
    have c32 := blk_cell K2.out.right.right.right.blk 32 (v := .int .u64 H.pc) rfl
    have cd2 := blk_cell K2.out.blk 2 (v := .int .u64 (w64 (H.pc + 4))) rfl
    go_upto_region 7 with fail
    clear cd2
    go_upto_region 36 with (go_at_call 51; refine (CT.out _).mono ?_; rintro e w3 ⟨rfl, rfl⟩)
    have t2 := blk_cell K2.out.blk 2 (v := .int .u64 (d0F H).pc) rfl
    have tf2 := blk_frozen K2.out.blk 2
    have KD : RowKit.Hid (Own w0 (w3.setCell ⟨db, 2, none⟩ (.int .u64 (w64 (H.pc + 4)))) (Star (blkA db (.cells (dnC { d0F H with pc := w64 (H.pc + 4) }) 74)) _)) := Lib.hid (K2.out.set SM.out 2 (.int .u64 (w64 (H.pc + 4))))
    go_upto_region 39 with fail
    clear t2 tf2
    generalize World.setCell w3 _ _ = w19 at *
    have L6 := Lib.hid KD.out.blk
    have KZ := Lib.hid (KD.out.mono (fun F h => st5 h))
    have SZ := Lib.hid (stable_star (stable_blk db (.cells (dnC { d0F H with pc := w64 (H.pc + 4) }) 74)) (stable_star (stable_rm b fr s) (stable_star (stable_blk ib (.cells (insC ⟨op, rd, ia, ib', im⟩) 61)) (stable_star (stable_blk hb (.cells (hC H) 27)) HR.out))))
    have KF := Lib.hid (KZ.out.setRow SZ.out (dnC { d0F H with pc := w64 (H.pc + 4) }))
    go_wp2_with (first
      | (refine wpList_load_row rfl 74 _ rfl _ rfl 74 _ (0, 0) _ L6.out Tryz.underlying74 rfl (dn_info _) ?_)
      | (refine wpList_store_row rfl 74 _ _ rfl _ _ rfl rfl 74 _ KZ.out.blk (dn_info _) rfl (dn_all1 _) ?_))
    refine bodyPost_ret (res_done rfl _ _ _ zb _ rfl (ldDn KF.out.blk)) rfl ?_
    refine ⟨rfl, KF.out.mono (fun F h => ?_)⟩
    exact star_drop2 (star_drop2 (star_drop2 (star_drop2 (st3 h))))
  · rw [fin_no ht]
    have ht2 : (w64 (H.pc + 4) % 4 == 0) = false := by simpa using ht
    have ht3 : (w64 (H.pc + 4) % 4 != 0) = true := by simpa using ht
    have hn0 : 0 ≤ w64 (H.pc + 4) := by first | exact (u64_w64 _).1 | omega
    have ht4 : ((w64 (H.pc + 4)).tmod 4 != 0) = true := by rw [Int.tmod_eq_emod_of_nonneg hn0]; exact ht3
    clear ht
    go_enter Tryz.func25, Tryz.ntmps25
    go_upto_region 1 with fail
    generalize (World.alloc _ (.cells _ 74)) = w1 at *
    generalize w.heap.size + 1 + 1 = zb at *
    generalize w.heap.size + 1 = hb at *
    generalize w.heap.size = ib at *
    have S0 := Lib.hid (stable_star (stable_blk ib (.cells (insC ⟨op, rd, ia, ib', im⟩) 61)) (stable_star (stable_blk hb (.cells (hC H) 27)) (stable_star (stable_blk zb (.cells (dnC dZ) 74)) HR.out)))
    have HI := Lib.hid hi
    clear hi
    have c0 := blk_cell HI.out.right.blk 0 (v := .int .i64 op) rfl
    have c2 := blk_cell HI.out.right.blk 2 (v := .int .i64 (ia : Int)) rfl
    have c3 := blk_cell HI.out.right.blk 3 (v := .int .i64 (ib' : Int)) rfl
    have c4 := blk_cell HI.out.right.blk 4 (v := .int .i64 im) rfl
    have ca := blk_cell HI.out.right.right.blk ia cxa
    have cb := blk_cell HI.out.right.right.blk ib' cxb
    have c32 := blk_cell HI.out.right.right.blk 32 (v := .int .u64 H.pc) rfl
    have c33 := blk_cell HI.out.right.right.blk 33 (v := .bool H.hd) rfl
    have c34 := blk_cell HI.out.right.right.blk 34 (v := .int .u64 H.at_) rfl
    have SM := Lib.hid (stable_star (stable_rm b fr s) S0.out)
    go_upto_region 4 with fail
    clear c2 c3 c4 ca cb cxa cxb
    go_upto_region 5 with (first
      | (refine wpList_build3 rfl 74 2 4 5 _ _ _ rfl (.int .u64 (w64 (H.pc + 4))) (.bool H.hd) (.int .u64 H.at_) rfl rfl rfl (dnC (d0F H)) (built_done (w64 (H.pc + 4)) H.at_ H.hd) ?_)
      | (refine wpList_store_row rfl 74 _ _ rfl _ _ rfl rfl 74 _ (blk_new _ _) (dn_info _) rfl (dn_all1 _) ?_; generalize hW : (World.setRow _ _ _) = w2; have K2 := Lib.hid (own_h1 (c1 := dnC (d0F H)) hW HI.out SM.out); clear hW; generalize w1.heap.size = db at *))
    clear c0 c32 c33 c34 HI
    have c0 := blk_cell K2.out.right.right.blk 0 (v := .int .i64 op) rfl
    have c32 := blk_cell K2.out.right.right.right.blk 32 (v := .int .u64 H.pc) rfl
    have cd2 := blk_cell K2.out.blk 2 (v := .int .u64 (w64 (H.pc + 4))) rfl
    go_upto_region 7 with fail
    clear cd2
    go_upto_region 36 with (go_at_call 51; refine (CT.out _).mono ?_; rintro e w3 ⟨rfl, rfl⟩)
    have t2 := blk_cell K2.out.blk 2 (v := .int .u64 (d0F H).pc) rfl
    have tf2 := blk_frozen K2.out.blk 2
    have t3 := blk_cell K2.out.blk 3 (v := .int .i64 (d0F H).e.k) rfl
    have tf3 := blk_frozen K2.out.blk 3
    have t4 := blk_cell K2.out.blk 4 (v := .int .u64 (d0F H).e.ad) rfl
    have tf4 := blk_frozen K2.out.blk 4
    have t5 := blk_cell K2.out.blk 5 (v := .bool (d0F H).e.wr) rfl
    have tf5 := blk_frozen K2.out.blk 5
    have KD : RowKit.Hid (Own w0 ((((w3.setCell ⟨db, 3, none⟩ (.int .i64 4)).setCell ⟨db, 4, none⟩ (.int .u64 (w64 (H.pc + 4)))).setCell ⟨db, 5, none⟩ (.bool false)).setCell ⟨db, 2, none⟩ (.int .u64 (w64 (H.pc + 4)))) (Star (blkA db (.cells (dnC { d0F H with e := ⟨4, w64 (H.pc + 4), false⟩, pc := w64 (H.pc + 4) }) 74)) _)) := Lib.hid ((((K2.out.set SM.out 3 (.int .i64 4)).set SM.out 4 (.int .u64 (w64 (H.pc + 4)))).set SM.out 5 (.bool false)).set SM.out 2 (.int .u64 (w64 (H.pc + 4))))
    go_upto_region 39 with fail
    clear t2 tf2 t3 tf3 t4 tf4 t5 tf5
    generalize World.setCell (World.setCell (World.setCell (World.setCell w3 _ _) _ _) _ _) _ _ = w19 at *
    have L6 := Lib.hid KD.out.blk
    have KZ := Lib.hid (KD.out.mono (fun F h => st5 h))
    have SZ := Lib.hid (stable_star (stable_blk db (.cells (dnC { d0F H with e := ⟨4, w64 (H.pc + 4), false⟩, pc := w64 (H.pc + 4) }) 74)) (stable_star (stable_rm b fr s) (stable_star (stable_blk ib (.cells (insC ⟨op, rd, ia, ib', im⟩) 61)) (stable_star (stable_blk hb (.cells (hC H) 27)) HR.out))))
    have KF := Lib.hid (KZ.out.setRow SZ.out (dnC { d0F H with e := ⟨4, w64 (H.pc + 4), false⟩, pc := w64 (H.pc + 4) }))
    go_wp2_with (first
      | (refine wpList_load_row rfl 74 _ rfl _ rfl 74 _ (0, 0) _ L6.out Tryz.underlying74 rfl (dn_info _) ?_)
      | (refine wpList_store_row rfl 74 _ _ rfl _ _ rfl rfl 74 _ KZ.out.blk (dn_info _) rfl (dn_all1 _) ?_))
    refine bodyPost_ret (res_done rfl _ _ _ zb _ rfl (ldDn KF.out.blk)) rfl ?_
    refine ⟨rfl, KF.out.mono (fun F h => ?_)⟩
    exact star_drop2 (star_drop2 (star_drop2 (star_drop2 (st3 h))))
set_option maxHeartbeats 3200000 in
theorem o_does_63 {w0 w : World} {b fr : Nat} {s : List UInt8} {R : Asn} (h : Own w0 w (Star (rmA b fr s) R)) (hR : Stable R) (hf : fr ≤ 256) (r : Int) (hr : i64 r) (op : Int) (rd ia ib' : Nat) (im : Int) (hia : ia < 32) (hib : ib' < 32) (H : HS) (hH : H.ok) (hop : op = 63) :
    Calls Tryz.prog 25 #[.pointer (some ⟨b, 0, none⟩), .int .i64 r, .agg (insC ⟨op, rd, ia, ib', im⟩), .agg (hC H)] w (MemP w0 b fr R (docF fr s r op (H.X ia) (H.X ib') (w64 im) H.pc (d0F H))) := by
  unfold MemP
  subst hop
  unfold docF
  rw [if_neg (by decide), if_neg (by decide), if_neg (by decide), if_neg (by decide), if_neg (by decide), if_neg (by decide), if_neg (by decide), if_neg (by decide), if_pos rfl]
  have hi := does_in h hR ⟨63, rd, ia, ib', im⟩ H
  clear h
  have HR := Lib.hid hR
  have HF := Lib.hid hf
  have HRI := Lib.hid hr
  have hxa := hH.1 ia hia
  have hxb := hH.1 ib' hib
  have hpc := hH.2.1
  have cxa := hC_x H ia hia
  have cxb := hC_x H ib' hib
  obtain ⟨xa, hxa'⟩ : ∃ q, H.X ia = q := ⟨_, rfl⟩
  obtain ⟨xb, hxb'⟩ : ∃ q, H.X ib' = q := ⟨_, rfl⟩
  rw [hxa'] at hxa cxa
  rw [hxb'] at hxb cxb
  try rw [hxa']
  try rw [hxb']
  have HXA := Lib.hid (word_of_u64 hxa)
  have HXB := Lib.hid (word_of_u64 hxb)
  have HXAU := Lib.hid hxa
  have i0 : (0 : Int) ≤ ia := by omega
  have i1 : (ia : Int) < 32 := by omega
  have j0 : (0 : Int) ≤ ib' := by omega
  have j1 : (ib' : Int) < 32 := by omega
  have m1 : IntKind.u64.wrap im = w64 im := w64_w im
  have m2 : IntKind.u64.wrap (H.pc + 4) = w64 (H.pc + 4) := w64_w _
  obtain ⟨M, hM⟩ : ∃ q, w64 im = q := ⟨_, rfl⟩
  have hMw : word M := by rw [← hM]; exact word_of_u64 (u64_w64 im)
  rw [hM] at m1
  try rw [hM]
  have HM := Lib.hid hMw
  have m3 : IntKind.u64.wrap (H.pc + M) = w64 (H.pc + M) := w64_w _
  have m4 : IntKind.u64.wrap (xa + M) = w64 (xa + M) := w64_w _
  clear hR hf hr hH hxa' hxb' hM hMw hxa hxb
  have hto : (w64 (H.pc + 4)) % 4 = 0 ∨ ¬ (w64 (H.pc + 4)) % 4 = 0 := by omega
  rcases hto with ht | ht
  · rw [fin_al ht]
    have ht2 : (w64 (H.pc + 4) % 4 == 0) = true := by simpa using ht
    have ht3 : (w64 (H.pc + 4) % 4 != 0) = false := by simpa using ht
    have hn0 : 0 ≤ w64 (H.pc + 4) := by first | exact (u64_w64 _).1 | omega
    have ht4 : ((w64 (H.pc + 4)).tmod 4 != 0) = false := by rw [Int.tmod_eq_emod_of_nonneg hn0]; exact ht3
    clear ht
    go_enter Tryz.func25, Tryz.ntmps25
    go_upto_region 1 with fail
    generalize (World.alloc _ (.cells _ 74)) = w1 at *
    generalize w.heap.size + 1 + 1 = zb at *
    generalize w.heap.size + 1 = hb at *
    generalize w.heap.size = ib at *
    have S0 := Lib.hid (stable_star (stable_blk ib (.cells (insC ⟨63, rd, ia, ib', im⟩) 61)) (stable_star (stable_blk hb (.cells (hC H) 27)) (stable_star (stable_blk zb (.cells (dnC dZ) 74)) HR.out)))
    have HI := Lib.hid hi
    clear hi
    have c0 := blk_cell HI.out.right.blk 0 (v := .int .i64 63) rfl
    have c2 := blk_cell HI.out.right.blk 2 (v := .int .i64 (ia : Int)) rfl
    have c3 := blk_cell HI.out.right.blk 3 (v := .int .i64 (ib' : Int)) rfl
    have c4 := blk_cell HI.out.right.blk 4 (v := .int .i64 im) rfl
    have ca := blk_cell HI.out.right.right.blk ia cxa
    have cb := blk_cell HI.out.right.right.blk ib' cxb
    have c32 := blk_cell HI.out.right.right.blk 32 (v := .int .u64 H.pc) rfl
    have c33 := blk_cell HI.out.right.right.blk 33 (v := .bool H.hd) rfl
    have c34 := blk_cell HI.out.right.right.blk 34 (v := .int .u64 H.at_) rfl
    have SM := Lib.hid (stable_star (stable_rm b fr s) S0.out)
    go_upto_region 4 with fail
    clear c2 c3 c4 ca cb cxa cxb
    go_upto_region 5 with (first
      | (refine wpList_build3 rfl 74 2 4 5 _ _ _ rfl (.int .u64 (w64 (H.pc + 4))) (.bool H.hd) (.int .u64 H.at_) rfl rfl rfl (dnC (d0F H)) (built_done (w64 (H.pc + 4)) H.at_ H.hd) ?_)
      | (refine wpList_store_row rfl 74 _ _ rfl _ _ rfl rfl 74 _ (blk_new _ _) (dn_info _) rfl (dn_all1 _) ?_; generalize hW : (World.setRow _ _ _) = w2; have K2 := Lib.hid (own_h1 (c1 := dnC (d0F H)) hW HI.out SM.out); clear hW; generalize w1.heap.size = db at *))
    clear c0 c32 c33 c34 HI
    have c0 := blk_cell K2.out.right.right.blk 0 (v := .int .i64 63) rfl
    have c32 := blk_cell K2.out.right.right.right.blk 32 (v := .int .u64 H.pc) rfl
    have cd2 := blk_cell K2.out.blk 2 (v := .int .u64 (w64 (H.pc + 4))) rfl
    go_upto_region 7 with fail
    clear cd2
    go_upto_region 36 with fail
    have t2 := blk_cell K2.out.blk 2 (v := .int .u64 (d0F H).pc) rfl
    have tf2 := blk_frozen K2.out.blk 2
    have KD : RowKit.Hid (Own w0 (w2.setCell ⟨db, 2, none⟩ (.int .u64 (w64 (H.pc + 4)))) (Star (blkA db (.cells (dnC { d0F H with pc := w64 (H.pc + 4) }) 74)) _)) := Lib.hid (K2.out.set SM.out 2 (.int .u64 (w64 (H.pc + 4))))
    go_upto_region 39 with fail
    clear t2 tf2
    generalize World.setCell w2 _ _ = w19 at *
    have L6 := Lib.hid KD.out.blk
    have KZ := Lib.hid (KD.out.mono (fun F h => st5 h))
    have SZ := Lib.hid (stable_star (stable_blk db (.cells (dnC { d0F H with pc := w64 (H.pc + 4) }) 74)) (stable_star (stable_rm b fr s) (stable_star (stable_blk ib (.cells (insC ⟨63, rd, ia, ib', im⟩) 61)) (stable_star (stable_blk hb (.cells (hC H) 27)) HR.out))))
    have KF := Lib.hid (KZ.out.setRow SZ.out (dnC { d0F H with pc := w64 (H.pc + 4) }))
    go_wp2_with (first
      | (refine wpList_load_row rfl 74 _ rfl _ rfl 74 _ (0, 0) _ L6.out Tryz.underlying74 rfl (dn_info _) ?_)
      | (refine wpList_store_row rfl 74 _ _ rfl _ _ rfl rfl 74 _ KZ.out.blk (dn_info _) rfl (dn_all1 _) ?_))
    refine bodyPost_ret (res_done rfl _ _ _ zb _ rfl (ldDn KF.out.blk)) rfl ?_
    refine ⟨rfl, KF.out.mono (fun F h => ?_)⟩
    exact star_drop2 (star_drop2 (star_drop2 (star_drop2 (st3 h))))
  · rw [fin_no ht]
    have ht2 : (w64 (H.pc + 4) % 4 == 0) = false := by simpa using ht
    have ht3 : (w64 (H.pc + 4) % 4 != 0) = true := by simpa using ht
    have hn0 : 0 ≤ w64 (H.pc + 4) := by first | exact (u64_w64 _).1 | omega
    have ht4 : ((w64 (H.pc + 4)).tmod 4 != 0) = true := by rw [Int.tmod_eq_emod_of_nonneg hn0]; exact ht3
    clear ht
    go_enter Tryz.func25, Tryz.ntmps25
    go_upto_region 1 with fail
    generalize (World.alloc _ (.cells _ 74)) = w1 at *
    generalize w.heap.size + 1 + 1 = zb at *
    generalize w.heap.size + 1 = hb at *
    generalize w.heap.size = ib at *
    have S0 := Lib.hid (stable_star (stable_blk ib (.cells (insC ⟨63, rd, ia, ib', im⟩) 61)) (stable_star (stable_blk hb (.cells (hC H) 27)) (stable_star (stable_blk zb (.cells (dnC dZ) 74)) HR.out)))
    have HI := Lib.hid hi
    clear hi
    have c0 := blk_cell HI.out.right.blk 0 (v := .int .i64 63) rfl
    have c2 := blk_cell HI.out.right.blk 2 (v := .int .i64 (ia : Int)) rfl
    have c3 := blk_cell HI.out.right.blk 3 (v := .int .i64 (ib' : Int)) rfl
    have c4 := blk_cell HI.out.right.blk 4 (v := .int .i64 im) rfl
    have ca := blk_cell HI.out.right.right.blk ia cxa
    have cb := blk_cell HI.out.right.right.blk ib' cxb
    have c32 := blk_cell HI.out.right.right.blk 32 (v := .int .u64 H.pc) rfl
    have c33 := blk_cell HI.out.right.right.blk 33 (v := .bool H.hd) rfl
    have c34 := blk_cell HI.out.right.right.blk 34 (v := .int .u64 H.at_) rfl
    have SM := Lib.hid (stable_star (stable_rm b fr s) S0.out)
    go_upto_region 4 with fail
    clear c2 c3 c4 ca cb cxa cxb
    go_upto_region 5 with (first
      | (refine wpList_build3 rfl 74 2 4 5 _ _ _ rfl (.int .u64 (w64 (H.pc + 4))) (.bool H.hd) (.int .u64 H.at_) rfl rfl rfl (dnC (d0F H)) (built_done (w64 (H.pc + 4)) H.at_ H.hd) ?_)
      | (refine wpList_store_row rfl 74 _ _ rfl _ _ rfl rfl 74 _ (blk_new _ _) (dn_info _) rfl (dn_all1 _) ?_; generalize hW : (World.setRow _ _ _) = w2; have K2 := Lib.hid (own_h1 (c1 := dnC (d0F H)) hW HI.out SM.out); clear hW; generalize w1.heap.size = db at *))
    clear c0 c32 c33 c34 HI
    have c0 := blk_cell K2.out.right.right.blk 0 (v := .int .i64 63) rfl
    have c32 := blk_cell K2.out.right.right.right.blk 32 (v := .int .u64 H.pc) rfl
    have cd2 := blk_cell K2.out.blk 2 (v := .int .u64 (w64 (H.pc + 4))) rfl
    go_upto_region 7 with fail
    clear cd2
    go_upto_region 36 with fail
    have t2 := blk_cell K2.out.blk 2 (v := .int .u64 (d0F H).pc) rfl
    have tf2 := blk_frozen K2.out.blk 2
    have t3 := blk_cell K2.out.blk 3 (v := .int .i64 (d0F H).e.k) rfl
    have tf3 := blk_frozen K2.out.blk 3
    have t4 := blk_cell K2.out.blk 4 (v := .int .u64 (d0F H).e.ad) rfl
    have tf4 := blk_frozen K2.out.blk 4
    have t5 := blk_cell K2.out.blk 5 (v := .bool (d0F H).e.wr) rfl
    have tf5 := blk_frozen K2.out.blk 5
    have KD : RowKit.Hid (Own w0 ((((w2.setCell ⟨db, 3, none⟩ (.int .i64 4)).setCell ⟨db, 4, none⟩ (.int .u64 (w64 (H.pc + 4)))).setCell ⟨db, 5, none⟩ (.bool false)).setCell ⟨db, 2, none⟩ (.int .u64 (w64 (H.pc + 4)))) (Star (blkA db (.cells (dnC { d0F H with e := ⟨4, w64 (H.pc + 4), false⟩, pc := w64 (H.pc + 4) }) 74)) _)) := Lib.hid ((((K2.out.set SM.out 3 (.int .i64 4)).set SM.out 4 (.int .u64 (w64 (H.pc + 4)))).set SM.out 5 (.bool false)).set SM.out 2 (.int .u64 (w64 (H.pc + 4))))
    go_upto_region 39 with fail
    clear t2 tf2 t3 tf3 t4 tf4 t5 tf5
    generalize World.setCell (World.setCell (World.setCell (World.setCell w2 _ _) _ _) _ _) _ _ = w19 at *
    have L6 := Lib.hid KD.out.blk
    have KZ := Lib.hid (KD.out.mono (fun F h => st5 h))
    have SZ := Lib.hid (stable_star (stable_blk db (.cells (dnC { d0F H with e := ⟨4, w64 (H.pc + 4), false⟩, pc := w64 (H.pc + 4) }) 74)) (stable_star (stable_rm b fr s) (stable_star (stable_blk ib (.cells (insC ⟨63, rd, ia, ib', im⟩) 61)) (stable_star (stable_blk hb (.cells (hC H) 27)) HR.out))))
    have KF := Lib.hid (KZ.out.setRow SZ.out (dnC { d0F H with e := ⟨4, w64 (H.pc + 4), false⟩, pc := w64 (H.pc + 4) }))
    go_wp2_with (first
      | (refine wpList_load_row rfl 74 _ rfl _ rfl 74 _ (0, 0) _ L6.out Tryz.underlying74 rfl (dn_info _) ?_)
      | (refine wpList_store_row rfl 74 _ _ rfl _ _ rfl rfl 74 _ KZ.out.blk (dn_info _) rfl (dn_all1 _) ?_))
    refine bodyPost_ret (res_done rfl _ _ _ zb _ rfl (ldDn KF.out.blk)) rfl ?_
    refine ⟨rfl, KF.out.mono (fun F h => ?_)⟩
    exact star_drop2 (star_drop2 (star_drop2 (star_drop2 (st3 h))))
set_option maxHeartbeats 3200000 in
theorem o_does_35 {w0 w : World} {b fr : Nat} {s : List UInt8} {R : Asn} (h : Own w0 w (Star (rmA b fr s) R)) (hR : Stable R) (hf : fr ≤ 256) (r : Int) (hr : i64 r) (op : Int) (rd ia ib' : Nat) (im : Int) (hia : ia < 32) (hib : ib' < 32) (H : HS) (hH : H.ok) (hop : 35 ≤ op ∧ op ≤ 62) :
    Calls Tryz.prog 25 #[.pointer (some ⟨b, 0, none⟩), .int .i64 r, .agg (insC ⟨op, rd, ia, ib', im⟩), .agg (hC H)] w (MemP w0 b fr R (docF fr s r op (H.X ia) (H.X ib') (w64 im) H.pc (d0F H))) := by
  unfold MemP
  unfold docF
  rw [if_neg (by omega), if_neg (by omega), if_neg (by omega), if_neg (by omega), if_neg (by omega), if_neg (by omega), if_neg (by omega), if_pos hop.2]
  have n1 : (op == 1) = false := by simp; omega
  have n2 : (op == 2) = false := by simp; omega
  have n3 : (op == 3) = false := by simp; omega
  have n4 : (op == 4) = false := by simp; omega
  have l1 : ¬ op ≤ 10 := by omega
  have l2 : ¬ op ≤ 21 := by omega
  have l3 : ¬ op ≤ 34 := by omega
  have l4 : op ≤ 62 := hop.2
  clear hop
  have hi := does_in h hR ⟨op, rd, ia, ib', im⟩ H
  clear h
  have HR := Lib.hid hR
  have HF := Lib.hid hf
  have HRI := Lib.hid hr
  have hxa := hH.1 ia hia
  have hxb := hH.1 ib' hib
  have hpc := hH.2.1
  have cxa := hC_x H ia hia
  have cxb := hC_x H ib' hib
  obtain ⟨xa, hxa'⟩ : ∃ q, H.X ia = q := ⟨_, rfl⟩
  obtain ⟨xb, hxb'⟩ : ∃ q, H.X ib' = q := ⟨_, rfl⟩
  rw [hxa'] at hxa cxa
  rw [hxb'] at hxb cxb
  try rw [hxa']
  try rw [hxb']
  have HXA := Lib.hid (word_of_u64 hxa)
  have HXB := Lib.hid (word_of_u64 hxb)
  have HXAU := Lib.hid hxa
  have i0 : (0 : Int) ≤ ia := by omega
  have i1 : (ia : Int) < 32 := by omega
  have j0 : (0 : Int) ≤ ib' := by omega
  have j1 : (ib' : Int) < 32 := by omega
  have m1 : IntKind.u64.wrap im = w64 im := w64_w im
  have m2 : IntKind.u64.wrap (H.pc + 4) = w64 (H.pc + 4) := w64_w _
  obtain ⟨M, hM⟩ : ∃ q, w64 im = q := ⟨_, rfl⟩
  have hMw : word M := by rw [← hM]; exact word_of_u64 (u64_w64 im)
  rw [hM] at m1
  try rw [hM]
  have HM := Lib.hid hMw
  have m3 : IntKind.u64.wrap (H.pc + M) = w64 (H.pc + M) := w64_w _
  have m4 : IntKind.u64.wrap (xa + M) = w64 (xa + M) := w64_w _
  clear hR hf hr hH hxa' hxb' hM hMw hxa hxb
  have CR := Lib.hid (fun w => c_rreckon op xa xb HXA.out HXB.out w)
  obtain ⟨V, hV⟩ : ∃ q, reckV op xa xb = q := ⟨_, rfl⟩
  obtain ⟨VB, hVB⟩ : ∃ q, reckB op = q := ⟨_, rfl⟩
  rw [hV, hVB] at CR
  rw [hV]
  clear hV hVB
  have hto : (w64 (H.pc + 4)) % 4 = 0 ∨ ¬ (w64 (H.pc + 4)) % 4 = 0 := by omega
  rcases hto with ht | ht
  · rw [fin_al ht]
    have ht2 : (w64 (H.pc + 4) % 4 == 0) = true := by simpa using ht
    have ht3 : (w64 (H.pc + 4) % 4 != 0) = false := by simpa using ht
    have hn0 : 0 ≤ w64 (H.pc + 4) := by first | exact (u64_w64 _).1 | omega
    have ht4 : ((w64 (H.pc + 4)).tmod 4 != 0) = false := by rw [Int.tmod_eq_emod_of_nonneg hn0]; exact ht3
    clear ht
    go_enter Tryz.func25, Tryz.ntmps25
    go_upto_region 1 with fail
    generalize (World.alloc _ (.cells _ 74)) = w1 at *
    generalize w.heap.size + 1 + 1 = zb at *
    generalize w.heap.size + 1 = hb at *
    generalize w.heap.size = ib at *
    have S0 := Lib.hid (stable_star (stable_blk ib (.cells (insC ⟨op, rd, ia, ib', im⟩) 61)) (stable_star (stable_blk hb (.cells (hC H) 27)) (stable_star (stable_blk zb (.cells (dnC dZ) 74)) HR.out)))
    have HI := Lib.hid hi
    clear hi
    have c0 := blk_cell HI.out.right.blk 0 (v := .int .i64 op) rfl
    have c2 := blk_cell HI.out.right.blk 2 (v := .int .i64 (ia : Int)) rfl
    have c3 := blk_cell HI.out.right.blk 3 (v := .int .i64 (ib' : Int)) rfl
    have c4 := blk_cell HI.out.right.blk 4 (v := .int .i64 im) rfl
    have ca := blk_cell HI.out.right.right.blk ia cxa
    have cb := blk_cell HI.out.right.right.blk ib' cxb
    have c32 := blk_cell HI.out.right.right.blk 32 (v := .int .u64 H.pc) rfl
    have c33 := blk_cell HI.out.right.right.blk 33 (v := .bool H.hd) rfl
    have c34 := blk_cell HI.out.right.right.blk 34 (v := .int .u64 H.at_) rfl
    have SM := Lib.hid (stable_star (stable_rm b fr s) S0.out)
    go_upto_region 4 with fail
    clear c2 c3 c4 ca cb cxa cxb
    go_upto_region 5 with (first
      | (refine wpList_build3 rfl 74 2 4 5 _ _ _ rfl (.int .u64 (w64 (H.pc + 4))) (.bool H.hd) (.int .u64 H.at_) rfl rfl rfl (dnC (d0F H)) (built_done (w64 (H.pc + 4)) H.at_ H.hd) ?_)
      | (refine wpList_store_row rfl 74 _ _ rfl _ _ rfl rfl 74 _ (blk_new _ _) (dn_info _) rfl (dn_all1 _) ?_; generalize hW : (World.setRow _ _ _) = w2; have K2 := Lib.hid (own_h1 (c1 := dnC (d0F H)) hW HI.out SM.out); clear hW; generalize w1.heap.size = db at *))
    clear c0 c32 c33 c34 HI
    have c0 := blk_cell K2.out.right.right.blk 0 (v := .int .i64 op) rfl
    have c32 := blk_cell K2.out.right.right.right.blk 32 (v := .int .u64 H.pc) rfl
    have cd2 := blk_cell K2.out.blk 2 (v := .int .u64 (w64 (H.pc + 4))) rfl
    go_upto_region 7 with fail
    clear cd2
    have s0 := blk_cell K2.out.blk 0 (v := .bool (d0F H).sets) rfl
    have sf0 := blk_frozen K2.out.blk 0
    have K3 : RowKit.Hid (Own w0 (w2.setCell ⟨db, 0, none⟩ (.bool true)) (Star (blkA db (.cells (dnC { d0F H with sets := true }) 74)) _)) := Lib.hid (K2.out.set SM.out 0 (.bool true))
    go_upto_region 33 with fail
    clear s0 sf0 K2
    generalize World.setCell w2 _ _ = w3 at *
    have S3 := Lib.hid (stable_star (stable_blk db (.cells (dnC { d0F H with sets := true }) 74)) SM.out)
    go_upto_region 36 with (go_at_call 53; refine (CR.out _).mono ?_; rintro e w5 ⟨rfl, g5⟩; have K5 := Lib.hid (K3.out.gr S3.out g5); have s1 := blk_cell K5.out.blk 1 (v := .int .u64 (d0F H).v) rfl; have sf1 := blk_frozen K5.out.blk 1; clear g5)
    have K6 : RowKit.Hid (Own w0 (w5.setCell ⟨db, 1, none⟩ (.int .u64 V)) (Star (blkA db (.cells (dnC { d0F H with sets := true, v := V }) 74)) _)) := Lib.hid (K5.out.set SM.out 1 (.int .u64 V))
    clear s1 sf1 K5 K3 CR
    generalize World.setCell w5 _ _ = w6 at *
    have t2 := blk_cell K6.out.blk 2 (v := .int .u64 ({ d0F H with sets := true, v := V }).pc) rfl
    have tf2 := blk_frozen K6.out.blk 2
    have KD : RowKit.Hid (Own w0 (w6.setCell ⟨db, 2, none⟩ (.int .u64 (w64 (H.pc + 4)))) (Star (blkA db (.cells (dnC { { d0F H with sets := true, v := V } with pc := w64 (H.pc + 4) }) 74)) _)) := Lib.hid (K6.out.set SM.out 2 (.int .u64 (w64 (H.pc + 4))))
    go_upto_region 39 with fail
    clear t2 tf2
    generalize World.setCell w6 _ _ = w19 at *
    have L6 := Lib.hid KD.out.blk
    have KZ := Lib.hid (KD.out.mono (fun F h => st5 h))
    have SZ := Lib.hid (stable_star (stable_blk db (.cells (dnC { { d0F H with sets := true, v := V } with pc := w64 (H.pc + 4) }) 74)) (stable_star (stable_rm b fr s) (stable_star (stable_blk ib (.cells (insC ⟨op, rd, ia, ib', im⟩) 61)) (stable_star (stable_blk hb (.cells (hC H) 27)) HR.out))))
    have KF := Lib.hid (KZ.out.setRow SZ.out (dnC { { d0F H with sets := true, v := V } with pc := w64 (H.pc + 4) }))
    go_wp2_with (first
      | (refine wpList_load_row rfl 74 _ rfl _ rfl 74 _ (0, 0) _ L6.out Tryz.underlying74 rfl (dn_info _) ?_)
      | (refine wpList_store_row rfl 74 _ _ rfl _ _ rfl rfl 74 _ KZ.out.blk (dn_info _) rfl (dn_all1 _) ?_))
    refine bodyPost_ret (res_done rfl _ _ _ zb _ rfl (ldDn KF.out.blk)) rfl ?_
    refine ⟨rfl, KF.out.mono (fun F h => ?_)⟩
    exact star_drop2 (star_drop2 (star_drop2 (star_drop2 (st3 h))))
  · rw [fin_no ht]
    have ht2 : (w64 (H.pc + 4) % 4 == 0) = false := by simpa using ht
    have ht3 : (w64 (H.pc + 4) % 4 != 0) = true := by simpa using ht
    have hn0 : 0 ≤ w64 (H.pc + 4) := by first | exact (u64_w64 _).1 | omega
    have ht4 : ((w64 (H.pc + 4)).tmod 4 != 0) = true := by rw [Int.tmod_eq_emod_of_nonneg hn0]; exact ht3
    clear ht
    go_enter Tryz.func25, Tryz.ntmps25
    go_upto_region 1 with fail
    generalize (World.alloc _ (.cells _ 74)) = w1 at *
    generalize w.heap.size + 1 + 1 = zb at *
    generalize w.heap.size + 1 = hb at *
    generalize w.heap.size = ib at *
    have S0 := Lib.hid (stable_star (stable_blk ib (.cells (insC ⟨op, rd, ia, ib', im⟩) 61)) (stable_star (stable_blk hb (.cells (hC H) 27)) (stable_star (stable_blk zb (.cells (dnC dZ) 74)) HR.out)))
    have HI := Lib.hid hi
    clear hi
    have c0 := blk_cell HI.out.right.blk 0 (v := .int .i64 op) rfl
    have c2 := blk_cell HI.out.right.blk 2 (v := .int .i64 (ia : Int)) rfl
    have c3 := blk_cell HI.out.right.blk 3 (v := .int .i64 (ib' : Int)) rfl
    have c4 := blk_cell HI.out.right.blk 4 (v := .int .i64 im) rfl
    have ca := blk_cell HI.out.right.right.blk ia cxa
    have cb := blk_cell HI.out.right.right.blk ib' cxb
    have c32 := blk_cell HI.out.right.right.blk 32 (v := .int .u64 H.pc) rfl
    have c33 := blk_cell HI.out.right.right.blk 33 (v := .bool H.hd) rfl
    have c34 := blk_cell HI.out.right.right.blk 34 (v := .int .u64 H.at_) rfl
    have SM := Lib.hid (stable_star (stable_rm b fr s) S0.out)
    go_upto_region 4 with fail
    clear c2 c3 c4 ca cb cxa cxb
    go_upto_region 5 with (first
      | (refine wpList_build3 rfl 74 2 4 5 _ _ _ rfl (.int .u64 (w64 (H.pc + 4))) (.bool H.hd) (.int .u64 H.at_) rfl rfl rfl (dnC (d0F H)) (built_done (w64 (H.pc + 4)) H.at_ H.hd) ?_)
      | (refine wpList_store_row rfl 74 _ _ rfl _ _ rfl rfl 74 _ (blk_new _ _) (dn_info _) rfl (dn_all1 _) ?_; generalize hW : (World.setRow _ _ _) = w2; have K2 := Lib.hid (own_h1 (c1 := dnC (d0F H)) hW HI.out SM.out); clear hW; generalize w1.heap.size = db at *))
    clear c0 c32 c33 c34 HI
    have c0 := blk_cell K2.out.right.right.blk 0 (v := .int .i64 op) rfl
    have c32 := blk_cell K2.out.right.right.right.blk 32 (v := .int .u64 H.pc) rfl
    have cd2 := blk_cell K2.out.blk 2 (v := .int .u64 (w64 (H.pc + 4))) rfl
    go_upto_region 7 with fail
    clear cd2
    have s0 := blk_cell K2.out.blk 0 (v := .bool (d0F H).sets) rfl
    have sf0 := blk_frozen K2.out.blk 0
    have K3 : RowKit.Hid (Own w0 (w2.setCell ⟨db, 0, none⟩ (.bool true)) (Star (blkA db (.cells (dnC { d0F H with sets := true }) 74)) _)) := Lib.hid (K2.out.set SM.out 0 (.bool true))
    go_upto_region 33 with fail
    clear s0 sf0 K2
    generalize World.setCell w2 _ _ = w3 at *
    have S3 := Lib.hid (stable_star (stable_blk db (.cells (dnC { d0F H with sets := true }) 74)) SM.out)
    go_upto_region 36 with (go_at_call 53; refine (CR.out _).mono ?_; rintro e w5 ⟨rfl, g5⟩; have K5 := Lib.hid (K3.out.gr S3.out g5); have s1 := blk_cell K5.out.blk 1 (v := .int .u64 (d0F H).v) rfl; have sf1 := blk_frozen K5.out.blk 1; clear g5)
    have K6 : RowKit.Hid (Own w0 (w5.setCell ⟨db, 1, none⟩ (.int .u64 V)) (Star (blkA db (.cells (dnC { d0F H with sets := true, v := V }) 74)) _)) := Lib.hid (K5.out.set SM.out 1 (.int .u64 V))
    clear s1 sf1 K5 K3 CR
    generalize World.setCell w5 _ _ = w6 at *
    have t2 := blk_cell K6.out.blk 2 (v := .int .u64 ({ d0F H with sets := true, v := V }).pc) rfl
    have tf2 := blk_frozen K6.out.blk 2
    have t3 := blk_cell K6.out.blk 3 (v := .int .i64 ({ d0F H with sets := true, v := V }).e.k) rfl
    have tf3 := blk_frozen K6.out.blk 3
    have t4 := blk_cell K6.out.blk 4 (v := .int .u64 ({ d0F H with sets := true, v := V }).e.ad) rfl
    have tf4 := blk_frozen K6.out.blk 4
    have t5 := blk_cell K6.out.blk 5 (v := .bool ({ d0F H with sets := true, v := V }).e.wr) rfl
    have tf5 := blk_frozen K6.out.blk 5
    have KD : RowKit.Hid (Own w0 ((((w6.setCell ⟨db, 3, none⟩ (.int .i64 4)).setCell ⟨db, 4, none⟩ (.int .u64 (w64 (H.pc + 4)))).setCell ⟨db, 5, none⟩ (.bool false)).setCell ⟨db, 2, none⟩ (.int .u64 (w64 (H.pc + 4)))) (Star (blkA db (.cells (dnC { { d0F H with sets := true, v := V } with e := ⟨4, w64 (H.pc + 4), false⟩, pc := w64 (H.pc + 4) }) 74)) _)) := Lib.hid ((((K6.out.set SM.out 3 (.int .i64 4)).set SM.out 4 (.int .u64 (w64 (H.pc + 4)))).set SM.out 5 (.bool false)).set SM.out 2 (.int .u64 (w64 (H.pc + 4))))
    go_upto_region 39 with fail
    clear t2 tf2 t3 tf3 t4 tf4 t5 tf5
    generalize World.setCell (World.setCell (World.setCell (World.setCell w6 _ _) _ _) _ _) _ _ = w19 at *
    have L6 := Lib.hid KD.out.blk
    have KZ := Lib.hid (KD.out.mono (fun F h => st5 h))
    have SZ := Lib.hid (stable_star (stable_blk db (.cells (dnC { { d0F H with sets := true, v := V } with e := ⟨4, w64 (H.pc + 4), false⟩, pc := w64 (H.pc + 4) }) 74)) (stable_star (stable_rm b fr s) (stable_star (stable_blk ib (.cells (insC ⟨op, rd, ia, ib', im⟩) 61)) (stable_star (stable_blk hb (.cells (hC H) 27)) HR.out))))
    have KF := Lib.hid (KZ.out.setRow SZ.out (dnC { { d0F H with sets := true, v := V } with e := ⟨4, w64 (H.pc + 4), false⟩, pc := w64 (H.pc + 4) }))
    go_wp2_with (first
      | (refine wpList_load_row rfl 74 _ rfl _ rfl 74 _ (0, 0) _ L6.out Tryz.underlying74 rfl (dn_info _) ?_)
      | (refine wpList_store_row rfl 74 _ _ rfl _ _ rfl rfl 74 _ KZ.out.blk (dn_info _) rfl (dn_all1 _) ?_))
    refine bodyPost_ret (res_done rfl _ _ _ zb _ rfl (ldDn KF.out.blk)) rfl ?_
    refine ⟨rfl, KF.out.mono (fun F h => ?_)⟩
    exact star_drop2 (star_drop2 (star_drop2 (star_drop2 (st3 h))))
end Go.Proofs.YtngeabphjdfdgaaGreatDoor.P
