/- Stage 5: the document's step: lr, sc. No condition. -/
import Derived.Test.YtngeabphjdfdgaaGreatDoorVC
import Derived.Test.YtngeabphjdfdgaaGreatDoorW11
set_option linter.unusedVariables false
set_option linter.unusedSimpArgs false
set_option maxRecDepth 100000
namespace Go.Proofs.YtngeabphjdfdgaaGreatDoor.P
open Go.RowKit Go.MuLone Go.Proofs.YtngeabphjdfdgaaGreatDoor.W
set_option maxHeartbeats 1600000 in
theorem o_at_lr66_yes {w0 w : World} {b fr : Nat} {s : List UInt8} {R : Asn} (h : Own w0 w (Star (rmA b fr s) R)) (hR : Stable R) (hf : fr ≤ 256) (r : Int) (hr : i64 r) (op : Int) (rd ia ib' : Nat) (im : Int) (p bv : Int) (hp : Go.Proofs.YtngeabphjdfdgaaGreatDoor.P.u64 p) (hbv : word bv) (d : DN) (hop : op = 66) (hc : rchB fr s r p 4 1 = true) :
    Calls Tryz.prog 54 #[.pointer (some ⟨b, 0, none⟩), .int .i64 r, .agg (insC ⟨op, rd, ia, ib', im⟩), .int .u64 p, .int .u64 bv, .agg (dnC d)] w fun e w' => e = .returned (.agg (dnC { d with sets := true, v := sgnF (loadV s (rchV fr s r p 4 1) 4) (8 * 4), hd := true, at_ := rchV fr s r p 4 1 })) ∧ Own w0 w' (Star (rmA b fr s) R) := by
  subst hop
  have hi := mem_in h hR ⟨66, rd, ia, ib', im⟩ d
  have hu1 := rch_u64 (s := s) (r := r) (n := 4) (acc := 1) hf hp
  have hu2 := rch_u64 (s := s) (r := r) (n := 4) (acc := 2) hf hp
  clear h
  have HR := Lib.hid hR
  have HP := Lib.hid hp
  have HRI := Lib.hid hr
  have HW1 := Lib.hid (rch_walk (fr := fr) (s := s) (r := r) (p := p) (n := 4) (acc := 1))
  have HW2 := Lib.hid (rch_walk (fr := fr) (s := s) (r := r) (p := p) (n := 4) (acc := 2))
  obtain ⟨V1, hV1⟩ : ∃ V, rchV fr s r p 4 1 = V := ⟨_, rfl⟩
  obtain ⟨V2, hV2⟩ : ∃ V, rchV fr s r p 4 2 = V := ⟨_, rfl⟩
  obtain ⟨B1, hB1⟩ : ∃ B, rchB fr s r p 4 1 = B := ⟨_, rfl⟩
  obtain ⟨B2, hB2⟩ : ∃ B, rchB fr s r p 4 2 = B := ⟨_, rfl⟩
  rw [hV1] at hu1 HW1
  rw [hV2] at hu2 HW2
  rw [hB1] at HW1
  rw [hB2] at HW2
  have HV1 := Lib.hid hu1.1
  have HV2 := Lib.hid hu2.1
  have HB1 := Lib.hid hB1
  have HB2 := Lib.hid hB2
  obtain ⟨U1, hU1⟩ : ∃ V, walkV fr s r p 1 = V := ⟨_, rfl⟩
  obtain ⟨U2, hU2⟩ : ∃ V, walkV fr s r p 2 = V := ⟨_, rfl⟩
  rw [hU1] at HW1
  rw [hU2] at HW2
  have HU1 := Lib.hid hU1
  have HU2 := Lib.hid hU2
  rw [hV1]
  obtain rfl : B1 = true := hB1.symm.trans hc
  have hw := HW1.out rfl
  subst hw
  clear hc HW1 HW2
  have hvw := loadV_word s U1 4
  obtain ⟨L, hL⟩ : ∃ L, loadV s U1 4 = L := ⟨_, rfl⟩
  rw [hL] at hvw ⊢
  have HL := Lib.hid hvw
  have HLE := Lib.hid hL
  clear hL hvw
  obtain ⟨G, hG⟩ : ∃ G, sgnF L (8 * 4) = G := ⟨_, rfl⟩
  rw [hG]
  have HGE := Lib.hid hG
  clear hG
  clear hp hr hu1 hu2 hR hU1 hU2 hB1 hB2 hV1 hV2
  go_enter Tryz.func54, Tryz.ntmps54
  go_upto_region 1 with fail
  generalize (World.alloc _ (.cells _ 74)) = w1 at *
  generalize w.heap.size + 1 + 1 = zb at *
  generalize w.heap.size + 1 = db at *
  generalize w.heap.size = ib at *
  have S0 := Lib.hid (stable_star (stable_blk db (.cells (dnC d) 74)) (stable_star (stable_blk ib (.cells (insC ⟨66, rd, ia, ib', im⟩) 61)) (stable_star (stable_blk zb (.cells (dnC dZ) 74)) HR.out)))
  have HI := Lib.hid hi
  clear hi
  have c0 := blk_cell HI.out.right.right.blk 0 (v := .int .i64 (66)) rfl
  have CA := Lib.hid (o_access HI.out S0.out r p 4 1 HP.out HRI.out (.inr (.inr (.inl rfl))) U1 true HU1.out HB1.out)
  go_upto_region 7 with (go_at_call 22; refine CA.out.mono ?_; rintro e w2 ⟨rfl, h2⟩; have K2 := Lib.hid h2; clear h2)
  clear CA HI c0
  have CA := Lib.hid (o_access K2.out S0.out r p 4 2 HP.out HRI.out (.inr (.inr (.inl rfl))) U2 B2 HU2.out HB2.out)
  go_upto_region 8 with (go_at_call 22; refine CA.out.mono ?_; rintro e w3 ⟨rfl, h3⟩; have K3 := Lib.hid h3; clear h3)
  clear CA K2
  have c0 := blk_cell K3.out.right.right.blk 0 (v := .int .i64 (66)) rfl
  have K4 := Lib.hid (K3.out.mono (fun F h => star_swap2 h))
  have SX := Lib.hid (stable_star (stable_rm b fr s) (stable_star (stable_blk ib (.cells (insC ⟨66, rd, ia, ib', im⟩) 61)) (stable_star (stable_blk zb (.cells (dnC dZ) 74)) HR.out)))
  clear K3
  have c0 := blk_cell K4.out.blk 0 (v := .bool d.sets) rfl
  have f0 := blk_frozen K4.out.blk 0
  have K5 : RowKit.Hid (Own w0 (w3.setCell ⟨db, 0, none⟩ (.bool true)) (Star (blkA db (.cells (dnC { d with sets := true }) 74)) _)) := Lib.hid (K4.out.set SX.out 0 (.bool true))
  go_upto_region 13 with fail
  clear c0 f0
  clear K4
  generalize World.setCell w3 _ _ = w5 at *
  have SY := Lib.hid (stable_star (stable_blk db (.cells (dnC { d with sets := true }) 74)) (stable_star (stable_blk ib (.cells (insC ⟨66, rd, ia, ib', im⟩) 61)) (stable_star (stable_blk zb (.cells (dnC dZ) 74)) HR.out)))
  have CL0 := o_load5 K5.out.swap2 SY.out U1 4 HV1.out
  rw [HLE.out] at CL0
  have CL := Lib.hid CL0
  have CG0 := c_rsign L (8 * 4) HL.out
  rw [HGE.out] at CG0
  have CG := Lib.hid CG0
  clear CL0 CG0
  go_upto_region 14 with (first
    | (go_at_call 24; refine CL.out.mono ?_; rintro e w6 ⟨rfl, h6⟩; have K6 := Lib.hid h6.swap2; have c1 := blk_cell h6.right.blk 1 (v := .int .u64 d.v) rfl; have f1 := blk_frozen h6.right.blk 1; clear h6)
    | (go_at_call 81; refine (CG.out _).mono ?_; rintro e w7 ⟨rfl, rfl⟩))
  have K7 : RowKit.Hid (Own w0 (World.setCell _ ⟨db, 1, none⟩ (.int .u64 G)) (Star (blkA db (.cells (dnC { d with sets := true, v := G }) 74)) _)) := Lib.hid (K6.out.set SX.out 1 (.int .u64 G))
  clear CL CG K5 K6 c1 f1
  generalize World.setCell _ ⟨db, 1, none⟩ _ = w8 at *
  have c6 := blk_cell K7.out.blk 6 (v := .bool d.hd) rfl
  have f6 := blk_frozen K7.out.blk 6
  have c7 := blk_cell K7.out.blk 7 (v := .int .u64 d.at_) rfl
  have f7 := blk_frozen K7.out.blk 7
  have KD : RowKit.Hid (Own w0 ((w8.setCell ⟨db, 6, none⟩ (.bool true)).setCell ⟨db, 7, none⟩ (.int .u64 U1)) (Star (blkA db (.cells (dnC { d with sets := true, v := G, hd := true, at_ := U1 }) 74)) _)) := Lib.hid ((K7.out.set SX.out 6 (.bool true)).set SX.out 7 (.int .u64 U1))
  go_upto_region 16 with fail
  clear c6 f6 c7 f7
  clear K7
  generalize World.setCell (World.setCell w8 _ _) _ _ = w9 at *
  have L6 := Lib.hid KD.out.blk
  have KZ := Lib.hid (KD.out.mono (fun F h => st4 h))
  have SZ := Lib.hid (stable_star (stable_blk db (.cells (dnC { d with sets := true, v := G, hd := true, at_ := U1 }) 74)) (stable_star (stable_rm b fr s) (stable_star (stable_blk ib (.cells (insC ⟨66, rd, ia, ib', im⟩) 61)) HR.out)))
  have KF := Lib.hid (KZ.out.setRow SZ.out (dnC { d with sets := true, v := G, hd := true, at_ := U1 }))
  go_wp2_with (first
    | (refine wpList_load_row rfl 74 _ rfl _ rfl 74 _ (0, 0) _ L6.out Tryz.underlying74 rfl (dn_info _) ?_)
    | (refine wpList_store_row rfl 74 _ _ rfl _ _ rfl rfl 74 _ KZ.out.blk (dn_info _) rfl (dn_all1 _) ?_))
  refine bodyPost_ret (res_done rfl _ _ _ zb _ rfl (ldDn KF.out.blk)) rfl ⟨rfl, KF.out.mono (fun F h => ?_)⟩
  exact star_drop2 (star_drop2 (star_drop2 (st3 h)))
set_option maxHeartbeats 1600000 in
theorem o_at_lr66_no {w0 w : World} {b fr : Nat} {s : List UInt8} {R : Asn} (h : Own w0 w (Star (rmA b fr s) R)) (hR : Stable R) (hf : fr ≤ 256) (r : Int) (hr : i64 r) (op : Int) (rd ia ib' : Nat) (im : Int) (p bv : Int) (hp : Go.Proofs.YtngeabphjdfdgaaGreatDoor.P.u64 p) (hbv : word bv) (d : DN) (hop : op = 66) (hc : rchB fr s r p 4 1 = false) :
    Calls Tryz.prog 54 #[.pointer (some ⟨b, 0, none⟩), .int .i64 r, .agg (insC ⟨op, rd, ia, ib', im⟩), .int .u64 p, .int .u64 bv, .agg (dnC d)] w fun e w' => e = .returned (.agg (dnC { d with e := ⟨5, p, false⟩ })) ∧ Own w0 w' (Star (rmA b fr s) R) := by
  subst hop
  have hi := mem_in h hR ⟨66, rd, ia, ib', im⟩ d
  have hu1 := rch_u64 (s := s) (r := r) (n := 4) (acc := 1) hf hp
  have hu2 := rch_u64 (s := s) (r := r) (n := 4) (acc := 2) hf hp
  clear h
  have HR := Lib.hid hR
  have HP := Lib.hid hp
  have HRI := Lib.hid hr
  have HW1 := Lib.hid (rch_walk (fr := fr) (s := s) (r := r) (p := p) (n := 4) (acc := 1))
  have HW2 := Lib.hid (rch_walk (fr := fr) (s := s) (r := r) (p := p) (n := 4) (acc := 2))
  obtain ⟨V1, hV1⟩ : ∃ V, rchV fr s r p 4 1 = V := ⟨_, rfl⟩
  obtain ⟨V2, hV2⟩ : ∃ V, rchV fr s r p 4 2 = V := ⟨_, rfl⟩
  obtain ⟨B1, hB1⟩ : ∃ B, rchB fr s r p 4 1 = B := ⟨_, rfl⟩
  obtain ⟨B2, hB2⟩ : ∃ B, rchB fr s r p 4 2 = B := ⟨_, rfl⟩
  rw [hV1] at hu1 HW1
  rw [hV2] at hu2 HW2
  rw [hB1] at HW1
  rw [hB2] at HW2
  have HV1 := Lib.hid hu1.1
  have HV2 := Lib.hid hu2.1
  have HB1 := Lib.hid hB1
  have HB2 := Lib.hid hB2
  obtain ⟨U1, hU1⟩ : ∃ V, walkV fr s r p 1 = V := ⟨_, rfl⟩
  obtain ⟨U2, hU2⟩ : ∃ V, walkV fr s r p 2 = V := ⟨_, rfl⟩
  rw [hU1] at HW1
  rw [hU2] at HW2
  have HU1 := Lib.hid hU1
  have HU2 := Lib.hid hU2
  obtain rfl : B1 = false := hB1.symm.trans hc
  clear hc HW1 HW2
  clear hp hr hu1 hu2 hR hU1 hU2 hB1 hB2 hV1 hV2
  go_enter Tryz.func54, Tryz.ntmps54
  go_upto_region 1 with fail
  generalize (World.alloc _ (.cells _ 74)) = w1 at *
  generalize w.heap.size + 1 + 1 = zb at *
  generalize w.heap.size + 1 = db at *
  generalize w.heap.size = ib at *
  have S0 := Lib.hid (stable_star (stable_blk db (.cells (dnC d) 74)) (stable_star (stable_blk ib (.cells (insC ⟨66, rd, ia, ib', im⟩) 61)) (stable_star (stable_blk zb (.cells (dnC dZ) 74)) HR.out)))
  have HI := Lib.hid hi
  clear hi
  have c0 := blk_cell HI.out.right.right.blk 0 (v := .int .i64 (66)) rfl
  have CA := Lib.hid (o_access HI.out S0.out r p 4 1 HP.out HRI.out (.inr (.inr (.inl rfl))) U1 false HU1.out HB1.out)
  go_upto_region 7 with (go_at_call 22; refine CA.out.mono ?_; rintro e w2 ⟨rfl, h2⟩; have K2 := Lib.hid h2; clear h2)
  clear CA HI c0
  have CA := Lib.hid (o_access K2.out S0.out r p 4 2 HP.out HRI.out (.inr (.inr (.inl rfl))) U2 B2 HU2.out HB2.out)
  go_upto_region 8 with (go_at_call 22; refine CA.out.mono ?_; rintro e w3 ⟨rfl, h3⟩; have K3 := Lib.hid h3; clear h3)
  clear CA K2
  have c0 := blk_cell K3.out.right.right.blk 0 (v := .int .i64 (66)) rfl
  have K4 := Lib.hid (K3.out.mono (fun F h => star_swap2 h))
  have SX := Lib.hid (stable_star (stable_rm b fr s) (stable_star (stable_blk ib (.cells (insC ⟨66, rd, ia, ib', im⟩) 61)) (stable_star (stable_blk zb (.cells (dnC dZ) 74)) HR.out)))
  clear K3
  have c3 := blk_cell K4.out.blk 3 (v := .int .i64 d.e.k) rfl
  have f3 := blk_frozen K4.out.blk 3
  have c4 := blk_cell K4.out.blk 4 (v := .int .u64 d.e.ad) rfl
  have f4 := blk_frozen K4.out.blk 4
  have c5 := blk_cell K4.out.blk 5 (v := .bool d.e.wr) rfl
  have f5 := blk_frozen K4.out.blk 5
  have KD : RowKit.Hid (Own w0 (((w3.setCell ⟨db, 3, none⟩ (.int .i64 5)).setCell ⟨db, 4, none⟩ (.int .u64 p)).setCell ⟨db, 5, none⟩ (.bool false)) (Star (blkA db (.cells (dnC { d with e := ⟨5, p, false⟩ }) 74)) _)) := Lib.hid (((K4.out.set SX.out 3 (.int .i64 5)).set SX.out 4 (.int .u64 p)).set SX.out 5 (.bool false))
  go_upto_region 11 with fail
  clear c3 f3 c4 f4 c5 f5
  clear K4
  generalize World.setCell (World.setCell (World.setCell w3 _ _) _ _) _ _ = w4 at *
  have L6 := Lib.hid KD.out.blk
  have KZ := Lib.hid (KD.out.mono (fun F h => st4 h))
  have SZ := Lib.hid (stable_star (stable_blk db (.cells (dnC { d with e := ⟨5, p, false⟩ }) 74)) (stable_star (stable_rm b fr s) (stable_star (stable_blk ib (.cells (insC ⟨66, rd, ia, ib', im⟩) 61)) HR.out)))
  have KF := Lib.hid (KZ.out.setRow SZ.out (dnC { d with e := ⟨5, p, false⟩ }))
  go_wp2_with (first
    | (refine wpList_load_row rfl 74 _ rfl _ rfl 74 _ (0, 0) _ L6.out Tryz.underlying74 rfl (dn_info _) ?_)
    | (refine wpList_store_row rfl 74 _ _ rfl _ _ rfl rfl 74 _ KZ.out.blk (dn_info _) rfl (dn_all1 _) ?_))
  refine bodyPost_ret (res_done rfl _ _ _ zb _ rfl (ldDn KF.out.blk)) rfl ⟨rfl, KF.out.mono (fun F h => ?_)⟩
  exact star_drop2 (star_drop2 (star_drop2 (st3 h)))
set_option maxHeartbeats 1600000 in
theorem o_at_lr77_yes {w0 w : World} {b fr : Nat} {s : List UInt8} {R : Asn} (h : Own w0 w (Star (rmA b fr s) R)) (hR : Stable R) (hf : fr ≤ 256) (r : Int) (hr : i64 r) (op : Int) (rd ia ib' : Nat) (im : Int) (p bv : Int) (hp : Go.Proofs.YtngeabphjdfdgaaGreatDoor.P.u64 p) (hbv : word bv) (d : DN) (hop : op = 77) (hc : rchB fr s r p 8 1 = true) :
    Calls Tryz.prog 54 #[.pointer (some ⟨b, 0, none⟩), .int .i64 r, .agg (insC ⟨op, rd, ia, ib', im⟩), .int .u64 p, .int .u64 bv, .agg (dnC d)] w fun e w' => e = .returned (.agg (dnC { d with sets := true, v := sgnF (loadV s (rchV fr s r p 8 1) 8) (8 * 8), hd := true, at_ := rchV fr s r p 8 1 })) ∧ Own w0 w' (Star (rmA b fr s) R) := by
  subst hop
  have hi := mem_in h hR ⟨77, rd, ia, ib', im⟩ d
  have hu1 := rch_u64 (s := s) (r := r) (n := 8) (acc := 1) hf hp
  have hu2 := rch_u64 (s := s) (r := r) (n := 8) (acc := 2) hf hp
  clear h
  have HR := Lib.hid hR
  have HP := Lib.hid hp
  have HRI := Lib.hid hr
  have HW1 := Lib.hid (rch_walk (fr := fr) (s := s) (r := r) (p := p) (n := 8) (acc := 1))
  have HW2 := Lib.hid (rch_walk (fr := fr) (s := s) (r := r) (p := p) (n := 8) (acc := 2))
  obtain ⟨V1, hV1⟩ : ∃ V, rchV fr s r p 8 1 = V := ⟨_, rfl⟩
  obtain ⟨V2, hV2⟩ : ∃ V, rchV fr s r p 8 2 = V := ⟨_, rfl⟩
  obtain ⟨B1, hB1⟩ : ∃ B, rchB fr s r p 8 1 = B := ⟨_, rfl⟩
  obtain ⟨B2, hB2⟩ : ∃ B, rchB fr s r p 8 2 = B := ⟨_, rfl⟩
  rw [hV1] at hu1 HW1
  rw [hV2] at hu2 HW2
  rw [hB1] at HW1
  rw [hB2] at HW2
  have HV1 := Lib.hid hu1.1
  have HV2 := Lib.hid hu2.1
  have HB1 := Lib.hid hB1
  have HB2 := Lib.hid hB2
  obtain ⟨U1, hU1⟩ : ∃ V, walkV fr s r p 1 = V := ⟨_, rfl⟩
  obtain ⟨U2, hU2⟩ : ∃ V, walkV fr s r p 2 = V := ⟨_, rfl⟩
  rw [hU1] at HW1
  rw [hU2] at HW2
  have HU1 := Lib.hid hU1
  have HU2 := Lib.hid hU2
  rw [hV1]
  obtain rfl : B1 = true := hB1.symm.trans hc
  have hw := HW1.out rfl
  subst hw
  clear hc HW1 HW2
  have hvw := loadV_word s U1 8
  obtain ⟨L, hL⟩ : ∃ L, loadV s U1 8 = L := ⟨_, rfl⟩
  rw [hL] at hvw ⊢
  have HL := Lib.hid hvw
  have HLE := Lib.hid hL
  clear hL hvw
  obtain ⟨G, hG⟩ : ∃ G, sgnF L (8 * 8) = G := ⟨_, rfl⟩
  rw [hG]
  have HGE := Lib.hid hG
  clear hG
  clear hp hr hu1 hu2 hR hU1 hU2 hB1 hB2 hV1 hV2
  go_enter Tryz.func54, Tryz.ntmps54
  go_upto_region 1 with fail
  generalize (World.alloc _ (.cells _ 74)) = w1 at *
  generalize w.heap.size + 1 + 1 = zb at *
  generalize w.heap.size + 1 = db at *
  generalize w.heap.size = ib at *
  have S0 := Lib.hid (stable_star (stable_blk db (.cells (dnC d) 74)) (stable_star (stable_blk ib (.cells (insC ⟨77, rd, ia, ib', im⟩) 61)) (stable_star (stable_blk zb (.cells (dnC dZ) 74)) HR.out)))
  have HI := Lib.hid hi
  clear hi
  have c0 := blk_cell HI.out.right.right.blk 0 (v := .int .i64 (77)) rfl
  have CA := Lib.hid (o_access HI.out S0.out r p 8 1 HP.out HRI.out (.inr (.inr (.inr rfl))) U1 true HU1.out HB1.out)
  go_upto_region 7 with (go_at_call 22; refine CA.out.mono ?_; rintro e w2 ⟨rfl, h2⟩; have K2 := Lib.hid h2; clear h2)
  clear CA HI c0
  have CA := Lib.hid (o_access K2.out S0.out r p 8 2 HP.out HRI.out (.inr (.inr (.inr rfl))) U2 B2 HU2.out HB2.out)
  go_upto_region 8 with (go_at_call 22; refine CA.out.mono ?_; rintro e w3 ⟨rfl, h3⟩; have K3 := Lib.hid h3; clear h3)
  clear CA K2
  have c0 := blk_cell K3.out.right.right.blk 0 (v := .int .i64 (77)) rfl
  have K4 := Lib.hid (K3.out.mono (fun F h => star_swap2 h))
  have SX := Lib.hid (stable_star (stable_rm b fr s) (stable_star (stable_blk ib (.cells (insC ⟨77, rd, ia, ib', im⟩) 61)) (stable_star (stable_blk zb (.cells (dnC dZ) 74)) HR.out)))
  clear K3
  have c0 := blk_cell K4.out.blk 0 (v := .bool d.sets) rfl
  have f0 := blk_frozen K4.out.blk 0
  have K5 : RowKit.Hid (Own w0 (w3.setCell ⟨db, 0, none⟩ (.bool true)) (Star (blkA db (.cells (dnC { d with sets := true }) 74)) _)) := Lib.hid (K4.out.set SX.out 0 (.bool true))
  go_upto_region 13 with fail
  clear c0 f0
  clear K4
  generalize World.setCell w3 _ _ = w5 at *
  have SY := Lib.hid (stable_star (stable_blk db (.cells (dnC { d with sets := true }) 74)) (stable_star (stable_blk ib (.cells (insC ⟨77, rd, ia, ib', im⟩) 61)) (stable_star (stable_blk zb (.cells (dnC dZ) 74)) HR.out)))
  have CL0 := o_load5 K5.out.swap2 SY.out U1 8 HV1.out
  rw [HLE.out] at CL0
  have CL := Lib.hid CL0
  have CG0 := c_rsign L (8 * 8) HL.out
  rw [HGE.out] at CG0
  have CG := Lib.hid CG0
  clear CL0 CG0
  go_upto_region 14 with (first
    | (go_at_call 24; refine CL.out.mono ?_; rintro e w6 ⟨rfl, h6⟩; have K6 := Lib.hid h6.swap2; have c1 := blk_cell h6.right.blk 1 (v := .int .u64 d.v) rfl; have f1 := blk_frozen h6.right.blk 1; clear h6)
    | (go_at_call 81; refine (CG.out _).mono ?_; rintro e w7 ⟨rfl, rfl⟩))
  have K7 : RowKit.Hid (Own w0 (World.setCell _ ⟨db, 1, none⟩ (.int .u64 G)) (Star (blkA db (.cells (dnC { d with sets := true, v := G }) 74)) _)) := Lib.hid (K6.out.set SX.out 1 (.int .u64 G))
  clear CL CG K5 K6 c1 f1
  generalize World.setCell _ ⟨db, 1, none⟩ _ = w8 at *
  have c6 := blk_cell K7.out.blk 6 (v := .bool d.hd) rfl
  have f6 := blk_frozen K7.out.blk 6
  have c7 := blk_cell K7.out.blk 7 (v := .int .u64 d.at_) rfl
  have f7 := blk_frozen K7.out.blk 7
  have KD : RowKit.Hid (Own w0 ((w8.setCell ⟨db, 6, none⟩ (.bool true)).setCell ⟨db, 7, none⟩ (.int .u64 U1)) (Star (blkA db (.cells (dnC { d with sets := true, v := G, hd := true, at_ := U1 }) 74)) _)) := Lib.hid ((K7.out.set SX.out 6 (.bool true)).set SX.out 7 (.int .u64 U1))
  go_upto_region 16 with fail
  clear c6 f6 c7 f7
  clear K7
  generalize World.setCell (World.setCell w8 _ _) _ _ = w9 at *
  have L6 := Lib.hid KD.out.blk
  have KZ := Lib.hid (KD.out.mono (fun F h => st4 h))
  have SZ := Lib.hid (stable_star (stable_blk db (.cells (dnC { d with sets := true, v := G, hd := true, at_ := U1 }) 74)) (stable_star (stable_rm b fr s) (stable_star (stable_blk ib (.cells (insC ⟨77, rd, ia, ib', im⟩) 61)) HR.out)))
  have KF := Lib.hid (KZ.out.setRow SZ.out (dnC { d with sets := true, v := G, hd := true, at_ := U1 }))
  go_wp2_with (first
    | (refine wpList_load_row rfl 74 _ rfl _ rfl 74 _ (0, 0) _ L6.out Tryz.underlying74 rfl (dn_info _) ?_)
    | (refine wpList_store_row rfl 74 _ _ rfl _ _ rfl rfl 74 _ KZ.out.blk (dn_info _) rfl (dn_all1 _) ?_))
  refine bodyPost_ret (res_done rfl _ _ _ zb _ rfl (ldDn KF.out.blk)) rfl ⟨rfl, KF.out.mono (fun F h => ?_)⟩
  exact star_drop2 (star_drop2 (star_drop2 (st3 h)))
set_option maxHeartbeats 1600000 in
theorem o_at_lr77_no {w0 w : World} {b fr : Nat} {s : List UInt8} {R : Asn} (h : Own w0 w (Star (rmA b fr s) R)) (hR : Stable R) (hf : fr ≤ 256) (r : Int) (hr : i64 r) (op : Int) (rd ia ib' : Nat) (im : Int) (p bv : Int) (hp : Go.Proofs.YtngeabphjdfdgaaGreatDoor.P.u64 p) (hbv : word bv) (d : DN) (hop : op = 77) (hc : rchB fr s r p 8 1 = false) :
    Calls Tryz.prog 54 #[.pointer (some ⟨b, 0, none⟩), .int .i64 r, .agg (insC ⟨op, rd, ia, ib', im⟩), .int .u64 p, .int .u64 bv, .agg (dnC d)] w fun e w' => e = .returned (.agg (dnC { d with e := ⟨5, p, false⟩ })) ∧ Own w0 w' (Star (rmA b fr s) R) := by
  subst hop
  have hi := mem_in h hR ⟨77, rd, ia, ib', im⟩ d
  have hu1 := rch_u64 (s := s) (r := r) (n := 8) (acc := 1) hf hp
  have hu2 := rch_u64 (s := s) (r := r) (n := 8) (acc := 2) hf hp
  clear h
  have HR := Lib.hid hR
  have HP := Lib.hid hp
  have HRI := Lib.hid hr
  have HW1 := Lib.hid (rch_walk (fr := fr) (s := s) (r := r) (p := p) (n := 8) (acc := 1))
  have HW2 := Lib.hid (rch_walk (fr := fr) (s := s) (r := r) (p := p) (n := 8) (acc := 2))
  obtain ⟨V1, hV1⟩ : ∃ V, rchV fr s r p 8 1 = V := ⟨_, rfl⟩
  obtain ⟨V2, hV2⟩ : ∃ V, rchV fr s r p 8 2 = V := ⟨_, rfl⟩
  obtain ⟨B1, hB1⟩ : ∃ B, rchB fr s r p 8 1 = B := ⟨_, rfl⟩
  obtain ⟨B2, hB2⟩ : ∃ B, rchB fr s r p 8 2 = B := ⟨_, rfl⟩
  rw [hV1] at hu1 HW1
  rw [hV2] at hu2 HW2
  rw [hB1] at HW1
  rw [hB2] at HW2
  have HV1 := Lib.hid hu1.1
  have HV2 := Lib.hid hu2.1
  have HB1 := Lib.hid hB1
  have HB2 := Lib.hid hB2
  obtain ⟨U1, hU1⟩ : ∃ V, walkV fr s r p 1 = V := ⟨_, rfl⟩
  obtain ⟨U2, hU2⟩ : ∃ V, walkV fr s r p 2 = V := ⟨_, rfl⟩
  rw [hU1] at HW1
  rw [hU2] at HW2
  have HU1 := Lib.hid hU1
  have HU2 := Lib.hid hU2
  obtain rfl : B1 = false := hB1.symm.trans hc
  clear hc HW1 HW2
  clear hp hr hu1 hu2 hR hU1 hU2 hB1 hB2 hV1 hV2
  go_enter Tryz.func54, Tryz.ntmps54
  go_upto_region 1 with fail
  generalize (World.alloc _ (.cells _ 74)) = w1 at *
  generalize w.heap.size + 1 + 1 = zb at *
  generalize w.heap.size + 1 = db at *
  generalize w.heap.size = ib at *
  have S0 := Lib.hid (stable_star (stable_blk db (.cells (dnC d) 74)) (stable_star (stable_blk ib (.cells (insC ⟨77, rd, ia, ib', im⟩) 61)) (stable_star (stable_blk zb (.cells (dnC dZ) 74)) HR.out)))
  have HI := Lib.hid hi
  clear hi
  have c0 := blk_cell HI.out.right.right.blk 0 (v := .int .i64 (77)) rfl
  have CA := Lib.hid (o_access HI.out S0.out r p 8 1 HP.out HRI.out (.inr (.inr (.inr rfl))) U1 false HU1.out HB1.out)
  go_upto_region 7 with (go_at_call 22; refine CA.out.mono ?_; rintro e w2 ⟨rfl, h2⟩; have K2 := Lib.hid h2; clear h2)
  clear CA HI c0
  have CA := Lib.hid (o_access K2.out S0.out r p 8 2 HP.out HRI.out (.inr (.inr (.inr rfl))) U2 B2 HU2.out HB2.out)
  go_upto_region 8 with (go_at_call 22; refine CA.out.mono ?_; rintro e w3 ⟨rfl, h3⟩; have K3 := Lib.hid h3; clear h3)
  clear CA K2
  have c0 := blk_cell K3.out.right.right.blk 0 (v := .int .i64 (77)) rfl
  have K4 := Lib.hid (K3.out.mono (fun F h => star_swap2 h))
  have SX := Lib.hid (stable_star (stable_rm b fr s) (stable_star (stable_blk ib (.cells (insC ⟨77, rd, ia, ib', im⟩) 61)) (stable_star (stable_blk zb (.cells (dnC dZ) 74)) HR.out)))
  clear K3
  have c3 := blk_cell K4.out.blk 3 (v := .int .i64 d.e.k) rfl
  have f3 := blk_frozen K4.out.blk 3
  have c4 := blk_cell K4.out.blk 4 (v := .int .u64 d.e.ad) rfl
  have f4 := blk_frozen K4.out.blk 4
  have c5 := blk_cell K4.out.blk 5 (v := .bool d.e.wr) rfl
  have f5 := blk_frozen K4.out.blk 5
  have KD : RowKit.Hid (Own w0 (((w3.setCell ⟨db, 3, none⟩ (.int .i64 5)).setCell ⟨db, 4, none⟩ (.int .u64 p)).setCell ⟨db, 5, none⟩ (.bool false)) (Star (blkA db (.cells (dnC { d with e := ⟨5, p, false⟩ }) 74)) _)) := Lib.hid (((K4.out.set SX.out 3 (.int .i64 5)).set SX.out 4 (.int .u64 p)).set SX.out 5 (.bool false))
  go_upto_region 11 with fail
  clear c3 f3 c4 f4 c5 f5
  clear K4
  generalize World.setCell (World.setCell (World.setCell w3 _ _) _ _) _ _ = w4 at *
  have L6 := Lib.hid KD.out.blk
  have KZ := Lib.hid (KD.out.mono (fun F h => st4 h))
  have SZ := Lib.hid (stable_star (stable_blk db (.cells (dnC { d with e := ⟨5, p, false⟩ }) 74)) (stable_star (stable_rm b fr s) (stable_star (stable_blk ib (.cells (insC ⟨77, rd, ia, ib', im⟩) 61)) HR.out)))
  have KF := Lib.hid (KZ.out.setRow SZ.out (dnC { d with e := ⟨5, p, false⟩ }))
  go_wp2_with (first
    | (refine wpList_load_row rfl 74 _ rfl _ rfl 74 _ (0, 0) _ L6.out Tryz.underlying74 rfl (dn_info _) ?_)
    | (refine wpList_store_row rfl 74 _ _ rfl _ _ rfl rfl 74 _ KZ.out.blk (dn_info _) rfl (dn_all1 _) ?_))
  refine bodyPost_ret (res_done rfl _ _ _ zb _ rfl (ldDn KF.out.blk)) rfl ⟨rfl, KF.out.mono (fun F h => ?_)⟩
  exact star_drop2 (star_drop2 (star_drop2 (st3 h)))
set_option maxHeartbeats 1600000 in
theorem o_at_sc67_no {w0 w : World} {b fr : Nat} {s : List UInt8} {R : Asn} (h : Own w0 w (Star (rmA b fr s) R)) (hR : Stable R) (hf : fr ≤ 256) (r : Int) (hr : i64 r) (op : Int) (rd ia ib' : Nat) (im : Int) (p bv : Int) (hp : Go.Proofs.YtngeabphjdfdgaaGreatDoor.P.u64 p) (hbv : word bv) (d : DN) (hop : op = 67) (hc : rchB fr s r p 4 2 = false) :
    Calls Tryz.prog 54 #[.pointer (some ⟨b, 0, none⟩), .int .i64 r, .agg (insC ⟨op, rd, ia, ib', im⟩), .int .u64 p, .int .u64 bv, .agg (dnC d)] w fun e w' => e = .returned (.agg (dnC { d with e := ⟨6, p, false⟩ })) ∧ Own w0 w' (Star (rmA b fr s) R) := by
  subst hop
  have hi := mem_in h hR ⟨67, rd, ia, ib', im⟩ d
  have hu1 := rch_u64 (s := s) (r := r) (n := 4) (acc := 1) hf hp
  have hu2 := rch_u64 (s := s) (r := r) (n := 4) (acc := 2) hf hp
  clear h
  have HR := Lib.hid hR
  have HP := Lib.hid hp
  have HRI := Lib.hid hr
  have HW1 := Lib.hid (rch_walk (fr := fr) (s := s) (r := r) (p := p) (n := 4) (acc := 1))
  have HW2 := Lib.hid (rch_walk (fr := fr) (s := s) (r := r) (p := p) (n := 4) (acc := 2))
  obtain ⟨V1, hV1⟩ : ∃ V, rchV fr s r p 4 1 = V := ⟨_, rfl⟩
  obtain ⟨V2, hV2⟩ : ∃ V, rchV fr s r p 4 2 = V := ⟨_, rfl⟩
  obtain ⟨B1, hB1⟩ : ∃ B, rchB fr s r p 4 1 = B := ⟨_, rfl⟩
  obtain ⟨B2, hB2⟩ : ∃ B, rchB fr s r p 4 2 = B := ⟨_, rfl⟩
  rw [hV1] at hu1 HW1
  rw [hV2] at hu2 HW2
  rw [hB1] at HW1
  rw [hB2] at HW2
  have HV1 := Lib.hid hu1.1
  have HV2 := Lib.hid hu2.1
  have HB1 := Lib.hid hB1
  have HB2 := Lib.hid hB2
  obtain ⟨U1, hU1⟩ : ∃ V, walkV fr s r p 1 = V := ⟨_, rfl⟩
  obtain ⟨U2, hU2⟩ : ∃ V, walkV fr s r p 2 = V := ⟨_, rfl⟩
  rw [hU1] at HW1
  rw [hU2] at HW2
  have HU1 := Lib.hid hU1
  have HU2 := Lib.hid hU2
  obtain rfl : B2 = false := hB2.symm.trans hc
  clear hc HW1 HW2
  clear hp hr hu1 hu2 hR hU1 hU2 hB1 hB2 hV1 hV2
  go_enter Tryz.func54, Tryz.ntmps54
  go_upto_region 1 with fail
  generalize (World.alloc _ (.cells _ 74)) = w1 at *
  generalize w.heap.size + 1 + 1 = zb at *
  generalize w.heap.size + 1 = db at *
  generalize w.heap.size = ib at *
  have S0 := Lib.hid (stable_star (stable_blk db (.cells (dnC d) 74)) (stable_star (stable_blk ib (.cells (insC ⟨67, rd, ia, ib', im⟩) 61)) (stable_star (stable_blk zb (.cells (dnC dZ) 74)) HR.out)))
  have HI := Lib.hid hi
  clear hi
  have c0 := blk_cell HI.out.right.right.blk 0 (v := .int .i64 (67)) rfl
  have CA := Lib.hid (o_access HI.out S0.out r p 4 1 HP.out HRI.out (.inr (.inr (.inl rfl))) U1 B1 HU1.out HB1.out)
  go_upto_region 7 with (go_at_call 22; refine CA.out.mono ?_; rintro e w2 ⟨rfl, h2⟩; have K2 := Lib.hid h2; clear h2)
  clear CA HI c0
  have CA := Lib.hid (o_access K2.out S0.out r p 4 2 HP.out HRI.out (.inr (.inr (.inl rfl))) U2 false HU2.out HB2.out)
  go_upto_region 8 with (go_at_call 22; refine CA.out.mono ?_; rintro e w3 ⟨rfl, h3⟩; have K3 := Lib.hid h3; clear h3)
  clear CA K2
  have c0 := blk_cell K3.out.right.right.blk 0 (v := .int .i64 (67)) rfl
  have K4 := Lib.hid (K3.out.mono (fun F h => star_swap2 h))
  have SX := Lib.hid (stable_star (stable_rm b fr s) (stable_star (stable_blk ib (.cells (insC ⟨67, rd, ia, ib', im⟩) 61)) (stable_star (stable_blk zb (.cells (dnC dZ) 74)) HR.out)))
  clear K3
  have c3 := blk_cell K4.out.blk 3 (v := .int .i64 d.e.k) rfl
  have f3 := blk_frozen K4.out.blk 3
  have c4 := blk_cell K4.out.blk 4 (v := .int .u64 d.e.ad) rfl
  have f4 := blk_frozen K4.out.blk 4
  have c5 := blk_cell K4.out.blk 5 (v := .bool d.e.wr) rfl
  have f5 := blk_frozen K4.out.blk 5
  have KD : RowKit.Hid (Own w0 (((w3.setCell ⟨db, 3, none⟩ (.int .i64 6)).setCell ⟨db, 4, none⟩ (.int .u64 p)).setCell ⟨db, 5, none⟩ (.bool false)) (Star (blkA db (.cells (dnC { d with e := ⟨6, p, false⟩ }) 74)) _)) := Lib.hid (((K4.out.set SX.out 3 (.int .i64 6)).set SX.out 4 (.int .u64 p)).set SX.out 5 (.bool false))
  go_upto_region 19 with fail
  clear c3 f3 c4 f4 c5 f5
  clear K4
  generalize World.setCell (World.setCell (World.setCell w3 _ _) _ _) _ _ = w4 at *
  have L6 := Lib.hid KD.out.blk
  have KZ := Lib.hid (KD.out.mono (fun F h => st4 h))
  have SZ := Lib.hid (stable_star (stable_blk db (.cells (dnC { d with e := ⟨6, p, false⟩ }) 74)) (stable_star (stable_rm b fr s) (stable_star (stable_blk ib (.cells (insC ⟨67, rd, ia, ib', im⟩) 61)) HR.out)))
  have KF := Lib.hid (KZ.out.setRow SZ.out (dnC { d with e := ⟨6, p, false⟩ }))
  go_wp2_with (first
    | (refine wpList_load_row rfl 74 _ rfl _ rfl 74 _ (0, 0) _ L6.out Tryz.underlying74 rfl (dn_info _) ?_)
    | (refine wpList_store_row rfl 74 _ _ rfl _ _ rfl rfl 74 _ KZ.out.blk (dn_info _) rfl (dn_all1 _) ?_))
  refine bodyPost_ret (res_done rfl _ _ _ zb _ rfl (ldDn KF.out.blk)) rfl ⟨rfl, KF.out.mono (fun F h => ?_)⟩
  exact star_drop2 (star_drop2 (star_drop2 (st3 h)))
set_option maxHeartbeats 1600000 in
theorem o_at_sc67_miss {w0 w : World} {b fr : Nat} {s : List UInt8} {R : Asn} (h : Own w0 w (Star (rmA b fr s) R)) (hR : Stable R) (hf : fr ≤ 256) (r : Int) (hr : i64 r) (op : Int) (rd ia ib' : Nat) (im : Int) (p bv : Int) (hp : Go.Proofs.YtngeabphjdfdgaaGreatDoor.P.u64 p) (hbv : word bv) (d : DN) (hop : op = 67) (hc : rchB fr s r p 4 2 = true) (hh : (d.hd && decide (d.at_ = rchV fr s r p 4 2)) = false) :
    Calls Tryz.prog 54 #[.pointer (some ⟨b, 0, none⟩), .int .i64 r, .agg (insC ⟨op, rd, ia, ib', im⟩), .int .u64 p, .int .u64 bv, .agg (dnC d)] w fun e w' => e = .returned (.agg (dnC { d with sets := true, v := 1, hd := false, at_ := 0 })) ∧ Own w0 w' (Star (rmA b fr s) R) := by
  subst hop
  have hi := mem_in h hR ⟨67, rd, ia, ib', im⟩ d
  have hu1 := rch_u64 (s := s) (r := r) (n := 4) (acc := 1) hf hp
  have hu2 := rch_u64 (s := s) (r := r) (n := 4) (acc := 2) hf hp
  clear h
  have HR := Lib.hid hR
  have HP := Lib.hid hp
  have HRI := Lib.hid hr
  have HW1 := Lib.hid (rch_walk (fr := fr) (s := s) (r := r) (p := p) (n := 4) (acc := 1))
  have HW2 := Lib.hid (rch_walk (fr := fr) (s := s) (r := r) (p := p) (n := 4) (acc := 2))
  obtain ⟨V1, hV1⟩ : ∃ V, rchV fr s r p 4 1 = V := ⟨_, rfl⟩
  obtain ⟨V2, hV2⟩ : ∃ V, rchV fr s r p 4 2 = V := ⟨_, rfl⟩
  obtain ⟨B1, hB1⟩ : ∃ B, rchB fr s r p 4 1 = B := ⟨_, rfl⟩
  obtain ⟨B2, hB2⟩ : ∃ B, rchB fr s r p 4 2 = B := ⟨_, rfl⟩
  rw [hV1] at hu1 HW1
  rw [hV2] at hu2 HW2
  rw [hB1] at HW1
  rw [hB2] at HW2
  have HV1 := Lib.hid hu1.1
  have HV2 := Lib.hid hu2.1
  have HB1 := Lib.hid hB1
  have HB2 := Lib.hid hB2
  obtain ⟨U1, hU1⟩ : ∃ V, walkV fr s r p 1 = V := ⟨_, rfl⟩
  obtain ⟨U2, hU2⟩ : ∃ V, walkV fr s r p 2 = V := ⟨_, rfl⟩
  rw [hU1] at HW1
  rw [hU2] at HW2
  have HU1 := Lib.hid hU1
  have HU2 := Lib.hid hU2
  rw [hV2] at hh
  obtain rfl : B2 = true := hB2.symm.trans hc
  have hw := HW2.out rfl
  subst hw
  clear hc HW1 HW2
  clear hp hr hu1 hu2 hR hU1 hU2 hB1 hB2 hV1 hV2
  go_enter Tryz.func54, Tryz.ntmps54
  go_upto_region 1 with fail
  generalize (World.alloc _ (.cells _ 74)) = w1 at *
  generalize w.heap.size + 1 + 1 = zb at *
  generalize w.heap.size + 1 = db at *
  generalize w.heap.size = ib at *
  have S0 := Lib.hid (stable_star (stable_blk db (.cells (dnC d) 74)) (stable_star (stable_blk ib (.cells (insC ⟨67, rd, ia, ib', im⟩) 61)) (stable_star (stable_blk zb (.cells (dnC dZ) 74)) HR.out)))
  have HI := Lib.hid hi
  clear hi
  have c0 := blk_cell HI.out.right.right.blk 0 (v := .int .i64 (67)) rfl
  have CA := Lib.hid (o_access HI.out S0.out r p 4 1 HP.out HRI.out (.inr (.inr (.inl rfl))) U1 B1 HU1.out HB1.out)
  go_upto_region 7 with (go_at_call 22; refine CA.out.mono ?_; rintro e w2 ⟨rfl, h2⟩; have K2 := Lib.hid h2; clear h2)
  clear CA HI c0
  have CA := Lib.hid (o_access K2.out S0.out r p 4 2 HP.out HRI.out (.inr (.inr (.inl rfl))) U2 true HU2.out HB2.out)
  go_upto_region 8 with (go_at_call 22; refine CA.out.mono ?_; rintro e w3 ⟨rfl, h3⟩; have K3 := Lib.hid h3; clear h3)
  clear CA K2
  have c0 := blk_cell K3.out.right.right.blk 0 (v := .int .i64 (67)) rfl
  have K4 := Lib.hid (K3.out.mono (fun F h => star_swap2 h))
  have SX := Lib.hid (stable_star (stable_rm b fr s) (stable_star (stable_blk ib (.cells (insC ⟨67, rd, ia, ib', im⟩) 61)) (stable_star (stable_blk zb (.cells (dnC dZ) 74)) HR.out)))
  clear K3
  have c0 := blk_cell K4.out.blk 0 (v := .bool d.sets) rfl
  have f0 := blk_frozen K4.out.blk 0
  have K5 : RowKit.Hid (Own w0 (w3.setCell ⟨db, 0, none⟩ (.bool true)) (Star (blkA db (.cells (dnC { d with sets := true }) 74)) _)) := Lib.hid (K4.out.set SX.out 0 (.bool true))
  go_upto_region 21 with fail
  clear c0 f0
  clear K4
  generalize World.setCell w3 _ _ = w5 at *
  have c1 := blk_cell K5.out.blk 1 (v := .int .u64 d.v) rfl
  have f1 := blk_frozen K5.out.blk 1
  have K6 : RowKit.Hid (Own w0 (w5.setCell ⟨db, 1, none⟩ (.int .u64 1)) (Star (blkA db (.cells (dnC { d with sets := true, v := 1 }) 74)) _)) := Lib.hid (K5.out.set SX.out 1 (.int .u64 1))
  go_upto_region 24 with fail
  clear c1 f1
  clear K5
  generalize World.setCell w5 _ _ = w6 at *
  have c6 := blk_cell K6.out.blk 6 (v := .bool d.hd) rfl
  have f6 := blk_frozen K6.out.blk 6
  have c7 := blk_cell K6.out.blk 7 (v := .int .u64 d.at_) rfl
  have f7 := blk_frozen K6.out.blk 7
  have K7 : RowKit.Hid (Own w0 ((w6.setCell ⟨db, 6, none⟩ (.bool false)).setCell ⟨db, 7, none⟩ (.int .u64 0)) (Star (blkA db (.cells (dnC { d with sets := true, v := 1, hd := false, at_ := 0 }) 74)) _)) := Lib.hid ((K6.out.set SX.out 6 (.bool false)).set SX.out 7 (.int .u64 0))
  obtain ⟨hd, hhd⟩ : ∃ q, d.hd = q := ⟨_, rfl⟩
  rw [hhd] at c6 hh
  clear hhd
  have h3 : hd = false ∨ (hd = true ∧ (d.at_ == U2) = false) := by
    cases hd with
    | false => exact .inl rfl
    | true => exact .inr ⟨rfl, hh⟩
  clear hh
  rcases h3 with rfl | ⟨rfl, h4⟩
  all_goals
    go_upto_region 28 with fail
    clear c6 f6 c7 f7 K6
    generalize World.setCell (World.setCell w6 _ _) _ _ = w7 at *
    have KD := K7
    have L6 := Lib.hid KD.out.blk
    have KZ := Lib.hid (KD.out.mono (fun F h => st4 h))
    have SZ := Lib.hid (stable_star (stable_blk db (.cells (dnC { d with sets := true, v := 1, hd := false, at_ := 0 }) 74)) (stable_star (stable_rm b fr s) (stable_star (stable_blk ib (.cells (insC ⟨67, rd, ia, ib', im⟩) 61)) HR.out)))
    have KF := Lib.hid (KZ.out.setRow SZ.out (dnC { d with sets := true, v := 1, hd := false, at_ := 0 }))
    go_wp2_with (first
      | (refine wpList_load_row rfl 74 _ rfl _ rfl 74 _ (0, 0) _ L6.out Tryz.underlying74 rfl (dn_info _) ?_)
      | (refine wpList_store_row rfl 74 _ _ rfl _ _ rfl rfl 74 _ KZ.out.blk (dn_info _) rfl (dn_all1 _) ?_))
    refine bodyPost_ret (res_done rfl _ _ _ zb _ rfl (ldDn KF.out.blk)) rfl ⟨rfl, KF.out.mono (fun F h => ?_)⟩
    exact star_drop2 (star_drop2 (star_drop2 (st3 h)))
set_option maxHeartbeats 1600000 in
theorem o_at_sc67_hit {w0 w : World} {b fr : Nat} {s : List UInt8} {R : Asn} (h : Own w0 w (Star (rmA b fr s) R)) (hR : Stable R) (hf : fr ≤ 256) (r : Int) (hr : i64 r) (op : Int) (rd ia ib' : Nat) (im : Int) (p bv : Int) (hp : Go.Proofs.YtngeabphjdfdgaaGreatDoor.P.u64 p) (hbv : word bv) (d : DN) (hop : op = 67) (hc : rchB fr s r p 4 2 = true) (hh : (d.hd && decide (d.at_ = rchV fr s r p 4 2)) = true) :
    Calls Tryz.prog 54 #[.pointer (some ⟨b, 0, none⟩), .int .i64 r, .agg (insC ⟨op, rd, ia, ib', im⟩), .int .u64 p, .int .u64 bv, .agg (dnC d)] w fun e w' => e = .returned (.agg (dnC ⟨true, 0, d.pc, ⟨0, rchV fr s r p 4 2, true⟩, false, 0⟩)) ∧ Own w0 w' (Star (rmA b fr (storeS s (rchV fr s r p 4 2) 4 bv)) R) := by
  subst hop
  have hi := mem_in h hR ⟨67, rd, ia, ib', im⟩ d
  have hu1 := rch_u64 (s := s) (r := r) (n := 4) (acc := 1) hf hp
  have hu2 := rch_u64 (s := s) (r := r) (n := 4) (acc := 2) hf hp
  clear h
  have HR := Lib.hid hR
  have HP := Lib.hid hp
  have HRI := Lib.hid hr
  have HW1 := Lib.hid (rch_walk (fr := fr) (s := s) (r := r) (p := p) (n := 4) (acc := 1))
  have HW2 := Lib.hid (rch_walk (fr := fr) (s := s) (r := r) (p := p) (n := 4) (acc := 2))
  obtain ⟨V1, hV1⟩ : ∃ V, rchV fr s r p 4 1 = V := ⟨_, rfl⟩
  obtain ⟨V2, hV2⟩ : ∃ V, rchV fr s r p 4 2 = V := ⟨_, rfl⟩
  obtain ⟨B1, hB1⟩ : ∃ B, rchB fr s r p 4 1 = B := ⟨_, rfl⟩
  obtain ⟨B2, hB2⟩ : ∃ B, rchB fr s r p 4 2 = B := ⟨_, rfl⟩
  rw [hV1] at hu1 HW1
  rw [hV2] at hu2 HW2
  rw [hB1] at HW1
  rw [hB2] at HW2
  have HV1 := Lib.hid hu1.1
  have HV2 := Lib.hid hu2.1
  have HB1 := Lib.hid hB1
  have HB2 := Lib.hid hB2
  obtain ⟨U1, hU1⟩ : ∃ V, walkV fr s r p 1 = V := ⟨_, rfl⟩
  obtain ⟨U2, hU2⟩ : ∃ V, walkV fr s r p 2 = V := ⟨_, rfl⟩
  rw [hU1] at HW1
  rw [hU2] at HW2
  have HU1 := Lib.hid hU1
  have HU2 := Lib.hid hU2
  rw [hV2] at hh ⊢
  obtain rfl : B2 = true := hB2.symm.trans hc
  have hw := HW2.out rfl
  subst hw
  clear hc HW1 HW2
  obtain ⟨z, hz⟩ : ∃ z, storeS s U2 4 bv = z := ⟨_, rfl⟩
  rw [hz]
  have HZE := Lib.hid hz
  clear hz
  clear hp hr hu1 hu2 hR hU1 hU2 hB1 hB2 hV1 hV2
  go_enter Tryz.func54, Tryz.ntmps54
  go_upto_region 1 with fail
  generalize (World.alloc _ (.cells _ 74)) = w1 at *
  generalize w.heap.size + 1 + 1 = zb at *
  generalize w.heap.size + 1 = db at *
  generalize w.heap.size = ib at *
  have S0 := Lib.hid (stable_star (stable_blk db (.cells (dnC d) 74)) (stable_star (stable_blk ib (.cells (insC ⟨67, rd, ia, ib', im⟩) 61)) (stable_star (stable_blk zb (.cells (dnC dZ) 74)) HR.out)))
  have HI := Lib.hid hi
  clear hi
  have c0 := blk_cell HI.out.right.right.blk 0 (v := .int .i64 (67)) rfl
  have CA := Lib.hid (o_access HI.out S0.out r p 4 1 HP.out HRI.out (.inr (.inr (.inl rfl))) U1 B1 HU1.out HB1.out)
  go_upto_region 7 with (go_at_call 22; refine CA.out.mono ?_; rintro e w2 ⟨rfl, h2⟩; have K2 := Lib.hid h2; clear h2)
  clear CA HI c0
  have CA := Lib.hid (o_access K2.out S0.out r p 4 2 HP.out HRI.out (.inr (.inr (.inl rfl))) U2 true HU2.out HB2.out)
  go_upto_region 8 with (go_at_call 22; refine CA.out.mono ?_; rintro e w3 ⟨rfl, h3⟩; have K3 := Lib.hid h3; clear h3)
  clear CA K2
  have c0 := blk_cell K3.out.right.right.blk 0 (v := .int .i64 (67)) rfl
  have K4 := Lib.hid (K3.out.mono (fun F h => star_swap2 h))
  have SX := Lib.hid (stable_star (stable_rm b fr s) (stable_star (stable_blk ib (.cells (insC ⟨67, rd, ia, ib', im⟩) 61)) (stable_star (stable_blk zb (.cells (dnC dZ) 74)) HR.out)))
  clear K3
  have c0 := blk_cell K4.out.blk 0 (v := .bool d.sets) rfl
  have f0 := blk_frozen K4.out.blk 0
  have K5 : RowKit.Hid (Own w0 (w3.setCell ⟨db, 0, none⟩ (.bool true)) (Star (blkA db (.cells (dnC { d with sets := true }) 74)) _)) := Lib.hid (K4.out.set SX.out 0 (.bool true))
  go_upto_region 21 with fail
  clear c0 f0
  clear K4
  generalize World.setCell w3 _ _ = w5 at *
  have c1 := blk_cell K5.out.blk 1 (v := .int .u64 d.v) rfl
  have f1 := blk_frozen K5.out.blk 1
  have K6 : RowKit.Hid (Own w0 (w5.setCell ⟨db, 1, none⟩ (.int .u64 1)) (Star (blkA db (.cells (dnC { d with sets := true, v := 1 }) 74)) _)) := Lib.hid (K5.out.set SX.out 1 (.int .u64 1))
  go_upto_region 24 with fail
  clear c1 f1
  clear K5
  generalize World.setCell w5 _ _ = w6 at *
  have c6 := blk_cell K6.out.blk 6 (v := .bool d.hd) rfl
  have f6 := blk_frozen K6.out.blk 6
  have c7 := blk_cell K6.out.blk 7 (v := .int .u64 d.at_) rfl
  have f7 := blk_frozen K6.out.blk 7
  have K7 : RowKit.Hid (Own w0 ((w6.setCell ⟨db, 6, none⟩ (.bool false)).setCell ⟨db, 7, none⟩ (.int .u64 0)) (Star (blkA db (.cells (dnC { d with sets := true, v := 1, hd := false, at_ := 0 }) 74)) _)) := Lib.hid ((K6.out.set SX.out 6 (.bool false)).set SX.out 7 (.int .u64 0))
  obtain ⟨hd, hhd⟩ : ∃ q, d.hd = q := ⟨_, rfl⟩
  rw [hhd] at c6 hh
  clear hhd
  rw [Bool.and_eq_true] at hh
  obtain ⟨rfl, h5⟩ := hh
  have h4 : (d.at_ == U2) = true := h5
  have h6 := of_decide_eq_true h5
  go_upto_region 29 with fail
  clear c6 f6 c7 f7 K6 h4 h5 h6
  generalize World.setCell (World.setCell w6 _ _) _ _ = w7 at *
  have c1 := blk_cell K7.out.blk 1 (v := .int .u64 { d with sets := true, v := 1, hd := false, at_ := 0 }.v) rfl
  have f1 := blk_frozen K7.out.blk 1
  have K8 : RowKit.Hid (Own w0 (w7.setCell ⟨db, 1, none⟩ (.int .u64 0)) (Star (blkA db (.cells (dnC { d with sets := true, v := 0, hd := false, at_ := 0 }) 74)) _)) := Lib.hid (K7.out.set SX.out 1 (.int .u64 0))
  go_upto_region 33 with fail
  clear c1 f1
  clear K7
  generalize World.setCell w7 _ _ = w8 at *
  have SY := Lib.hid (stable_star (stable_blk db (.cells (dnC { d with sets := true, v := 0, hd := false, at_ := 0 }) 74)) (stable_star (stable_blk ib (.cells (insC ⟨67, rd, ia, ib', im⟩) 61)) (stable_star (stable_blk zb (.cells (dnC dZ) 74)) HR.out)))
  obtain ⟨q, hq⟩ : ∃ q, loadR s U2 4 = q := ⟨_, rfl⟩
  have CS := Lib.hid (o_rstore K8.out.swap2 SY.out U2 4 bv q HV2.out hbv z HZE.out hq)
  clear hq
  go_upto_region 34 with (go_at_call 14; refine CS.out.mono ?_; rintro e w15 ⟨rfl, h5⟩; have K15 := Lib.hid h5.swap2; clear h5)
  clear CS K8 SX
  have SX := Lib.hid (stable_star (stable_rm b fr z) (stable_star (stable_blk ib (.cells (insC ⟨67, rd, ia, ib', im⟩) 61)) (stable_star (stable_blk zb (.cells (dnC dZ) 74)) HR.out)))
  have c3 := blk_cell K15.out.blk 3 (v := .int .i64 d.e.k) rfl
  have f3 := blk_frozen K15.out.blk 3
  have c4 := blk_cell K15.out.blk 4 (v := .int .u64 d.e.ad) rfl
  have f4 := blk_frozen K15.out.blk 4
  have c5 := blk_cell K15.out.blk 5 (v := .bool d.e.wr) rfl
  have f5 := blk_frozen K15.out.blk 5
  have KD : RowKit.Hid (Own w0 (((w15.setCell ⟨db, 3, none⟩ (.int .i64 0)).setCell ⟨db, 4, none⟩ (.int .u64 U2)).setCell ⟨db, 5, none⟩ (.bool true)) (Star (blkA db (.cells (dnC ⟨true, 0, d.pc, ⟨0, U2, true⟩, false, 0⟩) 74)) _)) := Lib.hid (((K15.out.set SX.out 3 (.int .i64 0)).set SX.out 4 (.int .u64 U2)).set SX.out 5 (.bool true))
  go_upto_region 35 with fail
  clear c3 f3 c4 f4 c5 f5
  clear K15
  generalize World.setCell (World.setCell (World.setCell w15 _ _) _ _) _ _ = w16 at *
  have L6 := Lib.hid KD.out.blk
  have KZ := Lib.hid (KD.out.mono (fun F h => st4 h))
  have SZ := Lib.hid (stable_star (stable_blk db (.cells (dnC ⟨true, 0, d.pc, ⟨0, U2, true⟩, false, 0⟩) 74)) (stable_star (stable_rm b fr z) (stable_star (stable_blk ib (.cells (insC ⟨67, rd, ia, ib', im⟩) 61)) HR.out)))
  have KF := Lib.hid (KZ.out.setRow SZ.out (dnC ⟨true, 0, d.pc, ⟨0, U2, true⟩, false, 0⟩))
  go_wp2_with (first
    | (refine wpList_load_row rfl 74 _ rfl _ rfl 74 _ (0, 0) _ L6.out Tryz.underlying74 rfl (dn_info _) ?_)
    | (refine wpList_store_row rfl 74 _ _ rfl _ _ rfl rfl 74 _ KZ.out.blk (dn_info _) rfl (dn_all1 _) ?_))
  refine bodyPost_ret (res_done rfl _ _ _ zb _ rfl (ldDn KF.out.blk)) rfl ⟨rfl, KF.out.mono (fun F h => ?_)⟩
  exact star_drop2 (star_drop2 (star_drop2 (st3 h)))
set_option maxHeartbeats 1600000 in
theorem o_at_sc78_no {w0 w : World} {b fr : Nat} {s : List UInt8} {R : Asn} (h : Own w0 w (Star (rmA b fr s) R)) (hR : Stable R) (hf : fr ≤ 256) (r : Int) (hr : i64 r) (op : Int) (rd ia ib' : Nat) (im : Int) (p bv : Int) (hp : Go.Proofs.YtngeabphjdfdgaaGreatDoor.P.u64 p) (hbv : word bv) (d : DN) (hop : op = 78) (hc : rchB fr s r p 8 2 = false) :
    Calls Tryz.prog 54 #[.pointer (some ⟨b, 0, none⟩), .int .i64 r, .agg (insC ⟨op, rd, ia, ib', im⟩), .int .u64 p, .int .u64 bv, .agg (dnC d)] w fun e w' => e = .returned (.agg (dnC { d with e := ⟨6, p, false⟩ })) ∧ Own w0 w' (Star (rmA b fr s) R) := by
  subst hop
  have hi := mem_in h hR ⟨78, rd, ia, ib', im⟩ d
  have hu1 := rch_u64 (s := s) (r := r) (n := 8) (acc := 1) hf hp
  have hu2 := rch_u64 (s := s) (r := r) (n := 8) (acc := 2) hf hp
  clear h
  have HR := Lib.hid hR
  have HP := Lib.hid hp
  have HRI := Lib.hid hr
  have HW1 := Lib.hid (rch_walk (fr := fr) (s := s) (r := r) (p := p) (n := 8) (acc := 1))
  have HW2 := Lib.hid (rch_walk (fr := fr) (s := s) (r := r) (p := p) (n := 8) (acc := 2))
  obtain ⟨V1, hV1⟩ : ∃ V, rchV fr s r p 8 1 = V := ⟨_, rfl⟩
  obtain ⟨V2, hV2⟩ : ∃ V, rchV fr s r p 8 2 = V := ⟨_, rfl⟩
  obtain ⟨B1, hB1⟩ : ∃ B, rchB fr s r p 8 1 = B := ⟨_, rfl⟩
  obtain ⟨B2, hB2⟩ : ∃ B, rchB fr s r p 8 2 = B := ⟨_, rfl⟩
  rw [hV1] at hu1 HW1
  rw [hV2] at hu2 HW2
  rw [hB1] at HW1
  rw [hB2] at HW2
  have HV1 := Lib.hid hu1.1
  have HV2 := Lib.hid hu2.1
  have HB1 := Lib.hid hB1
  have HB2 := Lib.hid hB2
  obtain ⟨U1, hU1⟩ : ∃ V, walkV fr s r p 1 = V := ⟨_, rfl⟩
  obtain ⟨U2, hU2⟩ : ∃ V, walkV fr s r p 2 = V := ⟨_, rfl⟩
  rw [hU1] at HW1
  rw [hU2] at HW2
  have HU1 := Lib.hid hU1
  have HU2 := Lib.hid hU2
  obtain rfl : B2 = false := hB2.symm.trans hc
  clear hc HW1 HW2
  clear hp hr hu1 hu2 hR hU1 hU2 hB1 hB2 hV1 hV2
  go_enter Tryz.func54, Tryz.ntmps54
  go_upto_region 1 with fail
  generalize (World.alloc _ (.cells _ 74)) = w1 at *
  generalize w.heap.size + 1 + 1 = zb at *
  generalize w.heap.size + 1 = db at *
  generalize w.heap.size = ib at *
  have S0 := Lib.hid (stable_star (stable_blk db (.cells (dnC d) 74)) (stable_star (stable_blk ib (.cells (insC ⟨78, rd, ia, ib', im⟩) 61)) (stable_star (stable_blk zb (.cells (dnC dZ) 74)) HR.out)))
  have HI := Lib.hid hi
  clear hi
  have c0 := blk_cell HI.out.right.right.blk 0 (v := .int .i64 (78)) rfl
  have CA := Lib.hid (o_access HI.out S0.out r p 8 1 HP.out HRI.out (.inr (.inr (.inr rfl))) U1 B1 HU1.out HB1.out)
  go_upto_region 7 with (go_at_call 22; refine CA.out.mono ?_; rintro e w2 ⟨rfl, h2⟩; have K2 := Lib.hid h2; clear h2)
  clear CA HI c0
  have CA := Lib.hid (o_access K2.out S0.out r p 8 2 HP.out HRI.out (.inr (.inr (.inr rfl))) U2 false HU2.out HB2.out)
  go_upto_region 8 with (go_at_call 22; refine CA.out.mono ?_; rintro e w3 ⟨rfl, h3⟩; have K3 := Lib.hid h3; clear h3)
  clear CA K2
  have c0 := blk_cell K3.out.right.right.blk 0 (v := .int .i64 (78)) rfl
  have K4 := Lib.hid (K3.out.mono (fun F h => star_swap2 h))
  have SX := Lib.hid (stable_star (stable_rm b fr s) (stable_star (stable_blk ib (.cells (insC ⟨78, rd, ia, ib', im⟩) 61)) (stable_star (stable_blk zb (.cells (dnC dZ) 74)) HR.out)))
  clear K3
  have c3 := blk_cell K4.out.blk 3 (v := .int .i64 d.e.k) rfl
  have f3 := blk_frozen K4.out.blk 3
  have c4 := blk_cell K4.out.blk 4 (v := .int .u64 d.e.ad) rfl
  have f4 := blk_frozen K4.out.blk 4
  have c5 := blk_cell K4.out.blk 5 (v := .bool d.e.wr) rfl
  have f5 := blk_frozen K4.out.blk 5
  have KD : RowKit.Hid (Own w0 (((w3.setCell ⟨db, 3, none⟩ (.int .i64 6)).setCell ⟨db, 4, none⟩ (.int .u64 p)).setCell ⟨db, 5, none⟩ (.bool false)) (Star (blkA db (.cells (dnC { d with e := ⟨6, p, false⟩ }) 74)) _)) := Lib.hid (((K4.out.set SX.out 3 (.int .i64 6)).set SX.out 4 (.int .u64 p)).set SX.out 5 (.bool false))
  go_upto_region 19 with fail
  clear c3 f3 c4 f4 c5 f5
  clear K4
  generalize World.setCell (World.setCell (World.setCell w3 _ _) _ _) _ _ = w4 at *
  have L6 := Lib.hid KD.out.blk
  have KZ := Lib.hid (KD.out.mono (fun F h => st4 h))
  have SZ := Lib.hid (stable_star (stable_blk db (.cells (dnC { d with e := ⟨6, p, false⟩ }) 74)) (stable_star (stable_rm b fr s) (stable_star (stable_blk ib (.cells (insC ⟨78, rd, ia, ib', im⟩) 61)) HR.out)))
  have KF := Lib.hid (KZ.out.setRow SZ.out (dnC { d with e := ⟨6, p, false⟩ }))
  go_wp2_with (first
    | (refine wpList_load_row rfl 74 _ rfl _ rfl 74 _ (0, 0) _ L6.out Tryz.underlying74 rfl (dn_info _) ?_)
    | (refine wpList_store_row rfl 74 _ _ rfl _ _ rfl rfl 74 _ KZ.out.blk (dn_info _) rfl (dn_all1 _) ?_))
  refine bodyPost_ret (res_done rfl _ _ _ zb _ rfl (ldDn KF.out.blk)) rfl ⟨rfl, KF.out.mono (fun F h => ?_)⟩
  exact star_drop2 (star_drop2 (star_drop2 (st3 h)))
set_option maxHeartbeats 1600000 in
theorem o_at_sc78_miss {w0 w : World} {b fr : Nat} {s : List UInt8} {R : Asn} (h : Own w0 w (Star (rmA b fr s) R)) (hR : Stable R) (hf : fr ≤ 256) (r : Int) (hr : i64 r) (op : Int) (rd ia ib' : Nat) (im : Int) (p bv : Int) (hp : Go.Proofs.YtngeabphjdfdgaaGreatDoor.P.u64 p) (hbv : word bv) (d : DN) (hop : op = 78) (hc : rchB fr s r p 8 2 = true) (hh : (d.hd && decide (d.at_ = rchV fr s r p 8 2)) = false) :
    Calls Tryz.prog 54 #[.pointer (some ⟨b, 0, none⟩), .int .i64 r, .agg (insC ⟨op, rd, ia, ib', im⟩), .int .u64 p, .int .u64 bv, .agg (dnC d)] w fun e w' => e = .returned (.agg (dnC { d with sets := true, v := 1, hd := false, at_ := 0 })) ∧ Own w0 w' (Star (rmA b fr s) R) := by
  subst hop
  have hi := mem_in h hR ⟨78, rd, ia, ib', im⟩ d
  have hu1 := rch_u64 (s := s) (r := r) (n := 8) (acc := 1) hf hp
  have hu2 := rch_u64 (s := s) (r := r) (n := 8) (acc := 2) hf hp
  clear h
  have HR := Lib.hid hR
  have HP := Lib.hid hp
  have HRI := Lib.hid hr
  have HW1 := Lib.hid (rch_walk (fr := fr) (s := s) (r := r) (p := p) (n := 8) (acc := 1))
  have HW2 := Lib.hid (rch_walk (fr := fr) (s := s) (r := r) (p := p) (n := 8) (acc := 2))
  obtain ⟨V1, hV1⟩ : ∃ V, rchV fr s r p 8 1 = V := ⟨_, rfl⟩
  obtain ⟨V2, hV2⟩ : ∃ V, rchV fr s r p 8 2 = V := ⟨_, rfl⟩
  obtain ⟨B1, hB1⟩ : ∃ B, rchB fr s r p 8 1 = B := ⟨_, rfl⟩
  obtain ⟨B2, hB2⟩ : ∃ B, rchB fr s r p 8 2 = B := ⟨_, rfl⟩
  rw [hV1] at hu1 HW1
  rw [hV2] at hu2 HW2
  rw [hB1] at HW1
  rw [hB2] at HW2
  have HV1 := Lib.hid hu1.1
  have HV2 := Lib.hid hu2.1
  have HB1 := Lib.hid hB1
  have HB2 := Lib.hid hB2
  obtain ⟨U1, hU1⟩ : ∃ V, walkV fr s r p 1 = V := ⟨_, rfl⟩
  obtain ⟨U2, hU2⟩ : ∃ V, walkV fr s r p 2 = V := ⟨_, rfl⟩
  rw [hU1] at HW1
  rw [hU2] at HW2
  have HU1 := Lib.hid hU1
  have HU2 := Lib.hid hU2
  rw [hV2] at hh
  obtain rfl : B2 = true := hB2.symm.trans hc
  have hw := HW2.out rfl
  subst hw
  clear hc HW1 HW2
  clear hp hr hu1 hu2 hR hU1 hU2 hB1 hB2 hV1 hV2
  go_enter Tryz.func54, Tryz.ntmps54
  go_upto_region 1 with fail
  generalize (World.alloc _ (.cells _ 74)) = w1 at *
  generalize w.heap.size + 1 + 1 = zb at *
  generalize w.heap.size + 1 = db at *
  generalize w.heap.size = ib at *
  have S0 := Lib.hid (stable_star (stable_blk db (.cells (dnC d) 74)) (stable_star (stable_blk ib (.cells (insC ⟨78, rd, ia, ib', im⟩) 61)) (stable_star (stable_blk zb (.cells (dnC dZ) 74)) HR.out)))
  have HI := Lib.hid hi
  clear hi
  have c0 := blk_cell HI.out.right.right.blk 0 (v := .int .i64 (78)) rfl
  have CA := Lib.hid (o_access HI.out S0.out r p 8 1 HP.out HRI.out (.inr (.inr (.inr rfl))) U1 B1 HU1.out HB1.out)
  go_upto_region 7 with (go_at_call 22; refine CA.out.mono ?_; rintro e w2 ⟨rfl, h2⟩; have K2 := Lib.hid h2; clear h2)
  clear CA HI c0
  have CA := Lib.hid (o_access K2.out S0.out r p 8 2 HP.out HRI.out (.inr (.inr (.inr rfl))) U2 true HU2.out HB2.out)
  go_upto_region 8 with (go_at_call 22; refine CA.out.mono ?_; rintro e w3 ⟨rfl, h3⟩; have K3 := Lib.hid h3; clear h3)
  clear CA K2
  have c0 := blk_cell K3.out.right.right.blk 0 (v := .int .i64 (78)) rfl
  have K4 := Lib.hid (K3.out.mono (fun F h => star_swap2 h))
  have SX := Lib.hid (stable_star (stable_rm b fr s) (stable_star (stable_blk ib (.cells (insC ⟨78, rd, ia, ib', im⟩) 61)) (stable_star (stable_blk zb (.cells (dnC dZ) 74)) HR.out)))
  clear K3
  have c0 := blk_cell K4.out.blk 0 (v := .bool d.sets) rfl
  have f0 := blk_frozen K4.out.blk 0
  have K5 : RowKit.Hid (Own w0 (w3.setCell ⟨db, 0, none⟩ (.bool true)) (Star (blkA db (.cells (dnC { d with sets := true }) 74)) _)) := Lib.hid (K4.out.set SX.out 0 (.bool true))
  go_upto_region 21 with fail
  clear c0 f0
  clear K4
  generalize World.setCell w3 _ _ = w5 at *
  have c1 := blk_cell K5.out.blk 1 (v := .int .u64 d.v) rfl
  have f1 := blk_frozen K5.out.blk 1
  have K6 : RowKit.Hid (Own w0 (w5.setCell ⟨db, 1, none⟩ (.int .u64 1)) (Star (blkA db (.cells (dnC { d with sets := true, v := 1 }) 74)) _)) := Lib.hid (K5.out.set SX.out 1 (.int .u64 1))
  go_upto_region 24 with fail
  clear c1 f1
  clear K5
  generalize World.setCell w5 _ _ = w6 at *
  have c6 := blk_cell K6.out.blk 6 (v := .bool d.hd) rfl
  have f6 := blk_frozen K6.out.blk 6
  have c7 := blk_cell K6.out.blk 7 (v := .int .u64 d.at_) rfl
  have f7 := blk_frozen K6.out.blk 7
  have K7 : RowKit.Hid (Own w0 ((w6.setCell ⟨db, 6, none⟩ (.bool false)).setCell ⟨db, 7, none⟩ (.int .u64 0)) (Star (blkA db (.cells (dnC { d with sets := true, v := 1, hd := false, at_ := 0 }) 74)) _)) := Lib.hid ((K6.out.set SX.out 6 (.bool false)).set SX.out 7 (.int .u64 0))
  obtain ⟨hd, hhd⟩ : ∃ q, d.hd = q := ⟨_, rfl⟩
  rw [hhd] at c6 hh
  clear hhd
  have h3 : hd = false ∨ (hd = true ∧ (d.at_ == U2) = false) := by
    cases hd with
    | false => exact .inl rfl
    | true => exact .inr ⟨rfl, hh⟩
  clear hh
  rcases h3 with rfl | ⟨rfl, h4⟩
  all_goals
    go_upto_region 28 with fail
    clear c6 f6 c7 f7 K6
    generalize World.setCell (World.setCell w6 _ _) _ _ = w7 at *
    have KD := K7
    have L6 := Lib.hid KD.out.blk
    have KZ := Lib.hid (KD.out.mono (fun F h => st4 h))
    have SZ := Lib.hid (stable_star (stable_blk db (.cells (dnC { d with sets := true, v := 1, hd := false, at_ := 0 }) 74)) (stable_star (stable_rm b fr s) (stable_star (stable_blk ib (.cells (insC ⟨78, rd, ia, ib', im⟩) 61)) HR.out)))
    have KF := Lib.hid (KZ.out.setRow SZ.out (dnC { d with sets := true, v := 1, hd := false, at_ := 0 }))
    go_wp2_with (first
      | (refine wpList_load_row rfl 74 _ rfl _ rfl 74 _ (0, 0) _ L6.out Tryz.underlying74 rfl (dn_info _) ?_)
      | (refine wpList_store_row rfl 74 _ _ rfl _ _ rfl rfl 74 _ KZ.out.blk (dn_info _) rfl (dn_all1 _) ?_))
    refine bodyPost_ret (res_done rfl _ _ _ zb _ rfl (ldDn KF.out.blk)) rfl ⟨rfl, KF.out.mono (fun F h => ?_)⟩
    exact star_drop2 (star_drop2 (star_drop2 (st3 h)))
set_option maxHeartbeats 1600000 in
theorem o_at_sc78_hit {w0 w : World} {b fr : Nat} {s : List UInt8} {R : Asn} (h : Own w0 w (Star (rmA b fr s) R)) (hR : Stable R) (hf : fr ≤ 256) (r : Int) (hr : i64 r) (op : Int) (rd ia ib' : Nat) (im : Int) (p bv : Int) (hp : Go.Proofs.YtngeabphjdfdgaaGreatDoor.P.u64 p) (hbv : word bv) (d : DN) (hop : op = 78) (hc : rchB fr s r p 8 2 = true) (hh : (d.hd && decide (d.at_ = rchV fr s r p 8 2)) = true) :
    Calls Tryz.prog 54 #[.pointer (some ⟨b, 0, none⟩), .int .i64 r, .agg (insC ⟨op, rd, ia, ib', im⟩), .int .u64 p, .int .u64 bv, .agg (dnC d)] w fun e w' => e = .returned (.agg (dnC ⟨true, 0, d.pc, ⟨0, rchV fr s r p 8 2, true⟩, false, 0⟩)) ∧ Own w0 w' (Star (rmA b fr (storeS s (rchV fr s r p 8 2) 8 bv)) R) := by
  subst hop
  have hi := mem_in h hR ⟨78, rd, ia, ib', im⟩ d
  have hu1 := rch_u64 (s := s) (r := r) (n := 8) (acc := 1) hf hp
  have hu2 := rch_u64 (s := s) (r := r) (n := 8) (acc := 2) hf hp
  clear h
  have HR := Lib.hid hR
  have HP := Lib.hid hp
  have HRI := Lib.hid hr
  have HW1 := Lib.hid (rch_walk (fr := fr) (s := s) (r := r) (p := p) (n := 8) (acc := 1))
  have HW2 := Lib.hid (rch_walk (fr := fr) (s := s) (r := r) (p := p) (n := 8) (acc := 2))
  obtain ⟨V1, hV1⟩ : ∃ V, rchV fr s r p 8 1 = V := ⟨_, rfl⟩
  obtain ⟨V2, hV2⟩ : ∃ V, rchV fr s r p 8 2 = V := ⟨_, rfl⟩
  obtain ⟨B1, hB1⟩ : ∃ B, rchB fr s r p 8 1 = B := ⟨_, rfl⟩
  obtain ⟨B2, hB2⟩ : ∃ B, rchB fr s r p 8 2 = B := ⟨_, rfl⟩
  rw [hV1] at hu1 HW1
  rw [hV2] at hu2 HW2
  rw [hB1] at HW1
  rw [hB2] at HW2
  have HV1 := Lib.hid hu1.1
  have HV2 := Lib.hid hu2.1
  have HB1 := Lib.hid hB1
  have HB2 := Lib.hid hB2
  obtain ⟨U1, hU1⟩ : ∃ V, walkV fr s r p 1 = V := ⟨_, rfl⟩
  obtain ⟨U2, hU2⟩ : ∃ V, walkV fr s r p 2 = V := ⟨_, rfl⟩
  rw [hU1] at HW1
  rw [hU2] at HW2
  have HU1 := Lib.hid hU1
  have HU2 := Lib.hid hU2
  rw [hV2] at hh ⊢
  obtain rfl : B2 = true := hB2.symm.trans hc
  have hw := HW2.out rfl
  subst hw
  clear hc HW1 HW2
  obtain ⟨z, hz⟩ : ∃ z, storeS s U2 8 bv = z := ⟨_, rfl⟩
  rw [hz]
  have HZE := Lib.hid hz
  clear hz
  clear hp hr hu1 hu2 hR hU1 hU2 hB1 hB2 hV1 hV2
  go_enter Tryz.func54, Tryz.ntmps54
  go_upto_region 1 with fail
  generalize (World.alloc _ (.cells _ 74)) = w1 at *
  generalize w.heap.size + 1 + 1 = zb at *
  generalize w.heap.size + 1 = db at *
  generalize w.heap.size = ib at *
  have S0 := Lib.hid (stable_star (stable_blk db (.cells (dnC d) 74)) (stable_star (stable_blk ib (.cells (insC ⟨78, rd, ia, ib', im⟩) 61)) (stable_star (stable_blk zb (.cells (dnC dZ) 74)) HR.out)))
  have HI := Lib.hid hi
  clear hi
  have c0 := blk_cell HI.out.right.right.blk 0 (v := .int .i64 (78)) rfl
  have CA := Lib.hid (o_access HI.out S0.out r p 8 1 HP.out HRI.out (.inr (.inr (.inr rfl))) U1 B1 HU1.out HB1.out)
  go_upto_region 7 with (go_at_call 22; refine CA.out.mono ?_; rintro e w2 ⟨rfl, h2⟩; have K2 := Lib.hid h2; clear h2)
  clear CA HI c0
  have CA := Lib.hid (o_access K2.out S0.out r p 8 2 HP.out HRI.out (.inr (.inr (.inr rfl))) U2 true HU2.out HB2.out)
  go_upto_region 8 with (go_at_call 22; refine CA.out.mono ?_; rintro e w3 ⟨rfl, h3⟩; have K3 := Lib.hid h3; clear h3)
  clear CA K2
  have c0 := blk_cell K3.out.right.right.blk 0 (v := .int .i64 (78)) rfl
  have K4 := Lib.hid (K3.out.mono (fun F h => star_swap2 h))
  have SX := Lib.hid (stable_star (stable_rm b fr s) (stable_star (stable_blk ib (.cells (insC ⟨78, rd, ia, ib', im⟩) 61)) (stable_star (stable_blk zb (.cells (dnC dZ) 74)) HR.out)))
  clear K3
  have c0 := blk_cell K4.out.blk 0 (v := .bool d.sets) rfl
  have f0 := blk_frozen K4.out.blk 0
  have K5 : RowKit.Hid (Own w0 (w3.setCell ⟨db, 0, none⟩ (.bool true)) (Star (blkA db (.cells (dnC { d with sets := true }) 74)) _)) := Lib.hid (K4.out.set SX.out 0 (.bool true))
  go_upto_region 21 with fail
  clear c0 f0
  clear K4
  generalize World.setCell w3 _ _ = w5 at *
  have c1 := blk_cell K5.out.blk 1 (v := .int .u64 d.v) rfl
  have f1 := blk_frozen K5.out.blk 1
  have K6 : RowKit.Hid (Own w0 (w5.setCell ⟨db, 1, none⟩ (.int .u64 1)) (Star (blkA db (.cells (dnC { d with sets := true, v := 1 }) 74)) _)) := Lib.hid (K5.out.set SX.out 1 (.int .u64 1))
  go_upto_region 24 with fail
  clear c1 f1
  clear K5
  generalize World.setCell w5 _ _ = w6 at *
  have c6 := blk_cell K6.out.blk 6 (v := .bool d.hd) rfl
  have f6 := blk_frozen K6.out.blk 6
  have c7 := blk_cell K6.out.blk 7 (v := .int .u64 d.at_) rfl
  have f7 := blk_frozen K6.out.blk 7
  have K7 : RowKit.Hid (Own w0 ((w6.setCell ⟨db, 6, none⟩ (.bool false)).setCell ⟨db, 7, none⟩ (.int .u64 0)) (Star (blkA db (.cells (dnC { d with sets := true, v := 1, hd := false, at_ := 0 }) 74)) _)) := Lib.hid ((K6.out.set SX.out 6 (.bool false)).set SX.out 7 (.int .u64 0))
  obtain ⟨hd, hhd⟩ : ∃ q, d.hd = q := ⟨_, rfl⟩
  rw [hhd] at c6 hh
  clear hhd
  rw [Bool.and_eq_true] at hh
  obtain ⟨rfl, h5⟩ := hh
  have h4 : (d.at_ == U2) = true := h5
  have h6 := of_decide_eq_true h5
  go_upto_region 29 with fail
  clear c6 f6 c7 f7 K6 h4 h5 h6
  generalize World.setCell (World.setCell w6 _ _) _ _ = w7 at *
  have c1 := blk_cell K7.out.blk 1 (v := .int .u64 { d with sets := true, v := 1, hd := false, at_ := 0 }.v) rfl
  have f1 := blk_frozen K7.out.blk 1
  have K8 : RowKit.Hid (Own w0 (w7.setCell ⟨db, 1, none⟩ (.int .u64 0)) (Star (blkA db (.cells (dnC { d with sets := true, v := 0, hd := false, at_ := 0 }) 74)) _)) := Lib.hid (K7.out.set SX.out 1 (.int .u64 0))
  go_upto_region 33 with fail
  clear c1 f1
  clear K7
  generalize World.setCell w7 _ _ = w8 at *
  have SY := Lib.hid (stable_star (stable_blk db (.cells (dnC { d with sets := true, v := 0, hd := false, at_ := 0 }) 74)) (stable_star (stable_blk ib (.cells (insC ⟨78, rd, ia, ib', im⟩) 61)) (stable_star (stable_blk zb (.cells (dnC dZ) 74)) HR.out)))
  obtain ⟨q, hq⟩ : ∃ q, loadR s U2 8 = q := ⟨_, rfl⟩
  have CS := Lib.hid (o_rstore K8.out.swap2 SY.out U2 8 bv q HV2.out hbv z HZE.out hq)
  clear hq
  go_upto_region 34 with (go_at_call 14; refine CS.out.mono ?_; rintro e w15 ⟨rfl, h5⟩; have K15 := Lib.hid h5.swap2; clear h5)
  clear CS K8 SX
  have SX := Lib.hid (stable_star (stable_rm b fr z) (stable_star (stable_blk ib (.cells (insC ⟨78, rd, ia, ib', im⟩) 61)) (stable_star (stable_blk zb (.cells (dnC dZ) 74)) HR.out)))
  have c3 := blk_cell K15.out.blk 3 (v := .int .i64 d.e.k) rfl
  have f3 := blk_frozen K15.out.blk 3
  have c4 := blk_cell K15.out.blk 4 (v := .int .u64 d.e.ad) rfl
  have f4 := blk_frozen K15.out.blk 4
  have c5 := blk_cell K15.out.blk 5 (v := .bool d.e.wr) rfl
  have f5 := blk_frozen K15.out.blk 5
  have KD : RowKit.Hid (Own w0 (((w15.setCell ⟨db, 3, none⟩ (.int .i64 0)).setCell ⟨db, 4, none⟩ (.int .u64 U2)).setCell ⟨db, 5, none⟩ (.bool true)) (Star (blkA db (.cells (dnC ⟨true, 0, d.pc, ⟨0, U2, true⟩, false, 0⟩) 74)) _)) := Lib.hid (((K15.out.set SX.out 3 (.int .i64 0)).set SX.out 4 (.int .u64 U2)).set SX.out 5 (.bool true))
  go_upto_region 35 with fail
  clear c3 f3 c4 f4 c5 f5
  clear K15
  generalize World.setCell (World.setCell (World.setCell w15 _ _) _ _) _ _ = w16 at *
  have L6 := Lib.hid KD.out.blk
  have KZ := Lib.hid (KD.out.mono (fun F h => st4 h))
  have SZ := Lib.hid (stable_star (stable_blk db (.cells (dnC ⟨true, 0, d.pc, ⟨0, U2, true⟩, false, 0⟩) 74)) (stable_star (stable_rm b fr z) (stable_star (stable_blk ib (.cells (insC ⟨78, rd, ia, ib', im⟩) 61)) HR.out)))
  have KF := Lib.hid (KZ.out.setRow SZ.out (dnC ⟨true, 0, d.pc, ⟨0, U2, true⟩, false, 0⟩))
  go_wp2_with (first
    | (refine wpList_load_row rfl 74 _ rfl _ rfl 74 _ (0, 0) _ L6.out Tryz.underlying74 rfl (dn_info _) ?_)
    | (refine wpList_store_row rfl 74 _ _ rfl _ _ rfl rfl 74 _ KZ.out.blk (dn_info _) rfl (dn_all1 _) ?_))
  refine bodyPost_ret (res_done rfl _ _ _ zb _ rfl (ldDn KF.out.blk)) rfl ⟨rfl, KF.out.mono (fun F h => ?_)⟩
  exact star_drop2 (star_drop2 (star_drop2 (st3 h)))
end Go.Proofs.YtngeabphjdfdgaaGreatDoor.P
namespace Go.Proofs.YtngeabphjdfdgaaGreatDoor.P
open Go.RowKit Go.MuLone Go.Proofs.YtngeabphjdfdgaaGreatDoor.W
set_option maxHeartbeats 1600000 in
theorem o_at_am66_now {w0 w : World} {b fr : Nat} {s : List UInt8} {R : Asn} (h : Own w0 w (Star (rmA b fr s) R)) (hR : Stable R) (hf : fr ≤ 256) (r : Int) (hr : i64 r) (op : Int) (rd ia ib' : Nat) (im : Int) (p bv : Int) (hp : Go.Proofs.YtngeabphjdfdgaaGreatDoor.P.u64 p) (hbv : word bv) (d : DN) (hop : 68 ≤ op ∧ op ≤ 76) (hc : rchB fr s r p 4 2 = false) :
    Calls Tryz.prog 54 #[.pointer (some ⟨b, 0, none⟩), .int .i64 r, .agg (insC ⟨op, rd, ia, ib', im⟩), .int .u64 p, .int .u64 bv, .agg (dnC d)] w fun e w' => e = .returned (.agg (dnC { d with e := ⟨6, p, false⟩ })) ∧ Own w0 w' (Star (rmA b fr s) R) := by
  have hi := mem_in h hR ⟨op, rd, ia, ib', im⟩ d
  have hu1 := rch_u64 (s := s) (r := r) (n := 4) (acc := 1) hf hp
  have hu2 := rch_u64 (s := s) (r := r) (n := 4) (acc := 2) hf hp
  clear h
  have HR := Lib.hid hR
  have HP := Lib.hid hp
  have HRI := Lib.hid hr
  have HW1 := Lib.hid (rch_walk (fr := fr) (s := s) (r := r) (p := p) (n := 4) (acc := 1))
  have HW2 := Lib.hid (rch_walk (fr := fr) (s := s) (r := r) (p := p) (n := 4) (acc := 2))
  obtain ⟨V1, hV1⟩ : ∃ V, rchV fr s r p 4 1 = V := ⟨_, rfl⟩
  obtain ⟨V2, hV2⟩ : ∃ V, rchV fr s r p 4 2 = V := ⟨_, rfl⟩
  obtain ⟨B1, hB1⟩ : ∃ B, rchB fr s r p 4 1 = B := ⟨_, rfl⟩
  obtain ⟨B2, hB2⟩ : ∃ B, rchB fr s r p 4 2 = B := ⟨_, rfl⟩
  rw [hV1] at hu1 HW1
  rw [hV2] at hu2 HW2
  rw [hB1] at HW1
  rw [hB2] at HW2
  have HV1 := Lib.hid hu1.1
  have HV2 := Lib.hid hu2.1
  have HB1 := Lib.hid hB1
  have HB2 := Lib.hid hB2
  obtain ⟨U1, hU1⟩ : ∃ V, walkV fr s r p 1 = V := ⟨_, rfl⟩
  obtain ⟨U2, hU2⟩ : ∃ V, walkV fr s r p 2 = V := ⟨_, rfl⟩
  rw [hU1] at HW1
  rw [hU2] at HW2
  have HU1 := Lib.hid hU1
  have HU2 := Lib.hid hU2
  have g1 : IntKind.i64.wrap (op - 66) = op - 66 := by rw [IntKind.wrap_i64]; omega
  have g3 : ¬ 10 < op - 66 := by omega
  have g4 : (op - 66 == 0) = false := by simp; omega
  have g5 : (op - 66 == 1) = false := by simp; omega
  have g6 : 1 < op - 66 := by omega
  obtain rfl : B2 = false := hB2.symm.trans hc
  clear hc HW1 HW2 hop
  clear hp hr hu1 hu2 hR hU1 hU2 hB1 hB2 hV1 hV2
  go_enter Tryz.func54, Tryz.ntmps54
  go_upto_region 1 with fail
  generalize (World.alloc _ (.cells _ 74)) = w1 at *
  generalize w.heap.size + 1 + 1 = zb at *
  generalize w.heap.size + 1 = db at *
  generalize w.heap.size = ib at *
  have S0 := Lib.hid (stable_star (stable_blk db (.cells (dnC d) 74)) (stable_star (stable_blk ib (.cells (insC ⟨op, rd, ia, ib', im⟩) 61)) (stable_star (stable_blk zb (.cells (dnC dZ) 74)) HR.out)))
  have HI := Lib.hid hi
  clear hi
  have c0 := blk_cell HI.out.right.right.blk 0 (v := .int .i64 (op)) rfl
  have CA := Lib.hid (o_access HI.out S0.out r p 4 1 HP.out HRI.out (.inr (.inr (.inl rfl))) U1 B1 HU1.out HB1.out)
  go_upto_region 7 with (go_at_call 22; refine CA.out.mono ?_; rintro e w2 ⟨rfl, h2⟩; have K2 := Lib.hid h2; clear h2)
  clear CA HI c0
  have CA := Lib.hid (o_access K2.out S0.out r p 4 2 HP.out HRI.out (.inr (.inr (.inl rfl))) U2 false HU2.out HB2.out)
  go_upto_region 8 with (go_at_call 22; refine CA.out.mono ?_; rintro e w3 ⟨rfl, h3⟩; have K3 := Lib.hid h3; clear h3)
  clear CA K2
  have c0 := blk_cell K3.out.right.right.blk 0 (v := .int .i64 (op)) rfl
  have K4 := Lib.hid (K3.out.mono (fun F h => star_swap2 h))
  have SX := Lib.hid (stable_star (stable_rm b fr s) (stable_star (stable_blk ib (.cells (insC ⟨op, rd, ia, ib', im⟩) 61)) (stable_star (stable_blk zb (.cells (dnC dZ) 74)) HR.out)))
  clear K3
  have c3 := blk_cell K4.out.blk 3 (v := .int .i64 d.e.k) rfl
  have f3 := blk_frozen K4.out.blk 3
  have c4 := blk_cell K4.out.blk 4 (v := .int .u64 d.e.ad) rfl
  have f4 := blk_frozen K4.out.blk 4
  have c5 := blk_cell K4.out.blk 5 (v := .bool d.e.wr) rfl
  have f5 := blk_frozen K4.out.blk 5
  have KD : RowKit.Hid (Own w0 (((w3.setCell ⟨db, 3, none⟩ (.int .i64 6)).setCell ⟨db, 4, none⟩ (.int .u64 p)).setCell ⟨db, 5, none⟩ (.bool false)) (Star (blkA db (.cells (dnC { d with e := ⟨6, p, false⟩ }) 74)) _)) := Lib.hid (((K4.out.set SX.out 3 (.int .i64 6)).set SX.out 4 (.int .u64 p)).set SX.out 5 (.bool false))
  go_upto_region 19 with fail
  clear c3 f3 c4 f4 c5 f5
  clear K4
  generalize World.setCell (World.setCell (World.setCell w3 _ _) _ _) _ _ = w4 at *
  have L6 := Lib.hid KD.out.blk
  have KZ := Lib.hid (KD.out.mono (fun F h => st4 h))
  have SZ := Lib.hid (stable_star (stable_blk db (.cells (dnC { d with e := ⟨6, p, false⟩ }) 74)) (stable_star (stable_rm b fr s) (stable_star (stable_blk ib (.cells (insC ⟨op, rd, ia, ib', im⟩) 61)) HR.out)))
  have KF := Lib.hid (KZ.out.setRow SZ.out (dnC { d with e := ⟨6, p, false⟩ }))
  go_wp2_with (first
    | (refine wpList_load_row rfl 74 _ rfl _ rfl 74 _ (0, 0) _ L6.out Tryz.underlying74 rfl (dn_info _) ?_)
    | (refine wpList_store_row rfl 74 _ _ rfl _ _ rfl rfl 74 _ KZ.out.blk (dn_info _) rfl (dn_all1 _) ?_))
  refine bodyPost_ret (res_done rfl _ _ _ zb _ rfl (ldDn KF.out.blk)) rfl ⟨rfl, KF.out.mono (fun F h => ?_)⟩
  exact star_drop2 (star_drop2 (star_drop2 (st3 h)))
set_option maxHeartbeats 1600000 in
theorem o_at_am66_nor {w0 w : World} {b fr : Nat} {s : List UInt8} {R : Asn} (h : Own w0 w (Star (rmA b fr s) R)) (hR : Stable R) (hf : fr ≤ 256) (r : Int) (hr : i64 r) (op : Int) (rd ia ib' : Nat) (im : Int) (p bv : Int) (hp : Go.Proofs.YtngeabphjdfdgaaGreatDoor.P.u64 p) (hbv : word bv) (d : DN) (hop : 68 ≤ op ∧ op ≤ 76) (hc : rchB fr s r p 4 2 = true) (hb : rchB fr s r p 4 1 = false) :
    Calls Tryz.prog 54 #[.pointer (some ⟨b, 0, none⟩), .int .i64 r, .agg (insC ⟨op, rd, ia, ib', im⟩), .int .u64 p, .int .u64 bv, .agg (dnC d)] w fun e w' => e = .returned (.agg (dnC { d with e := ⟨6, p, false⟩ })) ∧ Own w0 w' (Star (rmA b fr s) R) := by
  have hi := mem_in h hR ⟨op, rd, ia, ib', im⟩ d
  have hu1 := rch_u64 (s := s) (r := r) (n := 4) (acc := 1) hf hp
  have hu2 := rch_u64 (s := s) (r := r) (n := 4) (acc := 2) hf hp
  clear h
  have HR := Lib.hid hR
  have HP := Lib.hid hp
  have HRI := Lib.hid hr
  have HW1 := Lib.hid (rch_walk (fr := fr) (s := s) (r := r) (p := p) (n := 4) (acc := 1))
  have HW2 := Lib.hid (rch_walk (fr := fr) (s := s) (r := r) (p := p) (n := 4) (acc := 2))
  obtain ⟨V1, hV1⟩ : ∃ V, rchV fr s r p 4 1 = V := ⟨_, rfl⟩
  obtain ⟨V2, hV2⟩ : ∃ V, rchV fr s r p 4 2 = V := ⟨_, rfl⟩
  obtain ⟨B1, hB1⟩ : ∃ B, rchB fr s r p 4 1 = B := ⟨_, rfl⟩
  obtain ⟨B2, hB2⟩ : ∃ B, rchB fr s r p 4 2 = B := ⟨_, rfl⟩
  rw [hV1] at hu1 HW1
  rw [hV2] at hu2 HW2
  rw [hB1] at HW1
  rw [hB2] at HW2
  have HV1 := Lib.hid hu1.1
  have HV2 := Lib.hid hu2.1
  have HB1 := Lib.hid hB1
  have HB2 := Lib.hid hB2
  obtain ⟨U1, hU1⟩ : ∃ V, walkV fr s r p 1 = V := ⟨_, rfl⟩
  obtain ⟨U2, hU2⟩ : ∃ V, walkV fr s r p 2 = V := ⟨_, rfl⟩
  rw [hU1] at HW1
  rw [hU2] at HW2
  have HU1 := Lib.hid hU1
  have HU2 := Lib.hid hU2
  have g1 : IntKind.i64.wrap (op - 66) = op - 66 := by rw [IntKind.wrap_i64]; omega
  have g3 : ¬ 10 < op - 66 := by omega
  have g4 : (op - 66 == 0) = false := by simp; omega
  have g5 : (op - 66 == 1) = false := by simp; omega
  have g6 : 1 < op - 66 := by omega
  obtain rfl : B2 = true := hB2.symm.trans hc
  obtain rfl : B1 = false := hB1.symm.trans hb
  clear hc hb HW1 HW2 hop
  clear hp hr hu1 hu2 hR hU1 hU2 hB1 hB2 hV1 hV2
  go_enter Tryz.func54, Tryz.ntmps54
  go_upto_region 1 with fail
  generalize (World.alloc _ (.cells _ 74)) = w1 at *
  generalize w.heap.size + 1 + 1 = zb at *
  generalize w.heap.size + 1 = db at *
  generalize w.heap.size = ib at *
  have S0 := Lib.hid (stable_star (stable_blk db (.cells (dnC d) 74)) (stable_star (stable_blk ib (.cells (insC ⟨op, rd, ia, ib', im⟩) 61)) (stable_star (stable_blk zb (.cells (dnC dZ) 74)) HR.out)))
  have HI := Lib.hid hi
  clear hi
  have c0 := blk_cell HI.out.right.right.blk 0 (v := .int .i64 (op)) rfl
  have CA := Lib.hid (o_access HI.out S0.out r p 4 1 HP.out HRI.out (.inr (.inr (.inl rfl))) U1 false HU1.out HB1.out)
  go_upto_region 7 with (go_at_call 22; refine CA.out.mono ?_; rintro e w2 ⟨rfl, h2⟩; have K2 := Lib.hid h2; clear h2)
  clear CA HI c0
  have CA := Lib.hid (o_access K2.out S0.out r p 4 2 HP.out HRI.out (.inr (.inr (.inl rfl))) U2 true HU2.out HB2.out)
  go_upto_region 8 with (go_at_call 22; refine CA.out.mono ?_; rintro e w3 ⟨rfl, h3⟩; have K3 := Lib.hid h3; clear h3)
  clear CA K2
  have c0 := blk_cell K3.out.right.right.blk 0 (v := .int .i64 (op)) rfl
  have K4 := Lib.hid (K3.out.mono (fun F h => star_swap2 h))
  have SX := Lib.hid (stable_star (stable_rm b fr s) (stable_star (stable_blk ib (.cells (insC ⟨op, rd, ia, ib', im⟩) 61)) (stable_star (stable_blk zb (.cells (dnC dZ) 74)) HR.out)))
  clear K3
  have c3 := blk_cell K4.out.blk 3 (v := .int .i64 d.e.k) rfl
  have f3 := blk_frozen K4.out.blk 3
  have c4 := blk_cell K4.out.blk 4 (v := .int .u64 d.e.ad) rfl
  have f4 := blk_frozen K4.out.blk 4
  have c5 := blk_cell K4.out.blk 5 (v := .bool d.e.wr) rfl
  have f5 := blk_frozen K4.out.blk 5
  have KD : RowKit.Hid (Own w0 (((w3.setCell ⟨db, 3, none⟩ (.int .i64 6)).setCell ⟨db, 4, none⟩ (.int .u64 p)).setCell ⟨db, 5, none⟩ (.bool false)) (Star (blkA db (.cells (dnC { d with e := ⟨6, p, false⟩ }) 74)) _)) := Lib.hid (((K4.out.set SX.out 3 (.int .i64 6)).set SX.out 4 (.int .u64 p)).set SX.out 5 (.bool false))
  go_upto_region 19 with fail
  clear c3 f3 c4 f4 c5 f5
  clear K4
  generalize World.setCell (World.setCell (World.setCell w3 _ _) _ _) _ _ = w4 at *
  have L6 := Lib.hid KD.out.blk
  have KZ := Lib.hid (KD.out.mono (fun F h => st4 h))
  have SZ := Lib.hid (stable_star (stable_blk db (.cells (dnC { d with e := ⟨6, p, false⟩ }) 74)) (stable_star (stable_rm b fr s) (stable_star (stable_blk ib (.cells (insC ⟨op, rd, ia, ib', im⟩) 61)) HR.out)))
  have KF := Lib.hid (KZ.out.setRow SZ.out (dnC { d with e := ⟨6, p, false⟩ }))
  go_wp2_with (first
    | (refine wpList_load_row rfl 74 _ rfl _ rfl 74 _ (0, 0) _ L6.out Tryz.underlying74 rfl (dn_info _) ?_)
    | (refine wpList_store_row rfl 74 _ _ rfl _ _ rfl rfl 74 _ KZ.out.blk (dn_info _) rfl (dn_all1 _) ?_))
  refine bodyPost_ret (res_done rfl _ _ _ zb _ rfl (ldDn KF.out.blk)) rfl ⟨rfl, KF.out.mono (fun F h => ?_)⟩
  exact star_drop2 (star_drop2 (star_drop2 (st3 h)))
set_option maxHeartbeats 1600000 in
theorem o_at_am66_yes {w0 w : World} {b fr : Nat} {s : List UInt8} {R : Asn} (h : Own w0 w (Star (rmA b fr s) R)) (hR : Stable R) (hf : fr ≤ 256) (r : Int) (hr : i64 r) (op : Int) (rd ia ib' : Nat) (im : Int) (p bv : Int) (hp : Go.Proofs.YtngeabphjdfdgaaGreatDoor.P.u64 p) (hbv : word bv) (d : DN) (hop : 68 ≤ op ∧ op ≤ 76) (hc : rchB fr s r p 4 2 = true) (hb : rchB fr s r p 4 1 = true) :
    Calls Tryz.prog 54 #[.pointer (some ⟨b, 0, none⟩), .int .i64 r, .agg (insC ⟨op, rd, ia, ib', im⟩), .int .u64 p, .int .u64 bv, .agg (dnC d)] w fun e w' => e = .returned (.agg (dnC { d with sets := true, v := sgnF (loadV s (rchV fr s r p 4 2) 4) (8 * 4), e := ⟨0, rchV fr s r p 4 2, true⟩ })) ∧ Own w0 w' (Star (rmA b fr (storeS s (rchV fr s r p 4 2) 4 (amoV op (loadV s (rchV fr s r p 4 2) 4) bv))) R) := by
  have hi := mem_in h hR ⟨op, rd, ia, ib', im⟩ d
  have hu1 := rch_u64 (s := s) (r := r) (n := 4) (acc := 1) hf hp
  have hu2 := rch_u64 (s := s) (r := r) (n := 4) (acc := 2) hf hp
  clear h
  have HR := Lib.hid hR
  have HP := Lib.hid hp
  have HRI := Lib.hid hr
  have HW1 := Lib.hid (rch_walk (fr := fr) (s := s) (r := r) (p := p) (n := 4) (acc := 1))
  have HW2 := Lib.hid (rch_walk (fr := fr) (s := s) (r := r) (p := p) (n := 4) (acc := 2))
  obtain ⟨V1, hV1⟩ : ∃ V, rchV fr s r p 4 1 = V := ⟨_, rfl⟩
  obtain ⟨V2, hV2⟩ : ∃ V, rchV fr s r p 4 2 = V := ⟨_, rfl⟩
  obtain ⟨B1, hB1⟩ : ∃ B, rchB fr s r p 4 1 = B := ⟨_, rfl⟩
  obtain ⟨B2, hB2⟩ : ∃ B, rchB fr s r p 4 2 = B := ⟨_, rfl⟩
  rw [hV1] at hu1 HW1
  rw [hV2] at hu2 HW2
  rw [hB1] at HW1
  rw [hB2] at HW2
  have HV1 := Lib.hid hu1.1
  have HV2 := Lib.hid hu2.1
  have HB1 := Lib.hid hB1
  have HB2 := Lib.hid hB2
  obtain ⟨U1, hU1⟩ : ∃ V, walkV fr s r p 1 = V := ⟨_, rfl⟩
  obtain ⟨U2, hU2⟩ : ∃ V, walkV fr s r p 2 = V := ⟨_, rfl⟩
  rw [hU1] at HW1
  rw [hU2] at HW2
  have HU1 := Lib.hid hU1
  have HU2 := Lib.hid hU2
  have g1 : IntKind.i64.wrap (op - 66) = op - 66 := by rw [IntKind.wrap_i64]; omega
  have g3 : ¬ 10 < op - 66 := by omega
  have g4 : (op - 66 == 0) = false := by simp; omega
  have g5 : (op - 66 == 1) = false := by simp; omega
  have g6 : 1 < op - 66 := by omega
  rw [hV2]
  obtain rfl : B2 = true := hB2.symm.trans hc
  obtain rfl : B1 = true := hB1.symm.trans hb
  have hw := HW2.out rfl
  subst hw
  have HOP := Lib.hid hop
  clear hc hb HW1 HW2 hop
  have hvw := loadV_word s U2 4
  obtain ⟨L, hL⟩ : ∃ L, loadV s U2 4 = L := ⟨_, rfl⟩
  rw [hL] at hvw ⊢
  have HL := Lib.hid hvw
  have HLE := Lib.hid hL
  clear hL hvw
  obtain ⟨G, hG⟩ : ∃ G, sgnF L (8 * 4) = G := ⟨_, rfl⟩
  rw [hG]
  have HGE := Lib.hid hG
  clear hG
  have hmw := amo_word op L bv HL.out hbv
  obtain ⟨M, hM⟩ : ∃ M, amoV op L bv = M := ⟨_, rfl⟩
  rw [hM] at hmw ⊢
  have HM := Lib.hid hmw
  have HME := Lib.hid hM
  clear hM hmw
  obtain ⟨z, hz⟩ : ∃ z, storeS s U2 4 M = z := ⟨_, rfl⟩
  rw [hz]
  have HZE := Lib.hid hz
  clear hz
  clear hp hr hu1 hu2 hR hU1 hU2 hB1 hB2 hV1 hV2
  go_enter Tryz.func54, Tryz.ntmps54
  go_upto_region 1 with fail
  generalize (World.alloc _ (.cells _ 74)) = w1 at *
  generalize w.heap.size + 1 + 1 = zb at *
  generalize w.heap.size + 1 = db at *
  generalize w.heap.size = ib at *
  have S0 := Lib.hid (stable_star (stable_blk db (.cells (dnC d) 74)) (stable_star (stable_blk ib (.cells (insC ⟨op, rd, ia, ib', im⟩) 61)) (stable_star (stable_blk zb (.cells (dnC dZ) 74)) HR.out)))
  have HI := Lib.hid hi
  clear hi
  have c0 := blk_cell HI.out.right.right.blk 0 (v := .int .i64 (op)) rfl
  have CA := Lib.hid (o_access HI.out S0.out r p 4 1 HP.out HRI.out (.inr (.inr (.inl rfl))) U1 true HU1.out HB1.out)
  go_upto_region 7 with (go_at_call 22; refine CA.out.mono ?_; rintro e w2 ⟨rfl, h2⟩; have K2 := Lib.hid h2; clear h2)
  clear CA HI c0
  have CA := Lib.hid (o_access K2.out S0.out r p 4 2 HP.out HRI.out (.inr (.inr (.inl rfl))) U2 true HU2.out HB2.out)
  go_upto_region 8 with (go_at_call 22; refine CA.out.mono ?_; rintro e w3 ⟨rfl, h3⟩; have K3 := Lib.hid h3; clear h3)
  clear CA K2
  have c0 := blk_cell K3.out.right.right.blk 0 (v := .int .i64 (op)) rfl
  have K4 := Lib.hid (K3.out.mono (fun F h => star_swap2 h))
  have SX := Lib.hid (stable_star (stable_rm b fr s) (stable_star (stable_blk ib (.cells (insC ⟨op, rd, ia, ib', im⟩) 61)) (stable_star (stable_blk zb (.cells (dnC dZ) 74)) HR.out)))
  clear K3
  have c0 := blk_cell K4.out.blk 0 (v := .bool d.sets) rfl
  have f0 := blk_frozen K4.out.blk 0
  have K5 : RowKit.Hid (Own w0 (w3.setCell ⟨db, 0, none⟩ (.bool true)) (Star (blkA db (.cells (dnC { d with sets := true }) 74)) _)) := Lib.hid (K4.out.set SX.out 0 (.bool true))
  go_upto_region 21 with fail
  clear c0 f0
  clear K4
  generalize World.setCell w3 _ _ = w5 at *
  have SY := Lib.hid (stable_star (stable_blk db (.cells (dnC { d with sets := true }) 74)) (stable_star (stable_blk ib (.cells (insC ⟨op, rd, ia, ib', im⟩) 61)) (stable_star (stable_blk zb (.cells (dnC dZ) 74)) HR.out)))
  have CL0 := o_load5 K5.out.swap2 SY.out U2 4 HV2.out
  rw [HLE.out] at CL0
  have CL := Lib.hid CL0
  have CG0 := c_rsign L (8 * 4) HL.out
  rw [HGE.out] at CG0
  have CG := Lib.hid CG0
  clear CL0 CG0
  have ham : amoB op = true := by unfold amoB; exact decide_eq_true (by have := HOP.out; omega)
  have CM0 := c_ramo_t op L bv HL.out hbv
  rw [HME.out] at CM0
  have CM := Lib.hid CM0
  have HAM := Lib.hid ham
  clear ham CM0
  go_upto_region 31 with (go_at_call 24; refine CL.out.mono ?_; rintro e w6 ⟨rfl, h6⟩; have K6 := Lib.hid h6.swap2; clear h6)
  clear CL K5
  have c0 := blk_cell K6.out.right.right.blk 0 (v := .int .i64 op) rfl
  go_upto_region 32 with (go_at_call 84; refine (CM.out _ HAM.out).mono ?_; rintro e w7 ⟨rfl, rfl⟩)
  clear c0
  have c1 := blk_cell K6.out.blk 1 (v := .int .u64 d.v) rfl
  have f1 := blk_frozen K6.out.blk 1
  have K7 : RowKit.Hid (Own w0 (World.setCell _ ⟨db, 1, none⟩ (.int .u64 G)) (Star (blkA db (.cells (dnC { d with sets := true, v := G }) 74)) _)) := Lib.hid (K6.out.set SX.out 1 (.int .u64 G))
  go_upto_region 33 with (go_at_call 81; refine (CG.out _).mono ?_; rintro e w8 ⟨rfl, rfl⟩)
  clear CG CM K6 c1 f1
  generalize World.setCell _ ⟨db, 1, none⟩ _ = w9 at *
  have SY := Lib.hid (stable_star (stable_blk db (.cells (dnC { d with sets := true, v := G }) 74)) (stable_star (stable_blk ib (.cells (insC ⟨op, rd, ia, ib', im⟩) 61)) (stable_star (stable_blk zb (.cells (dnC dZ) 74)) HR.out)))
  obtain ⟨q, hq⟩ : ∃ q, loadR s U2 4 = q := ⟨_, rfl⟩
  have CS := Lib.hid (o_rstore K7.out.swap2 SY.out U2 4 M q HV2.out HM.out z HZE.out hq)
  clear hq
  go_upto_region 34 with (go_at_call 14; refine CS.out.mono ?_; rintro e w15 ⟨rfl, h5⟩; have K15 := Lib.hid h5.swap2; clear h5)
  clear CS K7 SX
  have SX := Lib.hid (stable_star (stable_rm b fr z) (stable_star (stable_blk ib (.cells (insC ⟨op, rd, ia, ib', im⟩) 61)) (stable_star (stable_blk zb (.cells (dnC dZ) 74)) HR.out)))
  have c3 := blk_cell K15.out.blk 3 (v := .int .i64 d.e.k) rfl
  have f3 := blk_frozen K15.out.blk 3
  have c4 := blk_cell K15.out.blk 4 (v := .int .u64 d.e.ad) rfl
  have f4 := blk_frozen K15.out.blk 4
  have c5 := blk_cell K15.out.blk 5 (v := .bool d.e.wr) rfl
  have f5 := blk_frozen K15.out.blk 5
  have KD : RowKit.Hid (Own w0 (((w15.setCell ⟨db, 3, none⟩ (.int .i64 0)).setCell ⟨db, 4, none⟩ (.int .u64 U2)).setCell ⟨db, 5, none⟩ (.bool true)) (Star (blkA db (.cells (dnC { d with sets := true, v := G, e := ⟨0, U2, true⟩ }) 74)) _)) := Lib.hid (((K15.out.set SX.out 3 (.int .i64 0)).set SX.out 4 (.int .u64 U2)).set SX.out 5 (.bool true))
  go_upto_region 35 with fail
  clear c3 f3 c4 f4 c5 f5
  clear K15
  generalize World.setCell (World.setCell (World.setCell w15 _ _) _ _) _ _ = w16 at *
  have L6 := Lib.hid KD.out.blk
  have KZ := Lib.hid (KD.out.mono (fun F h => st4 h))
  have SZ := Lib.hid (stable_star (stable_blk db (.cells (dnC { d with sets := true, v := G, e := ⟨0, U2, true⟩ }) 74)) (stable_star (stable_rm b fr z) (stable_star (stable_blk ib (.cells (insC ⟨op, rd, ia, ib', im⟩) 61)) HR.out)))
  have KF := Lib.hid (KZ.out.setRow SZ.out (dnC { d with sets := true, v := G, e := ⟨0, U2, true⟩ }))
  go_wp2_with (first
    | (refine wpList_load_row rfl 74 _ rfl _ rfl 74 _ (0, 0) _ L6.out Tryz.underlying74 rfl (dn_info _) ?_)
    | (refine wpList_store_row rfl 74 _ _ rfl _ _ rfl rfl 74 _ KZ.out.blk (dn_info _) rfl (dn_all1 _) ?_))
  refine bodyPost_ret (res_done rfl _ _ _ zb _ rfl (ldDn KF.out.blk)) rfl ⟨rfl, KF.out.mono (fun F h => ?_)⟩
  exact star_drop2 (star_drop2 (star_drop2 (st3 h)))
set_option maxHeartbeats 1600000 in
theorem o_at_am77_now {w0 w : World} {b fr : Nat} {s : List UInt8} {R : Asn} (h : Own w0 w (Star (rmA b fr s) R)) (hR : Stable R) (hf : fr ≤ 256) (r : Int) (hr : i64 r) (op : Int) (rd ia ib' : Nat) (im : Int) (p bv : Int) (hp : Go.Proofs.YtngeabphjdfdgaaGreatDoor.P.u64 p) (hbv : word bv) (d : DN) (hop : 79 ≤ op ∧ op ≤ 87) (hc : rchB fr s r p 8 2 = false) :
    Calls Tryz.prog 54 #[.pointer (some ⟨b, 0, none⟩), .int .i64 r, .agg (insC ⟨op, rd, ia, ib', im⟩), .int .u64 p, .int .u64 bv, .agg (dnC d)] w fun e w' => e = .returned (.agg (dnC { d with e := ⟨6, p, false⟩ })) ∧ Own w0 w' (Star (rmA b fr s) R) := by
  have hi := mem_in h hR ⟨op, rd, ia, ib', im⟩ d
  have hu1 := rch_u64 (s := s) (r := r) (n := 8) (acc := 1) hf hp
  have hu2 := rch_u64 (s := s) (r := r) (n := 8) (acc := 2) hf hp
  clear h
  have HR := Lib.hid hR
  have HP := Lib.hid hp
  have HRI := Lib.hid hr
  have HW1 := Lib.hid (rch_walk (fr := fr) (s := s) (r := r) (p := p) (n := 8) (acc := 1))
  have HW2 := Lib.hid (rch_walk (fr := fr) (s := s) (r := r) (p := p) (n := 8) (acc := 2))
  obtain ⟨V1, hV1⟩ : ∃ V, rchV fr s r p 8 1 = V := ⟨_, rfl⟩
  obtain ⟨V2, hV2⟩ : ∃ V, rchV fr s r p 8 2 = V := ⟨_, rfl⟩
  obtain ⟨B1, hB1⟩ : ∃ B, rchB fr s r p 8 1 = B := ⟨_, rfl⟩
  obtain ⟨B2, hB2⟩ : ∃ B, rchB fr s r p 8 2 = B := ⟨_, rfl⟩
  rw [hV1] at hu1 HW1
  rw [hV2] at hu2 HW2
  rw [hB1] at HW1
  rw [hB2] at HW2
  have HV1 := Lib.hid hu1.1
  have HV2 := Lib.hid hu2.1
  have HB1 := Lib.hid hB1
  have HB2 := Lib.hid hB2
  obtain ⟨U1, hU1⟩ : ∃ V, walkV fr s r p 1 = V := ⟨_, rfl⟩
  obtain ⟨U2, hU2⟩ : ∃ V, walkV fr s r p 2 = V := ⟨_, rfl⟩
  rw [hU1] at HW1
  rw [hU2] at HW2
  have HU1 := Lib.hid hU1
  have HU2 := Lib.hid hU2
  have g1 : IntKind.i64.wrap (op - 66) = op - 66 := by rw [IntKind.wrap_i64]; omega
  have g2 : IntKind.i64.wrap (op - 66 - 11) = op - 66 - 11 := by rw [IntKind.wrap_i64]; omega
  have g3 : 10 < op - 66 := by omega
  have g4 : (op - 66 - 11 == 0) = false := by simp; omega
  have g5 : (op - 66 - 11 == 1) = false := by simp; omega
  have g6 : 1 < op - 66 - 11 := by omega
  obtain rfl : B2 = false := hB2.symm.trans hc
  clear hc HW1 HW2 hop
  clear hp hr hu1 hu2 hR hU1 hU2 hB1 hB2 hV1 hV2
  go_enter Tryz.func54, Tryz.ntmps54
  go_upto_region 1 with fail
  generalize (World.alloc _ (.cells _ 74)) = w1 at *
  generalize w.heap.size + 1 + 1 = zb at *
  generalize w.heap.size + 1 = db at *
  generalize w.heap.size = ib at *
  have S0 := Lib.hid (stable_star (stable_blk db (.cells (dnC d) 74)) (stable_star (stable_blk ib (.cells (insC ⟨op, rd, ia, ib', im⟩) 61)) (stable_star (stable_blk zb (.cells (dnC dZ) 74)) HR.out)))
  have HI := Lib.hid hi
  clear hi
  have c0 := blk_cell HI.out.right.right.blk 0 (v := .int .i64 (op)) rfl
  have CA := Lib.hid (o_access HI.out S0.out r p 8 1 HP.out HRI.out (.inr (.inr (.inr rfl))) U1 B1 HU1.out HB1.out)
  go_upto_region 7 with (go_at_call 22; refine CA.out.mono ?_; rintro e w2 ⟨rfl, h2⟩; have K2 := Lib.hid h2; clear h2)
  clear CA HI c0
  have CA := Lib.hid (o_access K2.out S0.out r p 8 2 HP.out HRI.out (.inr (.inr (.inr rfl))) U2 false HU2.out HB2.out)
  go_upto_region 8 with (go_at_call 22; refine CA.out.mono ?_; rintro e w3 ⟨rfl, h3⟩; have K3 := Lib.hid h3; clear h3)
  clear CA K2
  have c0 := blk_cell K3.out.right.right.blk 0 (v := .int .i64 (op)) rfl
  have K4 := Lib.hid (K3.out.mono (fun F h => star_swap2 h))
  have SX := Lib.hid (stable_star (stable_rm b fr s) (stable_star (stable_blk ib (.cells (insC ⟨op, rd, ia, ib', im⟩) 61)) (stable_star (stable_blk zb (.cells (dnC dZ) 74)) HR.out)))
  clear K3
  have c3 := blk_cell K4.out.blk 3 (v := .int .i64 d.e.k) rfl
  have f3 := blk_frozen K4.out.blk 3
  have c4 := blk_cell K4.out.blk 4 (v := .int .u64 d.e.ad) rfl
  have f4 := blk_frozen K4.out.blk 4
  have c5 := blk_cell K4.out.blk 5 (v := .bool d.e.wr) rfl
  have f5 := blk_frozen K4.out.blk 5
  have KD : RowKit.Hid (Own w0 (((w3.setCell ⟨db, 3, none⟩ (.int .i64 6)).setCell ⟨db, 4, none⟩ (.int .u64 p)).setCell ⟨db, 5, none⟩ (.bool false)) (Star (blkA db (.cells (dnC { d with e := ⟨6, p, false⟩ }) 74)) _)) := Lib.hid (((K4.out.set SX.out 3 (.int .i64 6)).set SX.out 4 (.int .u64 p)).set SX.out 5 (.bool false))
  go_upto_region 19 with fail
  clear c3 f3 c4 f4 c5 f5
  clear K4
  generalize World.setCell (World.setCell (World.setCell w3 _ _) _ _) _ _ = w4 at *
  have L6 := Lib.hid KD.out.blk
  have KZ := Lib.hid (KD.out.mono (fun F h => st4 h))
  have SZ := Lib.hid (stable_star (stable_blk db (.cells (dnC { d with e := ⟨6, p, false⟩ }) 74)) (stable_star (stable_rm b fr s) (stable_star (stable_blk ib (.cells (insC ⟨op, rd, ia, ib', im⟩) 61)) HR.out)))
  have KF := Lib.hid (KZ.out.setRow SZ.out (dnC { d with e := ⟨6, p, false⟩ }))
  go_wp2_with (first
    | (refine wpList_load_row rfl 74 _ rfl _ rfl 74 _ (0, 0) _ L6.out Tryz.underlying74 rfl (dn_info _) ?_)
    | (refine wpList_store_row rfl 74 _ _ rfl _ _ rfl rfl 74 _ KZ.out.blk (dn_info _) rfl (dn_all1 _) ?_))
  refine bodyPost_ret (res_done rfl _ _ _ zb _ rfl (ldDn KF.out.blk)) rfl ⟨rfl, KF.out.mono (fun F h => ?_)⟩
  exact star_drop2 (star_drop2 (star_drop2 (st3 h)))
set_option maxHeartbeats 1600000 in
theorem o_at_am77_nor {w0 w : World} {b fr : Nat} {s : List UInt8} {R : Asn} (h : Own w0 w (Star (rmA b fr s) R)) (hR : Stable R) (hf : fr ≤ 256) (r : Int) (hr : i64 r) (op : Int) (rd ia ib' : Nat) (im : Int) (p bv : Int) (hp : Go.Proofs.YtngeabphjdfdgaaGreatDoor.P.u64 p) (hbv : word bv) (d : DN) (hop : 79 ≤ op ∧ op ≤ 87) (hc : rchB fr s r p 8 2 = true) (hb : rchB fr s r p 8 1 = false) :
    Calls Tryz.prog 54 #[.pointer (some ⟨b, 0, none⟩), .int .i64 r, .agg (insC ⟨op, rd, ia, ib', im⟩), .int .u64 p, .int .u64 bv, .agg (dnC d)] w fun e w' => e = .returned (.agg (dnC { d with e := ⟨6, p, false⟩ })) ∧ Own w0 w' (Star (rmA b fr s) R) := by
  have hi := mem_in h hR ⟨op, rd, ia, ib', im⟩ d
  have hu1 := rch_u64 (s := s) (r := r) (n := 8) (acc := 1) hf hp
  have hu2 := rch_u64 (s := s) (r := r) (n := 8) (acc := 2) hf hp
  clear h
  have HR := Lib.hid hR
  have HP := Lib.hid hp
  have HRI := Lib.hid hr
  have HW1 := Lib.hid (rch_walk (fr := fr) (s := s) (r := r) (p := p) (n := 8) (acc := 1))
  have HW2 := Lib.hid (rch_walk (fr := fr) (s := s) (r := r) (p := p) (n := 8) (acc := 2))
  obtain ⟨V1, hV1⟩ : ∃ V, rchV fr s r p 8 1 = V := ⟨_, rfl⟩
  obtain ⟨V2, hV2⟩ : ∃ V, rchV fr s r p 8 2 = V := ⟨_, rfl⟩
  obtain ⟨B1, hB1⟩ : ∃ B, rchB fr s r p 8 1 = B := ⟨_, rfl⟩
  obtain ⟨B2, hB2⟩ : ∃ B, rchB fr s r p 8 2 = B := ⟨_, rfl⟩
  rw [hV1] at hu1 HW1
  rw [hV2] at hu2 HW2
  rw [hB1] at HW1
  rw [hB2] at HW2
  have HV1 := Lib.hid hu1.1
  have HV2 := Lib.hid hu2.1
  have HB1 := Lib.hid hB1
  have HB2 := Lib.hid hB2
  obtain ⟨U1, hU1⟩ : ∃ V, walkV fr s r p 1 = V := ⟨_, rfl⟩
  obtain ⟨U2, hU2⟩ : ∃ V, walkV fr s r p 2 = V := ⟨_, rfl⟩
  rw [hU1] at HW1
  rw [hU2] at HW2
  have HU1 := Lib.hid hU1
  have HU2 := Lib.hid hU2
  have g1 : IntKind.i64.wrap (op - 66) = op - 66 := by rw [IntKind.wrap_i64]; omega
  have g2 : IntKind.i64.wrap (op - 66 - 11) = op - 66 - 11 := by rw [IntKind.wrap_i64]; omega
  have g3 : 10 < op - 66 := by omega
  have g4 : (op - 66 - 11 == 0) = false := by simp; omega
  have g5 : (op - 66 - 11 == 1) = false := by simp; omega
  have g6 : 1 < op - 66 - 11 := by omega
  obtain rfl : B2 = true := hB2.symm.trans hc
  obtain rfl : B1 = false := hB1.symm.trans hb
  clear hc hb HW1 HW2 hop
  clear hp hr hu1 hu2 hR hU1 hU2 hB1 hB2 hV1 hV2
  go_enter Tryz.func54, Tryz.ntmps54
  go_upto_region 1 with fail
  generalize (World.alloc _ (.cells _ 74)) = w1 at *
  generalize w.heap.size + 1 + 1 = zb at *
  generalize w.heap.size + 1 = db at *
  generalize w.heap.size = ib at *
  have S0 := Lib.hid (stable_star (stable_blk db (.cells (dnC d) 74)) (stable_star (stable_blk ib (.cells (insC ⟨op, rd, ia, ib', im⟩) 61)) (stable_star (stable_blk zb (.cells (dnC dZ) 74)) HR.out)))
  have HI := Lib.hid hi
  clear hi
  have c0 := blk_cell HI.out.right.right.blk 0 (v := .int .i64 (op)) rfl
  have CA := Lib.hid (o_access HI.out S0.out r p 8 1 HP.out HRI.out (.inr (.inr (.inr rfl))) U1 false HU1.out HB1.out)
  go_upto_region 7 with (go_at_call 22; refine CA.out.mono ?_; rintro e w2 ⟨rfl, h2⟩; have K2 := Lib.hid h2; clear h2)
  clear CA HI c0
  have CA := Lib.hid (o_access K2.out S0.out r p 8 2 HP.out HRI.out (.inr (.inr (.inr rfl))) U2 true HU2.out HB2.out)
  go_upto_region 8 with (go_at_call 22; refine CA.out.mono ?_; rintro e w3 ⟨rfl, h3⟩; have K3 := Lib.hid h3; clear h3)
  clear CA K2
  have c0 := blk_cell K3.out.right.right.blk 0 (v := .int .i64 (op)) rfl
  have K4 := Lib.hid (K3.out.mono (fun F h => star_swap2 h))
  have SX := Lib.hid (stable_star (stable_rm b fr s) (stable_star (stable_blk ib (.cells (insC ⟨op, rd, ia, ib', im⟩) 61)) (stable_star (stable_blk zb (.cells (dnC dZ) 74)) HR.out)))
  clear K3
  have c3 := blk_cell K4.out.blk 3 (v := .int .i64 d.e.k) rfl
  have f3 := blk_frozen K4.out.blk 3
  have c4 := blk_cell K4.out.blk 4 (v := .int .u64 d.e.ad) rfl
  have f4 := blk_frozen K4.out.blk 4
  have c5 := blk_cell K4.out.blk 5 (v := .bool d.e.wr) rfl
  have f5 := blk_frozen K4.out.blk 5
  have KD : RowKit.Hid (Own w0 (((w3.setCell ⟨db, 3, none⟩ (.int .i64 6)).setCell ⟨db, 4, none⟩ (.int .u64 p)).setCell ⟨db, 5, none⟩ (.bool false)) (Star (blkA db (.cells (dnC { d with e := ⟨6, p, false⟩ }) 74)) _)) := Lib.hid (((K4.out.set SX.out 3 (.int .i64 6)).set SX.out 4 (.int .u64 p)).set SX.out 5 (.bool false))
  go_upto_region 19 with fail
  clear c3 f3 c4 f4 c5 f5
  clear K4
  generalize World.setCell (World.setCell (World.setCell w3 _ _) _ _) _ _ = w4 at *
  have L6 := Lib.hid KD.out.blk
  have KZ := Lib.hid (KD.out.mono (fun F h => st4 h))
  have SZ := Lib.hid (stable_star (stable_blk db (.cells (dnC { d with e := ⟨6, p, false⟩ }) 74)) (stable_star (stable_rm b fr s) (stable_star (stable_blk ib (.cells (insC ⟨op, rd, ia, ib', im⟩) 61)) HR.out)))
  have KF := Lib.hid (KZ.out.setRow SZ.out (dnC { d with e := ⟨6, p, false⟩ }))
  go_wp2_with (first
    | (refine wpList_load_row rfl 74 _ rfl _ rfl 74 _ (0, 0) _ L6.out Tryz.underlying74 rfl (dn_info _) ?_)
    | (refine wpList_store_row rfl 74 _ _ rfl _ _ rfl rfl 74 _ KZ.out.blk (dn_info _) rfl (dn_all1 _) ?_))
  refine bodyPost_ret (res_done rfl _ _ _ zb _ rfl (ldDn KF.out.blk)) rfl ⟨rfl, KF.out.mono (fun F h => ?_)⟩
  exact star_drop2 (star_drop2 (star_drop2 (st3 h)))
set_option maxHeartbeats 1600000 in
theorem o_at_am77_yes {w0 w : World} {b fr : Nat} {s : List UInt8} {R : Asn} (h : Own w0 w (Star (rmA b fr s) R)) (hR : Stable R) (hf : fr ≤ 256) (r : Int) (hr : i64 r) (op : Int) (rd ia ib' : Nat) (im : Int) (p bv : Int) (hp : Go.Proofs.YtngeabphjdfdgaaGreatDoor.P.u64 p) (hbv : word bv) (d : DN) (hop : 79 ≤ op ∧ op ≤ 87) (hc : rchB fr s r p 8 2 = true) (hb : rchB fr s r p 8 1 = true) :
    Calls Tryz.prog 54 #[.pointer (some ⟨b, 0, none⟩), .int .i64 r, .agg (insC ⟨op, rd, ia, ib', im⟩), .int .u64 p, .int .u64 bv, .agg (dnC d)] w fun e w' => e = .returned (.agg (dnC { d with sets := true, v := sgnF (loadV s (rchV fr s r p 8 2) 8) (8 * 8), e := ⟨0, rchV fr s r p 8 2, true⟩ })) ∧ Own w0 w' (Star (rmA b fr (storeS s (rchV fr s r p 8 2) 8 (amoV op (loadV s (rchV fr s r p 8 2) 8) bv))) R) := by
  have hi := mem_in h hR ⟨op, rd, ia, ib', im⟩ d
  have hu1 := rch_u64 (s := s) (r := r) (n := 8) (acc := 1) hf hp
  have hu2 := rch_u64 (s := s) (r := r) (n := 8) (acc := 2) hf hp
  clear h
  have HR := Lib.hid hR
  have HP := Lib.hid hp
  have HRI := Lib.hid hr
  have HW1 := Lib.hid (rch_walk (fr := fr) (s := s) (r := r) (p := p) (n := 8) (acc := 1))
  have HW2 := Lib.hid (rch_walk (fr := fr) (s := s) (r := r) (p := p) (n := 8) (acc := 2))
  obtain ⟨V1, hV1⟩ : ∃ V, rchV fr s r p 8 1 = V := ⟨_, rfl⟩
  obtain ⟨V2, hV2⟩ : ∃ V, rchV fr s r p 8 2 = V := ⟨_, rfl⟩
  obtain ⟨B1, hB1⟩ : ∃ B, rchB fr s r p 8 1 = B := ⟨_, rfl⟩
  obtain ⟨B2, hB2⟩ : ∃ B, rchB fr s r p 8 2 = B := ⟨_, rfl⟩
  rw [hV1] at hu1 HW1
  rw [hV2] at hu2 HW2
  rw [hB1] at HW1
  rw [hB2] at HW2
  have HV1 := Lib.hid hu1.1
  have HV2 := Lib.hid hu2.1
  have HB1 := Lib.hid hB1
  have HB2 := Lib.hid hB2
  obtain ⟨U1, hU1⟩ : ∃ V, walkV fr s r p 1 = V := ⟨_, rfl⟩
  obtain ⟨U2, hU2⟩ : ∃ V, walkV fr s r p 2 = V := ⟨_, rfl⟩
  rw [hU1] at HW1
  rw [hU2] at HW2
  have HU1 := Lib.hid hU1
  have HU2 := Lib.hid hU2
  have g1 : IntKind.i64.wrap (op - 66) = op - 66 := by rw [IntKind.wrap_i64]; omega
  have g2 : IntKind.i64.wrap (op - 66 - 11) = op - 66 - 11 := by rw [IntKind.wrap_i64]; omega
  have g3 : 10 < op - 66 := by omega
  have g4 : (op - 66 - 11 == 0) = false := by simp; omega
  have g5 : (op - 66 - 11 == 1) = false := by simp; omega
  have g6 : 1 < op - 66 - 11 := by omega
  rw [hV2]
  obtain rfl : B2 = true := hB2.symm.trans hc
  obtain rfl : B1 = true := hB1.symm.trans hb
  have hw := HW2.out rfl
  subst hw
  have HOP := Lib.hid hop
  clear hc hb HW1 HW2 hop
  have hvw := loadV_word s U2 8
  obtain ⟨L, hL⟩ : ∃ L, loadV s U2 8 = L := ⟨_, rfl⟩
  rw [hL] at hvw ⊢
  have HL := Lib.hid hvw
  have HLE := Lib.hid hL
  clear hL hvw
  obtain ⟨G, hG⟩ : ∃ G, sgnF L (8 * 8) = G := ⟨_, rfl⟩
  rw [hG]
  have HGE := Lib.hid hG
  clear hG
  have hmw := amo_word op L bv HL.out hbv
  obtain ⟨M, hM⟩ : ∃ M, amoV op L bv = M := ⟨_, rfl⟩
  rw [hM] at hmw ⊢
  have HM := Lib.hid hmw
  have HME := Lib.hid hM
  clear hM hmw
  obtain ⟨z, hz⟩ : ∃ z, storeS s U2 8 M = z := ⟨_, rfl⟩
  rw [hz]
  have HZE := Lib.hid hz
  clear hz
  clear hp hr hu1 hu2 hR hU1 hU2 hB1 hB2 hV1 hV2
  go_enter Tryz.func54, Tryz.ntmps54
  go_upto_region 1 with fail
  generalize (World.alloc _ (.cells _ 74)) = w1 at *
  generalize w.heap.size + 1 + 1 = zb at *
  generalize w.heap.size + 1 = db at *
  generalize w.heap.size = ib at *
  have S0 := Lib.hid (stable_star (stable_blk db (.cells (dnC d) 74)) (stable_star (stable_blk ib (.cells (insC ⟨op, rd, ia, ib', im⟩) 61)) (stable_star (stable_blk zb (.cells (dnC dZ) 74)) HR.out)))
  have HI := Lib.hid hi
  clear hi
  have c0 := blk_cell HI.out.right.right.blk 0 (v := .int .i64 (op)) rfl
  have CA := Lib.hid (o_access HI.out S0.out r p 8 1 HP.out HRI.out (.inr (.inr (.inr rfl))) U1 true HU1.out HB1.out)
  go_upto_region 7 with (go_at_call 22; refine CA.out.mono ?_; rintro e w2 ⟨rfl, h2⟩; have K2 := Lib.hid h2; clear h2)
  clear CA HI c0
  have CA := Lib.hid (o_access K2.out S0.out r p 8 2 HP.out HRI.out (.inr (.inr (.inr rfl))) U2 true HU2.out HB2.out)
  go_upto_region 8 with (go_at_call 22; refine CA.out.mono ?_; rintro e w3 ⟨rfl, h3⟩; have K3 := Lib.hid h3; clear h3)
  clear CA K2
  have c0 := blk_cell K3.out.right.right.blk 0 (v := .int .i64 (op)) rfl
  have K4 := Lib.hid (K3.out.mono (fun F h => star_swap2 h))
  have SX := Lib.hid (stable_star (stable_rm b fr s) (stable_star (stable_blk ib (.cells (insC ⟨op, rd, ia, ib', im⟩) 61)) (stable_star (stable_blk zb (.cells (dnC dZ) 74)) HR.out)))
  clear K3
  have c0 := blk_cell K4.out.blk 0 (v := .bool d.sets) rfl
  have f0 := blk_frozen K4.out.blk 0
  have K5 : RowKit.Hid (Own w0 (w3.setCell ⟨db, 0, none⟩ (.bool true)) (Star (blkA db (.cells (dnC { d with sets := true }) 74)) _)) := Lib.hid (K4.out.set SX.out 0 (.bool true))
  go_upto_region 21 with fail
  clear c0 f0
  clear K4
  generalize World.setCell w3 _ _ = w5 at *
  have SY := Lib.hid (stable_star (stable_blk db (.cells (dnC { d with sets := true }) 74)) (stable_star (stable_blk ib (.cells (insC ⟨op, rd, ia, ib', im⟩) 61)) (stable_star (stable_blk zb (.cells (dnC dZ) 74)) HR.out)))
  have CL0 := o_load5 K5.out.swap2 SY.out U2 8 HV2.out
  rw [HLE.out] at CL0
  have CL := Lib.hid CL0
  have CG0 := c_rsign L (8 * 8) HL.out
  rw [HGE.out] at CG0
  have CG := Lib.hid CG0
  clear CL0 CG0
  have ham : amoB op = true := by unfold amoB; exact decide_eq_true (by have := HOP.out; omega)
  have CM0 := c_ramo_t op L bv HL.out hbv
  rw [HME.out] at CM0
  have CM := Lib.hid CM0
  have HAM := Lib.hid ham
  clear ham CM0
  go_upto_region 31 with (go_at_call 24; refine CL.out.mono ?_; rintro e w6 ⟨rfl, h6⟩; have K6 := Lib.hid h6.swap2; clear h6)
  clear CL K5
  have c0 := blk_cell K6.out.right.right.blk 0 (v := .int .i64 op) rfl
  go_upto_region 32 with (go_at_call 84; refine (CM.out _ HAM.out).mono ?_; rintro e w7 ⟨rfl, rfl⟩)
  clear c0
  have c1 := blk_cell K6.out.blk 1 (v := .int .u64 d.v) rfl
  have f1 := blk_frozen K6.out.blk 1
  have K7 : RowKit.Hid (Own w0 (World.setCell _ ⟨db, 1, none⟩ (.int .u64 G)) (Star (blkA db (.cells (dnC { d with sets := true, v := G }) 74)) _)) := Lib.hid (K6.out.set SX.out 1 (.int .u64 G))
  go_upto_region 33 with (go_at_call 81; refine (CG.out _).mono ?_; rintro e w8 ⟨rfl, rfl⟩)
  clear CG CM K6 c1 f1
  generalize World.setCell _ ⟨db, 1, none⟩ _ = w9 at *
  have SY := Lib.hid (stable_star (stable_blk db (.cells (dnC { d with sets := true, v := G }) 74)) (stable_star (stable_blk ib (.cells (insC ⟨op, rd, ia, ib', im⟩) 61)) (stable_star (stable_blk zb (.cells (dnC dZ) 74)) HR.out)))
  obtain ⟨q, hq⟩ : ∃ q, loadR s U2 8 = q := ⟨_, rfl⟩
  have CS := Lib.hid (o_rstore K7.out.swap2 SY.out U2 8 M q HV2.out HM.out z HZE.out hq)
  clear hq
  go_upto_region 34 with (go_at_call 14; refine CS.out.mono ?_; rintro e w15 ⟨rfl, h5⟩; have K15 := Lib.hid h5.swap2; clear h5)
  clear CS K7 SX
  have SX := Lib.hid (stable_star (stable_rm b fr z) (stable_star (stable_blk ib (.cells (insC ⟨op, rd, ia, ib', im⟩) 61)) (stable_star (stable_blk zb (.cells (dnC dZ) 74)) HR.out)))
  have c3 := blk_cell K15.out.blk 3 (v := .int .i64 d.e.k) rfl
  have f3 := blk_frozen K15.out.blk 3
  have c4 := blk_cell K15.out.blk 4 (v := .int .u64 d.e.ad) rfl
  have f4 := blk_frozen K15.out.blk 4
  have c5 := blk_cell K15.out.blk 5 (v := .bool d.e.wr) rfl
  have f5 := blk_frozen K15.out.blk 5
  have KD : RowKit.Hid (Own w0 (((w15.setCell ⟨db, 3, none⟩ (.int .i64 0)).setCell ⟨db, 4, none⟩ (.int .u64 U2)).setCell ⟨db, 5, none⟩ (.bool true)) (Star (blkA db (.cells (dnC { d with sets := true, v := G, e := ⟨0, U2, true⟩ }) 74)) _)) := Lib.hid (((K15.out.set SX.out 3 (.int .i64 0)).set SX.out 4 (.int .u64 U2)).set SX.out 5 (.bool true))
  go_upto_region 35 with fail
  clear c3 f3 c4 f4 c5 f5
  clear K15
  generalize World.setCell (World.setCell (World.setCell w15 _ _) _ _) _ _ = w16 at *
  have L6 := Lib.hid KD.out.blk
  have KZ := Lib.hid (KD.out.mono (fun F h => st4 h))
  have SZ := Lib.hid (stable_star (stable_blk db (.cells (dnC { d with sets := true, v := G, e := ⟨0, U2, true⟩ }) 74)) (stable_star (stable_rm b fr z) (stable_star (stable_blk ib (.cells (insC ⟨op, rd, ia, ib', im⟩) 61)) HR.out)))
  have KF := Lib.hid (KZ.out.setRow SZ.out (dnC { d with sets := true, v := G, e := ⟨0, U2, true⟩ }))
  go_wp2_with (first
    | (refine wpList_load_row rfl 74 _ rfl _ rfl 74 _ (0, 0) _ L6.out Tryz.underlying74 rfl (dn_info _) ?_)
    | (refine wpList_store_row rfl 74 _ _ rfl _ _ rfl rfl 74 _ KZ.out.blk (dn_info _) rfl (dn_all1 _) ?_))
  refine bodyPost_ret (res_done rfl _ _ _ zb _ rfl (ldDn KF.out.blk)) rfl ⟨rfl, KF.out.mono (fun F h => ?_)⟩
  exact star_drop2 (star_drop2 (star_drop2 (st3 h)))
end Go.Proofs.YtngeabphjdfdgaaGreatDoor.P
namespace Go.Proofs.YtngeabphjdfdgaaGreatDoor.P
open Go.RowKit Go.MuLone Go.Proofs.YtngeabphjdfdgaaGreatDoor.W
theorem ld_pow (k : Nat) (hk : k < 7) : (2 : Int) ^ (((11 + (k : Int)) - 11) % 4).toNat = ldN k := seven (p := fun k => (2 : Int) ^ (((11 + (k : Int)) - 11) % 4).toNat = ldN k) (by decide) (by decide) (by decide) (by decide) (by decide) (by decide) (by decide) k hk
theorem st_pow (k : Nat) (hk : k < 4) : (2 : Int) ^ ((18 + (k : Int)) - 18).toNat = ldN k := by
  rcases (by omega : k = 0 ∨ k = 1 ∨ k = 2 ∨ k = 3) with rfl | rfl | rfl | rfl <;> decide
def MemP (w0 : World) (b fr : Nat) (R : Asn) (D : DR) (e : Ending) (w' : World) : Prop := e = .returned (.agg (dnC D.d)) ∧ Own w0 w' (Star (rmA b fr D.s) R)
theorem o_mem {w0 w : World} {b fr : Nat} {s : List UInt8} {R : Asn} (h : Own w0 w (Star (rmA b fr s) R)) (hR : Stable R) (hf : fr ≤ 256) (r : Int) (hr : i64 r) (I : InS) (hop : 11 ≤ I.op ∧ I.op ≤ 21) (p bv : Int) (hp : Go.Proofs.YtngeabphjdfdgaaGreatDoor.P.u64 p) (hbv : word bv) (d : DN) :
    Calls Tryz.prog 52 #[.pointer (some ⟨b, 0, none⟩), .int .i64 r, .agg (insC I), .int .u64 p, .int .u64 bv, .agg (dnC d)] w (MemP w0 b fr R (dMemF fr s r I.op p bv d)) := by
  obtain ⟨h1, h2⟩ := hop
  by_cases h3 : I.op ≤ 17
  · obtain ⟨k, hk⟩ : ∃ k : Nat, I.op = 11 + (k : Int) := ⟨(I.op - 11).toNat, by omega⟩
    have k7 : k < 7 := by omega
    have e : dMemF fr s r I.op p bv d = (if rchB fr s r p (ldN k) 1 = true then ⟨{ d with sets := true, v := if 11 + (k : Int) ≤ 14 then sgnF (loadV s (rchV fr s r p (ldN k) 1) (ldN k)) (8 * ldN k) else loadV s (rchV fr s r p (ldN k) 1) (ldN k) }, s⟩ else ⟨{ d with e := ⟨5, p, false⟩ }, s⟩) := by
      unfold dMemF; rw [if_pos h3, hk, ld_pow k k7]
    rw [e]
    cases hc : rchB fr s r p (ldN k) 1 with
    | false => rw [if_neg (by decide)]; exact o_mem_ld_no h hR hf r hr I k k7 hk p bv hp hbv d hc
    | true =>
      rw [if_pos rfl]
      by_cases h4 : k < 4
      · rw [if_pos (by omega)]; exact o_mem_ld_sg h hR hf r hr I k k7 hk p bv hp hbv d h4 hc
      · rw [if_neg (by omega)]; exact o_mem_ld_us h hR hf r hr I k k7 hk p bv hp hbv d (by omega) hc
  · obtain ⟨k, hk⟩ : ∃ k : Nat, I.op = 18 + (k : Int) := ⟨(I.op - 18).toNat, by omega⟩
    have k4 : k < 4 := by omega
    have e : dMemF fr s r I.op p bv d = (if rchB fr s r p (ldN k) 2 = true then ⟨{ d with e := ⟨0, rchV fr s r p (ldN k) 2, true⟩ }, storeS s (rchV fr s r p (ldN k) 2) (ldN k) bv⟩ else ⟨{ d with e := ⟨6, p, false⟩ }, s⟩) := by
      unfold dMemF; rw [if_neg h3, hk, st_pow k k4]
    rw [e]
    cases hc : rchB fr s r p (ldN k) 2 with
    | false => rw [if_neg (by decide)]; exact o_mem_st_no h hR hf r hr I k k4 hk p bv hp hbv d hc
    | true => rw [if_pos rfl]; exact o_mem_st_yes h hR hf r hr I k k4 hk p bv hp hbv d hc
theorem o_atm {w0 w : World} {b fr : Nat} {s : List UInt8} {R : Asn} (h : Own w0 w (Star (rmA b fr s) R)) (hR : Stable R) (hf : fr ≤ 256) (r : Int) (hr : i64 r) (I : InS) (hop : 66 ≤ I.op ∧ I.op ≤ 87) (p bv : Int) (hp : Go.Proofs.YtngeabphjdfdgaaGreatDoor.P.u64 p) (hbv : word bv) (d : DN) :
    Calls Tryz.prog 54 #[.pointer (some ⟨b, 0, none⟩), .int .i64 r, .agg (insC I), .int .u64 p, .int .u64 bv, .agg (dnC d)] w (MemP w0 b fr R (dAtF fr s r I.op p bv d)) := by
  obtain ⟨op, rd, ia, ib', im⟩ := I
  simp only at hop ⊢
  obtain ⟨h1, h2⟩ := hop
  unfold dAtF
  by_cases h3 : op ≤ 76
  · rw [show amN op = 4 from if_pos h3, show amK op = op - 66 from if_pos h3]
    by_cases h4 : op = 66
    · rw [if_pos (by omega)]
      cases hc : rchB fr s r p 4 1 with
      | false => rw [if_neg (by decide)]; exact o_at_lr66_no h hR hf r hr op rd ia ib' im p bv hp hbv d h4 hc
      | true => rw [if_pos rfl]; exact o_at_lr66_yes h hR hf r hr op rd ia ib' im p bv hp hbv d h4 hc
    · rw [if_neg (by omega)]
      by_cases h5 : op = 67
      · rw [if_pos (by omega)]
        cases hc : rchB fr s r p 4 2 with
        | false => rw [if_neg (by decide)]; exact o_at_sc67_no h hR hf r hr op rd ia ib' im p bv hp hbv d h5 hc
        | true =>
          rw [if_pos rfl]
          cases hh : (d.hd && decide (d.at_ = rchV fr s r p 4 2)) with
          | false => rw [if_neg (by decide)]; exact o_at_sc67_miss h hR hf r hr op rd ia ib' im p bv hp hbv d h5 hc hh
          | true => rw [if_pos rfl]; exact o_at_sc67_hit h hR hf r hr op rd ia ib' im p bv hp hbv d h5 hc hh
      · rw [if_neg (by omega)]
        cases hc : rchB fr s r p 4 2 with
        | false => rw [Bool.false_and, if_neg (by decide)]; exact o_at_am66_now h hR hf r hr op rd ia ib' im p bv hp hbv d (by omega) hc
        | true =>
          cases hb : rchB fr s r p 4 1 with
          | false => rw [Bool.and_false, if_neg (by decide)]; exact o_at_am66_nor h hR hf r hr op rd ia ib' im p bv hp hbv d (by omega) hc hb
          | true => rw [Bool.true_and, if_pos rfl]; exact o_at_am66_yes h hR hf r hr op rd ia ib' im p bv hp hbv d (by omega) hc hb
  · rw [show amN op = 8 from if_neg h3, show amK op = op - 77 from if_neg h3]
    by_cases h4 : op = 77
    · rw [if_pos (by omega)]
      cases hc : rchB fr s r p 8 1 with
      | false => rw [if_neg (by decide)]; exact o_at_lr77_no h hR hf r hr op rd ia ib' im p bv hp hbv d h4 hc
      | true => rw [if_pos rfl]; exact o_at_lr77_yes h hR hf r hr op rd ia ib' im p bv hp hbv d h4 hc
    · rw [if_neg (by omega)]
      by_cases h5 : op = 78
      · rw [if_pos (by omega)]
        cases hc : rchB fr s r p 8 2 with
        | false => rw [if_neg (by decide)]; exact o_at_sc78_no h hR hf r hr op rd ia ib' im p bv hp hbv d h5 hc
        | true =>
          rw [if_pos rfl]
          cases hh : (d.hd && decide (d.at_ = rchV fr s r p 8 2)) with
          | false => rw [if_neg (by decide)]; exact o_at_sc78_miss h hR hf r hr op rd ia ib' im p bv hp hbv d h5 hc hh
          | true => rw [if_pos rfl]; exact o_at_sc78_hit h hR hf r hr op rd ia ib' im p bv hp hbv d h5 hc hh
      · rw [if_neg (by omega)]
        cases hc : rchB fr s r p 8 2 with
        | false => rw [Bool.false_and, if_neg (by decide)]; exact o_at_am77_now h hR hf r hr op rd ia ib' im p bv hp hbv d (by omega) hc
        | true =>
          cases hb : rchB fr s r p 8 1 with
          | false => rw [Bool.and_false, if_neg (by decide)]; exact o_at_am77_nor h hR hf r hr op rd ia ib' im p bv hp hbv d (by omega) hc hb
          | true => rw [Bool.true_and, if_pos rfl]; exact o_at_am77_yes h hR hf r hr op rd ia ib' im p bv hp hbv d (by omega) hc hb
end Go.Proofs.YtngeabphjdfdgaaGreatDoor.P
namespace Go.Proofs.YtngeabphjdfdgaaGreatDoor.P
open Go.RowKit Go.MuLone Go.Proofs.YtngeabphjdfdgaaGreatDoor.W
theorem wpList_build3 {P : Program} {ops : Array Oper} {rest : List Oper} {o : Oper} {a : Act} {w : World} {Q : Exit → Act → World → Prop} (hg : o.guard = none) (t : TypeId) (k1 k2 k3 : Nat) (x1 x2 x3 : Operand) (ho : o.op = .build t #[(k1, x1), (k2, x2), (k3, x3)]) (v1 v2 v3 : Value) (h1 : a.eval x1 = v1) (h2 : a.eval x2 = v2) (h3 : a.eval x3 = v3)
    (cells : Array Value) (hb : P.built t [(k1, v1), (k2, v2), (k3, v3)] = some cells) (h : wpList P ops Q rest (a.put o.dst (.agg cells)) w) : wpList P ops Q (o :: rest) a w := by
  have hb2 : P.built t ((#[(k1, x1), (k2, x2), (k3, x3)] : Array (Nat × Operand)).map fun (i, x) => (i, a.eval x)).toList = some cells := by
    simp only [List.map_toArray, List.map_cons, List.map_nil, h1, h2, h3]
    exact hb
  exact wpList_plain hg fun _ hK => by
    refine wp_build t _ ho (by rw [hb2]; rfl) ?_
    rw [hb2]
    exact hK _ _ h
theorem built_done (x y : Int) (c : Bool) : Tryz.prog.built 74 [(2, .int .u64 x), (4, .bool c), (5, .int .u64 y)] = some (dnC ⟨false, 0, x, e0, c, y⟩) := by kernel_rfl
theorem does_in {w0 w : World} {b fr : Nat} {s : List UInt8} {R : Asn} (h : Own w0 w (Star (rmA b fr s) R)) (hR : Stable R) (I : InS) (H : HS) :
    Own w0 (((w.alloc (.cells (insC I) 61)).alloc (.cells (hC H) 27)).alloc (.cells #[.bool false, .int .u64 0, .int .u64 0, .int .i64 0, .int .u64 0, .bool false, .bool false, .int .u64 0] 74))
      (Star (rmA b fr s) (Star (blkA w.heap.size (.cells (insC I) 61)) (Star (blkA (w.heap.size + 1) (.cells (hC H) 27)) (Star (blkA (w.heap.size + 1 + 1) (.cells (dnC dZ) 74)) R)))) := by
  have S := stable_star (stable_rm b fr s) hR
  have k1 := h.alloc S (.cells (insC I) 61)
  have k2 := k1.alloc (stable_star (stable_blk _ _) S) (.cells (hC H) 27)
  have k3 := k2.alloc (stable_star (stable_blk _ _) (stable_star (stable_blk _ _) S)) (.cells (dnC dZ) 74)
  rw [World.size_alloc, World.size_alloc] at k3
  -- z, h, i, rm, R
  refine k3.mono (fun F h => ?_)
  have q := st4 h
  -- rm, z, h, i, R
  exact star_mono_r (fun F h => star_mono_r (fun F h => star_swap2 h) (st3 h)) q
theorem ins_info (I : InS) : (Tryz.prog.info? 61).map (·.size) = some (insC I).size := by rw [show (insC I).size = 5 from rfl]; kernel_rfl
theorem w64_w (a : Int) : IntKind.u64.wrap a = w64 a := IntKind.wrap_u64 a
theorem fin_al {d : DN} {s : List UInt8} {tg : Int} (h : tg % 4 = 0) : finF d s tg = ⟨{ d with pc := tg }, s⟩ := by unfold finF; rw [if_pos h]
theorem fin_no {d : DN} {s : List UInt8} {tg : Int} (h : ¬ tg % 4 = 0) : finF d s tg = ⟨{ d with e := ⟨4, tg, false⟩, pc := tg }, s⟩ := by unfold finF; rw [if_neg h]
end Go.Proofs.YtngeabphjdfdgaaGreatDoor.P
