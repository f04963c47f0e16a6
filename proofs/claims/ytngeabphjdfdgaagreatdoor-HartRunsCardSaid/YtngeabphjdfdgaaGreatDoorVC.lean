/- Stage 5: the document's step: loads and stores. No condition. -/
import Derived.Test.YtngeabphjdfdgaaGreatDoorVB
import Derived.Test.YtngeabphjdfdgaaGreatDoorJO
set_option linter.unusedVariables false
set_option linter.unusedSimpArgs false
set_option maxRecDepth 100000
namespace Go.Proofs.YtngeabphjdfdgaaGreatDoor.P
open Go.RowKit Go.MuLone Go.Proofs.YtngeabphjdfdgaaGreatDoor.W
def insC (I : InS) : Array Value := #[.int .i64 I.op, .int .i64 (I.rd : Int), .int .i64 (I.a : Int), .int .i64 (I.b : Int), .int .i64 I.i]
def dZ : DN := ⟨false, 0, 0, e0, false, 0⟩
def ldC : Array Value := #[.int .i64 1, .int .i64 2, .int .i64 4, .int .i64 8, .int .i64 1, .int .i64 2, .int .i64 4]
def ldN (k : Nat) : Int := [1, 2, 4, 8, 1, 2, 4].getD k 0
theorem seven {p : Nat → Prop} (h0 : p 0) (h1 : p 1) (h2 : p 2) (h3 : p 3) (h4 : p 4) (h5 : p 5) (h6 : p 6) (k : Nat) (hk : k < 7) : p k := by
  rcases (by omega : k = 0 ∨ k = 1 ∨ k = 2 ∨ k = 3 ∨ k = 4 ∨ k = 5 ∨ k = 6) with rfl | rfl | rfl | rfl | rfl | rfl | rfl <;> assumption
theorem ld_at (k : Nat) (hk : k < 7) : ldC[k]? = some (.int .i64 (ldN k)) := seven (p := fun k => ldC[k]? = some (.int .i64 (ldN k))) rfl rfl rfl rfl rfl rfl rfl k hk
theorem ld_sz (k : Nat) (hk : k < 7) : ldN k = 1 ∨ ldN k = 2 ∨ ldN k = 4 ∨ ldN k = 8 := seven (p := fun k => ldN k = 1 ∨ ldN k = 2 ∨ ldN k = 4 ∨ ldN k = 8) (by decide) (by decide) (by decide) (by decide) (by decide) (by decide) (by decide) k hk
theorem dn_info (d : DN) : (Tryz.prog.info? 74).map (·.size) = some (dnC d).size := by rw [show (dnC d).size = 8 from rfl]; kernel_rfl
theorem dn_all1 (d : DN) : (dnC d).all (·.oneCell') = true := by simp [dnC, Value.oneCell']
theorem ldDn {w : World} {g : Nat} {d : DN} (hg : w.heap[g]? = some (.cells (dnC d) 74)) : (loadVar 74 ⟨g, 0, none⟩).run Tryz.prog w = .ok (.agg (dnC d)) w :=
  run_loadVar_row w g 74 74 _ (0, 0) _ hg Tryz.underlying74 rfl (dn_info d)
theorem res_done {fn : Func} {p : Tmp} {ty : TypeId} (h : fn.results = #[.cell p ty]) (tmps : Array Value) (P : Program) (w : World) (g : Nat) (v0 : Value)
    (hp : tmps.getD p undef = .pointer (some ⟨g, 0, none⟩)) (hl : (loadVar ty ⟨g, 0, none⟩).run P w = .ok v0 w) :
    (results fn tmps).run P w = .ok v0 w := by
  have hp' : tmps[p]?.getD undef = .pointer (some ⟨g, 0, none⟩) := by simpa using hp
  simp [results, h, hp', asAddr, hl]
theorem rch_walk {fr : Nat} {s : List UInt8} {r p n acc : Int} (h : rchB fr s r p n acc = true) : walkV fr s r p acc = rchV fr s r p n acc := by
  unfold rchB at h
  rw [Bool.and_eq_true, decide_eq_true_eq] at h
  unfold rchV
  rw [if_pos h.1]
/-- Three new blocks: the instruction, what it does, the answer. -/
theorem mem_in {w0 w : World} {b fr : Nat} {s : List UInt8} {R : Asn} (h : Own w0 w (Star (rmA b fr s) R)) (hR : Stable R) (I : InS) (d : DN) :
    Own w0 (((w.alloc (.cells (insC I) 61)).alloc (.cells (dnC d) 74)).alloc (.cells #[.bool false, .int .u64 0, .int .u64 0, .int .i64 0, .int .u64 0, .bool false, .bool false, .int .u64 0] 74))
      (Star (rmA b fr s) (Star (blkA (w.heap.size + 1) (.cells (dnC d) 74)) (Star (blkA w.heap.size (.cells (insC I) 61)) (Star (blkA (w.heap.size + 1 + 1) (.cells (dnC dZ) 74)) R)))) := by
  have S := stable_star (stable_rm b fr s) hR
  have k1 := h.alloc S (.cells (insC I) 61)
  have k2 := k1.alloc (stable_star (stable_blk _ _) S) (.cells (dnC d) 74)
  have k3 := k2.alloc (stable_star (stable_blk _ _) (stable_star (stable_blk _ _) S)) (.cells (dnC dZ) 74)
  rw [World.size_alloc, World.size_alloc] at k3
  -- z, d, i, rm, R
  refine k3.mono (fun F h => ?_)
  have q := st4 h
  -- rm, z, d, i, R
  exact star_mono_r (fun F h => star_mono_r (fun F h => star_swap2 h) (star_swap2 h)) q
theorem o_mem_ld_sg {w0 w : World} {b fr : Nat} {s : List UInt8} {R : Asn} (h : Own w0 w (Star (rmA b fr s) R)) (hR : Stable R) (hf : fr ≤ 256) (r : Int) (hr : i64 r) (I : InS) (k : Nat) (hk : k < 7) (hop : I.op = 11 + (k : Int)) (p bv : Int) (hp : Go.Proofs.YtngeabphjdfdgaaGreatDoor.P.u64 p) (hbv : word bv) (d : DN) (hsg : k < 4) (hc : rchB fr s r p (ldN k) 1 = true) :
    Calls Tryz.prog 52 #[.pointer (some ⟨b, 0, none⟩), .int .i64 r, .agg (insC I), .int .u64 p, .int .u64 bv, .agg (dnC d)] w fun e w' => e = .returned (.agg (dnC { d with sets := true, v := sgnF (loadV s (rchV fr s r p (ldN k) 1) (ldN k)) (8 * ldN k) })) ∧ Own w0 w' (Star (rmA b fr s) R) := by
  have hi := mem_in h hR I d
  have hu := rch_u64 (s := s) (r := r) (n := ldN k) (acc := 1) (hf) hp
  clear h
  have HR := Lib.hid hR
  have hn := ld_sz k hk
  obtain ⟨n, hnk⟩ : ∃ n, ldN k = n := ⟨_, rfl⟩
  have hcell := ld_at k hk
  rw [hnk] at hn hu hc hcell
  try rw [hnk]
  obtain ⟨V, hV⟩ : ∃ V, rchV fr s r p n 1 = V := ⟨_, rfl⟩
  rw [hV] at hu
  try rw [hV]
  have HN := Lib.hid hn
  have HP := Lib.hid hp
  have HRI := Lib.hid hr
  have HC := Lib.hid hc
  have HV := Lib.hid (show rchB fr s r p n 1 = true → walkV fr s r p 1 = V from fun hb => (rch_walk hb).trans hV)
  have HVU := Lib.hid hu.1
  have e1 : IntKind.i64.wrap (11 + (k : Int) - 11) = (k : Int) := by rw [IntKind.wrap_i64]; omega
  have k0 : (0 : Int) ≤ k := by omega
  have k7 : (k : Int) < 7 := by omega
  have HK := Lib.hid hk
  clear hn hp hr hc hV hu hnk hR
  have hvw := loadV_word s V n
  obtain ⟨L, hL⟩ : ∃ L, loadV s V n = L := ⟨_, rfl⟩
  rw [hL] at hvw ⊢
  have HL := Lib.hid hvw
  have HLE := Lib.hid hL
  clear hL hvw
  obtain ⟨op, rd, ia, ib', im⟩ := I
  simp only at hop
  subst hop
  go_enter Tryz.func52, Tryz.ntmps52
  go_upto_region 1 with fail
  generalize (World.alloc _ (.cells _ 74)) = w1 at *
  generalize w.heap.size + 1 + 1 = zb at *
  generalize w.heap.size + 1 = db at *
  generalize w.heap.size = ib at *
  have S0 := Lib.hid (stable_star (stable_blk db (.cells (dnC d) 74)) (stable_star (stable_blk ib (.cells (insC ⟨11 + (k : Int), rd, ia, ib', im⟩) 61)) (stable_star (stable_blk zb (.cells (dnC dZ) 74)) HR.out)))
  have K1 : RowKit.Hid (Own w0 (w1.alloc (.cells #[.int .i64 1, .int .i64 2, .int .i64 4, .int .i64 8, .int .i64 1, .int .i64 2, .int .i64 4] 3)) (Star (blkA w1.heap.size (.cells ldC 3)) (Star (rmA b fr s) _))) := Lib.hid (hi.alloc (stable_star (stable_rm b fr s) S0.out) (.cells ldC 3))
  clear hi
  go_upto_region 2 with fail
  generalize (World.alloc w1 _) = w2 at *
  generalize w1.heap.size = lb at *
  have SL := Lib.hid (stable_blk lb (.cells ldC 3))
  have c0 := blk_cell K1.out.right.right.right.blk 0 (v := .int .i64 (11 + (k : Int))) rfl
  have cl := blk_cell K1.out.blk k hcell
  have K2 := Lib.hid (K1.out.mono (fun F h => star_swap2 h))
  clear hcell K1
  have CA := Lib.hid (o_access K2.out (stable_star SL.out S0.out) r p n 1 HP.out HRI.out HN.out _ true rfl HC.out)
  have hw := HV.out HC.out
  have CB := CA.out
  rw [hw] at CB
  have CA2 := Lib.hid CB
  clear CB CA hw HV
  have k10 : (11 + (k : Int)) ≤ 17 := by omega
  have k11 : (11 + (k : Int)) ≤ 14 := by omega
  go_upto_region 8 with (go_at_call 22; refine CA2.out.mono ?_; rintro e w3 ⟨rfl, h3⟩; have K3 := Lib.hid h3; clear h3)
  clear CA2 K2 cl c0
  have c0 := blk_cell K3.out.right.right.right.blk 0 (v := .int .i64 (11 + (k : Int))) rfl
  have cd := blk_cell K3.out.right.right.blk 0 (v := .bool d.sets) rfl
  have fd := blk_frozen K3.out.right.right.blk 0
  -- rm, lb, db, ..: db first
  have K4 := Lib.hid (K3.out.mono (fun F h => st3 h))
  have SX := Lib.hid (stable_star (stable_rm b fr s) (stable_star SL.out (stable_star (stable_blk ib (.cells (insC ⟨11 + (k : Int), rd, ia, ib', im⟩) 61)) (stable_star (stable_blk zb (.cells (dnC dZ) 74)) HR.out))))
  have K5 : RowKit.Hid (Own w0 (w3.setCell ⟨db, 0, none⟩ (.bool true)) (Star (blkA db (.cells (dnC { d with sets := true }) 74)) _)) := Lib.hid (K4.out.set SX.out 0 (.bool true))
  clear K3 K4
  go_upto_region 9 with fail
  generalize World.setCell w3 _ _ = w5 at *
  clear cd fd
  have SY := Lib.hid (stable_star (stable_blk db (.cells (dnC { d with sets := true }) 74)) (stable_star SL.out (stable_star (stable_blk ib (.cells (insC ⟨11 + (k : Int), rd, ia, ib', im⟩) 61)) (stable_star (stable_blk zb (.cells (dnC dZ) 74)) HR.out))))
  have CL0 := o_load5 K5.out.swap2 SY.out V n HVU.out
  rw [HLE.out] at CL0
  have CL := Lib.hid CL0
  clear CL0
  go_upto_region 10 with (go_at_call 24; refine CL.out.mono ?_; rintro e w6 ⟨rfl, h6⟩; have K6 := Lib.hid h6.swap2; have cv := blk_cell h6.right.blk 1 (v := .int .u64 d.v) rfl; have fv := blk_frozen h6.right.blk 1; have KD := Lib.hid (show Own w0 (w6.setCell ⟨db, 1, none⟩ (.int .u64 L)) (Star (blkA db (.cells (dnC { d with sets := true, v := L }) 74)) _) from h6.swap2.set SX.out 1 (.int .u64 L)); clear h6)
  clear CL K5 cv fv K6
  obtain ⟨w7, hw7⟩ : ∃ q, World.setCell w6 ⟨db, 1, none⟩ (.int .u64 L) = q := ⟨_, rfl⟩
  rw [hw7] at KD ⊢
  clear hw7
  have c0 := blk_cell KD.out.right.right.right.blk 0 (v := .int .i64 (11 + (k : Int))) rfl
  have e8 : IntKind.i64.wrap (8 * n) = 8 * n := by rw [IntKind.wrap_i64]; have := HN.out; omega
  have cv := blk_cell KD.out.blk 1 (v := .int .u64 L) rfl
  have fv := blk_frozen KD.out.blk 1
  have KE : RowKit.Hid (Own w0 (w7.setCell ⟨db, 1, none⟩ (.int .u64 (sgnF L (8 * n)))) (Star (blkA db (.cells (dnC { d with sets := true, v := sgnF L (8 * n) }) 74)) _)) := Lib.hid (KD.out.set SX.out 1 (.int .u64 (sgnF L (8 * n))))
  go_upto_region 12 with (go_at_call 81; refine (c_rsign L (8 * n) HL.out _).mono ?_; rintro e w8 ⟨rfl, rfl⟩)
  clear cv fv KD
  generalize World.setCell _ ⟨db, 1, none⟩ _ = w9 at *
  have KD := KE
  have CA := trivial
  clear CA
  have L6 := Lib.hid KD.out.blk
  have KZ := Lib.hid (KD.out.mono (fun F h => st5 h))
  have SZ := Lib.hid (stable_star (stable_blk db (.cells (dnC { d with sets := true, v := sgnF L (8 * n) }) 74)) (stable_star (stable_rm b fr s) (stable_star SL.out (stable_star (stable_blk ib (.cells (insC ⟨11 + (k : Int), rd, ia, ib', im⟩) 61)) HR.out))))
  have KF := Lib.hid (KZ.out.setRow SZ.out (dnC { d with sets := true, v := sgnF L (8 * n) }))
  go_wp2_with (first
    | (refine wpList_load_row rfl 74 _ rfl _ rfl 74 _ (0, 0) _ L6.out Tryz.underlying74 rfl (dn_info _) ?_)
    | (refine wpList_store_row rfl 74 _ _ rfl _ _ rfl rfl 74 _ KZ.out.blk (dn_info _) rfl (dn_all1 _) ?_))
  refine bodyPost_ret (res_done rfl _ _ _ zb _ rfl (ldDn KF.out.blk)) rfl ⟨rfl, KF.out.mono (fun F h => ?_)⟩
  exact star_drop2 (star_drop2 (star_drop2 (star_drop2 (st3 h))))
theorem o_mem_ld_us {w0 w : World} {b fr : Nat} {s : List UInt8} {R : Asn} (h : Own w0 w (Star (rmA b fr s) R)) (hR : Stable R) (hf : fr ≤ 256) (r : Int) (hr : i64 r) (I : InS) (k : Nat) (hk : k < 7) (hop : I.op = 11 + (k : Int)) (p bv : Int) (hp : Go.Proofs.YtngeabphjdfdgaaGreatDoor.P.u64 p) (hbv : word bv) (d : DN) (hus : 4 ≤ k) (hc : rchB fr s r p (ldN k) 1 = true) :
    Calls Tryz.prog 52 #[.pointer (some ⟨b, 0, none⟩), .int .i64 r, .agg (insC I), .int .u64 p, .int .u64 bv, .agg (dnC d)] w fun e w' => e = .returned (.agg (dnC { d with sets := true, v := loadV s (rchV fr s r p (ldN k) 1) (ldN k) })) ∧ Own w0 w' (Star (rmA b fr s) R) := by
  have hi := mem_in h hR I d
  have hu := rch_u64 (s := s) (r := r) (n := ldN k) (acc := 1) (hf) hp
  clear h
  have HR := Lib.hid hR
  have hn := ld_sz k hk
  obtain ⟨n, hnk⟩ : ∃ n, ldN k = n := ⟨_, rfl⟩
  have hcell := ld_at k hk
  rw [hnk] at hn hu hc hcell
  try rw [hnk]
  obtain ⟨V, hV⟩ : ∃ V, rchV fr s r p n 1 = V := ⟨_, rfl⟩
  rw [hV] at hu
  try rw [hV]
  have HN := Lib.hid hn
  have HP := Lib.hid hp
  have HRI := Lib.hid hr
  have HC := Lib.hid hc
  have HV := Lib.hid (show rchB fr s r p n 1 = true → walkV fr s r p 1 = V from fun hb => (rch_walk hb).trans hV)
  have HVU := Lib.hid hu.1
  have e1 : IntKind.i64.wrap (11 + (k : Int) - 11) = (k : Int) := by rw [IntKind.wrap_i64]; omega
  have k0 : (0 : Int) ≤ k := by omega
  have k7 : (k : Int) < 7 := by omega
  have HK := Lib.hid hk
  clear hn hp hr hc hV hu hnk hR
  have hvw := loadV_word s V n
  obtain ⟨L, hL⟩ : ∃ L, loadV s V n = L := ⟨_, rfl⟩
  rw [hL] at hvw ⊢
  have HL := Lib.hid hvw
  have HLE := Lib.hid hL
  clear hL hvw
  obtain ⟨op, rd, ia, ib', im⟩ := I
  simp only at hop
  subst hop
  go_enter Tryz.func52, Tryz.ntmps52
  go_upto_region 1 with fail
  generalize (World.alloc _ (.cells _ 74)) = w1 at *
  generalize w.heap.size + 1 + 1 = zb at *
  generalize w.heap.size + 1 = db at *
  generalize w.heap.size = ib at *
  have S0 := Lib.hid (stable_star (stable_blk db (.cells (dnC d) 74)) (stable_star (stable_blk ib (.cells (insC ⟨11 + (k : Int), rd, ia, ib', im⟩) 61)) (stable_star (stable_blk zb (.cells (dnC dZ) 74)) HR.out)))
  have K1 : RowKit.Hid (Own w0 (w1.alloc (.cells #[.int .i64 1, .int .i64 2, .int .i64 4, .int .i64 8, .int .i64 1, .int .i64 2, .int .i64 4] 3)) (Star (blkA w1.heap.size (.cells ldC 3)) (Star (rmA b fr s) _))) := Lib.hid (hi.alloc (stable_star (stable_rm b fr s) S0.out) (.cells ldC 3))
  clear hi
  go_upto_region 2 with fail
  generalize (World.alloc w1 _) = w2 at *
  generalize w1.heap.size = lb at *
  have SL := Lib.hid (stable_blk lb (.cells ldC 3))
  have c0 := blk_cell K1.out.right.right.right.blk 0 (v := .int .i64 (11 + (k : Int))) rfl
  have cl := blk_cell K1.out.blk k hcell
  have K2 := Lib.hid (K1.out.mono (fun F h => star_swap2 h))
  clear hcell K1
  have CA := Lib.hid (o_access K2.out (stable_star SL.out S0.out) r p n 1 HP.out HRI.out HN.out _ true rfl HC.out)
  have hw := HV.out HC.out
  have CB := CA.out
  rw [hw] at CB
  have CA2 := Lib.hid CB
  clear CB CA hw HV
  have k10 : (11 + (k : Int)) ≤ 17 := by omega
  have k11 : ¬ (11 + (k : Int)) ≤ 14 := by omega
  go_upto_region 8 with (go_at_call 22; refine CA2.out.mono ?_; rintro e w3 ⟨rfl, h3⟩; have K3 := Lib.hid h3; clear h3)
  clear CA2 K2 cl c0
  have c0 := blk_cell K3.out.right.right.right.blk 0 (v := .int .i64 (11 + (k : Int))) rfl
  have cd := blk_cell K3.out.right.right.blk 0 (v := .bool d.sets) rfl
  have fd := blk_frozen K3.out.right.right.blk 0
  -- rm, lb, db, ..: db first
  have K4 := Lib.hid (K3.out.mono (fun F h => st3 h))
  have SX := Lib.hid (stable_star (stable_rm b fr s) (stable_star SL.out (stable_star (stable_blk ib (.cells (insC ⟨11 + (k : Int), rd, ia, ib', im⟩) 61)) (stable_star (stable_blk zb (.cells (dnC dZ) 74)) HR.out))))
  have K5 : RowKit.Hid (Own w0 (w3.setCell ⟨db, 0, none⟩ (.bool true)) (Star (blkA db (.cells (dnC { d with sets := true }) 74)) _)) := Lib.hid (K4.out.set SX.out 0 (.bool true))
  clear K3 K4
  go_upto_region 9 with fail
  generalize World.setCell w3 _ _ = w5 at *
  clear cd fd
  have SY := Lib.hid (stable_star (stable_blk db (.cells (dnC { d with sets := true }) 74)) (stable_star SL.out (stable_star (stable_blk ib (.cells (insC ⟨11 + (k : Int), rd, ia, ib', im⟩) 61)) (stable_star (stable_blk zb (.cells (dnC dZ) 74)) HR.out))))
  have CL0 := o_load5 K5.out.swap2 SY.out V n HVU.out
  rw [HLE.out] at CL0
  have CL := Lib.hid CL0
  clear CL0
  go_upto_region 10 with (go_at_call 24; refine CL.out.mono ?_; rintro e w6 ⟨rfl, h6⟩; have K6 := Lib.hid h6.swap2; have cv := blk_cell h6.right.blk 1 (v := .int .u64 d.v) rfl; have fv := blk_frozen h6.right.blk 1; have KD := Lib.hid (show Own w0 (w6.setCell ⟨db, 1, none⟩ (.int .u64 L)) (Star (blkA db (.cells (dnC { d with sets := true, v := L }) 74)) _) from h6.swap2.set SX.out 1 (.int .u64 L)); clear h6)
  clear CL K5 cv fv K6
  obtain ⟨w7, hw7⟩ : ∃ q, World.setCell w6 ⟨db, 1, none⟩ (.int .u64 L) = q := ⟨_, rfl⟩
  rw [hw7] at KD ⊢
  clear hw7
  have c0 := blk_cell KD.out.right.right.right.blk 0 (v := .int .i64 (11 + (k : Int))) rfl
  have CA := trivial
  clear CA
  have L6 := Lib.hid KD.out.blk
  have KZ := Lib.hid (KD.out.mono (fun F h => st5 h))
  have SZ := Lib.hid (stable_star (stable_blk db (.cells (dnC { d with sets := true, v := L }) 74)) (stable_star (stable_rm b fr s) (stable_star SL.out (stable_star (stable_blk ib (.cells (insC ⟨11 + (k : Int), rd, ia, ib', im⟩) 61)) HR.out))))
  have KF := Lib.hid (KZ.out.setRow SZ.out (dnC { d with sets := true, v := L }))
  go_wp2_with (first
    | (refine wpList_load_row rfl 74 _ rfl _ rfl 74 _ (0, 0) _ L6.out Tryz.underlying74 rfl (dn_info _) ?_)
    | (refine wpList_store_row rfl 74 _ _ rfl _ _ rfl rfl 74 _ KZ.out.blk (dn_info _) rfl (dn_all1 _) ?_))
  refine bodyPost_ret (res_done rfl _ _ _ zb _ rfl (ldDn KF.out.blk)) rfl ⟨rfl, KF.out.mono (fun F h => ?_)⟩
  exact star_drop2 (star_drop2 (star_drop2 (star_drop2 (st3 h))))
theorem o_mem_ld_no {w0 w : World} {b fr : Nat} {s : List UInt8} {R : Asn} (h : Own w0 w (Star (rmA b fr s) R)) (hR : Stable R) (hf : fr ≤ 256) (r : Int) (hr : i64 r) (I : InS) (k : Nat) (hk : k < 7) (hop : I.op = 11 + (k : Int)) (p bv : Int) (hp : Go.Proofs.YtngeabphjdfdgaaGreatDoor.P.u64 p) (hbv : word bv) (d : DN) (hc : rchB fr s r p (ldN k) 1 = false) :
    Calls Tryz.prog 52 #[.pointer (some ⟨b, 0, none⟩), .int .i64 r, .agg (insC I), .int .u64 p, .int .u64 bv, .agg (dnC d)] w fun e w' => e = .returned (.agg (dnC { d with e := ⟨5, p, false⟩ })) ∧ Own w0 w' (Star (rmA b fr s) R) := by
  have hi := mem_in h hR I d
  have hu := rch_u64 (s := s) (r := r) (n := ldN k) (acc := 1) (hf) hp
  clear h
  have HR := Lib.hid hR
  have hn := ld_sz k hk
  obtain ⟨n, hnk⟩ : ∃ n, ldN k = n := ⟨_, rfl⟩
  have hcell := ld_at k hk
  rw [hnk] at hn hu hc hcell
  try rw [hnk]
  obtain ⟨V, hV⟩ : ∃ V, rchV fr s r p n 1 = V := ⟨_, rfl⟩
  rw [hV] at hu
  try rw [hV]
  have HN := Lib.hid hn
  have HP := Lib.hid hp
  have HRI := Lib.hid hr
  have HC := Lib.hid hc
  have HV := Lib.hid (show rchB fr s r p n 1 = true → walkV fr s r p 1 = V from fun hb => (rch_walk hb).trans hV)
  have HVU := Lib.hid hu.1
  have e1 : IntKind.i64.wrap (11 + (k : Int) - 11) = (k : Int) := by rw [IntKind.wrap_i64]; omega
  have k0 : (0 : Int) ≤ k := by omega
  have k7 : (k : Int) < 7 := by omega
  have HK := Lib.hid hk
  clear hn hp hr hc hV hu hnk hR
  obtain ⟨op, rd, ia, ib', im⟩ := I
  simp only at hop
  subst hop
  go_enter Tryz.func52, Tryz.ntmps52
  go_upto_region 1 with fail
  generalize (World.alloc _ (.cells _ 74)) = w1 at *
  generalize w.heap.size + 1 + 1 = zb at *
  generalize w.heap.size + 1 = db at *
  generalize w.heap.size = ib at *
  have S0 := Lib.hid (stable_star (stable_blk db (.cells (dnC d) 74)) (stable_star (stable_blk ib (.cells (insC ⟨11 + (k : Int), rd, ia, ib', im⟩) 61)) (stable_star (stable_blk zb (.cells (dnC dZ) 74)) HR.out)))
  have K1 : RowKit.Hid (Own w0 (w1.alloc (.cells #[.int .i64 1, .int .i64 2, .int .i64 4, .int .i64 8, .int .i64 1, .int .i64 2, .int .i64 4] 3)) (Star (blkA w1.heap.size (.cells ldC 3)) (Star (rmA b fr s) _))) := Lib.hid (hi.alloc (stable_star (stable_rm b fr s) S0.out) (.cells ldC 3))
  clear hi
  go_upto_region 2 with fail
  generalize (World.alloc w1 _) = w2 at *
  generalize w1.heap.size = lb at *
  have SL := Lib.hid (stable_blk lb (.cells ldC 3))
  have c0 := blk_cell K1.out.right.right.right.blk 0 (v := .int .i64 (11 + (k : Int))) rfl
  have cl := blk_cell K1.out.blk k hcell
  have K2 := Lib.hid (K1.out.mono (fun F h => star_swap2 h))
  clear hcell K1
  have CA := Lib.hid (o_access K2.out (stable_star SL.out S0.out) r p n 1 HP.out HRI.out HN.out _ false rfl HC.out)
  have k10 : (11 + (k : Int)) ≤ 17 := by omega
  obtain ⟨WV, hWV⟩ : ∃ q, walkV fr s r p 1 = q := ⟨_, rfl⟩
  rw [hWV] at CA
  clear hWV HV
  go_upto_region 7 with (go_at_call 22; refine CA.out.mono ?_; rintro e w3 ⟨rfl, h3⟩; have K3 := Lib.hid h3; have c3 := blk_cell h3.right.right.blk 3 (v := .int .i64 d.e.k) rfl; have c4 := blk_cell h3.right.right.blk 4 (v := .int .u64 d.e.ad) rfl; have c5 := blk_cell h3.right.right.blk 5 (v := .bool d.e.wr) rfl; have f3 := blk_frozen h3.right.right.blk 3; have f4 := blk_frozen h3.right.right.blk 4; have f5 := blk_frozen h3.right.right.blk 5; clear h3)
  clear K2 cl c0
  have K4 := Lib.hid (K3.out.mono (fun F h => st3 h))
  have SX := Lib.hid (stable_star (stable_rm b fr s) (stable_star SL.out (stable_star (stable_blk ib (.cells (insC ⟨11 + (k : Int), rd, ia, ib', im⟩) 61)) (stable_star (stable_blk zb (.cells (dnC dZ) 74)) HR.out))))
  have KD : RowKit.Hid (Own w0 (((w3.setCell ⟨db, 3, none⟩ (.int .i64 5)).setCell ⟨db, 4, none⟩ (.int .u64 p)).setCell ⟨db, 5, none⟩ (.bool false)) (Star (blkA db (.cells (dnC { d with e := ⟨5, p, false⟩ }) 74)) _)) := Lib.hid (((K4.out.set SX.out 3 (.int .i64 5)).set SX.out 4 (.int .u64 p)).set SX.out 5 (.bool false))
  clear K3 K4 c3 c4 c5 f3 f4 f5
  generalize World.setCell (World.setCell (World.setCell w3 _ _) _ _) _ _ = w4 at *
  clear CA
  have L6 := Lib.hid KD.out.blk
  have KZ := Lib.hid (KD.out.mono (fun F h => st5 h))
  have SZ := Lib.hid (stable_star (stable_blk db (.cells (dnC { d with e := ⟨5, p, false⟩ }) 74)) (stable_star (stable_rm b fr s) (stable_star SL.out (stable_star (stable_blk ib (.cells (insC ⟨11 + (k : Int), rd, ia, ib', im⟩) 61)) HR.out))))
  have KF := Lib.hid (KZ.out.setRow SZ.out (dnC { d with e := ⟨5, p, false⟩ }))
  go_wp2_with (first
    | (refine wpList_load_row rfl 74 _ rfl _ rfl 74 _ (0, 0) _ L6.out Tryz.underlying74 rfl (dn_info _) ?_)
    | (refine wpList_store_row rfl 74 _ _ rfl _ _ rfl rfl 74 _ KZ.out.blk (dn_info _) rfl (dn_all1 _) ?_))
  refine bodyPost_ret (res_done rfl _ _ _ zb _ rfl (ldDn KF.out.blk)) rfl ⟨rfl, KF.out.mono (fun F h => ?_)⟩
  exact star_drop2 (star_drop2 (star_drop2 (star_drop2 (st3 h))))
theorem o_mem_st_no {w0 w : World} {b fr : Nat} {s : List UInt8} {R : Asn} (h : Own w0 w (Star (rmA b fr s) R)) (hR : Stable R) (hf : fr ≤ 256) (r : Int) (hr : i64 r) (I : InS) (k : Nat) (hk : k < 4) (hop : I.op = 18 + (k : Int)) (p bv : Int) (hp : Go.Proofs.YtngeabphjdfdgaaGreatDoor.P.u64 p) (hbv : word bv) (d : DN) (hc : rchB fr s r p (ldN k) 2 = false) :
    Calls Tryz.prog 52 #[.pointer (some ⟨b, 0, none⟩), .int .i64 r, .agg (insC I), .int .u64 p, .int .u64 bv, .agg (dnC d)] w fun e w' => e = .returned (.agg (dnC { d with e := ⟨6, p, false⟩ })) ∧ Own w0 w' (Star (rmA b fr s) R) := by
  have hk7 : k < 7 := by omega
  have hi := mem_in h hR I d
  have hu := rch_u64 (s := s) (r := r) (n := ldN k) (acc := 2) (hf) hp
  clear h
  have HR := Lib.hid hR
  have hn := ld_sz k hk7
  obtain ⟨n, hnk⟩ : ∃ n, ldN k = n := ⟨_, rfl⟩
  have hcell := ld_at k hk7
  rw [hnk] at hn hu hc hcell
  try rw [hnk]
  obtain ⟨V, hV⟩ : ∃ V, rchV fr s r p n 2 = V := ⟨_, rfl⟩
  rw [hV] at hu
  try rw [hV]
  have HN := Lib.hid hn
  have HP := Lib.hid hp
  have HRI := Lib.hid hr
  have HC := Lib.hid hc
  have HV := Lib.hid (show rchB fr s r p n 2 = true → walkV fr s r p 2 = V from fun hb => (rch_walk hb).trans hV)
  have HVU := Lib.hid hu.1
  have e1 : IntKind.i64.wrap (18 + (k : Int) - 18) = (k : Int) := by rw [IntKind.wrap_i64]; omega
  have k0 : (0 : Int) ≤ k := by omega
  have k7 : (k : Int) < 7 := by omega
  have HK := Lib.hid hk
  clear hn hp hr hc hV hu hnk hR
  obtain ⟨op, rd, ia, ib', im⟩ := I
  simp only at hop
  subst hop
  go_enter Tryz.func52, Tryz.ntmps52
  go_upto_region 1 with fail
  generalize (World.alloc _ (.cells _ 74)) = w1 at *
  generalize w.heap.size + 1 + 1 = zb at *
  generalize w.heap.size + 1 = db at *
  generalize w.heap.size = ib at *
  have S0 := Lib.hid (stable_star (stable_blk db (.cells (dnC d) 74)) (stable_star (stable_blk ib (.cells (insC ⟨18 + (k : Int), rd, ia, ib', im⟩) 61)) (stable_star (stable_blk zb (.cells (dnC dZ) 74)) HR.out)))
  have K1 : RowKit.Hid (Own w0 (w1.alloc (.cells #[.int .i64 1, .int .i64 2, .int .i64 4, .int .i64 8, .int .i64 1, .int .i64 2, .int .i64 4] 3)) (Star (blkA w1.heap.size (.cells ldC 3)) (Star (rmA b fr s) _))) := Lib.hid (hi.alloc (stable_star (stable_rm b fr s) S0.out) (.cells ldC 3))
  clear hi
  go_upto_region 2 with fail
  generalize (World.alloc w1 _) = w2 at *
  generalize w1.heap.size = lb at *
  have SL := Lib.hid (stable_blk lb (.cells ldC 3))
  have c0 := blk_cell K1.out.right.right.right.blk 0 (v := .int .i64 (18 + (k : Int))) rfl
  have cl := blk_cell K1.out.blk k hcell
  have K2 := Lib.hid (K1.out.mono (fun F h => star_swap2 h))
  clear hcell K1
  have CA := Lib.hid (o_access K2.out (stable_star SL.out S0.out) r p n 2 HP.out HRI.out HN.out _ false rfl HC.out)
  have k10 : ¬ (18 + (k : Int)) ≤ 17 := by omega
  obtain ⟨WV, hWV⟩ : ∃ q, walkV fr s r p 2 = q := ⟨_, rfl⟩
  rw [hWV] at CA
  clear hWV HV
  go_upto_region 17 with (go_at_call 22; refine CA.out.mono ?_; rintro e w3 ⟨rfl, h3⟩; have K3 := Lib.hid h3; have c3 := blk_cell h3.right.right.blk 3 (v := .int .i64 d.e.k) rfl; have c4 := blk_cell h3.right.right.blk 4 (v := .int .u64 d.e.ad) rfl; have c5 := blk_cell h3.right.right.blk 5 (v := .bool d.e.wr) rfl; have f3 := blk_frozen h3.right.right.blk 3; have f4 := blk_frozen h3.right.right.blk 4; have f5 := blk_frozen h3.right.right.blk 5; clear h3)
  clear K2 cl c0
  have K4 := Lib.hid (K3.out.mono (fun F h => st3 h))
  have SX := Lib.hid (stable_star (stable_rm b fr s) (stable_star SL.out (stable_star (stable_blk ib (.cells (insC ⟨18 + (k : Int), rd, ia, ib', im⟩) 61)) (stable_star (stable_blk zb (.cells (dnC dZ) 74)) HR.out))))
  have KD : RowKit.Hid (Own w0 (((w3.setCell ⟨db, 3, none⟩ (.int .i64 6)).setCell ⟨db, 4, none⟩ (.int .u64 p)).setCell ⟨db, 5, none⟩ (.bool false)) (Star (blkA db (.cells (dnC { d with e := ⟨6, p, false⟩ }) 74)) _)) := Lib.hid (((K4.out.set SX.out 3 (.int .i64 6)).set SX.out 4 (.int .u64 p)).set SX.out 5 (.bool false))
  clear K3 K4 c3 c4 c5 f3 f4 f5
  generalize World.setCell (World.setCell (World.setCell w3 _ _) _ _) _ _ = w4 at *
  clear CA
  have L6 := Lib.hid KD.out.blk
  have KZ := Lib.hid (KD.out.mono (fun F h => st5 h))
  have SZ := Lib.hid (stable_star (stable_blk db (.cells (dnC { d with e := ⟨6, p, false⟩ }) 74)) (stable_star (stable_rm b fr s) (stable_star SL.out (stable_star (stable_blk ib (.cells (insC ⟨18 + (k : Int), rd, ia, ib', im⟩) 61)) HR.out))))
  have KF := Lib.hid (KZ.out.setRow SZ.out (dnC { d with e := ⟨6, p, false⟩ }))
  go_wp2_with (first
    | (refine wpList_load_row rfl 74 _ rfl _ rfl 74 _ (0, 0) _ L6.out Tryz.underlying74 rfl (dn_info _) ?_)
    | (refine wpList_store_row rfl 74 _ _ rfl _ _ rfl rfl 74 _ KZ.out.blk (dn_info _) rfl (dn_all1 _) ?_))
  refine bodyPost_ret (res_done rfl _ _ _ zb _ rfl (ldDn KF.out.blk)) rfl ⟨rfl, KF.out.mono (fun F h => ?_)⟩
  exact star_drop2 (star_drop2 (star_drop2 (star_drop2 (st3 h))))
theorem o_mem_st_yes {w0 w : World} {b fr : Nat} {s : List UInt8} {R : Asn} (h : Own w0 w (Star (rmA b fr s) R)) (hR : Stable R) (hf : fr ≤ 256) (r : Int) (hr : i64 r) (I : InS) (k : Nat) (hk : k < 4) (hop : I.op = 18 + (k : Int)) (p bv : Int) (hp : Go.Proofs.YtngeabphjdfdgaaGreatDoor.P.u64 p) (hbv : word bv) (d : DN) (hc : rchB fr s r p (ldN k) 2 = true) :
    Calls Tryz.prog 52 #[.pointer (some ⟨b, 0, none⟩), .int .i64 r, .agg (insC I), .int .u64 p, .int .u64 bv, .agg (dnC d)] w fun e w' => e = .returned (.agg (dnC { d with e := ⟨0, rchV fr s r p (ldN k) 2, true⟩ })) ∧ Own w0 w' (Star (rmA b fr (storeS s (rchV fr s r p (ldN k) 2) (ldN k) bv)) R) := by
  have hk7 : k < 7 := by omega
  have hi := mem_in h hR I d
  have hu := rch_u64 (s := s) (r := r) (n := ldN k) (acc := 2) (hf) hp
  clear h
  have HR := Lib.hid hR
  have hn := ld_sz k hk7
  obtain ⟨n, hnk⟩ : ∃ n, ldN k = n := ⟨_, rfl⟩
  have hcell := ld_at k hk7
  rw [hnk] at hn hu hc hcell
  try rw [hnk]
  obtain ⟨V, hV⟩ : ∃ V, rchV fr s r p n 2 = V := ⟨_, rfl⟩
  rw [hV] at hu
  try rw [hV]
  have HN := Lib.hid hn
  have HP := Lib.hid hp
  have HRI := Lib.hid hr
  have HC := Lib.hid hc
  have HV := Lib.hid (show rchB fr s r p n 2 = true → walkV fr s r p 2 = V from fun hb => (rch_walk hb).trans hV)
  have HVU := Lib.hid hu.1
  have e1 : IntKind.i64.wrap (18 + (k : Int) - 18) = (k : Int) := by rw [IntKind.wrap_i64]; omega
  have k0 : (0 : Int) ≤ k := by omega
  have k7 : (k : Int) < 7 := by omega
  have HK := Lib.hid hk
  clear hn hp hr hc hV hu hnk hR
  obtain ⟨z, hz⟩ : ∃ z, storeS s V n bv = z := ⟨_, rfl⟩
  rw [hz]
  have HZE := Lib.hid hz
  clear hz
  obtain ⟨op, rd, ia, ib', im⟩ := I
  simp only at hop
  subst hop
  go_enter Tryz.func52, Tryz.ntmps52
  go_upto_region 1 with fail
  generalize (World.alloc _ (.cells _ 74)) = w1 at *
  generalize w.heap.size + 1 + 1 = zb at *
  generalize w.heap.size + 1 = db at *
  generalize w.heap.size = ib at *
  have S0 := Lib.hid (stable_star (stable_blk db (.cells (dnC d) 74)) (stable_star (stable_blk ib (.cells (insC ⟨18 + (k : Int), rd, ia, ib', im⟩) 61)) (stable_star (stable_blk zb (.cells (dnC dZ) 74)) HR.out)))
  have K1 : RowKit.Hid (Own w0 (w1.alloc (.cells #[.int .i64 1, .int .i64 2, .int .i64 4, .int .i64 8, .int .i64 1, .int .i64 2, .int .i64 4] 3)) (Star (blkA w1.heap.size (.cells ldC 3)) (Star (rmA b fr s) _))) := Lib.hid (hi.alloc (stable_star (stable_rm b fr s) S0.out) (.cells ldC 3))
  clear hi
  go_upto_region 2 with fail
  generalize (World.alloc w1 _) = w2 at *
  generalize w1.heap.size = lb at *
  have SL := Lib.hid (stable_blk lb (.cells ldC 3))
  have c0 := blk_cell K1.out.right.right.right.blk 0 (v := .int .i64 (18 + (k : Int))) rfl
  have cl := blk_cell K1.out.blk k hcell
  have K2 := Lib.hid (K1.out.mono (fun F h => star_swap2 h))
  clear hcell K1
  have CA := Lib.hid (o_access K2.out (stable_star SL.out S0.out) r p n 2 HP.out HRI.out HN.out _ true rfl HC.out)
  have hw := HV.out HC.out
  have CB := CA.out
  rw [hw] at CB
  have CA2 := Lib.hid CB
  clear CB CA hw HV
  have k10 : ¬ (18 + (k : Int)) ≤ 17 := by omega
  go_upto_region 18 with (go_at_call 22; refine CA2.out.mono ?_; rintro e w3 ⟨rfl, h3⟩; have K3 := Lib.hid h3; clear h3)
  clear CA2 K2 cl c0
  obtain ⟨q, hq⟩ : ∃ q, loadR s V n = q := ⟨_, rfl⟩
  have CS := Lib.hid (o_rstore K3.out (stable_star SL.out S0.out) V n bv q HVU.out hbv z HZE.out hq)
  clear hq
  go_upto_region 19 with (go_at_call 14; refine CS.out.mono ?_; rintro e w5 ⟨rfl, h5⟩; have K5 := Lib.hid h5; have c3 := blk_cell h5.right.right.blk 3 (v := .int .i64 d.e.k) rfl; have c4 := blk_cell h5.right.right.blk 4 (v := .int .u64 d.e.ad) rfl; have c5 := blk_cell h5.right.right.blk 5 (v := .bool d.e.wr) rfl; have f3 := blk_frozen h5.right.right.blk 3; have f4 := blk_frozen h5.right.right.blk 4; have f5 := blk_frozen h5.right.right.blk 5; clear h5)
  clear CS K3
  have K4 := Lib.hid (K5.out.mono (fun F h => st3 h))
  have SX := Lib.hid (stable_star (stable_rm b fr z) (stable_star SL.out (stable_star (stable_blk ib (.cells (insC ⟨18 + (k : Int), rd, ia, ib', im⟩) 61)) (stable_star (stable_blk zb (.cells (dnC dZ) 74)) HR.out))))
  have KD : RowKit.Hid (Own w0 (((w5.setCell ⟨db, 3, none⟩ (.int .i64 0)).setCell ⟨db, 4, none⟩ (.int .u64 V)).setCell ⟨db, 5, none⟩ (.bool true)) (Star (blkA db (.cells (dnC { d with e := ⟨0, V, true⟩ }) 74)) _)) := Lib.hid (((K4.out.set SX.out 3 (.int .i64 0)).set SX.out 4 (.int .u64 V)).set SX.out 5 (.bool true))
  clear K4
  go_upto_region 20 with fail
  clear c3 c4 c5 f3 f4 f5 K5
  generalize World.setCell (World.setCell (World.setCell w5 _ _) _ _) _ _ = w6 at *
  have CA := trivial
  clear CA
  have L6 := Lib.hid KD.out.blk
  have KZ := Lib.hid (KD.out.mono (fun F h => st5 h))
  have SZ := Lib.hid (stable_star (stable_blk db (.cells (dnC { d with e := ⟨0, V, true⟩ }) 74)) (stable_star (stable_rm b fr z) (stable_star SL.out (stable_star (stable_blk ib (.cells (insC ⟨18 + (k : Int), rd, ia, ib', im⟩) 61)) HR.out))))
  have KF := Lib.hid (KZ.out.setRow SZ.out (dnC { d with e := ⟨0, V, true⟩ }))
  go_wp2_with (first
    | (refine wpList_load_row rfl 74 _ rfl _ rfl 74 _ (0, 0) _ L6.out Tryz.underlying74 rfl (dn_info _) ?_)
    | (refine wpList_store_row rfl 74 _ _ rfl _ _ rfl rfl 74 _ KZ.out.blk (dn_info _) rfl (dn_all1 _) ?_))
  refine bodyPost_ret (res_done rfl _ _ _ zb _ rfl (ldDn KF.out.blk)) rfl ⟨rfl, KF.out.mono (fun F h => ?_)⟩
  exact star_drop2 (star_drop2 (star_drop2 (star_drop2 (st3 h))))
end Go.Proofs.YtngeabphjdfdgaaGreatDoor.P
