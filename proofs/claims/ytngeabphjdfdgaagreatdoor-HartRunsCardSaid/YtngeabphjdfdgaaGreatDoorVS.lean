/- Stage 5: a step at a root that is no frame. No condition. -/
import Derived.Test.YtngeabphjdfdgaaGreatDoorIA
import Derived.Test.YtngeabphjdfdgaaGreatDoorJO
import Derived.Test.YtngeabphjdfdgaaGreatDoorVO
import Derived.Deep.LoopGhost
set_option linter.unusedVariables false
set_option linter.unusedSimpArgs false
set_option maxRecDepth 100000
namespace Go.Proofs.YtngeabphjdfdgaaGreatDoor.P
open Go.RowKit Go.MuLone Go.Proofs.YtngeabphjdfdgaaGreatDoor.W
theorem built_event0 : Tryz.prog.built 36 [] = some (evC e0) := by kernel_rfl
set_option maxHeartbeats 6400000 in
theorem o_step_arg {w0 w : World} {b fr : Nat} {s : List UInt8} {R : Asn} (h : Own w0 w (Star (memA b fr s) R)) (hR : Stable R) (r : Int) (hr : i64 r) (hbad : r < 0 ∨ (fr : Int) ≤ r) (H : HS) :
    Calls Tryz.prog 7 #[.pointer (some ⟨b, 0, none⟩), .int .i64 r, .agg (hC H)] w fun e w' => e = .returned (.tuple #[.agg (hC HZ), .agg (evC e0), .int .i64 1]) ∧ Own w0 w' (Star (memA b fr s) R) := by
  have hbad2 : r < 0 ∨ (¬ r < 0 ∧ (fr : Int) ≤ r) := by omega
  have hi := step_in h hR r H
  have hl := o_mlen h
  clear h
  go_enter Tryz.func7, Tryz.ntmps7
  go_upto_region 1 with fail
  generalize (World.alloc _ (.cells _ 36)) = w1 at *
  generalize w.heap.size + 1 + 1 + 1 + 1 = eb at *
  generalize w.heap.size + 1 + 1 + 1 = zb at *
  generalize w.heap.size + 1 + 1 = hb at *
  generalize w.heap.size + 1 = rb at *
  generalize w.heap.size = mb at *
  have HI := Lib.hid hi
  have c0 := blk_cell hi.right.blk 0 (v := .pointer (some ⟨b, 0, none⟩)) rfl
  have c1 := blk_cell hi.right.right.blk 0 (v := .int .i64 r) rfl
  have CF := Lib.hid (o_framesH hi)
  clear hi
  have SM := Lib.hid (stable_mem b fr s)
  have HR := Lib.hid hR
  clear hbad hR
  rcases hbad2 with d1 | ⟨d1, d2⟩
  all_goals
    go_wp2_with fail
    go_quiet ((go_at_call 15; exact Calls.quiet_of_same (CF.out _ rfl)))
    have k2 := HI.out.gr (stable_star SM.out (stable_box mb rb b r (stable_star (stable_blk hb _) (stable_star (stable_blk zb _) (stable_star (stable_blk eb _) HR.out))))) (gr_dN2 w1 nq)
    have ST1 := Lib.hid (stable_star SM.out (stable_star (stable_blk mb (.cells #[.pointer (some ⟨b, 0, none⟩)] 31)) (stable_star (stable_blk rb (.cells #[.int .i64 r] 3)) (stable_star (stable_blk hb (.cells (hC H) 27)) (stable_star (stable_blk eb (.cells (evC e0) 36)) HR.out)))))
    have ST2 := Lib.hid (stable_star (stable_blk zb (.cells (hC HZ) 27)) (stable_star SM.out (stable_star (stable_blk mb (.cells #[.pointer (some ⟨b, 0, none⟩)] 31)) (stable_star (stable_blk rb (.cells #[.int .i64 r] 3)) (stable_star (stable_blk hb (.cells (hC H) 27)) HR.out)))))
    have Z1 := Lib.hid (k2.mono (fun F h => st5 h))
    have Z2 := Lib.hid ((Z1.out.setRow ST1.out (hC HZ)).mono (fun F h => st6 h))
    have Z3 := Lib.hid (Z2.out.setRow ST2.out (evC e0))
    clear HI k2 c0 c1 d1 CF
    generalize w1.drewN nq = w2 at *
    go_wp2_with (first
      | (refine wpList_build0r rfl 27 rfl _ built_hart0 ?_)
      | (refine wpList_build0r rfl 36 rfl _ built_event0 ?_)
      | (refine wpList_store_row rfl 27 _ _ rfl _ _ rfl rfl 27 _ Z1.out.blk (hC_info _) rfl (hC_all1 _) ?_)
      | (refine wpList_store_row rfl 36 _ _ rfl _ _ rfl rfl 36 _ Z2.out.blk (evC_info _) rfl (evC_all1 _) ?_))
    refine bodyPost_ret (res_step rfl _ _ _ zb eb _ _ rfl rfl (ldH Z3.out.right.blk) (ldE Z3.out.blk)) rfl ?_
    refine ⟨?_, Z3.out.right.right.drop2.drop2.drop2⟩
    rfl
end Go.Proofs.YtngeabphjdfdgaaGreatDoor.P
namespace Go.Proofs.YtngeabphjdfdgaaGreatDoor.P
open Go.RowKit Go.MuLone Go.Proofs.YtngeabphjdfdgaaGreatDoor.W
set_option maxHeartbeats 1600000 in
theorem eqEd (e : EvS) (d : Nat) (w : World) : (Op.equalIn (d + 4) 36 (.agg (evC e)) (.agg (evC e))).run Tryz.prog w = .ok true w := by
  have h1 : Tryz.prog.stoodInHeld 36 = false := by kernel_rfl
  have p0 : (part 3 (evC e) 0).run Tryz.prog w = .ok (.int .i64 e.k) w := run_part_plain w (by kernel_rfl) rfl
  have p1 : (part 24 (evC e) 1).run Tryz.prog w = .ok (.int .u64 e.ad) w := run_part_plain w (by kernel_rfl) rfl
  have p2 : (part 4 (evC e) 2).run Tryz.prog w = .ok (.bool e.wr) w := run_part_plain w (by kernel_rfl) rfl
  have hi : ∀ v : Int, (Op.equalIn (d + 3) 3 (.int .i64 v) (.int .i64 v)).run Tryz.prog w = .ok true w := fun v => by simp [Op.equalIn, Sem.run_bind, run_underlying Tryz.underlying3]
  have hu : ∀ v : Int, (Op.equalIn (d + 3) 24 (.int .u64 v) (.int .u64 v)).run Tryz.prog w = .ok true w := fun v => by simp [Op.equalIn, Sem.run_bind, run_underlying Tryz.underlying24]
  have hb : ∀ v : Bool, (Op.equalIn (d + 3) 4 (.bool v) (.bool v)).run Tryz.prog w = .ok true w := fun v => by simp [Op.equalIn, Sem.run_bind, run_underlying Tryz.underlying4]
  have hf : Tryz.prog.underlying 36 = some (.struct (Tryz.prog.fieldsOf 36)) := by kernel_rfl
  have hl : (Tryz.prog.fieldsOf 36).toList.map (fun f => (f.type, f.offset)) = [(3, 0), (24, 1), (4, 2)] := by kernel_rfl
  refine (run_equalIn_struct w (d + 3) 36 (evC e) (evC e) hf h1).trans (eqF (d + 3) (evC e) w _ (fun f hm => ?_))
  have hm2 := List.mem_map_of_mem (f := fun f : Field => (f.type, f.offset)) hm
  rw [hl] at hm2
  generalize evC e = c at *
  generalize Tryz.prog.fieldsOf 36 = fs at *
  obtain ⟨nm, ty, of_, _⟩ := f
  simp only [List.mem_cons, List.not_mem_nil, or_false, Prod.mk.injEq] at hm2
  rcases hm2 with ⟨e1, e2⟩ | ⟨e1, e2⟩ | ⟨e1, e2⟩
  · exact ⟨_, by rw [e1, e2]; exact p0, by rw [e1]; exact hi _⟩
  · exact ⟨_, by rw [e1, e2]; exact p1, by rw [e1]; exact hu _⟩
  · exact ⟨_, by rw [e1, e2]; exact p2, by rw [e1]; exact hb _⟩
theorem eqE (e : EvS) (w : World) : (Op.equalIn 10000 36 (.agg (evC e)) (.agg (evC e))).run Tryz.prog w = .ok true w := eqEd e 9996 w
theorem wpList_eql_g {P : Program} {ops : Array Oper} {rest : List Oper} {o : Oper} {a : Act} {w : World} {Q : Exit → Act → World → Prop} (hgd : Region.wanted o (yielded ops a.tmps) = true) (ty ty2 : TypeId) (x y : Operand) (ho : o.op = .binOp .eql ty x y ty2) (u v : Array Value) (hx : a.eval x = .agg u) (hy : a.eval y = .agg v) (b : Bool) (hm : P.eqGuardType P.depth ty = false)
    (hrun : (binOp .eql ty (.agg u) (.agg v)).run P w = .ok (.bool b) w) (h : wpList P ops Q rest (a.put o.dst (.bool b)) w) : wpList P ops Q (o :: rest) a w := by
  rw [wpList, if_pos hgd]
  refine .inl ?_
  unfold Oper.wp
  have hg := run_eqGuard_agg (P := P) (w := w) (op := BinOp.eql) (t := ty) (x := x) (y := y) (xs := u) (ys := v) hm
  simp [execOp, ho, hx, hy, hrun, hg, Result.andThen]
  exact h
theorem wpList_neq_g {P : Program} {ops : Array Oper} {rest : List Oper} {o : Oper} {a : Act} {w : World} {Q : Exit → Act → World → Prop} (hgd : Region.wanted o (yielded ops a.tmps) = true) (ty ty2 : TypeId) (x y : Operand) (ho : o.op = .binOp .neq ty x y ty2) (u v : Array Value) (hx : a.eval x = .agg u) (hy : a.eval y = .agg v) (b : Bool) (hm : P.eqGuardType P.depth ty = false)
    (hrun : (binOp .neq ty (.agg u) (.agg v)).run P w = .ok (.bool b) w) (h : wpList P ops Q rest (a.put o.dst (.bool b)) w) : wpList P ops Q (o :: rest) a w := by
  rw [wpList, if_pos hgd]
  refine .inl ?_
  unfold Oper.wp
  have hg := run_eqGuard_agg (P := P) (w := w) (op := BinOp.neq) (t := ty) (x := x) (y := y) (xs := u) (ys := v) hm
  simp [execOp, ho, hx, hy, hrun, hg, Result.andThen]
  exact h
theorem egE5 : Tryz.prog.eqGuardType Tryz.prog.depth 36 = false := by kernel_rfl
theorem egH5 : Tryz.prog.eqGuardType Tryz.prog.depth 27 = false := by kernel_rfl
theorem eqlE (e : EvS) (w : World) : (binOp .eql 36 (.agg (evC e)) (.agg (evC e))).run Tryz.prog w = .ok (.bool true) w := by
  rw [run_eql_struct, eqE]; rfl
theorem eqlH (K : HS) (w : World) : (binOp .eql 27 (.agg (hC K)) (.agg (hC K))).run Tryz.prog w = .ok (.bool true) w := by
  rw [run_eql_struct, eqH]; rfl
theorem neqE5 (e : EvS) (w : World) : (binOp .neq 36 (.agg (evC e)) (.agg (evC e))).run Tryz.prog w = .ok (.bool false) w := by
  rw [run_neq_struct, eqE]; rfl
theorem neqH5 (K : HS) (w : World) : (binOp .neq 27 (.agg (hC K)) (.agg (hC K))).run Tryz.prog w = .ok (.bool false) w := by
  rw [run_neq_struct, eqH]; rfl
theorem wpList_build0_g {P : Program} {ops : Array Oper} {rest : List Oper} {o : Oper} {a : Act} {w : World} {Q : Exit → Act → World → Prop} (hgd : Region.wanted o (yielded ops a.tmps) = true) (t : TypeId) (ho : o.op = .build t #[])
    (cells : Array Value) (hb : P.built t [] = some cells) (h : wpList P ops Q rest (a.put o.dst (.agg cells)) w) : wpList P ops Q (o :: rest) a w := by
  have hb2 : P.built t ((#[] : Array (Nat × Operand)).map fun (i, x) => (i, a.eval x)).toList = some cells := by simpa using hb
  rw [wpList, if_pos hgd]
  refine .inl (wp_build t _ ho (by rw [hb2]; rfl) ?_)
  rw [hb2]
  exact h
theorem o_stepr {w0 w : World} {b : Nat} {R : Asn} {s : List UInt8} (h : Own w0 w (Star (memA b 8 s) R)) (hR : Stable R) (hT : PT w0) (hF : FT w0) (r : Int) (hr0 : 0 ≤ r) (hr1 : r < ((8 : Nat) : Int)) (H : HS) (hH : H.ok) (S : RS) (hs : stepF 8 s r H = S) :
    Calls Tryz.prog 7 #[.pointer (some ⟨b, 0, none⟩), .int .i64 r, .agg (hC H)] w fun e w' => e = .returned (.tuple #[.agg (hC S.H), .agg (evC S.e), .int .i64 0]) ∧ Own w0 w' (Star (memA b 8 S.s) R) := by
  have := o_step h hR r hr0 hr1 H hH hT hF
  rw [hs] at this
  exact this
theorem whole_get {s : List UInt8} (h : s.length = 2048) : getV s 0 2048 = subB s 0 s.length := by
  unfold getV
  rw [if_neg (by decide), if_pos (inB_t (by rw [h]; decide)), h]
  rfl
end Go.Proofs.YtngeabphjdfdgaaGreatDoor.P
namespace Go.Proofs.YtngeabphjdfdgaaGreatDoor.P
open Go.RowKit Go.MuLone Go.Proofs.YtngeabphjdfdgaaGreatDoor.W
set_option maxHeartbeats 6400000 in
theorem l_runs (w : World) (hT : PT w) (hF : FT w) (oa ov oc : Option Addr) (na ca nv cv nc cc ba fa bv fv bc fc : Nat) (A V C : Nat → Int) (H : HS) (ok : H.ok)
    (hla : na ≤ 9223372036854775807) (hlv : nv ≤ 9223372036854775807) (hlc : nc ≤ 9223372036854775807)
    (ha : 0 < na → oa = some ⟨ba, fa, none⟩ ∧ ba < w.heap.size) (hA : ∀ i, i < na → Go.Proofs.YtngeabphjdfdgaaGreatDoor.P.u64 (A i) ∧ w.cell? ⟨ba, fa + i, none⟩ = some (.int .u64 (A i)))
    (hv : 0 < nv → ov = some ⟨bv, fv, none⟩ ∧ bv < w.heap.size) (hV : ∀ i, i < nv → Go.Proofs.YtngeabphjdfdgaaGreatDoor.P.u64 (V i) ∧ w.cell? ⟨bv, fv + i, none⟩ = some (.int .u64 (V i)))
    (hc : 0 < nc → oc = some ⟨bc, fc, none⟩ ∧ bc < w.heap.size) (hC' : ∀ i, i < nc → u32 (C i) ∧ w.cell? ⟨bc, fc + i, none⟩ = some (.int .u32 (C i))) (n : Int) (hn : i64 n) :
    Calls Tryz.prog 4 #[.agg (wC (.slice oa na ca) (.slice ov nv cv) (.slice oc nc cc) H), .int .i64 n] w fun e w' => e = .returned (.bool true) ∧ Gr w w' := by
  obtain ⟨n0, n1⟩ := hn
  have K0 := Lib.hid ((Own.start (Gr.refl w)).alloc stable_emp (.cells (wC (.slice oa na ca) (.slice ov nv cv) (.slice oc nc cc) H) 29))
  have S0 := Lib.hid (stable_star (stable_blk w.heap.size (.cells (wC (.slice oa na ca) (.slice ov nv cv) (.slice oc nc cc) H) 29)) stable_emp)
  have hT1 := hT.gr K0.out.sub
  have hF1 := hF.gr K0.out.sub
  obtain ⟨FS, hFS⟩ : ∃ FS, wrdS (codS C (min nc 64)) A V (min na nv) = FS := ⟨_, rfl⟩
  have CM : RowKit.Hid (∀ w2 : World, Gr w w2 → Calls Tryz.prog 6 #[.agg (wC (.slice oa na ca) (.slice ov nv cv) (.slice oc nc cc) H)] w2 fun e w' => ∃ b rb, e = .returned (.tuple #[.pointer (some ⟨b, 0, none⟩), .pointer (some ⟨rb, 0, none⟩)]) ∧ Own w2 w' (twoA b rb FS emp)) := Lib.hid (fun w2 g => by
    rw [← hFS]
    exact c_made5 w2 oa ov oc na ca nv cv nc cc ba fa bv fv bc fc A V C H hla hlv hlc (fun h => ⟨(ha h).1, Nat.lt_of_lt_of_le (ha h).2 g.size⟩) (fun i h => ⟨(hA i h).1, kcell g (hA i h).2⟩) (fun h => ⟨(hv h).1, Nat.lt_of_lt_of_le (hv h).2 g.size⟩) (fun i h => ⟨(hV i h).1, kcell g (hV i h).2⟩) (fun h => ⟨(hc h).1, Nat.lt_of_lt_of_le (hc h).2 g.size⟩) (fun i h => ⟨(hC' i h).1, kcell g (hC' i h).2⟩))
  clear ha hA hv hV hc hC' hFS
  have HT := Lib.hid hT
  have HF := Lib.hid hF
  have OK := Lib.hid ok
  clear hT hF ok
  go_enter Tryz.func4, Tryz.ntmps4
  go_upto_region 1 with fail
  generalize (World.alloc w _) = w1 at *
  generalize w.heap.size = wb at *
  have CS := Lib.hid (l_shown5 w1 hT1 hF1)
  go_upto_region 2 with (go_at_call 5; refine CS.out.mono ?_; rintro e w2 ⟨rfl, g2⟩; have K1 := Lib.hid (K0.out.gr S0.out g2); clear g2)
  clear CS K0 hT1 hF1
  go_upto_region 3 with (first
    | (refine wpList_load_row rfl 29 _ rfl _ rfl 29 _ (0, 0) _ K1.out.blk Tryz.underlying29 rfl (wC_info _ _ _ _) ?_)
    | (go_at_call 6; refine (CM.out _ K1.out.sub).mono ?_; rintro e w3 ⟨b, rb, rfl, h2⟩; have K2 := Lib.hid ((K1.out.under S0.out h2).mono (fun F h => star_mono_r (fun F h => star_assoc h) (star_assoc h))); clear h2))
  clear CM K1
  obtain ⟨R0, hR0⟩ : ∃ q, Star emp (Star (blkA wb (.cells (wC (.slice oa na ca) (.slice ov nv cv) (.slice oc nc cc) H) 29)) emp) = q := ⟨_, rfl⟩
  have SR : RowKit.Hid (Stable R0) := Lib.hid (by rw [← hR0]; exact stable_star stable_emp S0.out)
  have IB : RowKit.Hid (∀ w', Own w w' R0 → w'.heap[wb]? = some (.cells (wC (.slice oa na ca) (.slice ov nv cv) (.slice oc nc cc) H) 29)) := Lib.hid (fun w' h => by rw [← hR0] at h; exact h.right.blk)
  have K3 : RowKit.Hid (Own w w3 (Star (memA b 8 FS) (Star (rmA rb 8 FS) R0))) := Lib.hid (by rw [← hR0]; exact K2.out)
  clear K2 S0 hR0
  have SM := Lib.hid (stable_star (stable_mem b 8 FS) (stable_star (stable_rm rb 8 FS) SR.out))
  have I3 := Lib.hid (IB.out _ K3.out.right.right)
  go_upto_region 4 with (first
    | (refine wpList_load_w rfl _ rfl _ rfl I3.out ?_)
    | (refine wpList_store_row rfl 27 _ _ rfl _ _ rfl rfl 27 _ (blk_new _ _) (hC_info _) rfl (hC_all1 _) ?_; generalize hW : (World.setRow _ _ _) = w4; have K4 := Lib.hid (own_h1 (c1 := hC H) hW K3.out SM.out); clear hW; generalize w3.heap.size = ab at *))
  clear K3 I3
  have SA := Lib.hid (stable_star (stable_blk ab (.cells (hC H) 27)) SM.out)
  have I4 := Lib.hid (IB.out _ K4.out.right.right.right)
  go_upto_region 5 with (first
    | (refine wpList_load_w rfl _ rfl _ rfl I4.out ?_)
    | (refine wpList_store_row rfl 27 _ _ rfl _ _ rfl rfl 27 _ (blk_new _ _) (hC_info _) rfl (hC_all1 _) ?_; generalize hW : (World.setRow _ _ _) = w5; have K5 := Lib.hid (own_h1 (c1 := hC H) hW K4.out SA.out); clear hW; generalize w4.heap.size = bb at *))
  clear K4 I4 IB
  -- bb, ab, mem, rm, R0
  have K6 : RowKit.Hid (Own w w5 (Star (memA b 8 FS) (Star (rmA rb 8 FS) (Star (blkA ab (.cells (hC H) 27)) (Star (blkA bb (.cells (hC H) 27)) R0))))) := Lib.hid (K5.out.mono (fun F h => star_mono_r (fun F h => star_mono_r (fun F h => star_swap2 h) (st3 h)) (st3 h)))
  clear K5 SA SM
  go_wp2_with fail
  go_loopg [10] 201 (fun t v10 wr => ∃ (k : Nat) (s : List UInt8) (H : HS), k ≤ 200 ∧ t = 201 - k ∧ v10 = .int .i64 (k : Int) ∧ H.ok ∧ Own w wr (Star (memA b 8 s) (Star (rmA rb 8 s) (Star (blkA ab (.cells (hC H) 27)) (Star (blkA bb (.cells (hC H) 27)) R0)))))
  case atStart => exact ⟨0, FS, H, by decide, by decide, rfl, OK.out, K6.out⟩
  case round =>
    clear K6
    obtain ⟨k, s, H, hk, rfl, rfl, ok, ho⟩ := hrel
    have KE := Lib.hid ho
    have OKH := Lib.hid ok
    clear ho ok
    have SG := Lib.hid (stable_star (stable_blk ab (.cells (hC H) 27)) (stable_star (stable_blk bb (.cells (hC H) 27)) SR.out))
    have SHA := Lib.hid (stable_star (stable_rm rb 8 s) SG.out)
    have hlt : (¬ (k : Int) < n) ∨ ((k : Int) < n ∧ ¬ (k : Int) < 200) ∨ ((k : Int) < n ∧ (k : Int) < 200) := by omega
    rcases hlt with d1 | ⟨d1, d2⟩ | ⟨d1, d2⟩
    case inl =>
      have hlen : s.length = 2048 := (o_mlen KE.out).1
      obtain ⟨q1, hq1⟩ : ∃ q, getR s 0 2048 = q := ⟨_, rfl⟩
      have CG := Lib.hid (o_mget KE.out SHA.out 0 2048 q1 ⟨by decide, by decide⟩ (by decide) _ (whole_get hlen) hq1)
      clear hq1 hlen
      go_upto_region 16 with (first
        | (go_at_call 10; refine CG.out.mono ?_; rintro e w30 ⟨rfl, h30⟩; have K30 := Lib.hid h30; clear h30))
      obtain ⟨F, vb, t, hM, hl, _, _⟩ := K30.out.right.left.get
      have d0 := blk_cell hM.1 0 (v := .slice (some ⟨vb, 0, none⟩) s.length s.length) rfl
      have hcv := conv_part vb s 0 s.length (by omega) w30 hM.2.2.1
      rw [partV_all] at hcv
      have l0 : (s.length : Int) ≤ 2048 := by omega
      clear hM hl
      go_wp2_with fail
      go_ret
      exact ⟨rfl, K30.out.sub⟩
    case inr.inl =>
      have hlen : s.length = 2048 := (o_mlen KE.out).1
      obtain ⟨q1, hq1⟩ : ∃ q, getR s 0 2048 = q := ⟨_, rfl⟩
      have CG := Lib.hid (o_mget KE.out SHA.out 0 2048 q1 ⟨by decide, by decide⟩ (by decide) _ (whole_get hlen) hq1)
      clear hq1 hlen
      go_upto_region 16 with (first
        | (go_at_call 10; refine CG.out.mono ?_; rintro e w30 ⟨rfl, h30⟩; have K30 := Lib.hid h30; clear h30))
      obtain ⟨F, vb, t, hM, hl, _, _⟩ := K30.out.right.left.get
      have d0 := blk_cell hM.1 0 (v := .slice (some ⟨vb, 0, none⟩) s.length s.length) rfl
      have hcv := conv_part vb s 0 s.length (by omega) w30 hM.2.2.1
      rw [partV_all] at hcv
      have l0 : (s.length : Int) ≤ 2048 := by omega
      clear hM hl
      go_wp2_with fail
      go_ret
      exact ⟨rfl, K30.out.sub⟩
    case inr.inr =>
      obtain ⟨S, hS⟩ : ∃ S, stepF 8 s 0 H = S := ⟨_, rfl⟩
      have OK2 := step_ok (by decide : 8 ≤ 256) s 0 OKH.out
      rw [hS] at OK2
      have HOK := Lib.hid OK2
      have HS := Lib.hid hS
      have C1 := Lib.hid (o_step5 KE.out SHA.out HT.out HF.out H OKH.out S hS)
      clear hS OK2
      have I1 := Lib.hid KE.out.right.right.blk
      go_upto_region 9 with (first
        | (refine wpList_load_row rfl 27 _ rfl _ rfl 27 _ (0, 0) _ I1.out Tryz.underlying27 rfl (hC_info _) ?_)
        | (go_at_call 7; refine C1.out.mono ?_; rintro e w8 ⟨rfl, h8⟩; have K8 := Lib.hid h8; clear h8)
        | (refine wpList_store_row rfl 27 _ _ rfl _ _ rfl rfl 27 _ (blk_alloc _ (blk_new _ _)) (hC_info _) rfl (hC_all1 _) ?_; generalize hW : (World.setRow _ _ _) = wa; have Ka := Lib.hid (own_h2e (c1 := hC S.H) hW K8.out (stable_star (stable_mem b 8 S.s) SHA.out)); clear hW; generalize w8.heap.size + 1 = e1 at *; generalize w8.heap.size = h1 at *)
        | (refine wpList_store_row rfl 36 _ _ rfl _ _ rfl rfl 36 _ Ka.out.blk (evC_info _) rfl (evC_all1 _) ?_; have Kb := Lib.hid (Ka.out.setRow (stable_star (stable_blk h1 (.cells (hC S.H) 27)) (stable_star (stable_mem b 8 S.s) SHA.out)) (evC S.e)); generalize (World.setRow _ _ _) = w9 at *))
      have K9 := Lib.hid ((own_turn Kb.out).mono (fun F h => st4 h))
      clear Ka Kb C1 K8 I1
      have SHC := Lib.hid (stable_star (stable_mem b 8 S.s) (stable_star (stable_blk h1 (.cells (hC S.H) 27)) (stable_star (stable_blk e1 (.cells (evC S.e) 36)) SG.out)))
      have C2 := o_dstep K9.out SHC.out (by decide) 0 ⟨by decide, by decide⟩ H OKH.out
      rw [HS.out] at C2
      have C3 := Lib.hid C2
      clear C2
      have I2 := Lib.hid K9.out.right.right.right.right.right.blk
      go_upto_region 10 with (first
        | (refine wpList_load_row rfl 27 _ rfl _ rfl 27 _ (0, 0) _ I2.out Tryz.underlying27 rfl (hC_info _) ?_)
        | (go_at_call 9; refine C3.out.mono ?_; rintro e w10 ⟨rfl, h10⟩; have K10 := Lib.hid h10; clear h10)
        | (refine wpList_store_row rfl 27 _ _ rfl _ _ rfl rfl 27 _ (blk_alloc _ (blk_new _ _)) (hC_info _) rfl (hC_all1 _) ?_; generalize hW : (World.setRow _ _ _) = wc; have Kc := Lib.hid (own_h2e (c1 := hC S.H) hW K10.out (stable_star (stable_rm rb 8 S.s) SHC.out)); clear hW; generalize w10.heap.size + 1 = e2 at *; generalize w10.heap.size = h2 at *)
        | (refine wpList_store_row rfl 36 _ _ rfl _ _ rfl rfl 36 _ Kc.out.blk (evC_info _) rfl (evC_all1 _) ?_; have Kd := Lib.hid (Kc.out.setRow (stable_star (stable_blk h2 (.cells (hC S.H) 27)) (stable_star (stable_rm rb 8 S.s) SHC.out)) (evC S.e)); generalize (World.setRow _ _ _) = w11 at *))
      have K11 := Lib.hid (own_turn Kd.out)
      clear Kc Kd C3 K9 K10 I2
      have B1 := Lib.hid K11.out.right.blk
      have B2 := Lib.hid K11.out.right.right.blk
      have B3 := Lib.hid K11.out.right.right.right.right.blk
      have B4 := Lib.hid K11.out.right.right.right.right.right.blk
      have y0 := blk_cell B4.out 0 (v := .int .i64 S.e.k) rfl
      have KX := Lib.hid (K11.out.mono (fun F h => st4 (star_mono_r (fun F h => star_mono_r (fun F h => star_drop2 (star_drop2 h)) (star_drop2 h)) h)))
      have SX := Lib.hid (stable_star (stable_rm rb 8 S.s) (stable_star (stable_blk h2 (.cells (hC S.H) 27)) (stable_star (stable_mem b 8 S.s) (stable_star (stable_blk bb (.cells (hC H) 27)) SR.out))))
      have KY := Lib.hid ((KX.out.setRow SX.out (hC S.H)).mono (fun F h => st5 h))
      have SY := Lib.hid (stable_star (stable_blk ab (.cells (hC S.H) 27)) (stable_star (stable_rm rb 8 S.s) (stable_star (stable_blk h2 (.cells (hC S.H) 27)) (stable_star (stable_mem b 8 S.s) SR.out))))
      have B5 := Lib.hid KY.out.right.right.right.blk
      have KZ : RowKit.Hid (Own w _ (Star (memA b 8 S.s) (Star (rmA rb 8 S.s) (Star (blkA ab (.cells (hC S.H) 27)) (Star (blkA bb (.cells (hC S.H) 27)) R0))))) := Lib.hid ((KY.out.setRow SY.out (hC S.H)).mono (fun F h => star_mono_r (fun F h => star_mono_r (fun F h => star_mono_r (fun F h => star_drop2 h) (star_swap2 h)) (st3 h)) (st5 h)))
      have KW := Lib.hid (K11.out.mono (fun F h => st4 h))
      have SWA := Lib.hid (stable_star (stable_rm rb 8 S.s) (stable_star (stable_blk h2 (.cells (hC S.H) 27)) (stable_star (stable_blk e2 (.cells (evC S.e) 36)) (stable_star (stable_blk h1 (.cells (hC S.H) 27)) (stable_star (stable_blk e1 (.cells (evC S.e) 36)) SG.out)))))
      have e5 : IntKind.i64.wrap ((k : Int) + 1) = (k : Int) + 1 := by rw [IntKind.wrap_i64]; omega
      obtain ⟨ek, hek⟩ : ∃ q, S.e.k = q := ⟨_, rfl⟩
      rw [hek] at y0
      clear hek
      have hkk : ek = 0 ∨ ek ≠ 0 := by omega
      rcases hkk with rfl | hk0
      · go_wp2_with (first
          | (refine wpList_load_g5 (by first | rfl | fail) 27 _ rfl h1 rfl 27 _ (0, 0) _ B3.out Tryz.underlying27 rfl (hC_info _) ?_)
          | (refine wpList_load_g5 (by first | rfl | fail) 27 _ rfl h2 rfl 27 _ (0, 0) _ B1.out Tryz.underlying27 rfl (hC_info _) ?_)
          | (refine wpList_load_g5 (by first | rfl | fail) 36 _ rfl e1 rfl 36 _ (0, 0) _ B4.out Tryz.underlying36 rfl (evC_info _) ?_)
          | (refine wpList_load_g5 (by first | rfl | fail) 36 _ rfl e2 rfl 36 _ (0, 0) _ B2.out Tryz.underlying36 rfl (evC_info _) ?_)
          | (refine wpList_neq_g (by first | rfl | fail) 27 _ _ _ rfl _ _ rfl rfl false egH5 (neqH5 _ _) ?_)
          | (refine wpList_neq_g (by first | rfl | fail) 36 _ _ _ rfl _ _ rfl rfl false egE5 (neqE5 _ _) ?_)
          | (refine wpList_load_g5 (by first | rfl | fail) 27 _ rfl h2 rfl 27 _ (0, 0) _ B5.out Tryz.underlying27 rfl (hC_info _) ?_)
          | (refine wpList_store_row rfl 27 _ _ rfl _ _ rfl rfl 27 _ KX.out.blk (hC_info _) rfl (hC_all1 _) ?_)
          | (refine wpList_store_row rfl 27 _ _ rfl _ _ rfl rfl 27 _ KY.out.blk (hC_info _) rfl (hC_all1 _) ?_))
        go_roundg (201 - (k + 1))
        case measure => omega
        case rel => exact ⟨k + 1, S.s, S.H, by omega, by omega, by go_num, HOK.out, KZ.out⟩
      · have d3 : (ek != 0) = true := by simpa using hk0
        have d4 : (ek == 0) = false := by simpa using hk0
        have hlen : S.s.length = 2048 := (o_mlen KW.out).1
        obtain ⟨q1, hq1⟩ : ∃ q, getR S.s 0 2048 = q := ⟨_, rfl⟩
        have CG := Lib.hid (o_mget KW.out SWA.out 0 2048 q1 ⟨by decide, by decide⟩ (by decide) _ (whole_get hlen) hq1)
        clear hq1 hlen
        go_upto_region 16 with (first
          | (refine wpList_load_g5 (by first | rfl | fail) 27 _ rfl h1 rfl 27 _ (0, 0) _ B3.out Tryz.underlying27 rfl (hC_info _) ?_)
          | (refine wpList_load_g5 (by first | rfl | fail) 27 _ rfl h2 rfl 27 _ (0, 0) _ B1.out Tryz.underlying27 rfl (hC_info _) ?_)
          | (refine wpList_load_g5 (by first | rfl | fail) 36 _ rfl e1 rfl 36 _ (0, 0) _ B4.out Tryz.underlying36 rfl (evC_info _) ?_)
          | (refine wpList_load_g5 (by first | rfl | fail) 36 _ rfl e2 rfl 36 _ (0, 0) _ B2.out Tryz.underlying36 rfl (evC_info _) ?_)
          | (refine wpList_neq_g (by first | rfl | fail) 27 _ _ _ rfl _ _ rfl rfl false egH5 (neqH5 _ _) ?_)
          | (refine wpList_neq_g (by first | rfl | fail) 36 _ _ _ rfl _ _ rfl rfl false egE5 (neqE5 _ _) ?_)
          | (go_at_call 10; refine CG.out.mono ?_; rintro e w30 ⟨rfl, h30⟩; have K30 := Lib.hid h30; clear h30))
        obtain ⟨F, vb, t, hM, hl, _, _⟩ := K30.out.right.left.get
        have d0 := blk_cell hM.1 0 (v := .slice (some ⟨vb, 0, none⟩) S.s.length S.s.length) rfl
        have hcv := conv_part vb S.s 0 S.s.length (by omega) w30 hM.2.2.1
        rw [partV_all] at hcv
        have l0 : (S.s.length : Int) ≤ 2048 := by omega
        clear hM hl
        go_wp2_with fail
        go_ret
        exact ⟨rfl, K30.out.sub⟩
end Go.Proofs.YtngeabphjdfdgaaGreatDoor.P
