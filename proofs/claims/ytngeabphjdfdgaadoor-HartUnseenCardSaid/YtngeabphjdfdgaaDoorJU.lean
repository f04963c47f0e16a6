/- Stage 5: HartUnseen. No condition but what the program's tables hold. -/
import Derived.Test.YtngeabphjdfdgaaDoorJC
import Derived.Test.YtngeabphjdfdgaaDoorJB
import Derived.Test.YtngeabphjdfdgaaDoorJT
import Derived.Deep.LoopGhost
set_option linter.unusedVariables false
set_option linter.unusedSimpArgs false
set_option maxRecDepth 100000
namespace Go.Proofs.YtngeabphjdfdgaaDoor.P
open Go.RowKit Go.MuLone Go.Proofs.YtngeabphjdfdgaaDoor.W
theorem see_get {s z : List UInt8} (h : SeeS s z) : getV s 0 1536 = getV z 0 1536 := by
  unfold getV
  rw [if_neg (by decide), if_pos (inB_t (by rw [h.ls.1]; decide)), if_neg (by decide), if_pos (inB_t (by rw [h.lz.1]; decide))]
  exact subB_take h.eq 0 1536 (by decide)
theorem see_put {s : List UInt8} (h : LowT s) (x : ByteArray) : SeeS s (putS s 1536 x) := by
  unfold putS
  split
  · rename_i hi
    have hi2 : (1536 : Int) + x.size ≤ s.length := of_decide_eq_true hi
    have t1 : (1536 : Int).toNat + x.data.toList.length ≤ s.length := by rw [Array.length_toList]; show 1536 + x.size ≤ s.length; omega
    refine ⟨h, ⟨?_, ?_⟩, ?_⟩
    · rw [putL_len _ _ _ t1]; exact h.1
    · rw [put_take_low _ _ _ _ t1 (by decide)]; exact h.2
    · rw [put_take_low _ _ _ _ t1 (by decide)]
  · exact ⟨h, h, rfl⟩
theorem wpList_neq_g {P : Program} {ops : Array Oper} {rest : List Oper} {o : Oper} {a : Act} {w : World} {Q : Exit → Act → World → Prop} (hgd : Region.wanted o (yielded ops a.tmps) = true) (ty ty2 : TypeId) (x y : Operand) (ho : o.op = .binOp .neq ty x y ty2) (u v : Array Value) (hx : a.eval x = .agg u) (hy : a.eval y = .agg v) (b : Bool) (hm : P.eqGuardType P.depth ty = false)
    (hrun : (binOp .neq ty (.agg u) (.agg v)).run P w = .ok (.bool b) w) (h : wpList P ops Q rest (a.put o.dst (.bool b)) w) : wpList P ops Q (o :: rest) a w := by
  rw [wpList, if_pos hgd]
  refine .inl ?_
  unfold Oper.wp
  have hg := run_eqGuard_agg (P := P) (w := w) (op := BinOp.neq) (t := ty) (x := x) (y := y) (xs := u) (ys := v) hm
  simp [execOp, ho, hx, hy, hrun, hg, Result.andThen]
  exact h
set_option maxHeartbeats 1600000 in
theorem eqEd (e : EvS) (d : Nat) (w : World) : (Op.equalIn (d + 4) 39 (.agg (evC e)) (.agg (evC e))).run Tryd.prog w = .ok true w := by
  have h1 : Tryd.prog.stoodInHeld 39 = false := by kernel_rfl
  have p0 : (part 3 (evC e) 0).run Tryd.prog w = .ok (.int .i64 e.k) w := run_part_plain w (by kernel_rfl) rfl
  have p1 : (part 23 (evC e) 1).run Tryd.prog w = .ok (.int .u64 e.ad) w := run_part_plain w (by kernel_rfl) rfl
  have p2 : (part 4 (evC e) 2).run Tryd.prog w = .ok (.bool e.wr) w := run_part_plain w (by kernel_rfl) rfl
  have hi : ∀ v : Int, (Op.equalIn (d + 3) 3 (.int .i64 v) (.int .i64 v)).run Tryd.prog w = .ok true w := fun v => by simp [Op.equalIn, Sem.run_bind, run_underlying Tryd.underlying3]
  have hu : ∀ v : Int, (Op.equalIn (d + 3) 23 (.int .u64 v) (.int .u64 v)).run Tryd.prog w = .ok true w := fun v => by simp [Op.equalIn, Sem.run_bind, run_underlying Tryd.underlying23]
  have hb : ∀ v : Bool, (Op.equalIn (d + 3) 4 (.bool v) (.bool v)).run Tryd.prog w = .ok true w := fun v => by simp [Op.equalIn, Sem.run_bind, run_underlying Tryd.underlying4]
  have hf : Tryd.prog.underlying 39 = some (.struct (Tryd.prog.fieldsOf 39)) := by kernel_rfl
  have hl : (Tryd.prog.fieldsOf 39).toList.map (fun f => (f.type, f.offset)) = [(3, 0), (23, 1), (4, 2)] := by kernel_rfl
  refine (run_equalIn_struct w (d + 3) 39 (evC e) (evC e) hf h1).trans (eqF (d + 3) (evC e) w _ (fun f hm => ?_))
  have hm2 := List.mem_map_of_mem (f := fun f : Field => (f.type, f.offset)) hm
  rw [hl] at hm2
  generalize evC e = c at *
  generalize Tryd.prog.fieldsOf 39 = fs at *
  obtain ⟨nm, ty, of_, _⟩ := f
  simp only [List.mem_cons, List.not_mem_nil, or_false, Prod.mk.injEq] at hm2
  rcases hm2 with ⟨e1, e2⟩ | ⟨e1, e2⟩ | ⟨e1, e2⟩
  · exact ⟨_, by rw [e1, e2]; exact p0, by rw [e1]; exact hi _⟩
  · exact ⟨_, by rw [e1, e2]; exact p1, by rw [e1]; exact hu _⟩
  · exact ⟨_, by rw [e1, e2]; exact p2, by rw [e1]; exact hb _⟩
theorem eqE (e : EvS) (w : World) : (Op.equalIn 10000 39 (.agg (evC e)) (.agg (evC e))).run Tryd.prog w = .ok true w := eqEd e 9996 w
theorem egE : Tryd.prog.eqGuardType Tryd.prog.depth 39 = false := by kernel_rfl
theorem egH : Tryd.prog.eqGuardType Tryd.prog.depth 26 = false := by kernel_rfl
theorem neqE (e : EvS) (w : World) : (binOp .neq 39 (.agg (evC e)) (.agg (evC e))).run Tryd.prog w = .ok (.bool false) w := by
  rw [run_neq_struct, eqE]; rfl
theorem neqH (K : HS) (w : World) : (binOp .neq 26 (.agg (hC K)) (.agg (hC K))).run Tryd.prog w = .ok (.bool false) w := by
  rw [run_neq_struct, eqH]; rfl
set_option maxHeartbeats 6400000 in
theorem l_unseen (w : World) (hT : PT w) (hF : FT w) (oc : Option Addr) (nc cc bc fc : Nat) (C : Nat → Int) (H : HS) (ok : H.ok) (x : ByteArray) (hx : x.size ≤ maxLen)
    (hlc : nc ≤ 9223372036854775807)
    (hc : 0 < nc → oc = some ⟨bc, fc, none⟩ ∧ bc < w.heap.size) (hC' : ∀ i, i < nc → u32 (C i) ∧ w.cell? ⟨bc, fc + i, none⟩ = some (.int .u32 (C i))) :
    Calls Tryd.prog 6 #[.slice oc nc cc, .agg (hC H), .string x] w fun e w' => e = .returned (.bool true) ∧ Gr w w' := by
  have K0 := Lib.hid ((Own.start (Gr.refl w)).alloc stable_emp (.cells (hC H) 26))
  have S0 := Lib.hid (stable_star (stable_blk w.heap.size (.cells (hC H) 26)) stable_emp)
  have hT1 := hT.gr K0.out.sub
  have hF1 := hF.gr K0.out.sub
  have hlow := cod_low C (min nc 64) (by omega)
  obtain ⟨FS, hFS⟩ : ∃ FS, codS C (min nc 64) = FS := ⟨_, rfl⟩
  have LF : RowKit.Hid (LowT FS) := Lib.hid (by rw [← hFS]; exact hlow)
  have CM : RowKit.Hid (∀ w2 : World, Gr w w2 → Calls Tryd.prog 9 #[.agg (wC (.slice none 0 0) (.slice none 0 0) (.slice oc nc cc) HZ)] w2 fun e w' => ∃ b rb, e = .returned (.tuple #[.pointer (some ⟨b, 0, none⟩), .pointer (some ⟨rb, 0, none⟩)]) ∧ Own w2 w' (twoA b rb FS emp)) := Lib.hid (fun w2 g => by
    rw [← hFS]
    exact c_made5 w2 none none oc 0 0 0 0 nc cc 0 0 0 0 bc fc (fun _ => 0) (fun _ => 0) C HZ (by decide) (by decide) hlc (fun h => absurd h (by decide)) (fun i h => absurd h (by omega)) (fun h => absurd h (by decide)) (fun i h => absurd h (by omega)) (fun h => ⟨(hc h).1, Nat.lt_of_lt_of_le (hc h).2 g.size⟩) (fun i h => ⟨(hC' i h).1, kcell g (hC' i h).2⟩))
  clear hc hC' hFS hlow
  have HT := Lib.hid hT
  have HF := Lib.hid hF
  have OK := Lib.hid ok
  have HX := Lib.hid hx
  have hxm : x.size ≤ 9223372036854775807 := hx
  clear hT hF ok hx
  go_enter Tryd.func6, Tryd.ntmps6
  go_upto_region 1 with fail
  generalize (World.alloc w _) = w1 at *
  generalize w.heap.size = hb at *
  have CS := Lib.hid (l_shown5 w1 hT1 hF1)
  go_upto_region 2 with (go_at_call 8; refine CS.out.mono ?_; rintro e w2 ⟨rfl, g2⟩; have K1 := Lib.hid (K0.out.gr S0.out g2); clear g2)
  clear CS K0 hT1 hF1
  go_upto_region 3 with (first
    | (refine wpList_build1 rfl _ _ _ rfl _ rfl _ (built_world _ _ _) ?_)
    | (go_at_call 9; refine (CM.out _ K1.out.sub).mono ?_; rintro e w3 ⟨b, rb, rfl, h2⟩; have K2 := Lib.hid ((K1.out.under S0.out h2).mono (fun F h => star_assoc h)); clear h2))
  obtain ⟨RA, hRA⟩ : ∃ R, Star (memA b 8 FS) (Star (Star (rmA rb 8 FS) emp) (Star (blkA hb (.cells (hC H) 26)) emp)) = R := ⟨_, rfl⟩
  have SA : RowKit.Hid (Stable RA) := Lib.hid (by rw [← hRA]; exact stable_star (stable_mem b 8 FS) (stable_star (stable_star (stable_rm rb 8 FS) stable_emp) S0.out))
  have K3 : RowKit.Hid (Own w w3 RA) := Lib.hid (by rw [← hRA]; exact K2.out)
  clear K1 K2
  go_upto_region 4 with (first
    | (refine wpList_build1 rfl _ _ _ rfl _ rfl _ (built_world _ _ _) ?_)
    | (go_at_call 9; refine (CM.out _ K3.out.sub).mono ?_; rintro e w4 ⟨b2, rb2, rfl, h2⟩; have K4 := Lib.hid ((K3.out.under SA.out h2).mono (fun F h => star_assoc h)); clear h2))
  clear CM K3
  obtain ⟨R0, hR0⟩ : ∃ R, Star (Star (rmA rb 8 FS) emp) (Star (Star (rmA rb2 8 FS) emp) emp) = R := ⟨_, rfl⟩
  have SR : RowKit.Hid (Stable R0) := Lib.hid (by rw [← hR0]; exact stable_star (stable_star (stable_rm rb 8 FS) stable_emp) (stable_star (stable_star (stable_rm rb2 8 FS) stable_emp) stable_emp))
  have K5 : RowKit.Hid (Own w w4 (Star (memA b2 8 FS) (Star (memA b 8 FS) (Star (blkA hb (.cells (hC H) 26)) R0)))) := Lib.hid (by
    rw [← hR0]
    have k := K4.out
    rw [← hRA] at k
    -- mem2, X2, (mem1, X1, hb, emp)
    exact k.mono (fun F h => star_mono_r (fun F h => by
      have h1 := star_swap2 h
      have h2 : Star (memA b 8 FS) (Star (Star (rmA rb2 8 FS) emp) (Star (Star (rmA rb 8 FS) emp) (Star (blkA hb (.cells (hC H) 26)) emp))) _ F := h1
      exact star_mono_r (fun F h => by
        have g1 := st3 h
        -- hb, X2, X1, emp
        exact star_mono_r (fun F h => star_swap2 h) g1) h2) h))
  clear K4 SA hRA hR0 S0
  have SB := Lib.hid (stable_star (stable_mem b 8 FS) (stable_star (stable_blk hb (.cells (hC H) 26)) SR.out))
  have CP : RowKit.Hid (∀ y : ByteArray, y.size ≤ maxLen → Calls Tryd.prog 12 #[.pointer (some ⟨b2, 0, none⟩), .int .u64 1536, .string y] w4 fun e w' => ∃ (q : Int) (Z : List UInt8), e = .returned (.int .i64 q) ∧ SeeS FS Z ∧ Own w w' (Star (memA b2 8 Z) (Star (memA b 8 FS) (Star (blkA hb (.cells (hC H) 26)) R0)))) := Lib.hid (fun y hy => (o_mput K5.out SB.out 1536 y _ ⟨by decide, by decide⟩ hy _ rfl rfl).mono (fun e w' h => ⟨_, _, h.1, see_put LF.out y, h.2⟩))
  have hz : x.size ≤ 500 ∨ 500 < x.size := by omega
  rcases hz with hz | hz
  all_goals
    go_upto_region 7 with (go_at_call 12; refine (CP.out _ (by first | exact HX.out | (rw [ByteArray.size_extract]; unfold maxLen; omega) | (simp; unfold maxLen; omega))).mono ?_; rintro e w6 ⟨q0, Z, rfl, sZ, h6⟩; have K6 := Lib.hid h6; have SZ := Lib.hid sZ; clear h6 sZ)
    clear CP K5 SB hz
    have S6 := Lib.hid (stable_star (stable_mem b2 8 Z) (stable_star (stable_mem b 8 FS) (stable_star (stable_blk hb (.cells (hC H) 26)) SR.out)))
    have I6 := Lib.hid K6.out.right.right.blk
    go_upto_region 8 with (first
      | (refine wpList_load_row rfl 26 _ rfl _ rfl 26 _ (0, 0) _ I6.out Tryd.underlying26 rfl (hC_info _) ?_)
      | (refine wpList_store_row rfl 26 _ _ rfl _ _ rfl rfl 26 _ (blk_new _ _) (hC_info _) rfl (hC_all1 _) ?_; generalize hW : (World.setRow _ _ _) = w7; have K7 := Lib.hid (own_h1 (c1 := hC H) hW K6.out S6.out); clear hW; generalize w6.heap.size = gb at *))
    clear K6 I6 S6
    -- gb, mem2, mem1, hb, R0
    have K8 : RowKit.Hid (Own w w7 (Star (memA b 8 FS) (Star (memA b2 8 Z) (Star (blkA hb (.cells (hC H) 26)) (Star (blkA gb (.cells (hC H) 26)) R0))))) := Lib.hid (K7.out.mono (fun F h => star_mono_r (fun F h => star_mono_r (fun F h => star_swap2 h) (star_swap2 h)) (st3 h)))
    clear K7
    go_wp2_with fail
    go_loopg [13] 41 (fun t v13 wr => ∃ (k : Nat) (s z : List UInt8) (H : HS), k ≤ 40 ∧ t = 41 - k ∧ v13 = .int .i64 (k : Int) ∧ H.ok ∧ SeeS s z ∧ Own w wr (Star (memA b 8 s) (Star (memA b2 8 z) (Star (blkA hb (.cells (hC H) 26)) (Star (blkA gb (.cells (hC H) 26)) R0)))))
    case atStart => exact ⟨0, FS, Z, H, by decide, by decide, rfl, OK.out, SZ.out, K8.out⟩
    case round =>
      clear K8
      obtain ⟨k, s, z, H, hk, rfl, rfl, ok, sz, ho⟩ := hrel
      have KE := Lib.hid ho
      have SE := Lib.hid sz
      have OKH := Lib.hid ok
      clear ho sz ok
      have SG := Lib.hid (stable_star (stable_blk hb (.cells (hC H) 26)) (stable_star (stable_blk gb (.cells (hC H) 26)) SR.out))
      have SHA := Lib.hid (stable_star (stable_mem b2 8 z) SG.out)
      have SHB := Lib.hid (stable_star (stable_mem b 8 s) SG.out)
      have hlt : (¬ (k : Int) < 40) ∨ (k : Int) < 40 := by omega
      rcases hlt with d1 | d1
      case inl =>
        obtain ⟨q3, hq3⟩ : ∃ q, getR s 0 1536 = q := ⟨_, rfl⟩
        obtain ⟨q4, hq4⟩ : ∃ q, getR z 0 1536 = q := ⟨_, rfl⟩
        obtain ⟨G3, hG3⟩ : ∃ G, getV s 0 1536 = G := ⟨_, rfl⟩
        have EG : RowKit.Hid (getV z 0 1536 = G3) := Lib.hid ((see_get SE.out).symm.trans hG3)
        have CG3 := Lib.hid (o_mget KE.out SHA.out 0 1536 q3 ⟨by decide, by decide⟩ (by decide) G3 hG3 hq3)
        clear hq3 hG3
        go_upto_region 19 with (go_at_call 10; refine CG3.out.mono ?_; rintro e w18 ⟨rfl, h18⟩; have CG4 := Lib.hid (o_mget h18.swap2 SHB.out 0 1536 q4 ⟨by decide, by decide⟩ (by decide) G3 EG.out hq4); clear h18)
        clear CG3
        go_wp2_with (go_at_call 10; refine CG4.out.mono ?_; rintro e w19 ⟨rfl, h19⟩; have K19 := Lib.hid h19; clear h19)
        go_ret
        exact ⟨rfl, K19.out.sub⟩
      case inr =>
        obtain ⟨S, hS⟩ : ∃ S, stepF 8 s 0 H = S := ⟨_, rfl⟩
        have TW := two_step SE.out OKH.out
        have OK2 := step_ok (by decide : 8 ≤ 256) s 0 OKH.out
        rw [hS] at TW OK2
        obtain ⟨tz, hT2, sz2⟩ : ∃ tz, stepF 8 z 0 H = ⟨S.H, S.e, tz⟩ ∧ SeeS S.s tz := ⟨(stepF 8 z 0 H).s, by rw [TW.1, TW.2.1], TW.2.2.1⟩
        have SE2 := Lib.hid sz2
        have HOK := Lib.hid OK2
        have HT2 := Lib.hid hT2
        clear TW OK2 sz2 hT2
        have C1 := Lib.hid (o_step5 KE.out SHA.out HT.out HF.out H OKH.out S hS)
        clear hS
        have I1 := Lib.hid KE.out.right.right.blk
        go_upto_region 12 with (first
          | (refine wpList_load_row rfl 26 _ rfl _ rfl 26 _ (0, 0) _ I1.out Tryd.underlying26 rfl (hC_info _) ?_)
          | (go_at_call 11; refine C1.out.mono ?_; rintro e w8 ⟨rfl, h8⟩; have K8 := Lib.hid h8; clear h8)
          | (refine wpList_store_row rfl 26 _ _ rfl _ _ rfl rfl 26 _ (blk_alloc _ (blk_new _ _)) (hC_info _) rfl (hC_all1 _) ?_; generalize hW : (World.setRow _ _ _) = wa; have Ka := Lib.hid (own_h2e (c1 := hC S.H) hW K8.out (stable_star (stable_mem b 8 S.s) SHA.out)); clear hW; generalize w8.heap.size + 1 = e1 at *; generalize w8.heap.size = h1 at *)
          | (refine wpList_store_row rfl 39 _ _ rfl _ _ rfl rfl 39 _ Ka.out.blk (evC_info _) rfl (evC_all1 _) ?_; have Kb := Lib.hid (Ka.out.setRow (stable_star (stable_blk h1 (.cells (hC S.H) 26)) (stable_star (stable_mem b 8 S.s) SHA.out)) (evC S.e)); generalize (World.setRow _ _ _) = w9 at *))
        have K9 := Lib.hid ((own_turn Kb.out).mono (fun F h => st4 h))
        clear Ka Kb C1 K8 I1
        have SHC := Lib.hid (stable_star (stable_mem b 8 S.s) (stable_star (stable_blk h1 (.cells (hC S.H) 26)) (stable_star (stable_blk e1 (.cells (evC S.e) 39)) SG.out)))
        have C2 := Lib.hid (o_step5 K9.out SHC.out HT.out HF.out H OKH.out ⟨S.H, S.e, tz⟩ HT2.out)
        have I2 := Lib.hid K9.out.right.right.right.right.right.blk
        go_upto_region 13 with (first
          | (refine wpList_load_row rfl 26 _ rfl _ rfl 26 _ (0, 0) _ I2.out Tryd.underlying26 rfl (hC_info _) ?_)
          | (go_at_call 11; refine C2.out.mono ?_; rintro e w10 ⟨rfl, h10⟩; have K10 := Lib.hid h10; clear h10)
          | (refine wpList_store_row rfl 26 _ _ rfl _ _ rfl rfl 26 _ (blk_alloc _ (blk_new _ _)) (hC_info _) rfl (hC_all1 _) ?_; generalize hW : (World.setRow _ _ _) = wb; have Kc := Lib.hid (own_h2e (c1 := hC S.H) hW K10.out (stable_star (stable_mem b2 8 tz) SHC.out)); clear hW; generalize w10.heap.size + 1 = e2 at *; generalize w10.heap.size = h2 at *)
          | (refine wpList_store_row rfl 39 _ _ rfl _ _ rfl rfl 39 _ Kc.out.blk (evC_info _) rfl (evC_all1 _) ?_; have Kd := Lib.hid (Kc.out.setRow (stable_star (stable_blk h2 (.cells (hC S.H) 26)) (stable_star (stable_mem b2 8 tz) SHC.out)) (evC S.e)); generalize (World.setRow _ _ _) = w11 at *))
        have K11 := Lib.hid (own_turn Kd.out)
        clear Kc Kd C2 K9 K10 I2 HT2
        have B1 := Lib.hid K11.out.right.blk
        have B2 := Lib.hid K11.out.right.right.blk
        have B3 := Lib.hid K11.out.right.right.right.right.blk
        have B4 := Lib.hid K11.out.right.right.right.right.right.blk
        have y0 := blk_cell B4.out 0 (v := .int .i64 S.e.k) rfl
        have KX := Lib.hid (K11.out.mono (fun F h => st4 (star_mono_r (fun F h => star_mono_r (fun F h => star_drop2 (star_drop2 h)) (star_drop2 h)) h)))
        have SX := Lib.hid (stable_star (stable_mem b2 8 tz) (stable_star (stable_blk h2 (.cells (hC S.H) 26)) (stable_star (stable_mem b 8 S.s) (stable_star (stable_blk gb (.cells (hC H) 26)) SR.out))))
        have KY := Lib.hid ((KX.out.setRow SX.out (hC S.H)).mono (fun F h => st5 h))
        have SY := Lib.hid (stable_star (stable_blk hb (.cells (hC S.H) 26)) (stable_star (stable_mem b2 8 tz) (stable_star (stable_blk h2 (.cells (hC S.H) 26)) (stable_star (stable_mem b 8 S.s) SR.out))))
        have B5 := Lib.hid KY.out.right.right.right.blk
        have KZ : RowKit.Hid (Own w _ (Star (memA b 8 S.s) (Star (memA b2 8 tz) (Star (blkA hb (.cells (hC S.H) 26)) (Star (blkA gb (.cells (hC S.H) 26)) R0))))) := Lib.hid ((KY.out.setRow SY.out (hC S.H)).mono (fun F h => star_mono_r (fun F h => star_mono_r (fun F h => star_mono_r (fun F h => star_drop2 h) (star_swap2 h)) (st3 h)) (st5 h)))
        have KW := Lib.hid (K11.out.mono (fun F h => st4 h))
        have SW := Lib.hid (stable_star (stable_blk h2 (.cells (hC S.H) 26)) (stable_star (stable_blk e2 (.cells (evC S.e) 39)) (stable_star (stable_blk h1 (.cells (hC S.H) 26)) (stable_star (stable_blk e1 (.cells (evC S.e) 39)) SG.out))))
        have SWA := Lib.hid (stable_star (stable_mem b2 8 tz) SW.out)
        have SWB := Lib.hid (stable_star (stable_mem b 8 S.s) SW.out)
        have e5 : IntKind.i64.wrap ((k : Int) + 1) = (k : Int) + 1 := by rw [IntKind.wrap_i64]; omega
        obtain ⟨ek, hek⟩ : ∃ q, S.e.k = q := ⟨_, rfl⟩
        rw [hek] at y0
        clear hek
        have hkk : ek = 0 ∨ ek ≠ 0 := by omega
        rcases hkk with rfl | hk0
        · go_wp2_with (first
            | (refine wpList_load_g5 (by first | rfl | fail) 26 _ rfl h1 rfl 26 _ (0, 0) _ B3.out Tryd.underlying26 rfl (hC_info _) ?_)
            | (refine wpList_load_g5 (by first | rfl | fail) 26 _ rfl h2 rfl 26 _ (0, 0) _ B1.out Tryd.underlying26 rfl (hC_info _) ?_)
            | (refine wpList_neq_g (by first | rfl | fail) 26 _ _ _ rfl _ _ rfl rfl false egH (neqH _ _) ?_)
            | (refine wpList_load_g5 (by first | rfl | fail) 39 _ rfl e1 rfl 39 _ (0, 0) _ B4.out Tryd.underlying39 rfl (evC_info _) ?_)
            | (refine wpList_load_g5 (by first | rfl | fail) 39 _ rfl e2 rfl 39 _ (0, 0) _ B2.out Tryd.underlying39 rfl (evC_info _) ?_)
            | (refine wpList_neq_g (by first | rfl | fail) 39 _ _ _ rfl _ _ rfl rfl false egE (neqE _ _) ?_)
            | (refine wpList_load_g5 (by first | rfl | fail) 26 _ rfl h2 rfl 26 _ (0, 0) _ B5.out Tryd.underlying26 rfl (hC_info _) ?_)
            | (refine wpList_store_row rfl 26 _ _ rfl _ _ rfl rfl 26 _ KX.out.blk (hC_info _) rfl (hC_all1 _) ?_)
            | (refine wpList_store_row rfl 26 _ _ rfl _ _ rfl rfl 26 _ KY.out.blk (hC_info _) rfl (hC_all1 _) ?_))
          go_roundg (41 - (k + 1))
          case measure => omega
          case rel => exact ⟨k + 1, S.s, tz, S.H, by omega, by omega, by go_num, HOK.out, SE2.out, KZ.out⟩
        · have d3 : (ek != 0) = true := by simpa using hk0
          have d4 : (ek == 0) = false := by simpa using hk0
          obtain ⟨q3, hq3⟩ : ∃ q, getR S.s 0 1536 = q := ⟨_, rfl⟩
          obtain ⟨q4, hq4⟩ : ∃ q, getR tz 0 1536 = q := ⟨_, rfl⟩
          obtain ⟨G3, hG3⟩ : ∃ G, getV S.s 0 1536 = G := ⟨_, rfl⟩
          have EG : RowKit.Hid (getV tz 0 1536 = G3) := Lib.hid ((see_get SE2.out).symm.trans hG3)
          have CG3 := Lib.hid (o_mget KW.out SWA.out 0 1536 q3 ⟨by decide, by decide⟩ (by decide) G3 hG3 hq3)
          clear hq3 hG3
          go_wp2_with (first
            | (refine wpList_load_g5 (by first | rfl | fail) 26 _ rfl h1 rfl 26 _ (0, 0) _ B3.out Tryd.underlying26 rfl (hC_info _) ?_)
            | (refine wpList_load_g5 (by first | rfl | fail) 26 _ rfl h2 rfl 26 _ (0, 0) _ B1.out Tryd.underlying26 rfl (hC_info _) ?_)
            | (refine wpList_neq_g (by first | rfl | fail) 26 _ _ _ rfl _ _ rfl rfl false egH (neqH _ _) ?_)
            | (refine wpList_load_g5 (by first | rfl | fail) 39 _ rfl e1 rfl 39 _ (0, 0) _ B4.out Tryd.underlying39 rfl (evC_info _) ?_)
            | (refine wpList_load_g5 (by first | rfl | fail) 39 _ rfl e2 rfl 39 _ (0, 0) _ B2.out Tryd.underlying39 rfl (evC_info _) ?_)
            | (refine wpList_neq_g (by first | rfl | fail) 39 _ _ _ rfl _ _ rfl rfl false egE (neqE _ _) ?_)
            | (go_at_call 10; refine CG4.out.mono ?_; rintro e w19 ⟨rfl, h19⟩; have K19 := Lib.hid h19; clear h19)
            | (go_at_call 10; refine CG3.out.mono ?_; rintro e w18 ⟨rfl, h18⟩; have CG4 := Lib.hid (o_mget h18.swap2 SWB.out 0 1536 q4 ⟨by decide, by decide⟩ (by decide) G3 EG.out hq4); clear h18))
          go_ret
          exact ⟨rfl, K19.out.sub⟩
end Go.Proofs.YtngeabphjdfdgaaDoor.P
