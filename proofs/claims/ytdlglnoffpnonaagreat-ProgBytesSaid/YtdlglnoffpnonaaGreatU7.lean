/- Stage 12: the document's Need. No condition. -/
import Derived.Test.YtdlglnoffpnonaaGreatQA
import Derived.Test.YtdlglnoffpnonaaGreatPQ
import Derived.Test.YtdlglnoffpnonaaGreatF12
import Derived.Deep.LoopGhost
import Derived.Test.YtdlglnoffpnonaaGreatU6
import Derived.Test.YtdlglnoffpnonaaGreatPZ
set_option linter.unusedVariables false
set_option linter.unusedSimpArgs false
set_option maxRecDepth 100000
namespace Go.Proofs.YtdlglnoffpnonaaGreat.P
open Go.RowKit Go.MuLone Go.Maps
theorem mk_b4 (w : World) : (Instr.makeSlice 54 (.int .i64 4) (.int .i64 4)).run Tryz.prog w = .ok (.slice (some ⟨w.heap.size, 0, none⟩) 4 4) (w.alloc (.cells #[.bool false, .bool false, .bool false, .bool false] 4)) := mk_bools 4 (by decide) w
set_option maxHeartbeats 3200000 in
theorem r_need12 (x : Pg) (hx1 : x.tx.size ≤ maxLen) (hx2 : x.da.size ≤ maxLen) (hm : mayP x = true) (w : World) :
    Calls Tryz.prog 33 #[pgV x] w fun e w' => e = .returned (.int .i64 ((szT x + szD x + 12 : Nat) : Int)) ∧ Gr w w' := by
  obtain ⟨_, _, z3, z4, z5⟩ := may_sz hm
  have CS := Lib.hid (fun w => r_size12 x hx1 hx2 w)
  obtain ⟨T, hT⟩ : ∃ T, szT x = T := ⟨_, rfl⟩
  obtain ⟨D, hD⟩ : ∃ D, szD x = D := ⟨_, rfl⟩
  rw [hT] at CS z3 z4
  rw [hD] at CS z5
  rw [hT, hD]
  clear hT hD hx1 hx2 hm
  obtain ⟨en, tx, da, bs⟩ := x
  have CS2 : RowKit.Hid (∀ w, Calls Tryz.prog 34 #[.agg #[.int .i64 en, .string tx, .string da, .int .i64 bs]] w fun e w' => e = .returned (.tuple #[.int .i64 (T : Nat), .int .i64 (D : Nat)]) ∧ Gr w w') := Lib.hid CS.out
  have mk := mk_b4
  have k1 : IntKind.i64.wrap ((T : Int) + (D : Int)) = (T : Int) + (D : Int) := wrapI _ (by omega) (by omega)
  have k2 : IntKind.i64.wrap ((T : Int) + (D : Int) + 8) = (T : Int) + (D : Int) + 8 := wrapI _ (by omega) (by omega)
  have k3 : IntKind.i64.wrap ((T : Int) + (D : Int) + 8 + 1) = (T : Int) + (D : Int) + 9 := by rw [wrapI _ (by omega) (by omega)]; omega
  have k4 : IntKind.i64.wrap ((T : Int) + (D : Int) + 9 + 1) = (T : Int) + (D : Int) + 10 := by rw [wrapI _ (by omega) (by omega)]; omega
  have k5 : IntKind.i64.wrap ((T : Int) + (D : Int) + 10 + 2) = (T : Int) + (D : Int) + 12 := by rw [wrapI _ (by omega) (by omega)]; omega
  show Calls Tryz.prog 33 #[.agg #[.int .i64 en, .string tx, .string da, .int .i64 bs]] w _
  clear CS
  go_enter Tryz.func33, Tryz.ntmps33
  go_upto_region 2 with (go_at_call 34; refine (CS2.out _).mono ?_; rintro e w1 ⟨rfl, g1⟩; have G1 := Lib.hid (galloc _ g1); clear g1)
  go_upto_region 3 with fail
  have BN := Lib.hid (blk_new w1 (.cells #[.bool false, .bool false, .bool false, .bool false] 4))
  have GN := Lib.hid (G1.out.alloc G1.out.size (.cells #[.bool false, .bool false, .bool false, .bool false] 4))
  have NB := Lib.hid G1.out.size
  generalize (World.alloc w1 _) = w2 at *
  generalize w1.heap.size = nb at *
  clear mk G1 CS2
  go_wp2_with fail
  go_loopg [7] (T + D + 1) (fun t v7 wr => ∃ i : Nat, 1 ≤ i ∧ i ≤ T + D + 1 ∧ t = T + D + 2 - i ∧ v7 = .int .i64 (i : Int) ∧ wr.heap[nb]? = some (.cells #[.bool (decide (1 < i)), .bool false, .bool false, .bool false] 4) ∧ Gr w wr)
  case atStart => exact ⟨1, by omega, by omega, by omega, rfl, BN.out, GN.out⟩
  case round =>
    clear BN GN
    obtain ⟨i, hi, hi2, rfl, rfl, hb, hg⟩ := hrel
    have G := Lib.hid hg
    have B := Lib.hid hb
    clear hg
    by_cases hlt : i ≤ T + D
    · have d1 : (i : Int) ≤ (T : Int) + (D : Int) := by omega
      have t1 : (i : Int).tdiv 32 = 0 := by rw [Int.tdiv_eq_ediv_of_nonneg (by omega)]; omega
      have t2 : (i : Int) / 32 = 0 := by omega
      have e5 : IntKind.i64.wrap ((i : Int) + 1) = (i : Int) + 1 := wrapI _ (by omega) (by omega)
      have c0 := blk_cell hb 0 (v := .bool (decide (1 < i))) rfl
      have f0 := blk_frozen hb 0
      have S2 := Lib.hid (blk_set hb 0 (.bool true))
      have G2 := Lib.hid (gset (p := ⟨nb, 0, none⟩) G.out NB.out (.bool true))
      clear hb
      go_wp2_with fail
      go_roundg (T + D + 2 - (i + 1))
      case measure => omega
      case rel => exact ⟨i + 1, by omega, by omega, rfl, by go_num, by rw [S2.out, decide_eq_true (show 1 < i + 1 by omega)]; rfl, G2.out⟩
    · obtain rfl : i = T + D + 1 := by omega
      have d1 : ¬ (T : Int) + (D : Int) + 1 ≤ (T : Int) + (D : Int) := by omega
      rw [decide_eq_true (show 1 < T + D + 1 by omega)] at hb
      have c1 := blk_cell hb 1 (v := .bool false) rfl
      have f1 := blk_frozen hb 1
      have S2 := Lib.hid (show (wr.setCell ⟨nb, 1, none⟩ (.bool true)).heap[nb]? = some (.cells #[.bool true, .bool true, .bool false, .bool false] 4) from blk_set hb 1 (.bool true))
      have G2 := Lib.hid (gset (p := ⟨nb, 1, none⟩) G.out NB.out (.bool true))
      clear hb
      go_upto_region 9 with fail
      clear c1 f1 B
      generalize (World.setCell _ _ _) = w3 at *
      have c0 := blk_cell S2.out 0 (v := .bool true) rfl
      have c1 := blk_cell S2.out 1 (v := .bool true) rfl
      have c2 := blk_cell S2.out 2 (v := .bool false) rfl
      have c3 := blk_cell S2.out 3 (v := .bool false) rfl
      go_wp2_with fail
      refine wp_loop_rounds 6 ?_
      rw [rounds_succ]
      go_wp2_with fail
      rw [rounds_succ]
      go_wp2_with fail
      rw [rounds_succ]
      go_wp2_with fail
      rw [rounds_succ]
      go_wp2_with fail
      rw [rounds_succ]
      go_wp2_with fail
      go_ret
      exact ⟨by go_num, G2.out⟩
end Go.Proofs.YtdlglnoffpnonaaGreat.P
namespace Go.Proofs.YtdlglnoffpnonaaGreat.P
open Go.RowKit Go.MuLone Go.Maps
variable {w0 w : World} {rp rb fi : Nat} {z : Sp} {R : Asn}
set_option maxHeartbeats 3200000 in
theorem r_load_bad (h : Own w0 w (Star (rpA rp rb fi z.L z.s) R)) (hR : Stable R) (x : Pg) (hx1 : x.tx.size ≤ maxLen) (hx2 : x.da.size ≤ maxLen) (hm : mayP x = false) :
    Calls Tryz.prog 14 #[.pointer (some ⟨rp, 0, none⟩), pgV x] w fun e w' => e = .returned (.tuple #[.int .i64 0, .agg (hartC 0 0), .int .u64 0, .int .i64 6]) ∧ Own w0 w' (Star (rpA rp rb fi z.L z.s) R) := by
  have CM := Lib.hid (fun w => r_may12 x hx1 hx2 w)
  rw [hm] at CM
  obtain ⟨en, tx, da, bs⟩ := x
  have CM2 : RowKit.Hid (∀ w, Calls Tryz.prog 18 #[.agg #[.int .i64 en, .string tx, .string da, .int .i64 bs]] w fun e w' => e = .returned (.bool false) ∧ Gr w w') := Lib.hid CM.out
  have A1 := h.alloc (stable_star (stable_rp rp rb fi z.L z.s) hR) (.cells #[.int .i64 en, .string tx, .string da, .int .i64 bs] 23)
  have A2 := A1.alloc (stable_star (stable_blk _ _) (stable_star (stable_rp rp rb fi z.L z.s) hR)) (.cells (hartC 0 0) 29)
  rw [World.size_alloc] at A2
  have H0 : RowKit.Hid (Own w0 ((w.alloc (.cells #[.int .i64 en, .string tx, .string da, .int .i64 bs] 23)).alloc (.cells (hartC 0 0) 29)) (Star (rpA rp rb fi z.L z.s) (ldrA (w.heap.size + 1) w.heap.size en tx da bs R))) := Lib.hid (A2.mono (fun F h => star_swap2 (star_mono_r (fun F h => star_swap2 h) h)))
  have SR := Lib.hid (stable_ldrA (w.heap.size + 1) w.heap.size en tx da bs hR)
  have HR := Lib.hid hR
  have SP := Lib.hid (fun (z : Sp) => stable_rp rp rb fi z.L z.s)
  clear A1 A2 CM h hR
  show Calls Tryz.prog 14 #[.pointer (some ⟨rp, 0, none⟩), .agg #[.int .i64 en, .string tx, .string da, .int .i64 bs]] w _
  go_enter Tryz.func14, Tryz.ntmps14
  go_upto_region 1 with fail
  obtain ⟨w2, hw2⟩ : ∃ w2, ((w.alloc (.cells #[.int .i64 en, .string tx, .string da, .int .i64 bs] 23)).alloc (.cells (hartC 0 0) 29)) = w2 := ⟨_, rfl⟩
  rw [hw2] at H0
  unfold hartC at hw2
  rw [hw2]
  clear hw2
  obtain ⟨hr0, hrb⟩ : ∃ n, w.heap.size + 1 = n := ⟨_, rfl⟩
  rw [hrb] at H0 SR
  rw [hrb]
  clear hrb
  generalize w.heap.size = xb at *
  have BX := Lib.hid (ldrA_x H0.out)
  clear hm hx1 hx2
  go_wp2_with (first
    | (refine wpList_load_row rfl 23 _ rfl _ rfl 23 _ (0, 0) _ BX.out Tryz.underlying23 rfl pg_info ?_)
    | (go_at_call 18; refine (CM2.out _).mono ?_; rintro e w3 ⟨rfl, g3⟩; have H3 := Lib.hid (H0.out.gr (stable_star (SP.out _) SR.out) g3); clear g3; have BH := Lib.hid (ldrA_h H3.out))
    | (refine bld0 rfl 29 rfl _ built_hz ?_)
    | (refine wpList_store_row rfl 29 _ _ rfl _ (hartC 0 0) rfl rfl 29 _ BH.out hart_info rfl (hart_all _ _) ?_))
  refine bodyPost_ret (res_load rfl _ _ _ hr0 _ rfl (ldHt (setRow_heap _ _ _ (hartC 0 0) _ _ BH.out))) rfl ⟨rfl, ldrA_out H3.out (SP.out _) HR.out _⟩
theorem ex_pg {w : World} {ob : Nat} {x : Pg} {e : Operand → Value} {d : Option Tmp} {y : Operand} {ty : TypeId} {p : String} {af : Array Edge} {gd : Option (Nat × Bool)} (h : w.heap[ob]? = some (.cells (pgC x) 23)) (hx : e y = .pointer (some ⟨ob, 0, none⟩)) : (execOp e ⟨d, .load 23 y, ty, p, af, gd⟩).run Tryz.prog w = .ok (.value (.agg (pgC x))) w := by
  unfold execOp
  simp only [hx, Instr.loadAt, Instr.sureAddr, Sem.run_bind, Sem.run_pure, Result.andThen_ok, ldP (x := x) h]
  rfl
set_option maxHeartbeats 6400000 in
theorem r_load_full (h : Own w0 w (Star (rpA rp rb fi z.L z.s) R)) (hR : Stable R) (x : Pg) (hx1 : x.tx.size ≤ maxLen) (hx2 : x.da.size ≤ maxLen) (hm : mayP x = true) (n : Int) (hn : leftX fi z = n) (hlt : n < (szT x : Int) + (szD x : Int) + 12) :
    Calls Tryz.prog 14 #[.pointer (some ⟨rp, 0, none⟩), pgV x] w fun e w' => e = .returned (.tuple #[.int .i64 0, .agg (hartC 0 0), .int .u64 0, .int .i64 4]) ∧ Own w0 w' (Star (rpA rp rb fi z.L z.s) R) := by
  have CN0 := Lib.hid (fun w => r_need12 x hx1 hx2 hm w)
  obtain ⟨ND, hND⟩ : ∃ N, szT x + szD x + 12 = N := ⟨_, rfl⟩
  rw [hND] at CN0
  have d1 : n < (ND : Int) := by omega
  have CM := Lib.hid (fun w => r_may12 x hx1 hx2 w)
  rw [hm] at CM
  obtain ⟨en, tx, da, bs⟩ := x
  have CM2 : RowKit.Hid (∀ w, Calls Tryz.prog 18 #[.agg #[.int .i64 en, .string tx, .string da, .int .i64 bs]] w fun e w' => e = .returned (.bool true) ∧ Gr w w') := Lib.hid CM.out
  have A1 := h.alloc (stable_star (stable_rp rp rb fi z.L z.s) hR) (.cells #[.int .i64 en, .string tx, .string da, .int .i64 bs] 23)
  have A2 := A1.alloc (stable_star (stable_blk _ _) (stable_star (stable_rp rp rb fi z.L z.s) hR)) (.cells (hartC 0 0) 29)
  rw [World.size_alloc] at A2
  have H0 : RowKit.Hid (Own w0 ((w.alloc (.cells #[.int .i64 en, .string tx, .string da, .int .i64 bs] 23)).alloc (.cells (hartC 0 0) 29)) (Star (rpA rp rb fi z.L z.s) (ldrA (w.heap.size + 1) w.heap.size en tx da bs R))) := Lib.hid (A2.mono (fun F h => star_swap2 (star_mono_r (fun F h => star_swap2 h) h)))
  have SR := Lib.hid (stable_ldrA (w.heap.size + 1) w.heap.size en tx da bs hR)
  have HR := Lib.hid hR
  have SP := Lib.hid (fun (z : Sp) => stable_rp rp rb fi z.L z.s)
  clear A1 A2 CM h hR
  show Calls Tryz.prog 14 #[.pointer (some ⟨rp, 0, none⟩), .agg #[.int .i64 en, .string tx, .string da, .int .i64 bs]] w _
  go_enter Tryz.func14, Tryz.ntmps14
  go_upto_region 1 with fail
  obtain ⟨w2, hw2⟩ : ∃ w2, ((w.alloc (.cells #[.int .i64 en, .string tx, .string da, .int .i64 bs] 23)).alloc (.cells (hartC 0 0) 29)) = w2 := ⟨_, rfl⟩
  rw [hw2] at H0
  unfold hartC at hw2
  rw [hw2]
  clear hw2
  obtain ⟨hr0, hrb⟩ : ∃ n, w.heap.size + 1 = n := ⟨_, rfl⟩
  rw [hrb] at H0 SR
  rw [hrb]
  clear hrb
  generalize w.heap.size = xb at *
  have BX := Lib.hid (ldrA_x H0.out)
  have CN : RowKit.Hid (∀ w, Calls Tryz.prog 33 #[.agg (pgC ⟨en, tx, da, bs⟩)] w fun e w' => e = .returned (.int .i64 (ND : Int)) ∧ Gr w w') := Lib.hid CN0.out
  have LF : RowKit.Hid (∀ w, Own w0 w (Star (rpA rp rb fi z.L z.s) (ldrA hr0 xb en tx da bs R)) → Calls Tryz.prog 17 #[.pointer (some ⟨rp, 0, none⟩)] w fun e w' => e = .returned (.int .i64 n) ∧ w' = w) := Lib.hid (fun w h => o_qleft h n hn)
  clear hm hx1 hx2 hn hlt hND CN0
  go_upto_region 4 with (first
    | (refine wpList_load_row rfl 23 _ rfl _ rfl 23 _ (0, 0) _ BX.out Tryz.underlying23 rfl pg_info ?_)
    | (go_at_call 18; refine (CM2.out _).mono ?_; rintro e w3 ⟨rfl, g3⟩; have H3 := Lib.hid (H0.out.gr (stable_star (SP.out _) SR.out) g3); clear g3; have BH := Lib.hid (ldrA_h H3.out)))
  have KD := Lib.hid (H3.out.drew (stable_star (SP.out z) SR.out))
  refine wp_region_held_drew (S := fun w' => Own w0 w' (Star (rpA rp rb fi z.L z.s) (ldrA hr0 xb en tx da bs R))) (by kernel_rfl) (KD.out) (fun hH => ?_)
  try simp only [Act.put, List.setIfInBounds_toArray, List.set_cons_zero, List.set_cons_succ]
  refine wpAnyH_take (i := 0) (oi := { dst := some 28, op := Go.Op.move (Go.Operand.tmp 0), type := 39, pos := "ref.go:92", after := #[], guard := none }) (v := .pointer (some ⟨rp, 0, none⟩)) rfl (by kernel_rfl) (by kernel_rfl) (by kernel_rfl) (fun _ _ _ h => h) (Or.inl ⟨by rfl, fun w' hS' => by first | rfl | (go_simp; done) | (go_simp; rfl)⟩) KD.out ?_
  try simp only [Act.put, List.setIfInBounds_toArray, List.set_cons_zero, List.set_cons_succ]
  refine wpAnyH_take (i := 2) (oi := { dst := some 30, op := Go.Op.load 23 (Go.Operand.tmp 3), type := 23, pos := "ref.go:92", after := #[], guard := none }) (v := .agg (pgC ⟨en, tx, da, bs⟩)) rfl (by kernel_rfl) (by kernel_rfl) (by kernel_rfl) (fun _ _ _ h => h) (Or.inl ⟨by rfl, fun w' hS' => ex_pg (ldrA_x hS') rfl⟩) KD.out ?_
  try simp only [Act.put, List.setIfInBounds_toArray, List.set_cons_zero, List.set_cons_succ]
  refine wpAnyH_ready (rs := [1]) (by kernel_rfl) (by simp) ?_
  refine AllReadyH.cons (o := { dst := some 29, op := Go.Op.call { callee := Go.Callee.value (Go.Operand.func 17), args := #[Go.Operand.tmp 28], argTypes := #[39] }, type := 3, pos := "ref.go:92", after := #[{ on := 0, ground := Go.Ground.data }], guard := none }) rfl (fun K' hK => ?_) AllReadyH.nil
  rw [if_pos (by rfl)]
  go_wp2_with (go_at_call 17; refine (LF.out _ KD.out).mono ?_; rintro e wm ⟨rfl, hwm⟩; rw [hwm]; clear hwm wm)
  refine hK.out _ _ (KD.out) (fun hH1 => ?_)
  clear hK K'
  try simp only [Act.put, List.setIfInBounds_toArray, List.set_cons_zero, List.set_cons_succ]
  refine wpAnyH_ready (rs := [3]) (by kernel_rfl) (by simp) ?_
  refine AllReadyH.cons (o := { dst := some 31, op := Go.Op.call { callee := Go.Callee.value (Go.Operand.func 33), args := #[Go.Operand.tmp 30], argTypes := #[23] }, type := 3, pos := "ref.go:92", after := #[{ on := 2, ground := Go.Ground.data }, { on := 1, ground := Go.Ground.chain }], guard := none }) rfl (fun K' hK => ?_) AllReadyH.nil
  rw [if_pos (by rfl)]
  go_wp2_with (go_at_call 33; refine (CN.out _).mono ?_; rintro e w6 ⟨rfl, g6⟩; have H6 := Lib.hid (KD.out.gr (stable_star (SP.out z) SR.out) g6); clear g6)
  refine hK.out _ _ (H6.out) (fun hH2 => ?_)
  clear hK K'
  try simp only [Act.put, List.setIfInBounds_toArray, List.set_cons_zero, List.set_cons_succ]
  refine wpAnyH_take (i := 4) (oi := { dst := some 32, op := Go.Op.binOp Go.BinOp.lss 3 (Go.Operand.tmp 29) (Go.Operand.tmp 31) 3, type := 4, pos := "ref.go:92", after := #[{ on := 1, ground := Go.Ground.data }, { on := 3, ground := Go.Ground.data }], guard := none }) (v := .bool true) rfl (by kernel_rfl) (by kernel_rfl) (by kernel_rfl) (fun _ _ _ h => h) (Or.inl ⟨by rfl, fun w' hS' => by first | rfl | (go_simp; done) | (go_simp; omega) | (go_simp; rfl)⟩) H6.out ?_
  try simp only [Act.put, List.setIfInBounds_toArray, List.set_cons_zero, List.set_cons_succ]
  refine wpAnyH_done (by kernel_rfl) ?_ _
  have BH := Lib.hid (ldrA_h H6.out)
  go_wp2_with (first
    | (refine bld0 rfl 29 rfl _ built_hz ?_)
    | (refine wpList_store_row rfl 29 _ _ rfl _ (hartC 0 0) rfl rfl 29 _ BH.out hart_info rfl (hart_all _ _) ?_))
  refine bodyPost_ret (res_load rfl _ _ _ hr0 _ rfl (ldHt (setRow_heap _ _ _ (hartC 0 0) _ _ BH.out))) rfl ⟨rfl, ldrA_out H6.out (SP.out _) HR.out _⟩
end Go.Proofs.YtdlglnoffpnonaaGreat.P
