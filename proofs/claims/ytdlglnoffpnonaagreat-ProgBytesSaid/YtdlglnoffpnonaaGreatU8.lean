/- Stage 12: the document's Load, done. No condition. -/
import Derived.Test.YtdlglnoffpnonaaGreatU7
import Derived.StillTailTactics
set_option linter.unusedVariables false
set_option linter.unusedSimpArgs false
set_option maxRecDepth 100000
namespace Go.Proofs.YtdlglnoffpnonaaGreat.P
open Go.RowKit Go.MuLone Go.Maps
variable {w0 w : World} {rp rb fi : Nat} {z : Sp} {R : Asn}
theorem zer_cell (B j : Nat) (hj : j < B) : (bys (List.replicate B 0))[j]? = some (.int .u8 ((((List.replicate B (0 : UInt8)).getD j 0).toNat : Nat) : Int)) := by
  rw [bys_get _ _ (by simp; exact hj)]
  simp [bv, List.getD, hj]
theorem restB_chunk_size (s : ByteArray) (f : Nat) : ((restB s f).extract 0 (min (restB s f).size 256)).size = (chunkL s f).length := by rw [← restB_chunk]; simp
theorem laid_page {fi r n0 : Nat} {lf : Int} {own0 : Who} {pp : Nat} {z : Sp} (h : Laid fi r lf n0 own0 pp 0 z) (hp : pp < 28) (hl : (pp : Int) + 3 ≤ lf) :
    ∃ own p j, WF fi z own ∧ own r = some (3, p, j) ∧ pth z r 3 (pp + 1) = none ∧ mapMiss z r ((pp + 1 : Nat) : Int) < leftX fi z := by
  obtain ⟨own, p, j, hw, hr, ho, hn⟩ := h.ex
  have d1 : (pp + 1) / 1024 = 0 := by omega
  have d2 : (pp + 1) / 32 = 0 := by omega
  have h3 : pth z r 3 (pp + 1) = none := by
    have := h.p3 (pp + 1) (by omega)
    rw [decide_eq_false (by omega)] at this
    cases hq : pth z r 3 (pp + 1) with
    | none => rfl
    | some f => rw [hq] at this; cases this
  have hm : mapMiss z r ((pp + 1 : Nat) : Int) = if 1 ≤ pp then 0 else 2 := by
    rw [miss_eq hw hr (by omega), d1, d2]
    unfold lack
    rw [h.p1 0 (by omega), h.p2 0 (by omega)]
    by_cases e : 1 ≤ pp
    · simp [e]
    · simp [e]
  have hlf := h.left
  refine ⟨own, p, j, hw, hr, h3, ?_⟩
  rw [hm, hlf]; split <;> simp <;> omega
theorem laid_page_high {fi r n0 : Nat} {lf : Int} {own0 : Who} {pp q : Nat} {z : Sp} (h : Laid fi r lf n0 own0 pp q z) (hp : 1 ≤ pp ∧ pp ≤ 28) (hq : q < 8) (hl : (pp : Int) + q + 4 ≤ lf) :
    ∃ own p j, WF fi z own ∧ own r = some (3, p, j) ∧ pth z r 3 (56 + q) = none ∧ mapMiss z r ((56 + q : Nat) : Int) < leftX fi z := by
  obtain ⟨own, p, j, hw, hr, ho, hn⟩ := h.ex
  have d1 : (56 + q) / 1024 = 0 := by omega
  have d2 : (56 + q) / 32 = 1 := by omega
  have h3 : pth z r 3 (56 + q) = none := by
    have := h.p3 (56 + q) (by omega)
    rw [decide_eq_false (by omega)] at this
    cases hq : pth z r 3 (56 + q) with
    | none => rfl
    | some f => rw [hq] at this; cases this
  have hm : mapMiss z r ((56 + q : Nat) : Int) = if 1 ≤ q then 0 else 1 := by
    rw [miss_eq hw hr (by omega), d1, d2]
    unfold lack
    rw [h.p1 0 (by omega), h.p2 1 (by omega)]
    by_cases e : 1 ≤ q
    · simp [e, hp.1]
    · simp [e, hp.1]
  have hlf := h.left
  rw [if_pos hp.1] at hlf
  refine ⟨own, p, j, hw, hr, h3, ?_⟩
  rw [hm, hlf]; split <;> simp <;> omega
set_option maxHeartbeats 12800000 in
theorem r_load_ok (h : Own w0 w (Star (rpA rp rb fi z.L z.s) R)) (hR : Stable R) (x : Pg) (hx1 : x.tx.size ≤ maxLen) (hx2 : x.da.size ≤ maxLen) (hm : mayP x = true) (n0 : Int) (hn : leftX fi z = n0) (hlt : (szT x : Int) + (szD x : Int) + 12 ≤ n0)
    (r : Nat) (hr256 : r < 256) (ht : takeN z.L fi = (r : Int)) (zs : Nat → Sp) (hz0 : takeX fi z = zs 0) (hzs : ∀ i, i < 3 → layX fi r (prB i) (prC (szT x) (szD x) i) (prF (szT x) i) (prY x.tx x.da i) (zs i) = (zs (i + 1), 0))
    (nn : Nat) (own0 : Who) (hL0 : Laid fi r (n0 - 1) nn own0 0 0 (zs 0)) :
    Calls Tryz.prog 14 #[.pointer (some ⟨rp, 0, none⟩), pgV x] w fun e w' => e = .returned (.tuple #[.int .i64 r, .agg (hartC 16384 (256 + x.en)), .int .u64 (256 * (1 + (szT x : Int)) + x.da.size + x.bs), .int .i64 0]) ∧ Own w0 w' (Star (rpA rp rb fi (zs 3).L (zs 3).s) R) := by
  obtain ⟨y1, y2, z3, z4, z5⟩ := may_sz hm
  obtain ⟨m1, m2, m3, m4, m5, m6, m7, m8, m9, m10⟩ := may_iff.1 hm
  obtain ⟨EN, hEN0⟩ : ∃ EN, 256 * (1 + (szT x : Int)) + x.da.size + x.bs = EN := ⟨_, rfl⟩
  rw [hEN0]
  have CN0 := Lib.hid (fun w => r_need12 x hx1 hx2 hm w)
  have CS0 := Lib.hid (fun w => r_size12 x hx1 hx2 w)
  obtain ⟨ND, hND⟩ : ∃ N, szT x + szD x + 12 = N := ⟨_, rfl⟩
  rw [hND] at CN0
  have d1 : ¬ n0 < (ND : Int) := by omega
  have CM := Lib.hid (fun w => r_may12 x hx1 hx2 w)
  rw [hm] at CM
  obtain ⟨en, tx, da, bs⟩ := x
  have CM2 : RowKit.Hid (∀ w, Calls Tryz.prog 18 #[.agg #[.int .i64 en, .string tx, .string da, .int .i64 bs]] w fun e w' => e = .returned (.bool true) ∧ Gr w w') := Lib.hid CM.out
  have A1 := h.alloc (stable_star (stable_rp rp rb fi z.L z.s) hR) (.cells #[.int .i64 en, .string tx, .string da, .int .i64 bs] 23)
  have A2 := A1.alloc (stable_star (stable_blk _ _) (stable_star (stable_rp rp rb fi z.L z.s) hR)) (.cells (hartC 0 0) 29)
  rw [World.size_alloc] at A2
  have H0 : RowKit.Hid (Own w0 ((w.alloc (.cells #[.int .i64 en, .string tx, .string da, .int .i64 bs] 23)).alloc (.cells (hartC 0 0) 29)) (Star (rpA rp rb fi z.L z.s) (ldrA (w.heap.size + 1) w.heap.size en tx da bs R))) := Lib.hid (A2.mono (fun F h => star_swap2 (star_mono_r (fun F h => star_swap2 h) h)))
  have SR := Lib.hid (stable_ldrA (w.heap.size + 1) w.heap.size en tx da bs hR)
  have HR := Lib.hid hR
  have SP := Lib.hid (fun (z : Sp) => stable_rp rp rb fi z.L z.s)
  clear A1 A2 CM h hR
  show Calls Tryz.prog 14 #[.pointer (some ⟨rp, 0, none⟩), .agg #[.int .i64 en, .string tx, .string da, .int .i64 bs]] w _
  go_enter Tryz.func14, Tryz.ntmps14
  go_upto_region 1 with fail
  obtain ⟨w2, hw2⟩ : ∃ w2, ((w.alloc (.cells #[.int .i64 en, .string tx, .string da, .int .i64 bs] 23)).alloc (.cells (hartC 0 0) 29)) = w2 := ⟨_, rfl⟩
  rw [hw2] at H0
  unfold hartC at hw2
  rw [hw2]
  clear hw2
  obtain ⟨hr0, hrb⟩ : ∃ n, w.heap.size + 1 = n := ⟨_, rfl⟩
  rw [hrb] at H0 SR
  rw [hrb]
  clear hrb
  generalize w.heap.size = xb at *
  have BX := Lib.hid (ldrA_x H0.out)
  have CN : RowKit.Hid (∀ w, Calls Tryz.prog 33 #[.agg (pgC ⟨en, tx, da, bs⟩)] w fun e w' => e = .returned (.int .i64 (ND : Int)) ∧ Gr w w') := Lib.hid CN0.out
  obtain ⟨T, hT⟩ : ∃ T, szT ⟨en, tx, da, bs⟩ = T := ⟨_, rfl⟩
  obtain ⟨D, hD⟩ : ∃ D, szD ⟨en, tx, da, bs⟩ = D := ⟨_, rfl⟩
  have hzs2 : ∀ i, i < 3 → layX fi r (prB i) (prC T D i) (prF T i) (prY tx da i) (zs i) = (zs (i + 1), 0) := by rw [← hT, ← hD]; exact hzs
  have HZ0 := Lib.hid (hzs2 0 (by decide))
  have HZ1 := Lib.hid (hzs2 1 (by decide))
  have HZ2 := Lib.hid (hzs2 2 (by decide))
  have hEN : 256 * (1 + (T : Int)) + da.size + bs = EN := by rw [← hT]; exact hEN0
  rw [hT] at z3 z4 CS0 hND y1 hlt
  rw [hD] at z5 CS0 hND y2 hlt
  have CS : RowKit.Hid (∀ w, Calls Tryz.prog 34 #[.agg #[.int .i64 en, .string tx, .string da, .int .i64 bs]] w fun e w' => e = .returned (.tuple #[.int .i64 (T : Nat), .int .i64 (D : Nat)]) ∧ Gr w w') := Lib.hid CS0.out
  have q1 : 0 ≤ en := m4
  have q2 : en < 2048 := by have a1 : en < (tx.size : Int) := m5; have a2 : tx.size ≤ 2048 := m2; omega
  have q3 : da.size ≤ 1024 := m7
  have q4 : 0 ≤ bs := m8
  have q5 : bs ≤ 4096 := m9
  have q6 : tx.size ≤ 2048 := m2
  have q7 : tx.size ≤ 256 * T ∧ 256 * T < tx.size + 256 := by have y1 : T = pgN tx.size := y1; unfold pgN at y1; omega
  have q8 : da.size + bs.toNat ≤ 256 * D ∧ 256 * D < da.size + bs.toNat + 256 := by have y2 : D = pgN (da.size + bs.toNat) := y2; unfold pgN at y2; omega
  obtain ⟨B, hB⟩ : ∃ B : Nat, bs = (B : Int) := ⟨bs.toNat, by omega⟩
  clear hzs hzs2 CN0 CS0 hx1 hx2 hT hD y1 y2 m1 m2 m3 m4 m5 m6 m7 m8 m9 m10 hm hEN0
  have LF : RowKit.Hid (∀ w, Own w0 w (Star (rpA rp rb fi z.L z.s) (ldrA hr0 xb en tx da bs R)) → Calls Tryz.prog 17 #[.pointer (some ⟨rp, 0, none⟩)] w fun e w' => e = .returned (.int .i64 n0) ∧ w' = w) := Lib.hid (fun w h => o_qleft h n0 hn)
  have TKQ : RowKit.Hid (∀ w, Own w0 w (Star (rpA rp rb fi z.L z.s) (ldrA hr0 xb en tx da bs R)) → Calls Tryz.prog 13 #[.pointer (some ⟨rp, 0, none⟩)] w fun e w' => e = .returned (.tuple #[.int .i64 (r : Int), .int .i64 (takeE z.L fi)]) ∧ Own w0 w' (Star (rpA rp rb fi (zs 0).L (zs 0).s) (ldrA hr0 xb en tx da bs R))) := Lib.hid (fun w h => by have := o_qtake h SR.out _ _ _ _ ht rfl rfl rfl; rw [← hz0]; exact this)
  have HL0 := Lib.hid hL0
  subst hB
  have hBn : (B : Int).toNat = B := by omega
  rw [hBn] at q8
  obtain ⟨zl, hzl0⟩ : ∃ l, List.replicate B (0 : UInt8) = l := ⟨_, rfl⟩
  have hzl : zl.length = B := by rw [← hzl0]; simp
  have hzc : ∀ j, j < B → (bys zl)[j]? = some (.int .u8 (((zl.getD j 0).toNat : Nat) : Int)) := fun j hj => by rw [← hzl0]; exact zer_cell B j hj
  have hzz : (⟨zl.toArray⟩ : ByteArray) = zerB B := by rw [← hzl0]; rfl
  have mkB : ∀ w, (Instr.makeSlice 51 (.int .i64 (B : Int)) (.int .i64 (B : Int))).run Tryz.prog w = .ok (.slice (some ⟨w.heap.size, 0, none⟩) B B) (w.alloc (.cells (bys zl) 5)) := fun w => by rw [← hzl0]; exact mk_bytes B (by omega) w
  obtain ⟨ZB, hZB⟩ : ∃ Z, zerB B = Z := ⟨_, rfl⟩
  rw [hZB] at hzz
  obtain ⟨DS, hDS⟩ : ∃ s, da ++ ZB = s := ⟨_, rfl⟩
  have dsz : DS.size = da.size + B := by rw [← hDS, ByteArray.size_append, ← hZB, zerB_size]
  have zbz : ZB.size = B := by rw [← hZB, zerB_size]
  have sadd : ∀ w, (Op.stringOp .add da ZB).run Tryz.prog w = .ok (.string DS) w := fun w => by rw [← hDS]; exact run_string_add_sum _ _ _ (by omega)
  have DSZ := Lib.hid dsz
  have HZC := Lib.hid hzc
  have HMK := Lib.hid mkB
  have HSA := Lib.hid sadd
  have HZZ := Lib.hid hzz
  have HZL := Lib.hid hzl
  have HEN := Lib.hid hEN
  have HDS := Lib.hid (show da ++ zerB B = DS by rw [hZB]; exact hDS)
  clear hzl0 hZB hDS hn hz0 ht hL0 hBn dsz zbz hzl hEN hND hzc mkB sadd hzz
  go_upto_region 4 with (first
    | (refine wpList_load_row rfl 23 _ rfl _ rfl 23 _ (0, 0) _ BX.out Tryz.underlying23 rfl pg_info ?_)
    | (go_at_call 18; refine (CM2.out _).mono ?_; rintro e w3 ⟨rfl, g3⟩; have H3 := Lib.hid (H0.out.gr (stable_star (SP.out _) SR.out) g3); clear g3; have BH := Lib.hid (ldrA_h H3.out)))
  have KD := Lib.hid (H3.out.drew (stable_star (SP.out z) SR.out))
  refine wp_region_held_drew (S := fun w' => Own w0 w' (Star (rpA rp rb fi z.L z.s) (ldrA hr0 xb en tx da (B : Int) R))) (by kernel_rfl) (KD.out) (fun hH => ?_)
  try simp only [Act.put, List.setIfInBounds_toArray, List.set_cons_zero, List.set_cons_succ]
  refine wpAnyH_take (i := 0) (oi := { dst := some 28, op := Go.Op.move (Go.Operand.tmp 0), type := 39, pos := "ref.go:92", after := #[], guard := none }) (v := .pointer (some ⟨rp, 0, none⟩)) rfl (by kernel_rfl) (by kernel_rfl) (by kernel_rfl) (fun _ _ _ h => h) (Or.inl ⟨by rfl, fun w' hS' => by first | rfl | (go_simp; done) | (go_simp; rfl)⟩) KD.out ?_
  try simp only [Act.put, List.setIfInBounds_toArray, List.set_cons_zero, List.set_cons_succ]
  refine wpAnyH_take (i := 2) (oi := { dst := some 30, op := Go.Op.load 23 (Go.Operand.tmp 3), type := 23, pos := "ref.go:92", after := #[], guard := none }) (v := .agg (pgC ⟨en, tx, da, (B : Int)⟩)) rfl (by kernel_rfl) (by kernel_rfl) (by kernel_rfl) (fun _ _ _ h => h) (Or.inl ⟨by rfl, fun w' hS' => ex_pg (ldrA_x hS') rfl⟩) KD.out ?_
  try simp only [Act.put, List.setIfInBounds_toArray, List.set_cons_zero, List.set_cons_succ]
  refine wpAnyH_ready (rs := [1]) (by kernel_rfl) (by simp) ?_
  refine AllReadyH.cons (o := { dst := some 29, op := Go.Op.call { callee := Go.Callee.value (Go.Operand.func 17), args := #[Go.Operand.tmp 28], argTypes := #[39] }, type := 3, pos := "ref.go:92", after := #[{ on := 0, ground := Go.Ground.data }], guard := none }) rfl (fun K' hK => ?_) AllReadyH.nil
  rw [if_pos (by rfl)]
  go_wp2_with (go_at_call 17; refine (LF.out _ KD.out).mono ?_; rintro e wm ⟨rfl, hwm⟩; rw [hwm]; clear hwm wm)
  refine hK.out _ _ (KD.out) (fun hH1 => ?_)
  clear hK K'
  try simp only [Act.put, List.setIfInBounds_toArray, List.set_cons_zero, List.set_cons_succ]
  refine wpAnyH_ready (rs := [3]) (by kernel_rfl) (by simp) ?_
  refine AllReadyH.cons (o := { dst := some 31, op := Go.Op.call { callee := Go.Callee.value (Go.Operand.func 33), args := #[Go.Operand.tmp 30], argTypes := #[23] }, type := 3, pos := "ref.go:92", after := #[{ on := 2, ground := Go.Ground.data }, { on := 1, ground := Go.Ground.chain }], guard := none }) rfl (fun K' hK => ?_) AllReadyH.nil
  rw [if_pos (by rfl)]
  go_wp2_with (go_at_call 33; refine (CN.out _).mono ?_; rintro e w6 ⟨rfl, g6⟩; have H6 := Lib.hid (KD.out.gr (stable_star (SP.out z) SR.out) g6); clear g6)
  refine hK.out _ _ (H6.out) (fun hH2 => ?_)
  clear hK K'
  try simp only [Act.put, List.setIfInBounds_toArray, List.set_cons_zero, List.set_cons_succ]
  refine wpAnyH_take (i := 4) (oi := { dst := some 32, op := Go.Op.binOp Go.BinOp.lss 3 (Go.Operand.tmp 29) (Go.Operand.tmp 31) 3, type := 4, pos := "ref.go:92", after := #[{ on := 1, ground := Go.Ground.data }, { on := 3, ground := Go.Ground.data }], guard := none }) (v := .bool false) rfl (by kernel_rfl) (by kernel_rfl) (by kernel_rfl) (fun _ _ _ h => h) (Or.inl ⟨by rfl, fun w' hS' => by first | rfl | (go_simp; done) | (go_simp; omega) | (go_simp; rfl)⟩) H6.out ?_
  try simp only [Act.put, List.setIfInBounds_toArray, List.set_cons_zero, List.set_cons_succ]
  refine wpAnyH_done (by kernel_rfl) ?_ _
  clear BX H0 H3 BH CM2 LF KD CN
  have BX := Lib.hid (ldrA_x H6.out)
  go_upto_region 7 with (first
    | (refine wpList_load_row rfl 23 _ rfl _ rfl 23 _ (0, 0) _ BX.out Tryz.underlying23 rfl pg_info ?_)
    | (go_at_call 34; refine (CS.out _).mono ?_; rintro e w7 ⟨rfl, g7⟩; have H7 := Lib.hid (H6.out.gr (stable_star (SP.out _) SR.out) g7); clear g7))
  go_upto_region 8 with (go_at_call 13; refine (TKQ.out _ H7.out).mono ?_; rintro e w8 ⟨rfl, h8⟩; have H8 := Lib.hid h8; clear h8)
  clear H6 H7 TKQ CS BX
  have K8 := Lib.hid (H8.out.drew (stable_star (SP.out (zs 0)) SR.out))
  have BX8 := Lib.hid (ldrA_x K8.out)
  refine wp_region_held_drew (S := fun w' => w'.heap[xb]? = some (.cells #[.int .i64 en, .string tx, .string da, .int .i64 (B : Int)] 23)) (by kernel_rfl) (BX8.out) (fun hH => ?_)
  generalize w8.drew = we at *
  try simp only [Act.put, List.setIfInBounds_toArray, List.set_cons_zero, List.set_cons_succ]
  refine wpAnyH_take (i := 0) (oi := { dst := some 44, op := Go.Op.fieldAddr 23 (Go.Operand.tmp 3) 2, type := 0, pos := "ref.go:97", after := #[], guard := none }) (v := .pointer (some ⟨xb, 2, none⟩)) rfl (by kernel_rfl) (by kernel_rfl) (by kernel_rfl) (fun _ _ _ h => h) (Or.inl ⟨by rfl, fun w' hS' => by first | rfl | (go_simp; done) | (go_simp; rfl)⟩) BX8.out ?_
  try simp only [Act.put, List.setIfInBounds_toArray, List.set_cons_zero, List.set_cons_succ]
  refine wpAnyH_take (i := 1) (oi := { dst := some 45, op := Go.Op.load 9 (Go.Operand.tmp 44), type := 9, pos := "ref.go:97", after := #[{ on := 0, ground := Go.Ground.data }], guard := none }) (v := .string da) rfl (by kernel_rfl) (by kernel_rfl) (by kernel_rfl) (fun _ _ _ h => h) (Or.inl ⟨by rfl, fun w' hS' => by have c := blk_cell hS' 2 (v := .string da) rfl; go_simp⟩) BX8.out ?_
  try simp only [Act.put, List.setIfInBounds_toArray, List.set_cons_zero, List.set_cons_succ]
  refine wpAnyH_take (i := 2) (oi := { dst := some 46, op := Go.Op.fieldAddr 23 (Go.Operand.tmp 3) 3, type := 0, pos := "ref.go:97", after := #[], guard := none }) (v := .pointer (some ⟨xb, 3, none⟩)) rfl (by kernel_rfl) (by kernel_rfl) (by kernel_rfl) (fun _ _ _ h => h) (Or.inl ⟨by rfl, fun w' hS' => by first | rfl | (go_simp; done) | (go_simp; rfl)⟩) BX8.out ?_
  try simp only [Act.put, List.setIfInBounds_toArray, List.set_cons_zero, List.set_cons_succ]
  refine wpAnyH_take (i := 3) (oi := { dst := some 47, op := Go.Op.load 3 (Go.Operand.tmp 46), type := 3, pos := "ref.go:97", after := #[{ on := 2, ground := Go.Ground.data }], guard := none }) (v := .int .i64 (B : Int)) rfl (by kernel_rfl) (by kernel_rfl) (by kernel_rfl) (fun _ _ _ h => h) (Or.inl ⟨by rfl, fun w' hS' => by have c := blk_cell hS' 3 (v := .int .i64 ((B : Int))) rfl; go_simp⟩) BX8.out ?_
  try simp only [Act.put, List.setIfInBounds_toArray, List.set_cons_zero, List.set_cons_succ]
  refine wpAnyH_ready (rs := [4]) (by kernel_rfl) (by simp) ?_
  refine AllReadyH.cons (o := { dst := some 48, op := Go.Op.makeSlice 51 (Go.Operand.tmp 47) (Go.Operand.tmp 47), type := 51, pos := "ref.go:97", after := #[{ on := 3, ground := Go.Ground.data }, { on := 3, ground := Go.Ground.data }], guard := none }) rfl (fun K' hK => ?_) AllReadyH.nil
  rw [if_pos (by rfl)]
  have mk := HMK.out
  go_simp
  have BN := Lib.hid (blk_new we (.cells (bys zl) 5))
  have K9 := Lib.hid (K8.out.gr (stable_star (SP.out (zs 0)) SR.out) ((Gr.refl we).alloc (Nat.le_refl _) (.cells (bys zl) 5)))
  have BX9 := Lib.hid (ldrA_x K9.out)
  refine hK.out _ _ BX9.out (fun hHm => ?_)
  clear hK K' mk
  try simp only [Act.put, List.setIfInBounds_toArray, List.set_cons_zero, List.set_cons_succ]
  generalize (World.alloc we _) = wn at *
  generalize we.heap.size = nb at *
  have cv : (convert 51 9 (.slice (some ⟨nb, 0, none⟩) B B)).run Tryz.prog wn = .ok (.string ⟨zl.toArray⟩) wn := bytes_back wn nb B B zl HZL.out (fun j hj => blk_cell BN.out j (HZC.out j hj))
  rw [HZZ.out] at cv
  have sadd := HSA.out
  refine wpAnyH_ready (rs := [5]) (by kernel_rfl) (by simp) ?_
  refine AllReadyH.cons (o := { dst := some 49, op := Go.Op.convert 51 9 (Go.Operand.tmp 48), type := 9, pos := "ref.go:97", after := #[{ on := 4, ground := Go.Ground.data }], guard := none }) rfl (fun K' hK => ?_) AllReadyH.nil
  rw [if_pos (by rfl)]
  go_wp2_with fail
  refine hK.out _ _ BX9.out (fun hHn => ?_)
  clear hK K'
  try simp only [Act.put, List.setIfInBounds_toArray, List.set_cons_zero, List.set_cons_succ]
  refine wpAnyH_take (i := 6) (oi := { dst := some 50, op := Go.Op.binOp Go.BinOp.add 9 (Go.Operand.tmp 45) (Go.Operand.tmp 49) 9, type := 9, pos := "ref.go:97", after := #[{ on := 1, ground := Go.Ground.data }, { on := 5, ground := Go.Ground.data }], guard := none }) (v := .string DS) rfl (by kernel_rfl) (by kernel_rfl) (by kernel_rfl) (fun _ _ _ h => h) (Or.inl ⟨by rfl, fun w' hS' => by first | rfl | (go_simp; done) | (go_simp; rfl)⟩) BX9.out ?_
  try simp only [Act.put, List.setIfInBounds_toArray, List.set_cons_zero, List.set_cons_succ]
  refine wpAnyH_take (i := 7) (oi := { dst := some 13, op := Go.Op.assign (Go.Operand.tmp 50), type := 9, pos := "ref.go:97", after := #[{ on := 6, ground := Go.Ground.data }, { on := 0, ground := Go.Ground.phase }, { on := 1, ground := Go.Ground.phase }, { on := 2, ground := Go.Ground.phase }, { on := 3, ground := Go.Ground.phase }, { on := 4, ground := Go.Ground.phase }, { on := 5, ground := Go.Ground.phase }, { on := 6, ground := Go.Ground.phase }], guard := none }) (v := .string DS) rfl (by kernel_rfl) (by kernel_rfl) (by kernel_rfl) (fun _ _ _ h => h) (Or.inl ⟨by rfl, fun w' hS' => by first | rfl | (go_simp; done) | (go_simp; rfl)⟩) BX9.out ?_
  try simp only [Act.put, List.setIfInBounds_toArray, List.set_cons_zero, List.set_cons_succ]
  refine wpAnyH_done (by kernel_rfl) ?_ _
  clear BX8 BX9 BN cv hHm hHn hH K8 sadd HMK HSA HZZ HZC
  go_wp2_with fail
  go_loopg [14] (T + D + 1) (fun t v14 wr => ∃ (i : Nat) (x : Sp), i ≤ T + D ∧ t = T + D + 1 - i ∧ v14 = .int .i64 ((i + 1 : Nat) : Int) ∧ Laid fi r (n0 - 1) nn own0 i 0 x ∧ ((i ≤ T ∧ layX fi r 27 (T - i) ((i + 1 : Nat) : Int) (restB tx (256 * i)) x = (zs 1, 0)) ∨ (T ≤ i ∧ layX fi r 23 (T + D - i) ((i + 1 : Nat) : Int) (restB da (256 * (i - T))) x = (zs 2, 0))) ∧ Own w0 wr (Star (rpA rp rb fi x.L x.s) (ldrA hr0 xb en tx da (B : Int) R)))
  case atStart => exact ⟨0, zs 0, Nat.zero_le _, rfl, rfl, HL0.out, .inl ⟨Nat.zero_le _, by rw [Nat.mul_zero, restB_zero]; exact HZ0.out⟩, K9.out⟩
  case round =>
    clear HL0 K9
    obtain ⟨i, x, hi, rfl, rfl, hla, hx, ho⟩ := hrel
    have HO := Lib.hid ho
    have HLA := Lib.hid hla
    clear ho
    have hxx : (i < T ∧ layX fi r 27 (T - i) ((i + 1 : Nat) : Int) (restB tx (256 * i)) x = (zs 1, 0)) ∨ (T ≤ i ∧ layX fi r 23 (T + D - i) ((i + 1 : Nat) : Int) (restB da (256 * (i - T))) x = (zs 2, 0)) := by
      rcases hx with ⟨a1, a2⟩ | a2
      · by_cases a3 : i < T
        · exact .inl ⟨a3, a2⟩
        · have a4 : i = T := by omega
          subst a4
          rw [Nat.sub_self] at a2
          have a5 : (x, (0 : Int)) = (zs 1, 0) := a2
          have a6 : x = zs 1 := (Prod.mk.inj a5).1
          refine .inr ⟨Nat.le_refl _, ?_⟩
          rw [a6, Nat.sub_self, Nat.mul_zero, restB_zero, show i + D - i = D by omega]
          have := HZ1.out
          rw [show prF i 1 = i + 1 from Nat.add_comm 1 i] at this
          exact this
      · exact .inr a2
    clear hx
    by_cases hlt2 : i < T + D
    · obtain ⟨own, p, j, hw, hrr, hno, hmiss⟩ := laid_page hla (by omega) (by omega)
      clear hla
      rcases hxx with ⟨hiT, hx⟩ | ⟨hiT, hx⟩
      · have HX := Lib.hid hx
        clear hx
        have hx2 := HX.out
        rw [show T - i = (T - (i + 1)) + 1 by omega] at hx2
        obtain ⟨q, hq⟩ : ∃ q : Nat, i = q := ⟨_, rfl⟩
        subst hq
        obtain ⟨yy, hyy⟩ : ∃ y, restB tx (256 * i) = y := ⟨_, rfl⟩
        rw [hyy] at hx2
        obtain ⟨m1, m2, m3, h'⟩ := laid_low HLA.out (by omega) (b := 27) (by decide) (by decide) (by decide) (by decide) (by omega) (yy.extract 0 (min yy.size 256)) (by rw [ByteArray.size_extract]; omega)
        rw [layX, show (27 : Int) = ((27 : Nat) : Int) from rfl, m1, m2, m3, decide_eq_true rfl, cond_true, cond_true, cond_true] at hx2
        have hnx : yy.extract (min yy.size 256) yy.size = restB tx (256 * i + 256) := by rw [← hyy]; exact restB_next _ _
        rw [hnx] at hx2
        obtain ⟨n, n256, x65, pg, lz⟩ := page_laid hw hrr (P := i + 1) (b := 27) (by omega) (by decide) (by decide) (by decide) (by decide) hno hmiss
        obtain ⟨mz, hmz, hll⟩ : ∃ m, m = 0 ∧ chunkL tx (256 * i) = (yy.extract 0 (min yy.size 256)).data.toList ++ List.replicate m 0 := ⟨0, rfl, by rw [← hyy, restB_chunk]; simp⟩
        have hml : (yy.extract 0 (min yy.size 256)).size + mz ≤ 256 := by rw [ByteArray.size_extract]; omega
        have hz := lz (yy.extract 0 (min yy.size 256)) mz hml
        rw [← hll] at hz
        obtain ⟨YY, hYY⟩ : ∃ Y, yy.extract 0 (min yy.size 256) = Y := ⟨_, rfl⟩
        rw [hYY] at hz hx2 h'
        obtain ⟨F, hF⟩ : ∃ F, 256 * i = F := ⟨_, rfl⟩
        rw [hF] at hz hx2
        have sze : (chunkL tx F).length = min 256 (tx.size - F) := chunk_len _ _
        have LLG0 : ∀ ii (h : ii < (chunkL tx F).length) (h2 : F + ii < tx.size), (chunkL tx F)[ii] = tx[F + ii] := fun ii h h2 => chunk_get _ _ _ h h2
        obtain ⟨LL, hLL⟩ : ∃ L, chunkL tx F = L := ⟨_, rfl⟩
        rw [hLL] at hz
        have LLG : RowKit.Hid (∀ ii (h : ii < LL.length) (h2 : F + ii < tx.size), LL[ii] = tx[F + ii]) := Lib.hid (by subst hLL; exact LLG0)
        rw [hLL] at sze
        clear LLG0 hLL
        have hFs : F ≤ tx.size := by omega
        have l1 : LL.length ≤ 256 := by omega
        have l2 : F + LL.length ≤ tx.size := by omega
        have l3 : LL.length = 256 ∨ F + LL.length = tx.size := by omega
        have hsz48 : tx.size ≤ 9000 := by omega
        have hF48 : F ≤ 9000 := by omega
        clear sze hFs
        have PG := Lib.hid pg
        have LZ := Lib.hid hz
        have X65 := Lib.hid x65
        have LA2 := Lib.hid h'
        have HX2 := Lib.hid hx2
        have MP := Lib.hid (o_rmap HO.out SR.out hw hrr (by omega : i + 1 < 32768) (b := 27) (by decide) (by decide) 0 _ m1 rfl)
        obtain ⟨x1, hx1e⟩ : ∃ x1, mapX fi x r ((i + 1 : Nat) : Int) ((27 : Nat) : Int) = x1 := ⟨_, rfl⟩
        rw [hx1e] at PG LZ X65 MP
        obtain ⟨P, hPe⟩ : ∃ P, i + 1 = P := ⟨_, rfl⟩
        rw [hPe] at PG LZ MP LA2 HX2
        have HP := Lib.hid hPe
        have cX := blk_cell (ldrA_x HO.out) 1 (v := .string tx) rfl
        have e1 : (P : Int) ≤ (T : Int) + (D : Int) := by omega
        have e2 : IntKind.i64.wrap ((P : Int) - 1) = (i : Int) := by rw [wrapI _ (by omega) (by omega)]; omega
        have e3 : IntKind.i64.wrap (256 * (i : Int)) = (F : Int) := by rw [wrapI _ (by omega) (by omega)]; omega
        have e4 : ¬ (T : Int) < (P : Int) := by omega
        have e7 : IntKind.i64.wrap ((T : Int) + (D : Int)) = (T : Int) + (D : Int) := wrapI _ (by omega) (by omega)
        rw [hPe]
        clear hx2 h' hz pg lz m1 m2 m3 hno hmiss x65 hx1e hll hml hnx hyy hYY HX HLA hw hrr
        clear hmz
        go_upto_region 20 with (go_at_call 35; refine MP.out.mono ?_; rintro e wm1 ⟨rfl, hm1⟩; have HM := Lib.hid hm1; clear hm1)
        clear MP HO cX e2 e3 e4
        go_wp2_with fail
        go_loopg [18] (LL.length + 1) (fun t v18 wr => ∃ ii : Nat, ii ≤ LL.length ∧ t = LL.length + 1 - ii ∧ v18 = .int .i64 ((F + ii : Nat) : Int) ∧ Own w0 wr (Star (rpA rp rb fi x1.L (putL x1.s (n * 256) (LL.take ii))) (ldrA hr0 xb en tx da (B : Int) R)))
        case atStart => exact ⟨0, Nat.zero_le _, rfl, rfl, by rw [List.take_zero, putL_nil]; exact HM.out⟩
        case round =>
          clear HM
          obtain ⟨ii, hii, rfl, rfl, hio⟩ := hrel
          have HI := Lib.hid hio
          clear hio
          by_cases hil : ii < LL.length
          · have tl : (LL.take ii).length = ii := by rw [List.length_take]; omega
            obtain ⟨p1, p2⟩ := PG.out (LL.take ii) (by omega)
            obtain ⟨q1w, q2w⟩ := p2 ii (by omega)
            obtain ⟨FI, hFI, hFIs, hch⟩ : ∃ FI, F + ii = FI ∧ ∃ h : FI < tx.size, LL[ii]'hil = tx[FI]'h := ⟨F + ii, rfl, by omega, LLG.out ii hil (by omega)⟩
            obtain ⟨VV, hVV⟩ : ∃ V : Int, ((P * 256 + ii : Nat) : Int) = V := ⟨_, rfl⟩
            rw [hVV] at q1w q2w
            have i1 : (FI : Int) < (F : Int) + 256 := by omega
            have v0 : IntKind.i64.wrap ((F : Int) + 256) = (F : Int) + 256 := wrapI _ (by omega) (by omega)
            have v1 : IntKind.i64.wrap (256 * (P : Int)) = 256 * (P : Int) := wrapI _ (by omega) (by omega)
            have v2 : IntKind.i64.wrap (256 * (P : Int) + (FI : Int)) = 256 * (P : Int) + (FI : Int) := wrapI _ (by omega) (by omega)
            have v3 : IntKind.i64.wrap (256 * (P : Int) + (FI : Int) - (F : Int)) = VV := by rw [wrapI _ (by omega) (by omega)]; omega
            have v4 : IntKind.u64.wrap VV = VV := wrapU _ (by omega) (by omega)
            have v5 : IntKind.i64.wrap ((FI : Int) + 1) = ((F + (ii + 1) : Nat) : Int) := by rw [wrapI _ (by omega) (by omega)]; omega
            have WK := Lib.hid (o_qwalk HI.out SR.out (r : Int) VV 1 _ _ ⟨by omega, by omega⟩ ⟨by omega, by omega⟩ q2w q1w)
            have c0 := o_qM (z := ⟨x1.L, putL x1.s (n * 256) (LL.take ii)⟩) HI.out
            obtain ⟨AT, hAT⟩ : ∃ a, n * 256 + ii = a := ⟨_, rfl⟩
            rw [hAT] at WK
            have pl : (putL x1.s (n * 256) (LL.take ii)).length = x1.s.length := putL_len _ _ _ p1
            have hLin := (PG.out LL l1).1
            have hat : AT < (putL x1.s (n * 256) (LL.take ii)).length := by rw [pl]; omega
            have hst := putL_step x1.s (n * 256) LL hLin ii hil
            rw [hAT, hch] at hst
            have HST := Lib.hid hst
            have HPL := Lib.hid pl
            have HAT := Lib.hid hat
            have HFI := Lib.hid hFI
            have b9 : (0 : Int) ≤ (FI : Int) := by omega
            have b10 : (FI : Int) < (tx.size : Int) := by omega
            have b11 : (FI : Int).toNat = FI := by omega
            have b6 : (AT : Int) < (x1.s.length : Int) := by omega
            have b5 : (0 : Int) ≤ (AT : Int) := by omega
            have b7 : (AT : Int).toNat = AT := by omega
            have b8 : (x1.s.length : Int) ≤ 65536 := by have := X65.out; omega
            rw [hFI]
            clear hst hch hVV p1 p2 q1w q2w tl hLin hFI hAT pl hat
            go_upto_region 24 with (go_at_call 36; refine WK.out.mono ?_; rintro e v2w ⟨rfl, hwk⟩; have H2 := Lib.hid hwk; clear hwk)
            clear c0 WK
            obtain ⟨vb, s0, s1, s2⟩ := o_qpoke H2.out SR.out
            have c0 := o_qM (z := ⟨x1.L, putL x1.s (n * 256) (LL.take ii)⟩) H2.out
            have cc := (s1 AT HAT.out).1
            have zz := (s1 AT HAT.out).2
            have HN := Lib.hid (s2 AT (tx[FI]'hFIs) HAT.out)
            rw [HST.out] at HN
            rw [HPL.out] at s0
            generalize (putL x1.s (n * 256) (LL.take ii))[AT]'(HAT.out) = oldb at *
            have SN := Lib.hid (stable_star (stable_rp rp rb fi x1.L (putL x1.s (n * 256) (LL.take (ii + 1)))) SR.out)
            clear s1 s2 H2 HI HST HPL HAT
            go_still_tail 12, (by kernel_rfl)
            go_wp2_with fail
            go_roundg (LL.length + 1 - (ii + 1))
            case measure => omega
            case rel => exact ⟨ii + 1, by omega, rfl, by go_num, by first | exact HN.out.drew SN.out | exact HN.out⟩
          · obtain rfl : ii = LL.length := by omega
            have HI2 : RowKit.Hid (Own w0 wr (Star (rpA rp rb fi (layZ fi r ((27 : Nat) : Int) ((P : Nat) : Int) YY x).L (layZ fi r ((27 : Nat) : Int) ((P : Nat) : Int) YY x).s) (ldrA hr0 xb en tx da (B : Int) R))) := Lib.hid (by rw [LZ.out]; have := HI.out; rw [List.take_length] at this; exact this)
            have v0 : IntKind.i64.wrap ((F : Int) + 256) = (F : Int) + 256 := wrapI _ (by omega) (by omega)
            have v9 : IntKind.i64.wrap ((P : Int) + 1) = ((P + 1 : Nat) : Int) := wrapI _ (by omega) (by omega)
            obtain ⟨K, hK⟩ : ∃ K, F + LL.length = K := ⟨_, rfl⟩
            have HKK := Lib.hid hK
            rw [hK]
            clear HI
            rcases (by omega : ¬ (K : Int) < (F : Int) + 256 ∨ ((K : Int) < (F : Int) + 256 ∧ ¬ (K : Int) < (tx.size : Int))) with g1 | ⟨g1, g2⟩
            all_goals
              clear hK
              go_wp2_with fail
              go_roundg (T + D + 1 - (i + 1))
              case measure => omega
              case rel => exact ⟨i + 1, layZ fi r ((27 : Nat) : Int) ((P : Nat) : Int) YY x, by omega, rfl, by rw [HP.out]; go_num, by rw [HP.out]; exact LA2.out, .inl ⟨by have := HP.out; omega, by have e := HX2.out; rw [show F + 256 = 256 * (i + 1) by omega, show ((P : Nat) : Int) + 1 = ((i + 1 + 1 : Nat) : Int) by have := HP.out; omega, show T - P = T - (i + 1) by have := HP.out; omega] at e; exact e⟩, HI2.out⟩
      · have HX := Lib.hid hx
        clear hx
        have hx2 := HX.out
        rw [show T + D - i = (T + D - (i + 1)) + 1 by omega] at hx2
        obtain ⟨q, hq⟩ : ∃ q : Nat, i - T = q := ⟨_, rfl⟩
        rw [hq] at hx2
        obtain ⟨yy, hyy⟩ : ∃ y, restB da (256 * q) = y := ⟨_, rfl⟩
        rw [hyy] at hx2
        obtain ⟨m1, m2, m3, h'⟩ := laid_low HLA.out (by omega) (b := 23) (by decide) (by decide) (by decide) (by decide) (by omega) (yy.extract 0 (min yy.size 256)) (by rw [ByteArray.size_extract]; omega)
        rw [layX, show (23 : Int) = ((23 : Nat) : Int) from rfl, m1, m2, m3, decide_eq_true rfl, cond_true, cond_true, cond_true] at hx2
        have hnx : yy.extract (min yy.size 256) yy.size = restB da (256 * q + 256) := by rw [← hyy]; exact restB_next _ _
        rw [hnx] at hx2
        obtain ⟨n, n256, x65, pg, lz⟩ := page_laid hw hrr (P := i + 1) (b := 23) (by omega) (by decide) (by decide) (by decide) (by decide) hno hmiss
        obtain ⟨mz, hmz1, hmz2⟩ := chunk_app da B (256 * q)
        rw [HDS.out] at hmz1
        have hll : chunkL DS (256 * q) = (yy.extract 0 (min yy.size 256)).data.toList ++ List.replicate mz 0 := by rw [← hyy, restB_chunk]; exact hmz1
        have hml : (yy.extract 0 (min yy.size 256)).size + mz ≤ 256 := (by rw [← hyy, restB_chunk_size]; exact hmz2)
        have hz := lz (yy.extract 0 (min yy.size 256)) mz hml
        rw [← hll] at hz
        obtain ⟨YY, hYY⟩ : ∃ Y, yy.extract 0 (min yy.size 256) = Y := ⟨_, rfl⟩
        rw [hYY] at hz hx2 h'
        obtain ⟨F, hF⟩ : ∃ F, 256 * q = F := ⟨_, rfl⟩
        rw [hF] at hz hx2
        have sze : (chunkL DS F).length = min 256 (DS.size - F) := chunk_len _ _
        have LLG0 : ∀ ii (h : ii < (chunkL DS F).length) (h2 : F + ii < DS.size), (chunkL DS F)[ii] = DS[F + ii] := fun ii h h2 => chunk_get _ _ _ h h2
        obtain ⟨LL, hLL⟩ : ∃ L, chunkL DS F = L := ⟨_, rfl⟩
        rw [hLL] at hz
        have LLG : RowKit.Hid (∀ ii (h : ii < LL.length) (h2 : F + ii < DS.size), LL[ii] = DS[F + ii]) := Lib.hid (by subst hLL; exact LLG0)
        rw [hLL] at sze
        clear LLG0 hLL
        have dsz := DSZ.out
        have hFs : F ≤ DS.size := by omega
        have l1 : LL.length ≤ 256 := by omega
        have l2 : F + LL.length ≤ DS.size := by omega
        have l3 : LL.length = 256 ∨ F + LL.length = DS.size := by omega
        have hsz48 : DS.size ≤ 9000 := by omega
        have hF48 : F ≤ 9000 := by omega
        clear sze hFs dsz
        have PG := Lib.hid pg
        have LZ := Lib.hid hz
        have X65 := Lib.hid x65
        have LA2 := Lib.hid h'
        have HX2 := Lib.hid hx2
        have MP := Lib.hid (o_rmap HO.out SR.out hw hrr (by omega : i + 1 < 32768) (b := 23) (by decide) (by decide) 0 _ m1 rfl)
        obtain ⟨x1, hx1e⟩ : ∃ x1, mapX fi x r ((i + 1 : Nat) : Int) ((23 : Nat) : Int) = x1 := ⟨_, rfl⟩
        rw [hx1e] at PG LZ X65 MP
        obtain ⟨P, hPe⟩ : ∃ P, i + 1 = P := ⟨_, rfl⟩
        rw [hPe] at PG LZ MP LA2 HX2
        have HP := Lib.hid hPe
        have cX := blk_cell (ldrA_x HO.out) 1 (v := .string tx) rfl
        have e1 : (P : Int) ≤ (T : Int) + (D : Int) := by omega
        have e2 : IntKind.i64.wrap ((P : Int) - 1) = (i : Int) := by rw [wrapI _ (by omega) (by omega)]; omega
        have e3 : IntKind.i64.wrap (256 * (i : Int)) = 256 * (i : Int) := wrapI _ (by omega) (by omega)
        have e4 : (T : Int) < (P : Int) := by omega
        have e5 : IntKind.i64.wrap ((i : Int) - (T : Int)) = (q : Int) := by rw [wrapI _ (by omega) (by omega)]; omega
        have e6 : IntKind.i64.wrap (256 * (q : Int)) = (F : Int) := by rw [wrapI _ (by omega) (by omega)]; omega
        have e7 : IntKind.i64.wrap ((T : Int) + (D : Int)) = (T : Int) + (D : Int) := wrapI _ (by omega) (by omega)
        rw [hPe]
        clear hx2 h' hz pg lz m1 m2 m3 hno hmiss x65 hx1e hll hml hnx hyy hYY HX HLA hw hrr
        clear hmz1 hmz2
        go_upto_region 20 with (go_at_call 35; refine MP.out.mono ?_; rintro e wm1 ⟨rfl, hm1⟩; have HM := Lib.hid hm1; clear hm1)
        clear MP HO cX e2 e3 e4 e5 e6
        go_wp2_with fail
        go_loopg [18] (LL.length + 1) (fun t v18 wr => ∃ ii : Nat, ii ≤ LL.length ∧ t = LL.length + 1 - ii ∧ v18 = .int .i64 ((F + ii : Nat) : Int) ∧ Own w0 wr (Star (rpA rp rb fi x1.L (putL x1.s (n * 256) (LL.take ii))) (ldrA hr0 xb en tx da (B : Int) R)))
        case atStart => exact ⟨0, Nat.zero_le _, rfl, rfl, by rw [List.take_zero, putL_nil]; exact HM.out⟩
        case round =>
          clear HM
          obtain ⟨ii, hii, rfl, rfl, hio⟩ := hrel
          have HI := Lib.hid hio
          clear hio
          by_cases hil : ii < LL.length
          · have tl : (LL.take ii).length = ii := by rw [List.length_take]; omega
            obtain ⟨p1, p2⟩ := PG.out (LL.take ii) (by omega)
            obtain ⟨q1w, q2w⟩ := p2 ii (by omega)
            obtain ⟨FI, hFI, hFIs, hch⟩ : ∃ FI, F + ii = FI ∧ ∃ h : FI < DS.size, LL[ii]'hil = DS[FI]'h := ⟨F + ii, rfl, by omega, LLG.out ii hil (by omega)⟩
            obtain ⟨VV, hVV⟩ : ∃ V : Int, ((P * 256 + ii : Nat) : Int) = V := ⟨_, rfl⟩
            rw [hVV] at q1w q2w
            have i1 : (FI : Int) < (F : Int) + 256 := by omega
            have v0 : IntKind.i64.wrap ((F : Int) + 256) = (F : Int) + 256 := wrapI _ (by omega) (by omega)
            have v1 : IntKind.i64.wrap (256 * (P : Int)) = 256 * (P : Int) := wrapI _ (by omega) (by omega)
            have v2 : IntKind.i64.wrap (256 * (P : Int) + (FI : Int)) = 256 * (P : Int) + (FI : Int) := wrapI _ (by omega) (by omega)
            have v3 : IntKind.i64.wrap (256 * (P : Int) + (FI : Int) - (F : Int)) = VV := by rw [wrapI _ (by omega) (by omega)]; omega
            have v4 : IntKind.u64.wrap VV = VV := wrapU _ (by omega) (by omega)
            have v5 : IntKind.i64.wrap ((FI : Int) + 1) = ((F + (ii + 1) : Nat) : Int) := by rw [wrapI _ (by omega) (by omega)]; omega
            have WK := Lib.hid (o_qwalk HI.out SR.out (r : Int) VV 1 _ _ ⟨by omega, by omega⟩ ⟨by omega, by omega⟩ q2w q1w)
            have c0 := o_qM (z := ⟨x1.L, putL x1.s (n * 256) (LL.take ii)⟩) HI.out
            obtain ⟨AT, hAT⟩ : ∃ a, n * 256 + ii = a := ⟨_, rfl⟩
            rw [hAT] at WK
            have pl : (putL x1.s (n * 256) (LL.take ii)).length = x1.s.length := putL_len _ _ _ p1
            have hLin := (PG.out LL l1).1
            have hat : AT < (putL x1.s (n * 256) (LL.take ii)).length := by rw [pl]; omega
            have hst := putL_step x1.s (n * 256) LL hLin ii hil
            rw [hAT, hch] at hst
            have HST := Lib.hid hst
            have HPL := Lib.hid pl
            have HAT := Lib.hid hat
            have HFI := Lib.hid hFI
            have b9 : (0 : Int) ≤ (FI : Int) := by omega
            have b10 : (FI : Int) < (DS.size : Int) := by omega
            have b11 : (FI : Int).toNat = FI := by omega
            have b6 : (AT : Int) < (x1.s.length : Int) := by omega
            have b5 : (0 : Int) ≤ (AT : Int) := by omega
            have b7 : (AT : Int).toNat = AT := by omega
            have b8 : (x1.s.length : Int) ≤ 65536 := by have := X65.out; omega
            rw [hFI]
            clear hst hch hVV p1 p2 q1w q2w tl hLin hFI hAT pl hat
            go_upto_region 24 with (go_at_call 36; refine WK.out.mono ?_; rintro e v2w ⟨rfl, hwk⟩; have H2 := Lib.hid hwk; clear hwk)
            clear c0 WK
            obtain ⟨vb, s0, s1, s2⟩ := o_qpoke H2.out SR.out
            have c0 := o_qM (z := ⟨x1.L, putL x1.s (n * 256) (LL.take ii)⟩) H2.out
            have cc := (s1 AT HAT.out).1
            have zz := (s1 AT HAT.out).2
            have HN := Lib.hid (s2 AT (DS[FI]'hFIs) HAT.out)
            rw [HST.out] at HN
            rw [HPL.out] at s0
            generalize (putL x1.s (n * 256) (LL.take ii))[AT]'(HAT.out) = oldb at *
            have SN := Lib.hid (stable_star (stable_rp rp rb fi x1.L (putL x1.s (n * 256) (LL.take (ii + 1)))) SR.out)
            clear s1 s2 H2 HI HST HPL HAT
            go_still_tail 12, (by kernel_rfl)
            go_wp2_with fail
            go_roundg (LL.length + 1 - (ii + 1))
            case measure => omega
            case rel => exact ⟨ii + 1, by omega, rfl, by go_num, by first | exact HN.out.drew SN.out | exact HN.out⟩
          · obtain rfl : ii = LL.length := by omega
            have HI2 : RowKit.Hid (Own w0 wr (Star (rpA rp rb fi (layZ fi r ((23 : Nat) : Int) ((P : Nat) : Int) YY x).L (layZ fi r ((23 : Nat) : Int) ((P : Nat) : Int) YY x).s) (ldrA hr0 xb en tx da (B : Int) R))) := Lib.hid (by rw [LZ.out]; have := HI.out; rw [List.take_length] at this; exact this)
            have v0 : IntKind.i64.wrap ((F : Int) + 256) = (F : Int) + 256 := wrapI _ (by omega) (by omega)
            have v9 : IntKind.i64.wrap ((P : Int) + 1) = ((P + 1 : Nat) : Int) := wrapI _ (by omega) (by omega)
            obtain ⟨K, hK⟩ : ∃ K, F + LL.length = K := ⟨_, rfl⟩
            have HKK := Lib.hid hK
            rw [hK]
            clear HI
            rcases (by omega : ¬ (K : Int) < (F : Int) + 256 ∨ ((K : Int) < (F : Int) + 256 ∧ ¬ (K : Int) < (DS.size : Int))) with g1 | ⟨g1, g2⟩
            all_goals
              clear hK
              go_wp2_with fail
              go_roundg (T + D + 1 - (i + 1))
              case measure => omega
              case rel => exact ⟨i + 1, layZ fi r ((23 : Nat) : Int) ((P : Nat) : Int) YY x, by omega, rfl, by rw [HP.out]; go_num, by rw [HP.out]; exact LA2.out, .inr ⟨by omega, by have e := HX2.out; rw [show F + 256 = 256 * (i + 1 - T) by omega, show ((P : Nat) : Int) + 1 = ((i + 1 + 1 : Nat) : Int) by have := HP.out; omega, show T + D - P = T + D - (i + 1) by have := HP.out; omega] at e; exact e⟩, HI2.out⟩
    · obtain ⟨hTi, hx⟩ : T ≤ i ∧ layX fi r 23 (T + D - i) ((i + 1 : Nat) : Int) (restB da (256 * (i - T))) x = (zs 2, 0) := by
        rcases hxx with ⟨a, _⟩ | a
        · exact absurd a (by omega)
        · exact a
      have hi2 : i = T + D := by omega
      subst hi2
      rw [Nat.sub_self] at hx
      have a5 : (x, (0 : Int)) = (zs 2, 0) := hx
      have a6 : x = zs 2 := (Prod.mk.inj a5).1
      subst a6
      clear hxx hx a5 HZ0 HZ1 hlt2
      have f1 : ¬ ((T + D + 1 : Nat) : Int) ≤ (T : Int) + (D : Int) := by omega
      have e7 : IntKind.i64.wrap ((T : Int) + (D : Int)) = (T : Int) + (D : Int) := wrapI _ (by omega) (by omega)
      obtain ⟨P9, hP9⟩ : ∃ P, T + D + 1 = P := ⟨_, rfl⟩
      rw [hP9] at f1
      rw [hP9]
      clear hP9 hla
      go_wp2_with fail
      go_loopg [21] 9 (fun t v21 wr => ∃ (qq : Nat) (x : Sp), qq ≤ 8 ∧ t = 9 - qq ∧ v21 = .int .i64 ((56 + qq : Nat) : Int) ∧ Laid fi r (n0 - 1) nn own0 (T + D) qq x ∧ layX fi r 23 (8 - qq) ((56 + qq : Nat) : Int) ⟨#[]⟩ x = (zs 3, 0) ∧ Own w0 wr (Star (rpA rp rb fi x.L x.s) (ldrA hr0 xb en tx da (B : Int) R)))
      case atStart => exact ⟨0, zs 2, by omega, rfl, rfl, HLA.out, HZ2.out, HO.out⟩
      case round =>
        clear HLA HO HZ2
        obtain ⟨qq, x, hqq, rfl, rfl, hla, hx, ho⟩ := hrel
        have HO := Lib.hid ho
        have HLA := Lib.hid hla
        have HX := Lib.hid hx
        clear ho hx
        by_cases hq8 : qq < 8
        · obtain ⟨own, p, j, hw, hrr, hno, hmiss⟩ := laid_page_high hla ⟨by omega, by omega⟩ hq8 (by omega)
          clear hla
          have hx2 := HX.out
          rw [show 8 - qq = (8 - (qq + 1)) + 1 by omega] at hx2
          have he1 : (⟨#[]⟩ : ByteArray).extract 0 (min (⟨#[]⟩ : ByteArray).size 256) = ⟨#[]⟩ := rfl
          have he2 : (⟨#[]⟩ : ByteArray).extract (min (⟨#[]⟩ : ByteArray).size 256) (⟨#[]⟩ : ByteArray).size = ⟨#[]⟩ := rfl
          obtain ⟨m1, m2, m3, h'⟩ := laid_high HLA.out ⟨by omega, by omega⟩ hq8 (b := 23) (by decide) (by decide) (by decide) (by decide) (by omega) ((⟨#[]⟩ : ByteArray).extract 0 (min (⟨#[]⟩ : ByteArray).size 256)) (by rw [he1]; decide)
          rw [layX, show (23 : Int) = ((23 : Nat) : Int) from rfl, m1, m2, m3, decide_eq_true rfl, cond_true, cond_true, cond_true, he1, he2] at hx2
          rw [he1] at h'
          obtain ⟨n, n256, x65, pg, lz⟩ := page_laid hw hrr (P := 56 + qq) (b := 23) (by omega) (by decide) (by decide) (by decide) (by decide) hno hmiss
          have hz := lz ⟨#[]⟩ 0 (by decide)
          have hz2 : layZ fi r ((23 : Nat) : Int) ((56 + qq : Nat) : Int) ⟨#[]⟩ x = mapX fi x r ((56 + qq : Nat) : Int) ((23 : Nat) : Int) := by rw [hz]; show (⟨_, putL _ _ []⟩ : Sp) = _; rw [putL_nil]
          rw [hz2] at hx2 h'
          have MP := Lib.hid (o_rmap HO.out SR.out hw hrr (by omega : 56 + qq < 32768) (b := 23) (by decide) (by decide) 0 _ m1 rfl)
          obtain ⟨x1, hx1e⟩ : ∃ x1, mapX fi x r ((56 + qq : Nat) : Int) ((23 : Nat) : Int) = x1 := ⟨_, rfl⟩
          rw [hx1e] at MP hx2 h'
          obtain ⟨P, hPe⟩ : ∃ P, 56 + qq = P := ⟨_, rfl⟩
          rw [hPe] at MP
          have HP := Lib.hid hPe
          have LA2 := Lib.hid h'
          have HX2 := Lib.hid hx2
          have e1 : (P : Int) < 64 := by omega
          have v9 : IntKind.i64.wrap ((P : Int) + 1) = ((P + 1 : Nat) : Int) := wrapI _ (by omega) (by omega)
          rw [hPe]
          clear hx2 h' hz hz2 pg lz m1 m2 m3 hno hmiss x65 hx1e HX HLA hw hrr hPe
          go_wp2_with (go_at_call 35; refine MP.out.mono ?_; rintro e wm1 ⟨rfl, hm1⟩; have HM := Lib.hid hm1; clear hm1)
          go_roundg (9 - (qq + 1))
          case measure => omega
          case rel => exact ⟨qq + 1, x1, by omega, rfl, by rw [show 56 + (qq + 1) = P + 1 by have := HP.out; omega]; go_num, LA2.out, by have e := HX2.out; rw [show ((56 + qq : Nat) : Int) + 1 = ((56 + (qq + 1) : Nat) : Int) by omega] at e; exact e, HM.out⟩
        · obtain rfl : qq = 8 := by omega
          have a7 : (x, (0 : Int)) = (zs 3, 0) := HX.out
          have a8 : x = zs 3 := (Prod.mk.inj a7).1
          subst a8
          clear hla HX a7 HLA
          have f2 : ¬ ((56 + 8 : Nat) : Int) < 64 := by decide
          have BX := Lib.hid (ldrA_x HO.out)
          have BR := Lib.hid (ldrA_h HO.out)
          have NE := Lib.hid (Nat.ne_of_gt (blk_lt BR.out))
          have c0 := blk_cell BX.out 0 (v := .int .i64 en) rfl
          have k1 : IntKind.i64.wrap (256 + en) = 256 + en := wrapI _ (by omega) (by omega)
          have k2 : IntKind.u64.wrap (256 + en) = 256 + en := wrapU _ (by omega) (by omega)
          have k3 : IntKind.i64.wrap (1 + (T : Int)) = 1 + (T : Int) := wrapI _ (by omega) (by omega)
          have k4 : IntKind.i64.wrap (256 * (1 + (T : Int))) = 256 * (1 + (T : Int)) := wrapI _ (by omega) (by omega)
          have dsz := DSZ.out
          have hEN := HEN.out
          have k5 : IntKind.i64.wrap (256 * (1 + (T : Int)) + (DS.size : Int)) = EN := by rw [wrapI _ (by omega) (by omega)]; omega
          have k6 : IntKind.u64.wrap EN = EN := wrapU _ (by omega) (by omega)
          have sB := Lib.hid (stable_star (SP.out (zs 3)) SR.out)
          clear dsz hEN
          go_upto_region 30 with (first
            | (refine bld1 rfl 29 1 _ rfl _ rfl _ (built_hp _) ?_)
            | (refine wpList_store_row rfl 29 _ _ rfl _ (hartC 0 (256 + en)) rfl rfl 29 _ (blk_new _ _) hart_info rfl (hart_all _ _) ?_))
          clear c0
          have HBb := Lib.hid (own_newRow (c := hartZ) (T := 29) HO.out sB.out (hartC 0 (256 + en)))
          unfold hartZ at HBb
          generalize (World.setRow _ _ _) = wbb at *
          generalize wr.heap.size = hb at *
          try simp only [Act.put]
          have c2 := blk_cell HBb.out.blk 2 (v := .int .u64 0) rfl
          have f2c := blk_frozen HBb.out.blk 2
          have HC0 := HBb.out.set sB.out 2 (.int .u64 16384)
          have HC : RowKit.Hid (Own w0 (wbb.setCell ⟨hb, 2, none⟩ (.int .u64 16384)) (Star (blkA hb (.cells (hartC 16384 (256 + en)) 29)) (Star (rpA rp rb fi (zs 3).L (zs 3).s) (ldrA hr0 xb en tx da (B : Int) R)))) := Lib.hid HC0
          clear HC0
          go_upto_region 31 with fail
          clear c2 f2c
          generalize (World.setCell _ _ _) = wc at *
          try simp only [Act.put]
          have KH := Lib.hid (HC.out.drew (stable_star (stable_blk _ _) (stable_star (SP.out (zs 3)) SR.out)))
          have KE := Lib.hid KH.out.blk
          have BR2 := Lib.hid (ldrA_h KH.out.right)
          refine wp_region_held_drew (S := fun w' => w'.heap[hb]? = some (.cells (hartC 16384 (256 + en)) 29)) (by kernel_rfl) (KE.out) (fun hH => ?_)
          try simp only [Act.put, List.setIfInBounds_toArray, List.set_cons_zero, List.set_cons_succ]
          refine wpAnyH_take (i := 0) (oi := { dst := some 133, op := Go.Op.move (Go.Operand.tmp 11), type := 3, pos := "ref.go:118", after := #[], guard := none }) (v := .int .i64 r) rfl (by kernel_rfl) (by kernel_rfl) (by kernel_rfl) (fun _ _ _ h => h) (Or.inl ⟨by rfl, fun w' hS' => by first | rfl | (go_simp; done) | (go_simp; rfl)⟩) KE.out ?_
          try simp only [Act.put, List.setIfInBounds_toArray, List.set_cons_zero, List.set_cons_succ]
          refine wpAnyH_take (i := 1) (oi := { dst := some 134, op := Go.Op.load 29 (Go.Operand.tmp 22), type := 29, pos := "ref.go:118", after := #[{ on := 9, ground := Go.Ground.gcOnly Go.Departure.lateStores }], guard := none }) (v := .agg (hartC 16384 (256 + en))) rfl (by kernel_rfl) (by kernel_rfl) (by kernel_rfl) (fun _ _ _ h => h) (Or.inl ⟨by rfl, fun w' hS' => ex_ht hS' rfl⟩) KE.out ?_
          try simp only [Act.put, List.setIfInBounds_toArray, List.set_cons_zero, List.set_cons_succ]
          refine wpAnyH_take (i := 2) (oi := { dst := some 135, op := Go.Op.move (Go.Operand.tmp 9), type := 3, pos := "ref.go:118", after := #[{ on := 10, ground := Go.Ground.gcOnly Go.Departure.lateStores }], guard := none }) (v := .int .i64 (T : Int)) rfl (by kernel_rfl) (by kernel_rfl) (by kernel_rfl) (fun _ _ _ h => h) (Or.inl ⟨by rfl, fun w' hS' => by first | rfl | (go_simp; done) | (go_simp; rfl)⟩) KE.out ?_
          try simp only [Act.put, List.setIfInBounds_toArray, List.set_cons_zero, List.set_cons_succ]
          refine wpAnyH_take (i := 3) (oi := { dst := some 136, op := Go.Op.binOp Go.BinOp.add 3 (Go.Operand.const (Go.Value.int Go.IntKind.i64 1)) (Go.Operand.tmp 135) 3, type := 3, pos := "ref.go:118", after := #[{ on := 2, ground := Go.Ground.data }, { on := 10, ground := Go.Ground.gcOnly Go.Departure.lateStores }], guard := none }) (v := .int .i64 (1 + (T : Int))) rfl (by kernel_rfl) (by kernel_rfl) (by kernel_rfl) (fun _ _ _ h => h) (Or.inl ⟨by rfl, fun w' hS' => by first | rfl | (go_simp; done) | (go_simp; rfl)⟩) KE.out ?_
          try simp only [Act.put, List.setIfInBounds_toArray, List.set_cons_zero, List.set_cons_succ]
          refine wpAnyH_take (i := 4) (oi := { dst := some 137, op := Go.Op.binOp Go.BinOp.mul 3 (Go.Operand.const (Go.Value.int Go.IntKind.i64 256)) (Go.Operand.tmp 136) 3, type := 3, pos := "ref.go:118", after := #[{ on := 3, ground := Go.Ground.data }, { on := 10, ground := Go.Ground.gcOnly Go.Departure.lateStores }], guard := none }) (v := .int .i64 (256 * (1 + (T : Int)))) rfl (by kernel_rfl) (by kernel_rfl) (by kernel_rfl) (fun _ _ _ h => h) (Or.inl ⟨by rfl, fun w' hS' => by first | rfl | (go_simp; done) | (go_simp; rfl)⟩) KE.out ?_
          try simp only [Act.put, List.setIfInBounds_toArray, List.set_cons_zero, List.set_cons_succ]
          refine wpAnyH_take (i := 5) (oi := { dst := some 138, op := Go.Op.move (Go.Operand.tmp 13), type := 9, pos := "ref.go:118", after := #[], guard := none }) (v := .string DS) rfl (by kernel_rfl) (by kernel_rfl) (by kernel_rfl) (fun _ _ _ h => h) (Or.inl ⟨by rfl, fun w' hS' => by first | rfl | (go_simp; done) | (go_simp; rfl)⟩) KE.out ?_
          try simp only [Act.put, List.setIfInBounds_toArray, List.set_cons_zero, List.set_cons_succ]
          refine wpAnyH_take (i := 6) (oi := { dst := some 139, op := Go.Op.call { callee := Go.Callee.builtin Go.Builtin.len, args := #[Go.Operand.tmp 138], argTypes := #[9] }, type := 3, pos := "ref.go:118", after := #[{ on := 5, ground := Go.Ground.data }], guard := none }) (v := .int .i64 (DS.size : Int)) rfl (by kernel_rfl) (by kernel_rfl) (by kernel_rfl) (fun _ _ _ h => h) (Or.inl ⟨by rfl, fun w' hS' => by first | rfl | (go_simp; done) | (go_simp; rfl)⟩) KE.out ?_
          try simp only [Act.put, List.setIfInBounds_toArray, List.set_cons_zero, List.set_cons_succ]
          refine wpAnyH_take (i := 7) (oi := { dst := some 140, op := Go.Op.binOp Go.BinOp.add 3 (Go.Operand.tmp 137) (Go.Operand.tmp 139) 3, type := 3, pos := "ref.go:118", after := #[{ on := 4, ground := Go.Ground.data }, { on := 6, ground := Go.Ground.data }, { on := 10, ground := Go.Ground.gcOnly Go.Departure.lateStores }], guard := none }) (v := .int .i64 EN) rfl (by kernel_rfl) (by kernel_rfl) (by kernel_rfl) (fun _ _ _ h => h) (Or.inl ⟨by rfl, fun w' hS' => by first | rfl | (go_simp; done) | (go_simp; rfl)⟩) KE.out ?_
          try simp only [Act.put, List.setIfInBounds_toArray, List.set_cons_zero, List.set_cons_succ]
          refine wpAnyH_take (i := 8) (oi := { dst := some 141, op := Go.Op.convert 3 26 (Go.Operand.tmp 140), type := 26, pos := "ref.go:118", after := #[{ on := 7, ground := Go.Ground.data }, { on := 10, ground := Go.Ground.gcOnly Go.Departure.lateStores }], guard := none }) (v := .int .u64 EN) rfl (by kernel_rfl) (by kernel_rfl) (by kernel_rfl) (fun _ _ _ h => h) (Or.inl ⟨by rfl, fun w' hS' => by first | rfl | (go_simp; done) | (go_simp; rfl)⟩) KE.out ?_
          try simp only [Act.put, List.setIfInBounds_toArray, List.set_cons_zero, List.set_cons_succ]
          refine wpAnyH_take (i := 9) (oi := { dst := some 4, op := Go.Op.assign (Go.Operand.tmp 133), type := 3, pos := "ref.go:118", after := #[{ on := 0, ground := Go.Ground.data }, { on := 0, ground := Go.Ground.phase }, { on := 1, ground := Go.Ground.textOnly Go.Departure.lateStores }, { on := 2, ground := Go.Ground.textOnly Go.Departure.lateStores }, { on := 3, ground := Go.Ground.textOnly Go.Departure.lateStores }, { on := 4, ground := Go.Ground.textOnly Go.Departure.lateStores }, { on := 5, ground := Go.Ground.textOnly Go.Departure.lateStores }, { on := 6, ground := Go.Ground.textOnly Go.Departure.lateStoresUnsure }, { on := 7, ground := Go.Ground.textOnly Go.Departure.lateStores }, { on := 8, ground := Go.Ground.textOnly Go.Departure.lateStores }], guard := none }) (v := .int .i64 r) rfl (by kernel_rfl) (by kernel_rfl) (by kernel_rfl) (fun _ _ _ h => h) (Or.inl ⟨by rfl, fun w' hS' => by first | rfl | (go_simp; done) | (go_simp; rfl)⟩) KE.out ?_
          try simp only [Act.put, List.setIfInBounds_toArray, List.set_cons_zero, List.set_cons_succ]
          refine wpAnyH_ready (rs := [10]) (by kernel_rfl) (by simp) ?_
          refine AllReadyH.cons (o := { dst := none, op := Go.Op.store 29 (Go.Operand.tmp 5) (Go.Operand.tmp 134), type := 0, pos := "ref.go:118", after := #[{ on := 1, ground := Go.Ground.data }, { on := 9, ground := Go.Ground.chain }, { on := 0, ground := Go.Ground.phase }, { on := 1, ground := Go.Ground.phase }, { on := 2, ground := Go.Ground.textOnly Go.Departure.lateStores }, { on := 3, ground := Go.Ground.textOnly Go.Departure.lateStores }, { on := 4, ground := Go.Ground.textOnly Go.Departure.lateStores }, { on := 5, ground := Go.Ground.textOnly Go.Departure.lateStores }, { on := 6, ground := Go.Ground.textOnly Go.Departure.lateStoresUnsure }, { on := 7, ground := Go.Ground.textOnly Go.Departure.lateStores }, { on := 8, ground := Go.Ground.textOnly Go.Departure.lateStores }, { on := 9, ground := Go.Ground.phase }], guard := none }) rfl (fun K' hK => ?_) AllReadyH.nil
          rw [if_pos (by rfl)]
          refine wp_store_row 29 _ _ rfl hr0 (hartC 16384 (256 + en)) rfl rfl 29 _ BR2.out hart_info rfl (hart_all _ _) ?_
          have KF := Lib.hid (show (World.setRow wc.drew hr0 (hartC 16384 (256 + en))).heap[hb]? = _ from (setRow_other _ _ _ _ NE.out).trans KE.out)
          refine hK.out _ _ KF.out (fun hH2 => ?_)
          clear hK K'
          try simp only [Act.put, List.setIfInBounds_toArray, List.set_cons_zero, List.set_cons_succ]
          refine wpAnyH_take (i := 11) (oi := { dst := some 6, op := Go.Op.assign (Go.Operand.tmp 141), type := 26, pos := "ref.go:118", after := #[{ on := 8, ground := Go.Ground.data }, { on := 10, ground := Go.Ground.chain }, { on := 0, ground := Go.Ground.phase }, { on := 1, ground := Go.Ground.phase }, { on := 2, ground := Go.Ground.phase }, { on := 3, ground := Go.Ground.phase }, { on := 4, ground := Go.Ground.phase }, { on := 5, ground := Go.Ground.phase }, { on := 6, ground := Go.Ground.phase }, { on := 7, ground := Go.Ground.phase }, { on := 8, ground := Go.Ground.phase }, { on := 9, ground := Go.Ground.phase }, { on := 10, ground := Go.Ground.phase }], guard := none }) (v := .int .u64 EN) rfl (by kernel_rfl) (by kernel_rfl) (by kernel_rfl) (fun _ _ _ h => h) (Or.inl ⟨by rfl, fun w' hS' => by first | rfl | (go_simp; done) | (go_simp; rfl)⟩) KF.out ?_
          try simp only [Act.put, List.setIfInBounds_toArray, List.set_cons_zero, List.set_cons_succ]
          refine wpAnyH_take (i := 12) (oi := { dst := some 7, op := Go.Op.assign (Go.Operand.const (Go.Value.int Go.IntKind.i64 0)), type := 3, pos := "ref.go:118", after := #[{ on := 11, ground := Go.Ground.chain }, { on := 0, ground := Go.Ground.phase }, { on := 1, ground := Go.Ground.phase }, { on := 2, ground := Go.Ground.phase }, { on := 3, ground := Go.Ground.phase }, { on := 4, ground := Go.Ground.phase }, { on := 5, ground := Go.Ground.phase }, { on := 6, ground := Go.Ground.phase }, { on := 7, ground := Go.Ground.phase }, { on := 8, ground := Go.Ground.phase }, { on := 9, ground := Go.Ground.phase }, { on := 10, ground := Go.Ground.phase }, { on := 11, ground := Go.Ground.phase }], guard := none }) (v := .int .i64 0) rfl (by kernel_rfl) (by kernel_rfl) (by kernel_rfl) (fun _ _ _ h => h) (Or.inl ⟨by rfl, fun w' hS' => by first | rfl | (go_simp; done) | (go_simp; rfl)⟩) KF.out ?_
          try simp only [Act.put, List.setIfInBounds_toArray, List.set_cons_zero, List.set_cons_succ]
          refine wpAnyH_done (by kernel_rfl) ?_ _
          go_wp2_with fail
          refine bodyPost_ret (res_load rfl _ _ _ hr0 _ rfl (ldHt (setRow_heap _ _ _ (hartC 16384 (256 + en)) _ _ BR2.out))) rfl ⟨rfl, ldrA_out KH.out.right (SP.out _) HR.out _⟩
end Go.Proofs.YtdlglnoffpnonaaGreat.P
