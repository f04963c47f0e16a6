/- Stage 8: a draft: its rows; newDraft, get, put. No condition. -/
import Derived.Test.YtlpcccpagmipnaaGreatV5
import Derived.Maps.OwnSet
set_option linter.unusedVariables false
set_option linter.unusedSimpArgs false
set_option maxRecDepth 100000
namespace Go.Proofs.YtlpcccpagmipnaaGreat.P
open Go.RowKit Go.ChangeMaps Go.MapKept
def zL : List UInt8 := List.replicate 64 0
theorem blk_zero (w : World) : (zeroValue 83).run Tryz.prog w = .ok (.agg (bcL zL)) w := Tryz.zeroValue83 w
theorem blk_zero2 (w : World) : (zeroValue 83).run Tryz.prog w = .ok (.agg (bcL z64.data.toList)) w := Tryz.zeroValue83 w
theorem run_newVar_agg (T : TypeId) (cs : Array Value) (w : World) : (newVar T (.agg cs)).run Tryz.prog w = .ok ⟨w.heap.size, 0, none⟩ (w.alloc (.cells cs T)) := by
  unfold newVar
  show (newRow T (Value.agg cs).cells).run Tryz.prog w = _
  rw [show (Value.agg cs).cells = cs from rfl]
  simp [go_sem]
theorem wpList_alloc_blk {ops : Array Oper} {rest : List Oper} {o : Oper} {a : Act} {w : World} {Q : Exit → Act → World → Prop} (hgd : o.guard = none) (T : TypeId) (cs : Array Value) (hop : o.op = .alloc T) (hz : (zeroValue T).run Tryz.prog w = .ok (.agg cs) w)
    (h : wpList Tryz.prog ops Q rest (a.put o.dst (.pointer (some ⟨w.heap.size, 0, none⟩))) (w.alloc (.cells cs T))) : wpList Tryz.prog ops Q (o :: rest) a w := by
  refine wpList_plain hgd fun K' hK' => ?_
  unfold Oper.wp
  have e : (execOp a.eval o).run Tryz.prog w = .ok (.value (.pointer (some ⟨w.heap.size, 0, none⟩))) (w.alloc (.cells cs T)) := by
    unfold execOp
    simp [hop, Instr.alloc, hz, Result.andThen, run_newVar_agg]
  rw [e]
  exact hK' _ _ h
theorem bcL_size (L : List UInt8) : (bcL L).size = L.length := by unfold bcL; rw [List.size_toArray, Lib.byteCells_length]
theorem bcL_all1 (L : List UInt8) : (bcL L).all (·.oneCell') = true := by
  unfold bcL
  rw [List.all_toArray, List.all_eq_true]
  exact bc_one L
theorem blk_info : (Tryz.prog.info? 83).map (·.size) = some 64 := by kernel_rfl
theorem bits_info : (Tryz.prog.info? 84).map (·.size) = some 64 := by kernel_rfl
/-! objects in their order: disk, log, draft, rows, others -/
theorem star_rot3' {A B C D : Asn} {w : World} {F : Nat → Prop} (h : Star A (Star B (Star C D)) w F) : Star B (Star C (Star A D)) w F := star_mono_r (fun F h => star_swap2 h) (star_swap2 h)
theorem star_rot3 {A B C D : Asn} {w : World} {F : Nat → Prop} (h : Star A (Star B (Star C D)) w F) : Star C (Star A (Star B D)) w F := star_swap2 (star_mono_r (fun F h => star_swap2 h) h)
theorem star_drop2 {A B C : Asn} {w : World} {F : Nat → Prop} (h : Star A (Star B C) w F) : Star A C w F := by
  obtain ⟨F1, F2, h1, ⟨G1, G2, k1, k2, kd, t1, t2⟩, hd, s1, s2⟩ := h
  exact ⟨F1, G2, h1, k2, fun x hx hy => hd x hx (t2 x hy), s1, fun x hx => s2 x (t2 x hx)⟩
section
variable {w0 w : World} {A B C D X Y R : Asn}
theorem Own.in4 (h : Own w0 w (Star X (Star A (Star B (Star C (Star D R)))))) : Own w0 w (Star A (Star B (Star C (Star D (Star X R))))) :=
  h.rot3'.mono fun F hF => star_mono_r (fun F h => star_mono_r (fun F h => star_rot3' h) h) hF
theorem Own.out4 (h : Own w0 w (Star A (Star B (Star C (Star D (Star X R)))))) : Own w0 w (Star X (Star A (Star B (Star C (Star D R))))) :=
  (h.mono fun F hF => star_mono_r (fun F h => star_mono_r (fun F h => star_rot3 h) h) hF : Own w0 w (Star A (Star B (Star X (Star C (Star D R)))))).rot3
theorem Own.swapR (h : Own w0 w (Star A (Star B (Star C (Star D (Star X (Star Y R))))))) : Own w0 w (Star A (Star B (Star C (Star D (Star Y (Star X R)))))) :=
  h.mono fun F hF => star_mono_r (fun F h => star_mono_r (fun F h => star_mono_r (fun F h => star_mono_r (fun F h => star_swap2 h) h) h) h) hF
theorem Own.unbox4 (h : Own w0 w (Star A (Star B (Star C (Star D (Star X R)))))) : Own w0 w (Star A (Star B (Star C (Star D R)))) := h.out4.right
theorem Own.box4 (h : Own w0 w (Star A (Star B (Star C (Star D R))))) (hs : Stable (Star A (Star B (Star C (Star D R))))) (o : Obj) : Own w0 (w.alloc o) (Star A (Star B (Star C (Star D (Star (blkA w.heap.size o) R))))) :=
  (h.alloc hs o).in4
end
theorem bcL_inj {L M : List UInt8} (h : bcL L = bcL M) : L = M := by
  unfold bcL Lib.byteCells at h
  have h2 := congrArg Array.toList h
  simp only [List.toList_toArray] at h2
  refine (List.map_inj_right (f := fun b : UInt8 => Value.int .u8 (b.toNat : Int)) ?_).1 h2
  intro x y e
  injection e with _ e
  exact UInt8.toNat_inj.1 (by omega)
open Classical in
noncomputable def blkElem (v : Value) : Option (DataW Nat × List MemPlace) := if h : ∃ s : ByteArray, s.size = 64 ∧ v = .agg (bcL s.data.toList) then some (E1 h.choose, []) else none
theorem blkElem_mk (s : ByteArray) (hs : s.size = 64) : blkElem (.agg (bcL s.data.toList)) = some (E1 s, []) := by
  unfold blkElem
  have h : ∃ t : ByteArray, t.size = 64 ∧ Value.agg (bcL s.data.toList) = .agg (bcL t.data.toList) := ⟨s, hs, rfl⟩
  rw [dif_pos h]
  have h2 := h.choose_spec.2
  injection h2 with h2
  have h3 := bcL_inj h2
  have : h.choose = s := by
    generalize h.choose = t at *
    cases t; cases s
    exact congrArg ByteArray.mk (Array.toList_inj.1 h3.symm)
  rw [this]
theorem blkElem_inv {v : Value} {z : DataW Nat × List MemPlace} (h : blkElem v = some z) : ∃ s : ByteArray, s.size = 64 ∧ v = .agg (bcL s.data.toList) ∧ z = (E1 s, []) := by
  unfold blkElem at h
  split at h
  · rename_i hh
    injection h with h
    exact ⟨hh.choose, hh.choose_spec.1, hh.choose_spec.2, h.symm⟩
  · cases h
/-- The rows of a draft. -/
def bmA (mb : Nat) (rows : List (Int × ByteArray)) : Asn := fun w F => F mb ∧ Rising rows ∧ (∀ x ∈ rows, x.2.size = 64) ∧ w.ownsMap Tryz.prog 3 blkElem mb rows.length (mapD rows)
theorem stable_bm (mb : Nat) (rows : List (Int × ByteArray)) : Stable (bmA mb rows) := by
  rintro w w' F G ⟨h1, h2, h3, h4⟩ hc hd
  obtain ⟨es, clock, hb, k⟩ := h4
  exact ⟨h1, h2, h3, es, clock, hc.blk hb (hd mb h1), k⟩
theorem blk_look {w : World} {mb n : Nat} {rows : List (Int × ByteArray)} (hown : w.ownsMap Tryz.prog 3 blkElem mb n (mapD rows)) (h64 : ∀ x ∈ rows, x.2.size = 64) {i : Int} (hw : (Lit.int .i64 i).wf = true) :
    (Instr.lookup 116 (.map (some mb)) (.int .i64 i) true).run Tryz.prog w = .ok (.tuple #[.agg (bcL ((lookS i rows).getD z64).data.toList), .bool (lookS i rows).isSome]) w := by
  obtain ⟨v, ps, hrun, hv⟩ := hown.look_ok key_int Tryz.underlying116 (blk_zero2 w) (blkElem_mk z64 z64_size) (Maps.keyOf_int_mk Tryz.underlying3 hw)
  obtain ⟨s, _, rfl, hz⟩ := blkElem_inv hv
  have e := congrArg Prod.fst hz
  dsimp only at e
  rw [mapD_at] at e
  rw [mapD_has] at hrun
  have es : s = (lookS i rows).getD z64 := by
    cases h : lookS i rows with
    | none => rw [h] at e; exact (E1_inj e).symm
    | some t => rw [h] at e; exact (E1_inj e).symm
  rw [es] at hrun
  exact hrun
theorem blk_look1 {w : World} {mb n : Nat} {rows : List (Int × ByteArray)} (hown : w.ownsMap Tryz.prog 3 blkElem mb n (mapD rows)) {i : Int} (hw : (Lit.int .i64 i).wf = true) :
    (Instr.lookup 116 (.map (some mb)) (.int .i64 i) false).run Tryz.prog w = .ok (.agg (bcL ((lookS i rows).getD z64).data.toList)) w := by
  obtain ⟨v, ps, hrun, hv⟩ := hown.lookup key_int Tryz.underlying116 (blk_zero2 w) (blkElem_mk z64 z64_size) (Maps.keyOf_int_mk Tryz.underlying3 hw)
  obtain ⟨s, _, rfl, hz⟩ := blkElem_inv hv
  have e := congrArg Prod.fst hz
  dsimp only at e
  rw [mapD_at] at e
  have es : s = (lookS i rows).getD z64 := by
    cases h : lookS i rows with
    | none => rw [h] at e; exact (E1_inj e).symm
    | some t => rw [h] at e; exact (E1_inj e).symm
  rw [es] at hrun
  exact hrun
theorem wpList_lookup_run {w : World} {ops : Array Oper} {rest : List Oper} {o : Oper} {a : Act} {Q : Exit → Act → World → Prop} (hg : o.guard = none) (t : TypeId) (m x : Operand) (b : Bool) (hop : o.op = Op.lookup t m x b) (mv xv v : Value) (hm : a.eval m = mv) (hx : a.eval x = xv)
    (hrun : (Instr.lookup t mv xv b).run Tryz.prog w = .ok v w) (hK : wpList Tryz.prog ops Q rest (a.put o.dst v) w) : wpList Tryz.prog ops Q (o :: rest) a w := by
  refine wpList_plain hg fun K' hK' => ?_
  unfold Oper.wp
  simp [execOp, hop, hm, hx, hrun, Result.andThen]
  exact hK' _ _ hK
abbrev drB (D l : Nat) (mv : Value) : Asn := blkA D (.cells #[.pointer (some ⟨l, 0, none⟩), mv, .int .i64 0] 118)
abbrev VX (d : Nat) (z : DState) (l ml : Nat) (st : List (Int × ByteArray)) (D mb : Nat) (rows : List (Int × ByteArray)) (R : Asn) : Asn := DL d z l ml st false (Star (drB D l (.map (some mb))) (Star (bmA mb rows) R))
theorem stable_vx {d : Nat} {z : DState} {l ml : Nat} {st : List (Int × ByteArray)} {D mb : Nat} {rows : List (Int × ByteArray)} {R : Asn} (hs : Stable R) : Stable (VX d z l ml st D mb rows R) := stable_dl _ _ _ _ _ _ (stable_star (stable_blk _ _) (stable_star (stable_bm _ _) hs))
/-- The disk of a volume: with power. -/
structure LI (z : DState) (n : Nat) : Prop where
  on : z.off = false
  len : z.safe.length = n + 32
  lo : 16 ≤ n
  hi : n ≤ 512
  sz : SZ z
  wt : z.wait.length ≤ 2000000000000
theorem get_ok {z : DState} {n : Nat} (h : LI z n) {st : List (Int × ByteArray)} (hst : okSt (n + 32) st) (i : Nat) (hi : i < n) : getR false z st (i : Int) = 0 ∧ (getB false z st (i : Int)).size = 64 := by
  have hr : refF false z.safe.length (i : Int) = 0 := by
    unfold refF
    rw [cond_false, h.len, decide_eq_true (by omega : (0 : Int) ≤ i), decide_eq_true (by omega : (i : Int) < ((n + 32 : Nat) : Int) - 32)]; rfl
  have hh : hasB z (32 + (i : Int)) = true := by
    unfold hasB; rw [h.len, decide_eq_true (by omega : (0 : Int) ≤ 32 + (i : Int)), decide_eq_true (by omega : (32 + (i : Int)) < ((n + 32 : Nat) : Int))]; rfl
  have h0 : readR z (32 + (i : Int)) = 0 := by unfold readR; rw [h.on, hh]; rfl
  unfold getR getB
  rw [hr, decide_eq_true rfl, cond_true, cond_true]
  cases hl : lookS (i : Int) st with
  | none => exact ⟨h0, read_size h.sz h0⟩
  | some s => exact ⟨rfl, (hst.2.2 _ (look_mem hl)).2.2⟩
def rowB (rows : List (Int × ByteArray)) (z : DState) (st : List (Int × ByteArray)) (i : Nat) : ByteArray := (lookS (i : Int) rows).getD (getB false z st (i : Int))
abbrev rowL (rows : List (Int × ByteArray)) (z : DState) (st : List (Int × ByteArray)) (i : Nat) : List UInt8 := (rowB rows z st i).data.toList
theorem bc_info (L : List UInt8) (h : L.length = 64) : (Tryz.prog.info? 83).map (·.size) = some (bcL L).size := by rw [bcL_size, h]; exact blk_info
theorem vx_map {w0 w : World} {d : Nat} {z : DState} {l ml : Nat} {st : List (Int × ByteArray)} {D mb : Nat} {rows : List (Int × ByteArray)} {R : Asn} (h : Own w0 w (VX d z l ml st D mb rows R)) : w.heap[D]? = some (.cells #[.pointer (some ⟨l, 0, none⟩), .map (some mb), .int .i64 0] 118) ∧ Rising rows ∧ (∀ x ∈ rows, x.2.size = 64) ∧ w.ownsMap Tryz.prog 3 blkElem mb rows.length (mapD rows) := by
  obtain ⟨F, k1, k2, k3, k4⟩ := h.right.right.right.left.get
  exact ⟨h.right.right.blk, k2, k3, k4⟩
set_option maxHeartbeats 3200000 in
theorem c_vget {w0 w : World} {D l mb d ml n : Nat} {rows st : List (Int × ByteArray)} {z : DState} {R : Asn} (h : Own w0 w (VX d z l ml st D mb rows R)) (hs : Stable R) (hz : LI z n) (hst : okSt (n + 32) st) (i : Nat) (hi : i < n) :
    Calls Tryz.prog 72 #[.pointer (some ⟨D, 0, none⟩), .int .i64 (i : Int)] w fun e w' => e = .returned (.agg (bcL (rowL rows z st i))) ∧ Own w0 w' (VX d z l ml st D mb rows R) := by
  have hhi := hz.hi
  have hwt := hz.wt
  obtain ⟨gr0, g64⟩ := get_ok hz hst i hi
  have h1 := h.box4 (stable_vx hs) (.cells (bcL zL) 83)
  have hs1 : Stable (Star (blkA w.heap.size (.cells (bcL zL) 83)) R) := stable_star (stable_blk _ _) hs
  obtain ⟨m1, m2, m3, m4⟩ := vx_map h1
  have c1 := blk_cell m1 1 (v := .map (some mb)) rfl
  have HL := Lib.hid (blk_look m4 m3 (i := (i : Int)) (wf_small (by omega) (by omega)))
  have h2 := h1.box4 (stable_vx hs1) (.cells (bcL zL) 83)
  have hs2 := stable_star (stable_blk (w.alloc (.cells (bcL zL) 83)).heap.size (.cells (bcL zL) 83)) hs1
  have HS1 := Lib.hid hs1
  have HS2 := Lib.hid hs2
  have HM3 := Lib.hid m3
  have HS0 := Lib.hid hs
  have H1 := Lib.hid h1
  have H2 := Lib.hid h2
  clear h h1 h2 m1 m2 m3 m4 hs1 hs2
  unfold rowL rowB
  cases hlk : lookS (i : Int) rows with
  | some s =>
    rw [hlk] at HL
    have s64 := HM3.out _ (look_mem hlk)
    have hl : s.data.toList.length = 64 := by rw [← s64]; exact (Go.Lib.size_eq s).symm
    have HC1 := Lib.hid (bc_info _ hl)
    have HC2 := Lib.hid (bcL_all1 s.data.toList)
    have HC3 : Hid ((bcL zL).size = (bcL s.data.toList).size) := Lib.hid (by rw [bcL_size, bcL_size, hl]; rfl)
    have H3 := Lib.hid ((H2.out.out4.setRow (stable_vx HS1.out) (bcL s.data.toList)).in4.swapR)
    have H4 := Lib.hid ((H3.out.out4.setRow (stable_vx (stable_star (stable_blk _ _) HS0.out)) (bcL s.data.toList)).in4)
    clear hlk s64 hl HM3 gr0 g64
    change RowKit.Hid ((Instr.lookup _ _ _ _).run _ _ = .ok (.tuple #[.agg (bcL s.data.toList), .bool true]) _) at HL
    show Calls _ _ _ _ (fun e w' => e = .returned (.agg (bcL s.data.toList)) ∧ _)
    generalize bcL s.data.toList = C at *
    go_enter Tryz.func72, Tryz.ntmps72
    go_upto_region 1 with (refine wpList_alloc_blk rfl 83 (bcL zL) rfl (blk_zero _) ?_)
    have HZ : Hid (∀ w, (zeroValue 83).run Tryz.prog w = .ok (.agg (bcL zL)) w) := Lib.hid blk_zero
    generalize bcL zL = Z0 at *
    generalize (World.alloc w _) = w1 at *
    generalize w.heap.size = g4 at *
    go_upto_region 2 with (first
      | (refine wpList_lookup_run rfl _ _ _ _ rfl _ _ _ rfl rfl HL.out ?_)
      | (refine wpList_alloc_blk rfl 83 Z0 rfl (HZ.out _) ?_)
      | (refine wpList_store_row rfl _ _ _ rfl w1.heap.size C rfl rfl _ _ H2.out.out4.blk HC1.out HC3.out HC2.out ?_))
    generalize w1.heap.size = g5 at *
    go_wp2_with (first
      | (refine wpList_load_row rfl _ _ rfl g5 rfl _ C (0, 0) _ H3.out.swapR.out4.blk Tryz.underlying83 rfl HC1.out ?_)
      | (refine wpList_store_row rfl _ _ _ rfl g4 C rfl rfl _ _ H3.out.out4.blk HC1.out HC3.out HC2.out ?_))
    refine bodyPost_ret (results_cell_row rfl _ _ g4 _ C (0, 0) _ rfl H4.out.out4.blk Tryz.underlying83 rfl HC1.out) rfl ?_
    exact ⟨rfl, H4.out.unbox4.unbox4⟩
  | none =>
    rw [hlk] at HL
    have hl : (getB false z st (i : Int)).data.toList.length = 64 := by rw [← g64]; exact (Go.Lib.size_eq _).symm
    have HC1 := Lib.hid (bc_info _ hl)
    have HC2 := Lib.hid (bcL_all1 (getB false z st (i : Int)).data.toList)
    have HC3 : Hid ((bcL zL).size = (bcL (getB false z st (i : Int)).data.toList).size) := Lib.hid (by rw [bcL_size, bcL_size, hl]; rfl)
    have HD1 := Lib.hid (bc_info zL (by rfl))
    have HD2 := Lib.hid (bcL_all1 zL)
    have H3 : Hid (Own w0 _ (VX d z l ml st D mb rows (Star (blkA w.heap.size (.cells (bcL zL) 83)) R))) := Lib.hid ((H2.out.out4.setRow (stable_vx HS1.out) (bcL zL)).right)
    have CG := Lib.hid (o_get H3.out (stable_star (stable_blk _ _) (stable_star (stable_bm _ _) HS1.out)) (i : Int) (by omega))
    rw [gr0] at CG
    have HCP : Hid (∀ (wx : World) (g : Nat), wx.heap[g]? = some (.cells (bcL zL) 83) → (Builtin.copy_ #[87, 9] 3 #[.slice (some ⟨g, 0, none⟩) 64 64, .string (getB false z st (i : Int))]).run Tryz.prog wx = .ok (goInt 64) (wx.setRow g (bcL (getB false z st (i : Int)).data.toList))) := Lib.hid (fun wx g hg => by
      have := run_copy_str wx 87 9 3 5 g 0 64 64 (getB false z st (i : Int)) zL 83 Tryz.underlying87 (by kernel_rfl) hg 64 (by rw [g64]; rfl) (by decide)
      rw [List.take_of_length_le (by rw [hl]; exact Nat.le_refl _)] at this
      have e : splice zL 0 (getB false z st (i : Int)).data.toList = (getB false z st (i : Int)).data.toList := by
        unfold splice
        rw [List.take_zero, List.nil_append, hl, List.drop_of_length_le (by decide), List.append_nil]
      rw [e] at this
      exact this)
    have HBX : Hid (∀ wx, Own w0 wx (VX d z l ml st D mb rows (Star (blkA w.heap.size (.cells (bcL zL) 83)) R)) → wx.heap[D]? = some (.cells #[.pointer (some ⟨l, 0, none⟩), .map (some mb), .int .i64 0] 118) ∧ Own w0 (wx.alloc (.cells (bcL zL) 83)) (VX d z l ml st D mb rows (Star (blkA wx.heap.size (.cells (bcL zL) 83)) (Star (blkA w.heap.size (.cells (bcL zL) 83)) R)))) := Lib.hid (fun wx hx => ⟨(vx_map hx).1, hx.box4 (stable_vx HS1.out) _⟩)
    have HFN : Hid (∀ (wx : World) g, Own w0 wx (VX d z l ml st D mb rows (Star (blkA g (.cells (bcL zL) 83)) (Star (blkA w.heap.size (.cells (bcL zL) 83)) R))) → Own w0 ((wx.setRow g (bcL (getB false z st (i : Int)).data.toList)).setRow w.heap.size (bcL (getB false z st (i : Int)).data.toList)) (VX d z l ml st D mb rows (Star (blkA w.heap.size (.cells (bcL (getB false z st (i : Int)).data.toList) 83)) (Star (blkA g (.cells (bcL (getB false z st (i : Int)).data.toList) 83)) R))) ∧ (wx.setRow g (bcL (getB false z st (i : Int)).data.toList)).heap[g]? = some (.cells (bcL (getB false z st (i : Int)).data.toList) 83) ∧ (wx.setRow g (bcL (getB false z st (i : Int)).data.toList)).heap[w.heap.size]? = some (.cells (bcL zL) 83)) := Lib.hid (fun wx g hx => by
      have k1 := (hx.out4.setRow (stable_vx HS1.out) (bcL (getB false z st (i : Int)).data.toList)).in4
      exact ⟨(k1.swapR.out4.setRow (stable_vx (stable_star (stable_blk _ _) HS0.out)) _).in4, k1.out4.blk, k1.swapR.out4.blk⟩)
    clear hl HM3 hlk gr0 g64
    change RowKit.Hid ((Instr.lookup _ _ _ _).run _ _ = .ok (.tuple #[.agg (bcL zL), .bool false]) _) at HL
    show Calls _ _ _ _ (fun e w' => e = .returned (.agg (bcL (getB false z st (i : Int)).data.toList)) ∧ _)
    generalize bcL (getB false z st (i : Int)).data.toList = C at *
    generalize getB false z st (i : Int) = s at *
    go_enter Tryz.func72, Tryz.ntmps72
    go_upto_region 1 with (refine wpList_alloc_blk rfl 83 (bcL zL) rfl (blk_zero _) ?_)
    have HZ : Hid (∀ w, (zeroValue 83).run Tryz.prog w = .ok (.agg (bcL zL)) w) := Lib.hid blk_zero
    generalize bcL zL = Z0 at *
    generalize (World.alloc w _) = w1 at *
    generalize w.heap.size = g4 at *
    go_upto_region 4 with (first
      | (refine wpList_lookup_run rfl _ _ _ _ rfl _ _ _ rfl rfl HL.out ?_)
      | (refine wpList_alloc_blk rfl 83 Z0 rfl (HZ.out _) ?_)
      | (refine wpList_store_row rfl _ _ _ rfl w1.heap.size Z0 rfl rfl _ _ H2.out.out4.blk HD1.out rfl HD2.out ?_))
    obtain ⟨b0, _⟩ := HBX.out _ H3.out
    have d0 := blk_cell b0 0 (v := .pointer (some ⟨l, 0, none⟩)) rfl
    clear b0 c1
    go_upto_region 7 with (go_at_call 106; refine CG.out.mono ?_; rintro e w5 ⟨rfl, h5⟩; have H5 := Lib.hid h5; clear h5)
    obtain ⟨_, h6⟩ := HBX.out _ H5.out
    have HCQ := Lib.hid (HCP.out _ _ h6.out4.blk)
    obtain ⟨h8, e9, e4⟩ := HFN.out _ _ h6
    have H8 := Lib.hid h8
    clear h6 h8 d0
    go_wp2_with (first
      | (refine wpList_alloc_blk rfl 83 Z0 rfl (HZ.out _) ?_)
      | (refine wpList_copy rfl _ _ 87 9 rfl _ _ rfl rfl HCQ.out ?_)
      | (refine wpList_load_row rfl _ _ rfl w5.heap.size rfl _ C (0, 0) _ e9 Tryz.underlying83 rfl HC1.out ?_)
      | (refine wpList_store_row rfl _ _ _ rfl g4 C rfl rfl _ _ e4 HC1.out HC3.out HC2.out ?_))
    refine bodyPost_ret (results_cell_row rfl _ _ g4 _ C (0, 0) _ rfl H8.out.out4.blk Tryz.underlying83 rfl HC1.out) rfl ?_
    exact ⟨rfl, H8.out.unbox4.unbox4⟩
end Go.Proofs.YtlpcccpagmipnaaGreat.P
namespace Go.Proofs.YtlpcccpagmipnaaGreat.P
open Go.RowKit Go.ChangeMaps Go.MapKept
theorem map_reset8 {P : Program} {k : TypeId} {w : World} {b n : Nat} {E : Value → Option (DataW Nat × List MemPlace)} {st : List (Int × ByteArray)} (h : w.ownsMap P k E b n (mapD st)) : w.ownsMap P k E b st.length (mapD st) := by
  obtain ⟨es, clock, hb, F, hs, hD⟩ := h
  refine ⟨es, clock, hb, F, ?_, hD⟩
  have := congrArg Maps.size hD
  have e : Maps.size (DataW.map ((es.toList.map (WideElems.rg P k E)).foldr DataW.insert [])) = es.size := by
    rw [Maps.size_eq, length_sorted, List.length_map, Array.length_toList]
  rw [e, mapD_size] at this
  omega
theorem still_run {ops : Array Oper} {w : World} {Q : Act → Prop} {a : Act} {o : Oper} {rest : List Oper} (hg : o.guard = none) (v : Value)
    (hrun : (execOp a.eval o).run Tryz.prog w = .ok (.value v) w) (h : wpStill Tryz.prog ops w Q rest (a.put o.dst v)) : wpStill Tryz.prog ops w Q (o :: rest) a := by
  refine wpStill_step (fun K hK => ?_)
  rw [if_pos (by simp [Region.wanted, hg])]
  unfold Oper.still
  rw [hrun]
  exact ⟨rfl, hK _ h⟩
/-- A whole array or struct is loaded out of its block. -/
theorem ex_row {w : World} {a : Addr} {v : Value} {ty : TypeId} {e : Operand → Value} {d : Option Tmp} {x : Operand} {ty2 : TypeId} {p : String} {af : Array Edge} {gd : Option (Nat × Bool)} (hrun : (loadVar ty a).run Tryz.prog w = .ok v w) (hx : e x = .pointer (some a)) : (execOp e ⟨d, .load ty x, ty2, p, af, gd⟩).run Tryz.prog w = .ok (.value v) w := by
  unfold execOp
  simp only [hx, Instr.loadAt, Instr.sureAddr, Sem.run_bind, Sem.run_pure, Result.andThen_ok, hrun]
theorem ld_blk {w : World} {g : Nat} {C : Array Value} {t : TypeId} (h : w.heap[g]? = some (.cells C t)) (hi : (Tryz.prog.info? 83).map (·.size) = some C.size) : (loadVar 83 ⟨g, 0, none⟩).run Tryz.prog w = .ok (.agg C) w := run_loadVar_row w g t 83 C (0, 0) _ h Tryz.underlying83 rfl hi
section
variable {w0 w : World} {d : Nat} {z : DState} {l ml : Nat} {st : List (Int × ByteArray)} {D mb : Nat} {rows : List (Int × ByteArray)} {R : Asn}
theorem own_bm {w1 : World} {rows' : List (Int × ByteArray)} (h : Own w0 w (VX d z l ml st D mb rows R)) (hs : Stable R) (hc : Ch (fun x => x = mb) w w1) (hr : Rising rows') (h64 : ∀ x ∈ rows', x.2.size = 64) (n : Nat) (ho : w1.ownsMap Tryz.prog 3 blkElem mb n (mapD rows')) : Own w0 w1 (VX d z l ml st D mb rows' R) := by
  have h1 : Own w0 w (Star (bmA mb rows) (Star (dsk d z) (Star (lgA l d ml st false) (Star (drB D l (.map (some mb))) R)))) := (h.mono fun F hF => star_mono_r (fun F h => star_rot3 h) hF : Own w0 w (Star (dsk d z) (Star (bmA mb rows) (Star (lgA l d ml st false) (Star (drB D l (.map (some mb))) R))))).swap2
  have h2 : Own w0 w1 (Star (bmA mb rows') (Star (dsk d z) (Star (lgA l d ml st false) (Star (drB D l (.map (some mb))) R)))) := h1.step (stable_star (stable_dsk _ _) (stable_star (stable_lg _ _ _ _ _) (stable_star (stable_blk _ _) hs))) (fun F hF => by
    obtain ⟨k1, k2, k3, k4⟩ := hF
    refine ⟨fun x => x = mb, ⟨rfl, hr, h64, map_reset8 ho⟩, fun x hx => ⟨.inl (by rw [hx]; exact k1), ?_⟩, hc.mono fun x hx => by rw [hx]; exact k1⟩
    rw [hx]
    exact Nat.lt_of_lt_of_le k4.lt hc.size)
  exact (h2.swap2.mono fun F hF => star_mono_r (fun F h => star_rot3' h) hF)
theorem ch_turned8 {w w' : World} {n b : Nat} {E : Value → Option (DataW Nat × List MemPlace)} {D : DataW Nat} (h : w.ownsMap Tryz.prog 3 E b n D) (ht : w.mapTurned w' b) : Ch (fun x => x = b) w w' := by
  refine (Ch.of_grown ht.grown).mono fun x hx => ?_
  injection hx with hx; exact hx.symm
set_option maxHeartbeats 1600000 in
theorem c_vput (h : Own w0 w (VX d z l ml st D mb rows R)) (hs : Stable R) (hn : rows.length ≤ 100000) (i : Nat) (hi : i < 100000) (s : ByteArray) (h64 : s.size = 64) :
    Calls Tryz.prog 80 #[.pointer (some ⟨D, 0, none⟩), .int .i64 (i : Int), .agg (bcL s.data.toList)] w fun e w' => e = .returned (.tuple #[]) ∧ Own w0 w' (VX d z l ml st D mb (putS (i : Int) s rows) R) := by
  have hl : s.data.toList.length = 64 := by rw [← h64]; exact (Go.Lib.size_eq _).symm
  have h1 := (h.box4 (stable_vx hs) (.cells (bcL s.data.toList) 83)).gr (stable_vx (stable_star (stable_blk _ _) hs)) (Gr.drewN (Gr.refl _) 1)
  obtain ⟨m1, m2, m3, m4⟩ := vx_map h1
  have c1 := blk_cell m1 1 (v := .map (some mb)) rfl
  have HM := Lib.hid m4
  have HB := Lib.hid h1.out4.blk
  have hw := wf_small (i := (i : Int)) (by omega) (by omega)
  have HI := Lib.hid (bc_info _ hl)
  have HE : Hid (∀ w1, w1.ownsMap Tryz.prog 3 blkElem mb (rows.length + 1) ((mapD rows).put (.int .i64 (i : Int)) (E1 s)) → ((w.alloc (.cells (bcL s.data.toList) 83)).drewN 1).mapTurned w1 mb → Own w0 w1 (VX d z l ml st D mb (putS (i : Int) s rows) R)) := Lib.hid (fun w1 ho ht => by
    rw [mapD_put _ _ _ m2] at ho
    exact (own_bm h1 (stable_star (stable_blk _ _) hs) (ch_turned8 HM.out ht) (rising_put _ _ _ m2) (fun x hx => by
      rcases mem_putS hx with e | e
      · rw [e]; exact h64
      · exact m3 x e) _ ho).unbox4)
  have HV := Lib.hid (blkElem_mk s h64)
  clear h hs h1 m1 m2 m3 m4 hl h64
  generalize bcL s.data.toList = C at *
  go_enter Tryz.func80, Tryz.ntmps80
  go_upto_region 1 with fail
  have hLD := ld_blk HB.out HI.out
  generalize w.heap.size = g at *
  generalize World.alloc w _ = wA at *
  have c1a : wA.cell? ⟨D, 1, none⟩ = some (.map (some mb)) := c1
  go_still_tail 6, (by kernel_rfl)
  refine still_run rfl _ (ex_row hLD rfl) ?_
  repeat still_step
  refine wpStill_nil ?_
  go_wp2_with (refine wpList_mapUpdate_in _ rfl _ _ _ 116 rfl 3 83 key_int Tryz.underlying116 blkElem mb _ (mapD rows) rfl HM.out (by unfold maxLen; omega) _ _ _ rfl rfl (Maps.keyOf_int_mk Tryz.underlying3 hw) (E1 s) [] HV.out ?_; intro w1 ho1 ht1; have H9 := Lib.hid (HE.out _ ho1 ht1); clear ho1 ht1)
  refine bodyPost_end (results_none rfl _ _ _) rfl ?_
  exact ⟨rfl, H9.out⟩
end
end Go.Proofs.YtlpcccpagmipnaaGreat.P
namespace Go.Proofs.YtlpcccpagmipnaaGreat.P
open Go.RowKit Go.ChangeMaps Go.MapKept
theorem mk_map8 (w : World) : (Instr.makeMap 116 none).run Tryz.prog w = .ok (.map (some w.heap.size)) (w.alloc (.map #[] 0)) := run_makeMap _ _
section
variable {w0 w : World} {d : Nat} {z : DState} {l ml : Nat} {st : List (Int × ByteArray)} {D mb n : Nat} {rows : List (Int × ByteArray)} {R : Asn}
def NewDP (w0 : World) (d : Nat) (z : DState) (l ml : Nat) (st : List (Int × ByteArray)) (R : Asn) (e : Ending) (w' : World) : Prop := ∃ D mb, e = .returned (.pointer (some ⟨D, 0, none⟩)) ∧ Own w0 w' (VX d z l ml st D mb [] R)
theorem own_newdraft (h : Own w0 w (DL d z l ml st false R)) (hs : Stable R) : Own w0 ((w.alloc (.map #[] 0)).alloc (.cells #[.pointer (some ⟨l, 0, none⟩), .map (some w.heap.size), .int .i64 0] 118)) (VX d z l ml st (w.heap.size + 1) w.heap.size [] R) := by
  have hsz : (w.alloc (.map #[] 0)).heap.size = w.heap.size + 1 := by simp
  have h1 : Own w0 (w.alloc (.map #[] 0)) (Star (bmA w.heap.size []) (DL d z l ml st false R)) := h.add (stable_dl _ _ _ _ _ _ hs) ((Gr.refl _).alloc (Nat.le_refl _) _) ⟨fun x => x = w.heap.size, ⟨rfl, trivial, fun x hx => (by cases hx), World.ownsMap_made w Tryz.prog 3 blkElem⟩, fun x hx => by rw [hx]; simp⟩
  have h2 := h1.alloc (stable_star (stable_bm _ _) (stable_dl _ _ _ _ _ _ hs)) (.cells #[.pointer (some ⟨l, 0, none⟩), .map (some w.heap.size), .int .i64 0] 118)
  rw [hsz] at h2
  exact (h2.mono fun F hF => star_mono_r (fun F h => star_rot3' h) hF : Own w0 _ (Star (drB (w.heap.size + 1) l (.map (some w.heap.size))) (Star (dsk d z) (Star (lgA l d ml st false) (Star (bmA w.heap.size []) R))))).rot3'
theorem c_newDraft (h : Own w0 w (DL d z l ml st false R)) (hs : Stable R) :
    Calls Tryz.prog 57 #[.pointer (some ⟨l, 0, none⟩)] w (NewDP w0 d z l ml st R) := by
  have HN := Lib.hid (own_newdraft h hs)
  have hmk := mk_map8 w
  clear h hs
  go_enter Tryz.func57, Tryz.ntmps57
  go_wp2_with fail
  go_ret
  exact ⟨_, _, rfl, HN.out⟩
theorem bits_zero (w : World) : (zeroValue 84).run Tryz.prog w = .ok (.agg (bcL zL)) w := Tryz.zeroValue84 w
theorem rowL_len {i : Nat} (h : Own w0 w (VX d z l ml st D mb rows R)) (hz : LI z n) (hst : okSt (n + 32) st) (hi : i < n) : (rowL rows z st i).length = 64 ∧ (rowB rows z st i).size = 64 := by
  have h64 : (rowB rows z st i).size = 64 := by
    unfold rowB
    cases hl : lookS (i : Int) rows with
    | none => exact (get_ok hz hst i hi).2
    | some s => exact (vx_map h).2.2.1 _ (look_mem hl)
  exact ⟨by rw [← h64]; exact (Go.Lib.size_eq _).symm, h64⟩
set_option maxHeartbeats 1600000 in
theorem c_used (h : Own w0 w (VX d z l ml st D mb rows R)) (hs : Stable R) (hz : LI z n) (hst : okSt (n + 32) st) :
    Calls Tryz.prog 60 #[.pointer (some ⟨D, 0, none⟩)] w fun e w' => e = .returned (.agg (bcL (rowL rows z st 0))) ∧ Own w0 w' (VX d z l ml st D mb rows R) := by
  have hl := (rowL_len h hz hst (i := 0) (by have := hz.lo; omega)).1
  have h1 := h.box4 (stable_vx hs) (.cells (bcL zL) 84)
  have hs1 : Stable (Star (blkA w.heap.size (.cells (bcL zL) 84)) R) := stable_star (stable_blk _ _) hs
  have CG := Lib.hid (c_vget h1 hs1 hz hst 0 (by have := hz.lo; omega))
  have HFN : Hid (∀ wx, Own w0 wx (VX d z l ml st D mb rows (Star (blkA w.heap.size (.cells (bcL zL) 84)) R)) → wx.heap[w.heap.size]? = some (.cells (bcL zL) 84) ∧ Own w0 (wx.setRow w.heap.size (bcL (rowL rows z st 0))) (VX d z l ml st D mb rows (Star (blkA w.heap.size (.cells (bcL (rowL rows z st 0)) 84)) R))) := Lib.hid (fun wx hx => ⟨hx.out4.blk, (hx.out4.setRow (stable_vx hs) _).in4⟩)
  have HC1 : Hid ((Tryz.prog.info? 84).map (·.size) = some (bcL (rowL rows z st 0)).size) := Lib.hid (by rw [bcL_size, hl]; exact bits_info)
  have HC2 := Lib.hid (bcL_all1 (rowL rows z st 0))
  have HC3 : Hid ((bcL zL).size = (bcL (rowL rows z st 0)).size) := Lib.hid (by rw [bcL_size, bcL_size, hl]; rfl)
  clear h h1 hs hs1 hl
  generalize bcL (rowL rows z st 0) = C at *
  go_enter Tryz.func60, Tryz.ntmps60
  go_upto_region 1 with (refine wpList_alloc_blk rfl 84 (bcL zL) rfl (bits_zero _) ?_)
  generalize bcL zL = Z0 at *
  generalize World.alloc w _ = w1 at *
  generalize w.heap.size = g at *
  go_wp2_with (first
    | (go_at_call 72; refine CG.out.mono ?_; rintro e w2 ⟨rfl, h2⟩; have H2 := Lib.hid h2; have H3 := Lib.hid (HFN.out _ h2).2; clear h2)
    | (refine wpList_store_row rfl _ _ _ rfl g C rfl rfl _ _ (HFN.out _ H2.out).1 HC1.out HC3.out HC2.out ?_))
  refine bodyPost_ret (results_cell_row rfl _ _ g _ C (0, 0) _ rfl H3.out.out4.blk Tryz.underlying84 rfl HC1.out) rfl ?_
  exact ⟨rfl, H3.out.unbox4⟩
end
end Go.Proofs.YtlpcccpagmipnaaGreat.P
namespace Go.Proofs.YtlpcccpagmipnaaGreat.P
open Go.RowKit Go.ChangeMaps Go.MapKept
def i0 : Ino := ⟨0, 0, 0, List.replicate 6 0⟩
theorem ino_zero (w : World) : (zeroValue 132).run Tryz.prog w = .ok (.agg (inoL i0).toArray) w := Tryz.zeroValue132 w
theorem ino_infoX (x : Ino) (h : x.pl.length = 6) : (Tryz.prog.info? 132).map (·.size) = some (inoL x).toArray.size := by rw [ino_size x h]; exact ino_info
theorem ld_ino {w : World} {g : Nat} {C : Array Value} {t : TypeId} (h : w.heap[g]? = some (.cells C t)) (hi : (Tryz.prog.info? 132).map (·.size) = some C.size) : (loadVar 132 ⟨g, 0, none⟩).run Tryz.prog w = .ok (.agg C) w := run_loadVar_row w g t 132 C (0, 0) _ h Tryz.underlying132 rfl hi
section
variable {w0 w : World} {d : Nat} {z : DState} {l ml : Nat} {st : List (Int × ByteArray)} {D mb n : Nat} {rows : List (Int × ByteArray)} {R : Asn}
abbrev bk (B : Nat) (L : List UInt8) : Asn := blkA B (.cells (bcL L) 83)
abbrev ik (B : Nat) (x : Ino) : Asn := blkA B (.cells (inoL x).toArray 132)
/-- The inode k, as it is with what is put. -/
def inoV (rows : List (Int × ByteArray)) (z : DState) (st : List (Int × ByteArray)) (k : Nat) : Ino := toF (rowL rows z st (1 + k / 4)) (k % 4 * 16)
theorem inoV_len (rows : List (Int × ByteArray)) (z : DState) (st : List (Int × ByteArray)) (k : Nat) : (inoV rows z st k).pl.length = 6 := toPl_len _ _ _
set_option maxHeartbeats 3200000 in
theorem c_vinode (h : Own w0 w (VX d z l ml st D mb rows R)) (hs : Stable R) (hz : LI z n) (hst : okSt (n + 32) st) (k : Nat) (hk : k < 32) :
    Calls Tryz.prog 75 #[.pointer (some ⟨D, 0, none⟩), .int .i64 (k : Int)] w fun e w' => e = .returned (.agg (inoL (inoV rows z st k)).toArray) ∧ Own w0 w' (VX d z l ml st D mb rows R) := by
  have hlo := hz.lo
  have hi : 1 + k / 4 < n := by omega
  have hl := (rowL_len h hz hst hi).1
  have h1 := h.box4 (stable_vx hs) (.cells (inoL i0).toArray 132)
  have hs1 : Stable (Star (ik w.heap.size i0) R) := stable_star (stable_blk _ _) hs
  have CW := Lib.hid (c_where k hk (w.alloc (.cells (inoL i0).toArray 132)))
  have CG := Lib.hid (c_vget h1 hs1 hz hst (1 + k / 4) hi)
  have HB : Hid (∀ wx, Own w0 wx (VX d z l ml st D mb rows (Star (ik w.heap.size i0) R)) → Own w0 (wx.alloc (.cells (bcL zL) 83)) (VX d z l ml st D mb rows (Star (bk wx.heap.size zL) (Star (ik w.heap.size i0) R))) ∧ Own w0 ((wx.alloc (.cells (bcL zL) 83)).setRow wx.heap.size (bcL (rowL rows z st (1 + k / 4)))) (VX d z l ml st D mb rows (Star (bk wx.heap.size (rowL rows z st (1 + k / 4))) (Star (ik w.heap.size i0) R)))) := Lib.hid (fun wx hx => ⟨hx.box4 (stable_vx hs1) _, ((hx.box4 (stable_vx hs1) _).out4.setRow (stable_vx hs1) _).in4⟩)
  have HT : Hid (∀ wx g, Own w0 wx (VX d z l ml st D mb rows (Star (bk g (rowL rows z st (1 + k / 4))) (Star (ik w.heap.size i0) R))) → Calls Tryz.prog 108 #[.slice (some ⟨g, k % 4 * 16, none⟩) 16 (64 - k % 4 * 16)] wx fun e w' => e = .returned (.agg (inoL (inoV rows z st k)).toArray) ∧ Own w0 w' (VX d z l ml st D mb rows (Star (ik w.heap.size i0) R))) := Lib.hid (fun wx g hx => (c_toInode hx.out4 (stable_vx hs1) hl (k % 4 * 16) (64 - k % 4 * 16) (by omega) (by omega) (by omega)).mono (by
    rintro e w' ⟨rfl, k2⟩
    exact ⟨rfl, k2.right⟩))
  have HFN : Hid (∀ wx, Own w0 wx (VX d z l ml st D mb rows (Star (ik w.heap.size i0) R)) → wx.heap[w.heap.size]? = some (.cells (inoL i0).toArray 132) ∧ Own w0 (wx.setRow w.heap.size (inoL (inoV rows z st k)).toArray) (VX d z l ml st D mb rows (Star (ik w.heap.size (inoV rows z st k)) R))) := Lib.hid (fun wx hx => ⟨hx.out4.blk, (hx.out4.setRow (stable_vx hs) _).in4⟩)
  have HC1 := Lib.hid (bc_info _ hl)
  have HC2 := Lib.hid (bcL_all1 (rowL rows z st (1 + k / 4)))
  have HC3 : Hid ((bcL zL).size = (bcL (rowL rows z st (1 + k / 4))).size) := Lib.hid (by rw [bcL_size, bcL_size, hl]; rfl)
  have HD1 := Lib.hid (ino_infoX _ (inoV_len rows z st k))
  have HD2 := Lib.hid (ino_one (inoV rows z st k))
  have HD3 : Hid ((inoL i0).toArray.size = (inoL (inoV rows z st k)).toArray.size) := Lib.hid (by rw [ino_size _ (inoV_len rows z st k)]; rfl)
  clear h h1 hs hs1 hl hlo
  have hq : k % 4 * 16 + 16 ≤ 64 := by omega
  have hq2 : k % 4 * 16 ≤ 64 := by omega
  have hq4 : ¬ 64 = k % 4 * 16 := by omega
  generalize rowL rows z st (1 + k / 4) = L at *
  generalize inoV rows z st k = X at *
  generalize k % 4 * 16 = q at *
  generalize 1 + k / 4 = p at *
  have hq5 : (q : Int) + 16 ≤ 64 := by omega
  have hq6 : (q : Int) ≤ (q : Int) + 16 := by omega
  go_enter Tryz.func75, Tryz.ntmps75
  go_upto_region 1 with (refine wpList_alloc_blk rfl 132 (inoL i0).toArray rfl (ino_zero _) ?_)
  generalize World.alloc w _ = w1 at *
  generalize w.heap.size = g at *
  go_upto_region 3 with (first
    | (go_at_call 107; refine CW.out.mono ?_; rintro e w' ⟨rfl, hw'⟩; rw [hw']; clear hw' w')
    | (go_at_call 72; refine CG.out.mono ?_; rintro e w2 ⟨rfl, h2⟩; have H2 := Lib.hid h2; clear h2)
    | (refine wpList_alloc_blk rfl 83 (bcL zL) rfl (blk_zero _) ?_)
    | (refine wpList_store_row rfl _ _ _ rfl w2.heap.size (bcL L) rfl rfl _ _ (HB.out _ H2.out).1.out4.blk HC1.out HC3.out HC2.out ?_))
  have H3 := Lib.hid (HB.out _ H2.out).2
  clear CW CG
  generalize (World.setRow _ _ _) = w3 at *
  generalize w2.heap.size = g3 at *
  go_wp2_with (first
    | (go_at_call 108; refine (HT.out _ _ H3.out).mono ?_; rintro e w4 ⟨rfl, h4⟩; have H4 := Lib.hid h4; have H5 := Lib.hid (HFN.out _ h4).2; clear h4)
    | (refine wpList_store_row rfl _ _ _ rfl g (inoL X).toArray rfl rfl _ _ (HFN.out _ H4.out).1 HD1.out HD3.out HD2.out ?_))
  refine bodyPost_ret (results_cell_row rfl _ _ g _ (inoL X).toArray (0, 0) _ rfl H5.out.out4.blk Tryz.underlying132 rfl HD1.out) rfl ?_
  exact ⟨rfl, H5.out.unbox4⟩
end
end Go.Proofs.YtlpcccpagmipnaaGreat.P
namespace Go.Proofs.YtlpcccpagmipnaaGreat.P
open Go.RowKit Go.ChangeMaps Go.MapKept
section
variable {w0 w : World} {d : Nat} {z : DState} {l ml : Nat} {st : List (Int × ByteArray)} {D mb n : Nat} {rows : List (Int × ByteArray)} {R : Asn}
/-- An inode put. -/
def putR (rows : List (Int × ByteArray)) (z : DState) (st : List (Int × ByteArray)) (k : Nat) (x : Ino) : List (Int × ByteArray) := putS ((1 + k / 4 : Nat) : Int) ⟨(frI (rowL rows z st (1 + k / 4)) (k % 4 * 16) x).toArray⟩ rows
set_option maxHeartbeats 3200000 in
theorem c_vputInode (h : Own w0 w (VX d z l ml st D mb rows R)) (hs : Stable R) (hz : LI z n) (hst : okSt (n + 32) st) (hn : rows.length ≤ 100000) (k : Nat) (hk : k < 32) (x : Ino) (hx : okI x) :
    Calls Tryz.prog 76 #[.pointer (some ⟨D, 0, none⟩), .int .i64 (k : Int), .agg (inoL x).toArray] w fun e w' => e = .returned (.tuple #[]) ∧ Own w0 w' (VX d z l ml st D mb (putR rows z st k x) R) := by
  have hlo := hz.lo
  have hi : 1 + k / 4 < n := by omega
  have hl := (rowL_len h hz hst hi).1
  have h1 := h.box4 (stable_vx hs) (.cells (inoL x).toArray 132)
  have hs1 : Stable (Star (ik w.heap.size x) R) := stable_star (stable_blk _ _) hs
  have CW := Lib.hid (c_where k hk (w.alloc (.cells (inoL x).toArray 132)))
  have CG := Lib.hid (c_vget h1 hs1 hz hst (1 + k / 4) hi)
  have HB : Hid (∀ wx, Own w0 wx (VX d z l ml st D mb rows (Star (ik w.heap.size x) R)) → Own w0 (wx.alloc (.cells (bcL zL) 83)) (VX d z l ml st D mb rows (Star (bk wx.heap.size zL) (Star (ik w.heap.size x) R))) ∧ Own w0 ((wx.alloc (.cells (bcL zL) 83)).setRow wx.heap.size (bcL (rowL rows z st (1 + k / 4)))) (VX d z l ml st D mb rows (Star (bk wx.heap.size (rowL rows z st (1 + k / 4))) (Star (ik w.heap.size x) R)))) := Lib.hid (fun wx hx => ⟨hx.box4 (stable_vx hs1) _, ((hx.box4 (stable_vx hs1) _).out4.setRow (stable_vx hs1) _).in4⟩)
  have hfl : (frI (rowL rows z st (1 + k / 4)) (k % 4 * 16) x).length = 64 := by unfold frI; rw [frK_len _ _ _ (by omega) 6 (Nat.le_refl _), hl]
  have HT : Hid (∀ wx g, Own w0 wx (VX d z l ml st D mb rows (Star (bk g (rowL rows z st (1 + k / 4))) (Star (ik w.heap.size x) R))) → (World.drew wx).heap[w.heap.size]? = some (.cells (inoL x).toArray 132) ∧ Calls Tryz.prog 109 #[.agg (inoL x).toArray, .slice (some ⟨g, k % 4 * 16, none⟩) 16 (64 - k % 4 * 16)] (World.drew wx) fun e w' => e = .returned (.tuple #[]) ∧ Own w0 w' (VX d z l ml st D mb rows (Star (bk g (frI (rowL rows z st (1 + k / 4)) (k % 4 * 16) x)) (Star (ik w.heap.size x) R)))) := Lib.hid (fun wx g hx0 => by
    have hx1 := hx0.drew (stable_vx (stable_star (stable_blk _ _) hs1))
    refine ⟨hx1.swapR.out4.blk, (c_fromInode hx1.out4 (stable_vx hs1) hl (k % 4 * 16) (64 - k % 4 * 16) (by omega) (by omega) (by omega) x hx).mono ?_⟩
    rintro e w' ⟨rfl, k2⟩
    exact ⟨rfl, k2.in4⟩)
  have HP : Hid (∀ wx g, Own w0 wx (VX d z l ml st D mb rows (Star (bk g (frI (rowL rows z st (1 + k / 4)) (k % 4 * 16) x)) (Star (ik w.heap.size x) R))) → wx.heap[g]? = some (.cells (bcL (frI (rowL rows z st (1 + k / 4)) (k % 4 * 16) x)) 83) ∧ Calls Tryz.prog 80 #[.pointer (some ⟨D, 0, none⟩), .int .i64 ((1 + k / 4 : Nat) : Int), .agg (bcL (frI (rowL rows z st (1 + k / 4)) (k % 4 * 16) x))] wx fun e w' => e = .returned (.tuple #[]) ∧ Own w0 w' (VX d z l ml st D mb (putR rows z st k x) R)) := Lib.hid (fun wx g hx0 => by
    refine ⟨hx0.out4.blk, (c_vput hx0.unbox4.unbox4 hs hn (1 + k / 4) (by have := hz.hi; omega) ⟨(frI (rowL rows z st (1 + k / 4)) (k % 4 * 16) x).toArray⟩ ?_)⟩
    show (List.toArray _).size = 64
    rw [List.size_toArray, hfl])
  have HC1 := Lib.hid (bc_info _ hl)
  have HC2 := Lib.hid (bcL_all1 (rowL rows z st (1 + k / 4)))
  have HC3 : Hid ((bcL zL).size = (bcL (rowL rows z st (1 + k / 4))).size) := Lib.hid (by rw [bcL_size, bcL_size, hl]; rfl)
  have HD1 := Lib.hid (ino_infoX x hx.2.2.2.1)
  have HE1 := Lib.hid (bc_info _ hfl)
  clear h h1 hs hs1 hl hlo hx hfl hz hst
  have hq : k % 4 * 16 + 16 ≤ 64 := by omega
  have hq2 : k % 4 * 16 ≤ 64 := by omega
  have hq4 : ¬ 64 = k % 4 * 16 := by omega
  generalize putR rows z st k x = RW at *
  generalize rowL rows z st (1 + k / 4) = L at *
  generalize k % 4 * 16 = q at *
  generalize 1 + k / 4 = p at *
  have hq5 : (q : Int) + 16 ≤ 64 := by omega
  have hq6 : (q : Int) ≤ (q : Int) + 16 := by omega
  generalize frI L q x = L2 at *
  go_enter Tryz.func76, Tryz.ntmps76
  go_upto_region 1 with fail
  generalize World.alloc w _ = w1 at *
  generalize w.heap.size = g at *
  go_upto_region 3 with (first
    | (go_at_call 107; refine CW.out.mono ?_; rintro e w' ⟨rfl, hw'⟩; rw [hw']; clear hw' w')
    | (go_at_call 72; refine CG.out.mono ?_; rintro e w2 ⟨rfl, h2⟩; have H2 := Lib.hid h2; clear h2)
    | (refine wpList_alloc_blk rfl 83 (bcL zL) rfl (blk_zero _) ?_)
    | (refine wpList_store_row rfl _ _ _ rfl w2.heap.size (bcL L) rfl rfl _ _ (HB.out _ H2.out).1.out4.blk HC1.out HC3.out HC2.out ?_))
  have H3 := Lib.hid (HB.out _ H2.out).2
  clear CW CG
  generalize (World.setRow _ _ _) = w3 at *
  generalize w2.heap.size = g3 at *
  obtain ⟨e3, c3⟩ := HT.out _ _ H3.out
  have C3 := Lib.hid c3
  have hLD := ld_ino e3 HD1.out
  clear c3 e3
  have q1 : IntKind.i64.wrap ((q : Int) + 16) = (q : Int) + 16 := IntWalk.i64_in _ (by omega)
  have q2 : ((q : Int) + 16).toNat - q = 16 := by omega
  go_still_tail 5, (by kernel_rfl)
  refine still_run rfl _ (ex_row hLD rfl) ?_
  repeat still_step
  refine wpStill_nil ?_
  clear hLD q1
  clear q2
  go_upto_region 4 with (go_at_call 109; refine C3.out.mono ?_; rintro e w4 ⟨rfl, h4⟩; have H4 := Lib.hid h4; clear h4)
  obtain ⟨e4, c4⟩ := HP.out _ _ H4.out
  have C4 := Lib.hid c4
  clear c4
  go_wp2_with (first
    | (refine wpList_load_row rfl _ _ rfl g3 rfl _ (bcL L2) (0, 0) _ e4 Tryz.underlying83 rfl HE1.out ?_)
    | (go_at_call 80; refine C4.out.mono ?_; rintro e w5 ⟨rfl, h5⟩; have H5 := Lib.hid h5; clear h5))
  refine bodyPost_end (results_none rfl _ _ _) rfl ?_
  exact ⟨rfl, H5.out⟩
end
end Go.Proofs.YtlpcccpagmipnaaGreat.P
namespace Go.Proofs.YtlpcccpagmipnaaGreat.P
open Go.RowKit Go.ChangeMaps Go.MapKept
theorem wpList_build1 {P : Program} {ops : Array Oper} {rest : List Oper} {o : Oper} {a : Act} {w : World} {Q : Exit → Act → World → Prop} (hgd : o.guard = none) (t : TypeId) (k : Nat) (x : Operand) (ho : o.op = .build t #[(k, x)]) (v : Value) (hx : a.eval x = v)
    (cells : Array Value) (hb : P.built t [(k, v)] = some cells) (h : wpList P ops Q rest (a.put o.dst (.agg cells)) w) : wpList P ops Q (o :: rest) a w := by
  have hb2 : P.built t ((#[(k, x)] : Array (Nat × Operand)).map fun (i, x) => (i, a.eval x)).toList = some cells := by
    simpa [hx] using hb
  refine wpList_plain hgd fun K' hK' => ?_
  unfold Oper.wp execOp
  simp only [ho, Sem.run_bind, run_build w t _ cells hb2, Result.andThen_ok, Sem.run_pure]
  exact hK' _ _ h
structure Fil where
  ino : Ino
  all : List Nat
def filL (f : Fil) : List Value := inoL f.ino ++ nums f.all
abbrev fk (B : Nat) (f : Fil) : Asn := blkA B (.cells (filL f).toArray 137)
theorem inoL_len {x : Ino} (h : x.pl.length = 6) : (inoL x).length = 9 := by
  unfold inoL nums; rw [List.length_append, List.length_map, h]; rfl
theorem nums_len (l : List Nat) : (nums l).length = l.length := by unfold nums; rw [List.length_map]
theorem nums_app (a b : List Nat) : nums (a ++ b) = nums a ++ nums b := by unfold nums; rw [List.map_append]
theorem fil_len {f : Fil} (h : f.ino.pl.length = 6) (h2 : f.all.length = 37) : (filL f).length = 46 := by
  unfold filL; rw [List.length_append, inoL_len h, nums_len, h2]
theorem fil_one (f : Fil) : (filL f).toArray.all (·.oneCell') = true := by
  rw [List.all_toArray, List.all_eq_true]
  intro v hv
  unfold filL at hv
  rcases List.mem_append.1 hv with e | e
  · have := ino_one f.ino
    rw [List.all_toArray, List.all_eq_true] at this
    exact this v e
  · obtain ⟨y, _, rfl⟩ := List.mem_map.1 e
    rfl
theorem fil_info : (Tryz.prog.info? 137).map (·.size) = some 46 := by kernel_rfl
theorem fil_infoX {f : Fil} (h : f.ino.pl.length = 6) (h2 : f.all.length = 37) : (Tryz.prog.info? 137).map (·.size) = some (filL f).toArray.size := by rw [List.size_toArray, fil_len h h2]; exact fil_info
theorem six {l : List Nat} (h : l.length = 6) : ∃ a b c d e f, l = [a, b, c, d, e, f] := by
  match l, h with
  | [a, b, c, d, e, f], _ => exact ⟨a, b, c, d, e, f, rfl⟩
theorem built_file (x : Ino) (h : x.pl.length = 6) : Tryz.prog.built 137 [(0, .agg (inoL x).toArray)] = some (filL ⟨x, List.replicate 37 0⟩).toArray := by
  obtain ⟨kd, lk, sz, pl⟩ := x
  obtain ⟨a, b, c, d, e, f, rfl⟩ := six h
  kernel_rfl
def f0 : Fil := ⟨i0, List.replicate 37 0⟩
theorem fil_zero (w : World) : (zeroValue 137).run Tryz.prog w = .ok (.agg (filL f0).toArray) w := Tryz.zeroValue137 w
/-- A sector put in. -/
theorem fil_set (x : Ino) (hx : x.pl.length = 6) (l : List Nat) (j v : Nat) (hj : j < l.length) : (filL ⟨x, l⟩).toArray.setIfInBounds (9 + j) (.int .i64 (v : Int)) = (filL ⟨x, l.set j v⟩).toArray := by
  rw [List.setIfInBounds_toArray]
  congr 1
  unfold filL
  rw [List.set_append_right _ _ (by rw [inoL_len hx]; omega), inoL_len hx, show 9 + j - 9 = j by omega]
  congr 1
  unfold nums
  rw [List.map_set]
def numK (L : List UInt8) (k : Nat) : List Nat := (List.range k).map fun j => b2 L (2 * j)
theorem numK_len (L : List UInt8) (k : Nat) : (numK L k).length = k := by unfold numK; rw [List.length_map, List.length_range]
theorem numK_succ (L : List UInt8) (k : Nat) : numK L (k + 1) = numK L k ++ [b2 L (2 * k)] := by unfold numK; rw [List.range_succ, List.map_append]; rfl
def allK (x : Ino) (L : List UInt8) (k : Nat) : List Nat := x.pl.take 5 ++ (numK L k ++ List.replicate (32 - k) 0)
theorem allK_len (x : Ino) (hx : x.pl.length = 6) (L : List UInt8) (k : Nat) (hk : k ≤ 32) : (allK x L k).length = 37 := by
  unfold allK
  rw [List.length_append, List.length_append, List.length_take, numK_len, List.length_replicate, hx]; omega
theorem allK_set (x : Ino) (hx : x.pl.length = 6) (L : List UInt8) (k : Nat) (hk : k < 32) : (allK x L k).set (5 + k) (b2 L (2 * k)) = allK x L (k + 1) := by
  unfold allK
  have h5 : (x.pl.take 5).length = 5 := by rw [List.length_take, hx]; rfl
  rw [List.set_append_right _ _ (by rw [h5]; omega), h5, show 5 + k - 5 = k by omega, List.set_append_right _ _ (by rw [numK_len]; exact Nat.le_refl _), numK_len, Nat.sub_self, numK_succ, List.append_assoc]
  congr 2
  rw [show 32 - k = (32 - (k + 1)) + 1 by omega, List.replicate_succ]; rfl
theorem fil_copy (x : Ino) (hx : x.pl.length = 6) : ((filL ⟨x, List.replicate 37 0⟩).toArray.toList.take 9 ++ nums (x.pl.take 5) ++ (filL ⟨x, List.replicate 37 0⟩).toArray.toList.drop (9 + (nums (x.pl.take 5)).length)).toArray = (filL ⟨x, x.pl.take 5 ++ List.replicate 32 0⟩).toArray := by
  congr 1
  have h5 : (x.pl.take 5).length = 5 := by rw [List.length_take, hx]; rfl
  rw [nums_len, h5]
  show (filL _).take 9 ++ _ ++ (filL _).drop 14 = _
  unfold filL
  rw [List.take_append_of_le_length (by rw [inoL_len hx]; exact Nat.le_refl _), List.take_of_length_le (by rw [inoL_len hx]; exact Nat.le_refl _), List.drop_append, List.drop_of_length_le (by rw [inoL_len hx]; omega), inoL_len hx, nums_app, List.append_assoc, List.nil_append]
  rfl
def fileV (rows : List (Int × ByteArray)) (z : DState) (st : List (Int × ByteArray)) (x : Ino) : Fil := ⟨x, bif decide (x.pl.getD 5 0 = 0) then x.pl.take 5 ++ List.replicate 32 0 else allK x (rowL rows z st (x.pl.getD 5 0)) 32⟩
section
variable {w0 w : World} {d : Nat} {z : DState} {l ml : Nat} {st : List (Int × ByteArray)} {D mb n : Nat} {rows : List (Int × ByteArray)} {R : Asn}
end
end Go.Proofs.YtlpcccpagmipnaaGreat.P
