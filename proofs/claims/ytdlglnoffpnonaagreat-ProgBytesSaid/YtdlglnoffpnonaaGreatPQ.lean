/- Stage 12: Load. No condition. -/
import Derived.Test.YtdlglnoffpnonaaGreatPK
import Derived.Test.YtdlglnoffpnonaaGreatPM
import Derived.Laws.Rows
import Derived.Laws.Tables
import Derived.Laws.CopyOwn
import Derived.Deep.LoopGhost
set_option linter.unusedVariables false
set_option linter.unusedSimpArgs false
set_option maxRecDepth 100000
namespace Go.Proofs.YtdlglnoffpnonaaGreat.P
open Go.RowKit Go.MuLone Go.Maps
variable {w0 w : World} {pb b first : Nat} {z : Sp} {R : Asn}
def hartC (a pc : Int) : Array Value := #[.int .u64 0, .int .u64 0, .int .u64 a, .int .u64 0, .int .u64 0, .int .u64 0, .int .u64 0, .int .u64 0, .int .u64 0, .int .u64 0, .int .u64 0, .int .u64 0, .int .u64 0, .int .u64 0, .int .u64 0, .int .u64 0, .int .u64 0, .int .u64 0, .int .u64 0, .int .u64 0, .int .u64 0, .int .u64 0, .int .u64 0, .int .u64 0, .int .u64 0, .int .u64 0, .int .u64 0, .int .u64 0, .int .u64 0, .int .u64 0, .int .u64 0, .int .u64 0, .int .u64 pc, .bool false, .int .u64 0]
theorem built_hz : Tryz.prog.built 29 [] = some (hartC 0 0) := by kernel_rfl
theorem built_hp (v : Int) : Tryz.prog.built 29 [(1, .int .u64 v)] = some (hartC 0 v) := by kernel_rfl
theorem hart_info : (Tryz.prog.info? 29).map (·.size) = some 35 := by kernel_rfl
theorem hart_all (a v : Int) : (hartC a v).all (·.oneCell') = true := by simp [hartC, Value.oneCell']
theorem ldHt {w : World} {g : Nat} {a v : Int} (hg : w.heap[g]? = some (.cells (hartC a v) 29)) : (loadVar 29 ⟨g, 0, none⟩).run Tryz.prog w = .ok (.agg (hartC a v)) w :=
  run_loadVar_row w g 29 29 _ (0, 0) _ hg Tryz.underlying29 rfl (show (Tryz.prog.info? 29).map (·.size) = some 35 by kernel_rfl)
theorem ex_ht {w : World} {hb : Nat} {a v : Int} {e : Operand → Value} {d : Option Tmp} {x : Operand} {ty : TypeId} {p : String} {af : Array Edge} {gd : Option (Nat × Bool)} (h : w.heap[hb]? = some (.cells (hartC a v) 29)) (hx : e x = .pointer (some ⟨hb, 0, none⟩)) : (execOp e ⟨d, .load 29 x, ty, p, af, gd⟩).run Tryz.prog w = .ok (.value (.agg (hartC a v))) w := by
  unfold execOp
  simp only [hx, Instr.loadAt, Instr.sureAddr, Sem.run_bind, Sem.run_pure, Result.andThen_ok, ldHt h]
theorem bld1 {P : Program} {ops : Array Oper} {rest : List Oper} {o : Oper} {a : Act} {w : World} {Q : Exit → Act → World → Prop} (hg : o.guard = none) (t : TypeId) (k : Nat) (x : Operand) (ho : o.op = .build t #[(k, x)]) (v : Value) (hx : a.eval x = v)
    (cells : Array Value) (hb : P.built t [(k, v)] = some cells) (h : wpList P ops Q rest (a.put o.dst (.agg cells)) w) : wpList P ops Q (o :: rest) a w := by
  have hb2 : P.built t ((#[(k, x)] : Array (Nat × Operand)).map fun (i, x) => (i, a.eval x)).toList = some cells := by
    simp only [List.map_toArray, List.map_cons, List.map_nil, hx]
    exact hb
  exact wpList_plain hg fun _ hK => by
    refine wp_build t _ ho (by rw [hb2]; rfl) ?_
    rw [hb2]
    exact hK _ _ h
theorem bld0 {P : Program} {ops : Array Oper} {rest : List Oper} {o : Oper} {a : Act} {w : World} {Q : Exit → Act → World → Prop} (hg : o.guard = none) (t : TypeId) (ho : o.op = .build t #[])
    (cells : Array Value) (hb : P.built t [] = some cells) (h : wpList P ops Q rest (a.put o.dst (.agg cells)) w) : wpList P ops Q (o :: rest) a w := by
  have hb2 : P.built t ((#[] : Array (Nat × Operand)).map fun (i, x) => (i, a.eval x)).toList = some cells := by simpa using hb
  exact wpList_plain hg fun _ hK => by
    refine wp_build t _ ho (by rw [hb2]; rfl) ?_
    rw [hb2]
    exact hK _ _ h
theorem res_load {fn : Func} {u1 p u2 u3 : Tmp} {ty : TypeId} (h : fn.results = #[.tmp u1, .cell p ty, .tmp u2, .tmp u3]) (tmps : Array Value) (P : Program) (w : World) (g : Nat) (v0 : Value)
    (hp : tmps.getD p undef = .pointer (some ⟨g, 0, none⟩)) (hl : (loadVar ty ⟨g, 0, none⟩).run P w = .ok v0 w) :
    (results fn tmps).run P w = .ok (.tuple #[tmps.getD u1 undef, v0, tmps.getD u2 undef, tmps.getD u3 undef]) w := by
  have hp' : tmps[p]?.getD undef = .pointer (some ⟨g, 0, none⟩) := by simpa using hp
  simp [results, h, hp', asAddr, hl]
set_option maxHeartbeats 3200000 in
theorem n_load12 (x : Pg) (w : World) :
    Calls Tryz.prog 7 #[.pointer none, pgV x] w fun e w' => e = .returned (.tuple #[.int .i64 0, .agg (hartC 0 0), .int .u64 0, .int .i64 1]) ∧ Gr w w' := by
  obtain ⟨en, tx, da, bs⟩ := x
  show Calls Tryz.prog 7 #[.pointer none, .agg #[.int .i64 en, .string tx, .string da, .int .i64 bs]] w _
  go_enter Tryz.func7, Tryz.ntmps7
  go_upto_region 1 with fail
  have BH : RowKit.Hid (((w.alloc (.cells #[.int .i64 en, .string tx, .string da, .int .i64 bs] 23)).alloc (.cells (hartC 0 0) 29)).heap[w.heap.size + 1]? = some (.cells (hartC 0 0) 29)) := Lib.hid (by have := blk_new (w.alloc (.cells #[.int .i64 en, .string tx, .string da, .int .i64 bs] 23)) (.cells (hartC 0 0) 29); rw [World.size_alloc] at this; exact this)
  have GG : RowKit.Hid (Gr w ((w.alloc (.cells #[.int .i64 en, .string tx, .string da, .int .i64 bs] 23)).alloc (.cells (hartC 0 0) 29))) := Lib.hid (((Gr.refl w).alloc (Nat.le_refl _) _).alloc (Nat.le_trans (Nat.le_succ _) (Nat.le_of_eq (World.size_alloc _ _).symm)) _)
  obtain ⟨w2, hw2⟩ : ∃ w2, ((w.alloc (.cells #[.int .i64 en, .string tx, .string da, .int .i64 bs] 23)).alloc (.cells (hartC 0 0) 29)) = w2 := ⟨_, rfl⟩
  rw [hw2] at BH GG
  unfold hartC at hw2
  rw [hw2]
  clear hw2
  obtain ⟨rb, hrb⟩ : ∃ n, w.heap.size + 1 = n := ⟨_, rfl⟩
  have NO := Lib.hid (show w.heap.size ≤ rb by omega)
  rw [hrb] at BH
  rw [hrb]
  clear hrb
  go_wp2_with (first
    | (refine bld0 rfl 29 rfl _ built_hz ?_)
    | (refine wpList_store_row rfl 29 _ _ rfl _ (hartC 0 0) rfl rfl 29 _ BH.out hart_info rfl (hart_all _ _) ?_))
  refine bodyPost_ret (res_load rfl _ _ _ rb _ rfl (ldHt (setRow_heap _ _ _ (hartC 0 0) _ _ BH.out))) rfl ⟨rfl, below_setRow GG.out NO.out _⟩
end Go.Proofs.YtdlglnoffpnonaaGreat.P
namespace Go.Proofs.YtdlglnoffpnonaaGreat.P
open Go.RowKit Go.MuLone Go.Maps
variable {w0 w : World} {pb b first : Nat} {z : Sp} {R : Asn}
def ldrA (rb xb : Nat) (en : Int) (tx da : ByteArray) (bs : Int) (R : Asn) : Asn := Star (blkA rb (.cells (hartC 0 0) 29)) (Star (blkA xb (.cells #[.int .i64 en, .string tx, .string da, .int .i64 bs] 23)) R)
theorem stable_ldrA (rb xb : Nat) (en : Int) (tx da : ByteArray) (bs : Int) {R : Asn} (hR : Stable R) : Stable (ldrA rb xb en tx da bs R) := stable_star (stable_blk _ _) (stable_star (stable_blk _ _) hR)
theorem ldrA_x {A : Asn} {rb xb : Nat} {en : Int} {tx da : ByteArray} {bs : Int} (h : Own w0 w (Star A (ldrA rb xb en tx da bs R))) : w.heap[xb]? = some (.cells #[.int .i64 en, .string tx, .string da, .int .i64 bs] 23) := by
  unfold ldrA at h; exact h.rot3.blk
theorem ldrA_h {A : Asn} {rb xb : Nat} {en : Int} {tx da : ByteArray} {bs : Int} (h : Own w0 w (Star A (ldrA rb xb en tx da bs R))) : w.heap[rb]? = some (.cells (hartC 0 0) 29) := by
  unfold ldrA at h; exact h.swap2.blk
theorem ldrA_out {A : Asn} {rb xb : Nat} {en : Int} {tx da : ByteArray} {bs : Int} (h : Own w0 w (Star A (ldrA rb xb en tx da bs R))) (hA : Stable A) (hR : Stable R) (cs : Array Value) : Own w0 (w.setRow rb cs) (Star A R) := by
  unfold ldrA at h
  have h2 := h.swap2
  have h3 := h2.step (A' := blkA rb (.cells cs 29)) (w' := w.setRow rb cs) (stable_star hA (stable_star (stable_blk _ _) hR)) (fun F hF => ⟨fun x => x = rb, ⟨rfl, setRow_heap _ _ _ cs _ _ hF.2⟩, fun x hx => ⟨.inl (by rw [hx]; exact hF.1), by rw [hx, size_setRow]; exact blk_lt hF.2⟩, Ch.setRow (Ch.refl _ _) (.inl hF.1) cs⟩)
  exact h3.right.drop2
theorem ex_pl {w : World} {ob T D : Nat} {tx da : ByteArray} {e : Operand → Value} {d : Option Tmp} {x : Operand} {ty : TypeId} {p : String} {af : Array Edge} {gd : Option (Nat × Bool)} (h : w.heap[ob]? = some (.cells (prL T D tx da) 75)) (hx : e x = .pointer (some ⟨ob, 0, none⟩)) : (execOp e ⟨d, .load 75 x, ty, p, af, gd⟩).run Tryz.prog w = .ok (.value (.agg (prL T D tx da))) w := by
  unfold execOp
  simp only [hx, Instr.loadAt, Instr.sureAddr, Sem.run_bind, Sem.run_pure, Result.andThen_ok, ldL (c := prL T D tx da) rfl h]
theorem own_newRow {A : Asn} {T : TypeId} {c : Array Value} (h : Own w0 w A) (hA : Stable A) (cs : Array Value) : Own w0 ((w.alloc (.cells c T)).setRow w.heap.size cs) (Star (blkA w.heap.size (.cells cs T)) A) :=
  (h.alloc hA (.cells c T)).step (A' := blkA w.heap.size (.cells cs T)) hA (fun F hF => ⟨fun x => x = w.heap.size, ⟨rfl, setRow_heap _ _ _ cs _ _ hF.2⟩, fun x hx => ⟨.inl (by rw [hx]; exact hF.1), by rw [hx, size_setRow]; exact blk_lt hF.2⟩, Ch.setRow (Ch.refl _ _) (.inl hF.1) cs⟩)

set_option maxHeartbeats 3200000 in
theorem o_load_bad (h : Own w0 w (Star (plA pb b first z.L z.s) R)) (hR : Stable R) (x : Pg) (hx1 : x.tx.size ≤ maxLen) (hx2 : x.da.size ≤ maxLen) (hm : mayP x = false) :
    Calls Tryz.prog 7 #[.pointer (some ⟨pb, 0, none⟩), pgV x] w fun e w' => e = .returned (.tuple #[.int .i64 0, .agg (hartC 0 0), .int .u64 0, .int .i64 6]) ∧ Own w0 w' (Star (plA pb b first z.L z.s) R) := by
  have CM := Lib.hid (fun w => c_may x hx1 hx2 w)
  rw [hm] at CM
  have CP := Lib.hid (fun w => c_parts x hx1 hx2 w)
  obtain ⟨en, tx, da, bs⟩ := x
  have CM2 : RowKit.Hid (∀ w, Calls Tryz.prog 25 #[.agg #[.int .i64 en, .string tx, .string da, .int .i64 bs]] w fun e w' => e = .returned (.bool false) ∧ Gr w w') := Lib.hid CM.out
  have A1 := h.alloc (stable_star (stable_pl pb b first z.L z.s) hR) (.cells #[.int .i64 en, .string tx, .string da, .int .i64 bs] 23)
  have A2 := A1.alloc (stable_star (stable_blk _ _) (stable_star (stable_pl pb b first z.L z.s) hR)) (.cells (hartC 0 0) 29)
  rw [World.size_alloc] at A2
  have H0 : RowKit.Hid (Own w0 ((w.alloc (.cells #[.int .i64 en, .string tx, .string da, .int .i64 bs] 23)).alloc (.cells (hartC 0 0) 29)) (Star (plA pb b first z.L z.s) (ldrA (w.heap.size + 1) w.heap.size en tx da bs R))) := Lib.hid (A2.mono (fun F h => star_swap2 (star_mono_r (fun F h => star_swap2 h) h)))
  have SR := Lib.hid (stable_ldrA (w.heap.size + 1) w.heap.size en tx da bs hR)
  have HR := Lib.hid hR
  have SP := Lib.hid (fun (z : Sp) => stable_pl pb b first z.L z.s)
  clear A1 A2 CM h hR
  show Calls Tryz.prog 7 #[.pointer (some ⟨pb, 0, none⟩), .agg #[.int .i64 en, .string tx, .string da, .int .i64 bs]] w _
  go_enter Tryz.func7, Tryz.ntmps7
  go_upto_region 1 with fail
  obtain ⟨w2, hw2⟩ : ∃ w2, ((w.alloc (.cells #[.int .i64 en, .string tx, .string da, .int .i64 bs] 23)).alloc (.cells (hartC 0 0) 29)) = w2 := ⟨_, rfl⟩
  rw [hw2] at H0
  unfold hartC at hw2
  rw [hw2]
  clear hw2
  obtain ⟨rb, hrb⟩ : ∃ n, w.heap.size + 1 = n := ⟨_, rfl⟩
  rw [hrb] at H0 SR
  rw [hrb]
  clear hrb
  generalize w.heap.size = xb at *
  have BX := Lib.hid (ldrA_x H0.out)
  clear hm hx1 hx2 CP
  go_wp2_with (first
    | (refine wpList_load_row rfl 23 _ rfl _ rfl 23 _ (0, 0) _ BX.out Tryz.underlying23 rfl pg_info ?_)
    | (go_at_call 25; refine (CM2.out _).mono ?_; rintro e w3 ⟨rfl, g3⟩; have H3 := Lib.hid (H0.out.gr (stable_star (SP.out _) SR.out) g3); clear g3; have BH := Lib.hid (ldrA_h H3.out))
    | (refine bld0 rfl 29 rfl _ built_hz ?_)
    | (refine wpList_store_row rfl 29 _ _ rfl _ (hartC 0 0) rfl rfl 29 _ BH.out hart_info rfl (hart_all _ _) ?_))
  refine bodyPost_ret (res_load rfl _ _ _ rb _ rfl (ldHt (setRow_heap _ _ _ (hartC 0 0) _ _ BH.out))) rfl ⟨rfl, ldrA_out H3.out (SP.out _) HR.out _⟩
theorem may_sz {x : Pg} (hm : mayP x = true) : szT x = pgN x.tx.size ∧ szD x = pgN (x.da.size + x.bs.toNat) ∧ 1 ≤ szT x ∧ szT x ≤ 8 ∧ szD x ≤ 20 := by
  obtain ⟨m1, m2, m3, m4, m5, m6, m7, m8, m9, m10⟩ := may_iff.1 hm
  unfold szT szD
  rw [hm, cond_true, cond_true]
  unfold pgN
  omega
set_option maxHeartbeats 6400000 in
theorem o_load_full (h : Own w0 w (Star (plA pb b first z.L z.s) R)) (hR : Stable R) (x : Pg) (hx1 : x.tx.size ≤ maxLen) (hx2 : x.da.size ≤ maxLen) (hm : mayP x = true) (n : Int) (hn : (cntL z.L first (z.L.length - first) : Int) = n) (hlt : n < (szT x : Int) + (szD x : Int) + 12) :
    Calls Tryz.prog 7 #[.pointer (some ⟨pb, 0, none⟩), pgV x] w fun e w' => e = .returned (.tuple #[.int .i64 0, .agg (hartC 0 0), .int .u64 0, .int .i64 4]) ∧ Own w0 w' (Star (plA pb b first z.L z.s) R) := by
  obtain ⟨z1, z2, z3, z4, z5⟩ := may_sz hm
  clear z1 z2
  have CM := Lib.hid (fun w => c_may x hx1 hx2 w)
  rw [hm] at CM
  have CP := Lib.hid (fun w => c_parts x hx1 hx2 w)
  obtain ⟨en, tx, da, bs⟩ := x
  have CM2 : RowKit.Hid (∀ w, Calls Tryz.prog 25 #[.agg #[.int .i64 en, .string tx, .string da, .int .i64 bs]] w fun e w' => e = .returned (.bool true) ∧ Gr w w') := Lib.hid CM.out
  have A1 := h.alloc (stable_star (stable_pl pb b first z.L z.s) hR) (.cells #[.int .i64 en, .string tx, .string da, .int .i64 bs] 23)
  have A2 := A1.alloc (stable_star (stable_blk _ _) (stable_star (stable_pl pb b first z.L z.s) hR)) (.cells (hartC 0 0) 29)
  rw [World.size_alloc] at A2
  have H0 : RowKit.Hid (Own w0 ((w.alloc (.cells #[.int .i64 en, .string tx, .string da, .int .i64 bs] 23)).alloc (.cells (hartC 0 0) 29)) (Star (plA pb b first z.L z.s) (ldrA (w.heap.size + 1) w.heap.size en tx da bs R))) := Lib.hid (A2.mono (fun F h => star_swap2 (star_mono_r (fun F h => star_swap2 h) h)))
  have SR := Lib.hid (stable_ldrA (w.heap.size + 1) w.heap.size en tx da bs hR)
  have HR := Lib.hid hR
  have SP := Lib.hid (fun (z : Sp) => stable_pl pb b first z.L z.s)
  clear A1 A2 CM h hR
  show Calls Tryz.prog 7 #[.pointer (some ⟨pb, 0, none⟩), .agg #[.int .i64 en, .string tx, .string da, .int .i64 bs]] w _
  go_enter Tryz.func7, Tryz.ntmps7
  go_upto_region 1 with fail
  obtain ⟨w2, hw2⟩ : ∃ w2, ((w.alloc (.cells #[.int .i64 en, .string tx, .string da, .int .i64 bs] 23)).alloc (.cells (hartC 0 0) 29)) = w2 := ⟨_, rfl⟩
  rw [hw2] at H0
  unfold hartC at hw2
  rw [hw2]
  clear hw2
  obtain ⟨rb, hrb⟩ : ∃ n, w.heap.size + 1 = n := ⟨_, rfl⟩
  rw [hrb] at H0 SR
  rw [hrb]
  clear hrb
  generalize w.heap.size = xb at *
  have BX := Lib.hid (ldrA_x H0.out)
  obtain ⟨T, hT⟩ : ∃ T, szT ⟨en, tx, da, bs⟩ = T := ⟨_, rfl⟩
  obtain ⟨D, hD⟩ : ∃ D, szD ⟨en, tx, da, bs⟩ = D := ⟨_, rfl⟩
  rw [hT] at z3 z4 CP hlt
  rw [hD] at z5 CP hlt
  clear hT hD
  have CP2 : RowKit.Hid (∀ w, Calls Tryz.prog 26 #[.agg #[.int .i64 en, .string tx, .string da, .int .i64 bs]] w fun e w' => e = .returned (.agg (prL T D tx da)) ∧ Gr w w') := Lib.hid CP.out
  have CF : RowKit.Hid (∀ w, Calls Tryz.prog 27 #[.agg (prL T D tx da)] w fun e w' => e = .returned (.int .i64 ((T + D + 12 : Nat) : Int)) ∧ Gr w w') := Lib.hid (fun w => by have := c_frFor T D tx da z4 z5 w; rw [fr_is T D ⟨z3, z4⟩ z5] at this; exact this)
  have LF : RowKit.Hid (∀ (w : World) (ob : Nat), Own w0 w (Star (plA pb b first z.L z.s) (Star (blkA ob (.cells (prL T D tx da) 75)) (ldrA rb xb en tx da bs R))) → Calls Tryz.prog 16 #[.pointer (some ⟨pb, 0, none⟩)] w fun e w' => e = .returned (.int .i64 n) ∧ w' = w) := Lib.hid (fun w ob h => o_pleft h n hn)
  have d1 : n < ((T + D + 12 : Nat) : Int) := by omega
  clear hm hx1 hx2 CP hn hlt
  go_upto_region 5 with (first
    | (refine wpList_load_row rfl 23 _ rfl _ rfl 23 _ (0, 0) _ BX.out Tryz.underlying23 rfl pg_info ?_)
    | (go_at_call 25; refine (CM2.out _).mono ?_; rintro e w3 ⟨rfl, g3⟩; have H3 := Lib.hid (H0.out.gr (stable_star (SP.out _) SR.out) g3); clear g3; have BH := Lib.hid (ldrA_h H3.out)))
  have BX := Lib.hid (ldrA_x H3.out)
  go_upto_region 6 with (first
    | (refine wpList_load_row rfl 23 _ rfl _ rfl 23 _ (0, 0) _ BX.out Tryz.underlying23 rfl pg_info ?_)
    | (go_at_call 26; refine (CP2.out _).mono ?_; rintro e w4 ⟨rfl, g4⟩; have H4 := Lib.hid (H3.out.gr (stable_star (SP.out _) SR.out) g4); clear g4)
    | (refine wpList_store_row rfl 75 _ _ rfl _ (prL T D tx da) rfl rfl 75 _ (blk_new _ _) prL_info rfl (prL_all _ _ _ _) ?_))
  have H5 := Lib.hid (own_newRow (c := zeroL) (T := 75) H4.out (stable_star (SP.out _) SR.out) (prL T D tx da)).swap2
  unfold zeroL at H5
  generalize (World.setRow _ _ _) = w5 at *
  generalize w4.heap.size = ob at *
  have SB := Lib.hid (stable_star (SP.out z) (stable_star (stable_blk ob (.cells (prL T D tx da) 75)) SR.out))
  have BO := Lib.hid (H5.out.swap2.blk)
  try simp only [Act.put]
  have KD := Lib.hid (H5.out.drew SB.out)
  refine wp_region_held_drew (S := fun w' => Own w0 w' (Star (plA pb b first z.L z.s) (Star (blkA ob (.cells (prL T D tx da) 75)) (ldrA rb xb en tx da bs R)))) (by kernel_rfl) KD.out (fun hH => ?_)
  refine wpAnyH_take (i := 0) (oi := { dst := some 24, op := Go.Op.move (Go.Operand.tmp 0), type := 36, pos := "prog.go:129", after := #[], guard := none }) (v := .pointer (some ⟨pb, 0, none⟩)) rfl (by kernel_rfl) (by kernel_rfl) (by kernel_rfl) (fun _ _ _ h => h) (Or.inl ⟨by rfl, fun w' hS' => by first | rfl | (go_simp; done) | (go_simp; rfl)⟩) KD.out ?_
  try simp only [Act.put, List.setIfInBounds_toArray, List.set_cons_zero, List.set_cons_succ]
  refine wpAnyH_take (i := 2) (oi := { dst := some 26, op := Go.Op.load 75 (Go.Operand.tmp 8), type := 75, pos := "prog.go:129", after := #[], guard := none }) (v := .agg (prL T D tx da)) rfl (by kernel_rfl) (by kernel_rfl) (by kernel_rfl) (fun _ _ _ h => h) (Or.inl ⟨by rfl, fun w' hS' => ex_pl (hS'.swap2.blk) rfl⟩) KD.out ?_
  try simp only [Act.put, List.setIfInBounds_toArray, List.set_cons_zero, List.set_cons_succ]
  refine wpAnyH_ready (rs := [1]) (by kernel_rfl) (by simp) ?_
  refine AllReadyH.cons (o := { dst := some 25, op := Go.Op.call { callee := Go.Callee.value (Go.Operand.func 16), args := #[Go.Operand.tmp 24], argTypes := #[36] }, type := 3, pos := "prog.go:129", after := #[{ on := 0, ground := Go.Ground.data }], guard := none }) rfl (fun K' hK => ?_) AllReadyH.nil
  rw [if_pos (by rfl)]
  go_wp2_with (go_at_call 16; refine (LF.out _ ob KD.out).mono ?_; rintro e wm ⟨rfl, rfl⟩)
  refine hK.out _ _ (KD.out) (fun hK2 => ?_)
  clear hK K'
  try simp only [Act.put, List.setIfInBounds_toArray, List.set_cons_zero, List.set_cons_succ]
  refine wpAnyH_ready (rs := [3]) (by kernel_rfl) (by simp) ?_
  refine AllReadyH.cons (o := { dst := some 27, op := Go.Op.call { callee := Go.Callee.value (Go.Operand.func 27), args := #[Go.Operand.tmp 26], argTypes := #[75] }, type := 3, pos := "prog.go:129", after := #[{ on := 2, ground := Go.Ground.data }, { on := 1, ground := Go.Ground.chain }], guard := none }) rfl (fun K' hK => ?_) AllReadyH.nil
  rw [if_pos (by rfl)]
  go_wp2_with (go_at_call 27; refine (CF.out _).mono ?_; rintro e w6 ⟨rfl, g6⟩; have H6 := Lib.hid (KD.out.gr SB.out g6); clear g6)
  refine hK.out _ _ (H6.out) (fun hK3 => ?_)
  clear hK K'
  try simp only [Act.put, List.setIfInBounds_toArray, List.set_cons_zero, List.set_cons_succ]
  refine wpAnyH_take (i := 4) (oi := { dst := some 28, op := Go.Op.binOp Go.BinOp.lss 3 (Go.Operand.tmp 25) (Go.Operand.tmp 27) 3, type := 4, pos := "prog.go:129", after := #[{ on := 1, ground := Go.Ground.data }, { on := 3, ground := Go.Ground.data }], guard := none }) (v := .bool true) rfl (by kernel_rfl) (by kernel_rfl) (by kernel_rfl) (fun _ _ _ h => h) (Or.inl ⟨by rfl, fun w' hS' => by first | rfl | (go_simp; done) | (go_simp; omega) | (go_simp; rfl)⟩) H6.out ?_
  try simp only [Act.put, List.setIfInBounds_toArray, List.set_cons_zero, List.set_cons_succ]
  refine wpAnyH_done (by kernel_rfl) ?_ _
  clear hH hK2 hK3 KD
  have H7 := Lib.hid (H6.out.drop2)
  have BH := Lib.hid (ldrA_h H7.out)
  go_wp2_with (first
    | (refine bld0 rfl 29 rfl _ built_hz ?_)
    | (refine wpList_store_row rfl 29 _ _ rfl _ (hartC 0 0) rfl rfl 29 _ BH.out hart_info rfl (hart_all _ _) ?_))
  refine bodyPost_ret (res_load rfl _ _ _ rb _ rfl (ldHt (setRow_heap _ _ _ (hartC 0 0) _ _ BH.out))) rfl ⟨rfl, ldrA_out H7.out (SP.out _) HR.out _⟩
end Go.Proofs.YtdlglnoffpnonaaGreat.P
namespace Go.Proofs.YtdlglnoffpnonaaGreat.P
open Go.RowKit Go.MuLone Go.Maps
variable {w0 w : World} {pb b first : Nat} {z : Sp} {R : Asn}
def hartZ : Array Value := #[.int .u64 0, .int .u64 0, .int .u64 0, .int .u64 0, .int .u64 0, .int .u64 0, .int .u64 0, .int .u64 0, .int .u64 0, .int .u64 0, .int .u64 0, .int .u64 0, .int .u64 0, .int .u64 0, .int .u64 0, .int .u64 0, .int .u64 0, .int .u64 0, .int .u64 0, .int .u64 0, .int .u64 0, .int .u64 0, .int .u64 0, .int .u64 0, .int .u64 0, .int .u64 0, .int .u64 0, .int .u64 0, .int .u64 0, .int .u64 0, .int .u64 0, .int .u64 0, .int .u64 0, .bool false, .int .u64 0]
set_option maxHeartbeats 6400000 in
theorem o_load_ok (h : Own w0 w (Star (plA pb b first z.L z.s) R)) (hR : Stable R) (x : Pg) (hx1 : x.tx.size ≤ maxLen) (hx2 : x.da.size ≤ maxLen) (hm : mayP x = true) (n : Int) (hn : (cntL z.L first (z.L.length - first) : Int) = n) (hlt : (szT x : Int) + (szD x : Int) + 12 ≤ n)
    (r : Int) (hr : i64 r) (ht : takeN z.L first = r) (hte : takeE z.L first = 0) (zs : Nat → Sp) (hz0 : takeX first z = zs 0) (hzs : ∀ i, i < 3 → layX first r (prB i) (prC (szT x) (szD x) i) (prF (szT x) i) (prY x.tx x.da i) (zs i) = (zs (i + 1), 0)) :
    Calls Tryz.prog 7 #[.pointer (some ⟨pb, 0, none⟩), pgV x] w fun e w' => e = .returned (.tuple #[.int .i64 r, .agg (hartC 16384 (256 + x.en)), .int .u64 (256 * (1 + (szT x : Int)) + x.da.size + x.bs), .int .i64 0]) ∧ Own w0 w' (Star (plA pb b first (zs 3).L (zs 3).s) R) := by
  obtain ⟨z1, z2, z3, z4, z5⟩ := may_sz hm
  obtain ⟨m1, m2, m3, m4, m5, m6, m7, m8, m9, m10⟩ := may_iff.1 hm
  clear z1 z2
  obtain ⟨EN, hEN0⟩ : ∃ EN, 256 * (1 + (szT x : Int)) + x.da.size + x.bs = EN := ⟨_, rfl⟩
  rw [hEN0]
  have CM := Lib.hid (fun w => c_may x hx1 hx2 w)
  rw [hm] at CM
  have CP := Lib.hid (fun w => c_parts x hx1 hx2 w)
  obtain ⟨en, tx, da, bs⟩ := x
  have CM2 : RowKit.Hid (∀ w, Calls Tryz.prog 25 #[.agg #[.int .i64 en, .string tx, .string da, .int .i64 bs]] w fun e w' => e = .returned (.bool true) ∧ Gr w w') := Lib.hid CM.out
  have A1 := h.alloc (stable_star (stable_pl pb b first z.L z.s) hR) (.cells #[.int .i64 en, .string tx, .string da, .int .i64 bs] 23)
  have A2 := A1.alloc (stable_star (stable_blk _ _) (stable_star (stable_pl pb b first z.L z.s) hR)) (.cells (hartC 0 0) 29)
  rw [World.size_alloc] at A2
  have H0 : RowKit.Hid (Own w0 ((w.alloc (.cells #[.int .i64 en, .string tx, .string da, .int .i64 bs] 23)).alloc (.cells (hartC 0 0) 29)) (Star (plA pb b first z.L z.s) (ldrA (w.heap.size + 1) w.heap.size en tx da bs R))) := Lib.hid (A2.mono (fun F h => star_swap2 (star_mono_r (fun F h => star_swap2 h) h)))
  have SR := Lib.hid (stable_ldrA (w.heap.size + 1) w.heap.size en tx da bs hR)
  have HR := Lib.hid hR
  have SP := Lib.hid (fun (z : Sp) => stable_pl pb b first z.L z.s)
  clear A1 A2 CM h hR
  show Calls Tryz.prog 7 #[.pointer (some ⟨pb, 0, none⟩), .agg #[.int .i64 en, .string tx, .string da, .int .i64 bs]] w _
  go_enter Tryz.func7, Tryz.ntmps7
  go_upto_region 1 with fail
  obtain ⟨w2, hw2⟩ : ∃ w2, ((w.alloc (.cells #[.int .i64 en, .string tx, .string da, .int .i64 bs] 23)).alloc (.cells (hartC 0 0) 29)) = w2 := ⟨_, rfl⟩
  rw [hw2] at H0
  unfold hartC at hw2
  rw [hw2]
  clear hw2
  obtain ⟨rb, hrb⟩ : ∃ n, w.heap.size + 1 = n := ⟨_, rfl⟩
  rw [hrb] at H0 SR
  rw [hrb]
  clear hrb
  generalize w.heap.size = xb at *
  have BX := Lib.hid (ldrA_x H0.out)
  obtain ⟨T, hT⟩ : ∃ T, szT ⟨en, tx, da, bs⟩ = T := ⟨_, rfl⟩
  obtain ⟨D, hD⟩ : ∃ D, szD ⟨en, tx, da, bs⟩ = D := ⟨_, rfl⟩
  have hzs2 : ∀ i, i < 3 → layX first r (prB i) (prC T D i) (prF T i) (prY tx da i) (zs i) = (zs (i + 1), 0) := by rw [← hT, ← hD]; exact hzs
  have HZS := Lib.hid hzs2
  clear hzs hzs2
  rw [hT] at z3 z4 CP hlt
  rw [hD] at z5 CP hlt
  have hEN : 256 * (1 + (T : Int)) + da.size + bs = EN := by rw [← hT]; exact hEN0
  clear hT hD hEN0
  have CP2 : RowKit.Hid (∀ w, Calls Tryz.prog 26 #[.agg #[.int .i64 en, .string tx, .string da, .int .i64 bs]] w fun e w' => e = .returned (.agg (prL T D tx da)) ∧ Gr w w') := Lib.hid CP.out
  have CF : RowKit.Hid (∀ w, Calls Tryz.prog 27 #[.agg (prL T D tx da)] w fun e w' => e = .returned (.int .i64 ((T + D + 12 : Nat) : Int)) ∧ Gr w w') := Lib.hid (fun w => by have := c_frFor T D tx da z4 z5 w; rw [fr_is T D ⟨z3, z4⟩ z5] at this; exact this)
  have SRR := Lib.hid (fun ob => stable_star (stable_blk ob (.cells (prL T D tx da) 75)) SR.out)
  have LF : RowKit.Hid (∀ (w : World) (ob : Nat), Own w0 w (Star (plA pb b first z.L z.s) (Star (blkA ob (.cells (prL T D tx da) 75)) (ldrA rb xb en tx da bs R))) → Calls Tryz.prog 16 #[.pointer (some ⟨pb, 0, none⟩)] w fun e w' => e = .returned (.int .i64 n) ∧ w' = w) := Lib.hid (fun w ob h => o_pleft h n hn)
  have SN : RowKit.Hid (∀ (w : World) (ob : Nat), Own w0 w (Star (plA pb b first z.L z.s) (Star (blkA ob (.cells (prL T D tx da) 75)) (ldrA rb xb en tx da bs R))) → Calls Tryz.prog 28 #[.pointer (some ⟨pb, 0, none⟩)] w fun e w' => e = .returned (.tuple #[.int .i64 r, .int .i64 0]) ∧ Own w0 w' (Star (plA pb b first (zs 0).L (zs 0).s) (Star (blkA ob (.cells (prL T D tx da) 75)) (ldrA rb xb en tx da bs R)))) := Lib.hid (fun w ob h => by have := o_snew h (SRR.out ob) r 0 ht hte; rw [hz0] at this; exact this)
  have d1 : ¬ n < ((T + D + 12 : Nat) : Int) := by omega
  have FC := Lib.hid (show ∀ i, i < 3 → prF T i ≤ 56 ∧ prC T D i ≤ 20 ∧ Go.Proofs.YtdlglnoffpnonaaGreat.P.u64 (prB i) ∧ (prY tx da i).size ≤ 4096 from fun i _ => match i with | 0 => ⟨show 1 ≤ 56 by decide, show T ≤ 20 by omega, ⟨by decide, by decide⟩, show tx.size ≤ 4096 by have : tx.size ≤ 2048 := m2; omega⟩ | 1 => ⟨show 1 + T ≤ 56 by omega, z5, ⟨by decide, by decide⟩, show da.size ≤ 4096 by have : da.size ≤ 1024 := m7; omega⟩ | _ + 2 => ⟨Nat.le_refl 56, show 8 ≤ 20 by decide, ⟨show (0 : Int) ≤ 23 by decide, show (23 : Int) ≤ 18446744073709551615 by decide⟩, Nat.zero_le _⟩)
  have q1 : 0 ≤ en := m4
  have q2 : en < 2048 := by have a1 : en < (tx.size : Int) := m5; have a2 : tx.size ≤ 2048 := m2; omega
  have q3 : da.size ≤ 1024 := m7
  have q4 : 0 ≤ bs := m8
  have q5 : bs ≤ 4096 := m9
  have HRI := Lib.hid hr
  have k1 : IntKind.i64.wrap (256 + en) = 256 + en := wrapI _ (by omega) (by omega)
  have k2 : IntKind.u64.wrap (256 + en) = 256 + en := wrapU _ (by omega) (by omega)
  have k3 : IntKind.i64.wrap ((1 + (T : Int)) * 256) = (1 + (T : Int)) * 256 := wrapI _ (by omega) (by omega)
  have k4 : IntKind.i64.wrap ((1 + (T : Int)) * 256 + da.size) = (1 + (T : Int)) * 256 + da.size := wrapI _ (by omega) (by omega)
  have k5 : IntKind.i64.wrap ((1 + (T : Int)) * 256 + da.size + bs) = EN := by rw [← hEN, wrapI _ (by omega) (by omega)]; omega
  have k6 : IntKind.u64.wrap EN = EN := wrapU _ (by omega) (by omega)
  clear hm hx1 hx2 CP hn hlt hr ht hte hz0 hEN m1 m2 m3 m4 m5 m6 m7 m8 m9 m10 z3 z4 z5
  go_upto_region 5 with (first
    | (refine wpList_load_row rfl 23 _ rfl _ rfl 23 _ (0, 0) _ BX.out Tryz.underlying23 rfl pg_info ?_)
    | (go_at_call 25; refine (CM2.out _).mono ?_; rintro e w3 ⟨rfl, g3⟩; have H3 := Lib.hid (H0.out.gr (stable_star (SP.out _) SR.out) g3); clear g3; have BH := Lib.hid (ldrA_h H3.out)))
  have BX := Lib.hid (ldrA_x H3.out)
  go_upto_region 6 with (first
    | (refine wpList_load_row rfl 23 _ rfl _ rfl 23 _ (0, 0) _ BX.out Tryz.underlying23 rfl pg_info ?_)
    | (go_at_call 26; refine (CP2.out _).mono ?_; rintro e w4 ⟨rfl, g4⟩; have H4 := Lib.hid (H3.out.gr (stable_star (SP.out _) SR.out) g4); clear g4)
    | (refine wpList_store_row rfl 75 _ _ rfl _ (prL T D tx da) rfl rfl 75 _ (blk_new _ _) prL_info rfl (prL_all _ _ _ _) ?_))
  have H5 := Lib.hid (own_newRow (c := zeroL) (T := 75) H4.out (stable_star (SP.out _) SR.out) (prL T D tx da)).swap2
  unfold zeroL at H5
  generalize (World.setRow _ _ _) = w5 at *
  generalize w4.heap.size = ob at *
  have SB := Lib.hid (stable_star (SP.out z) (stable_star (stable_blk ob (.cells (prL T D tx da) 75)) SR.out))
  have BO := Lib.hid (H5.out.swap2.blk)
  try simp only [Act.put]
  have KD := Lib.hid (H5.out.drew SB.out)
  refine wp_region_held_drew (S := fun w' => Own w0 w' (Star (plA pb b first z.L z.s) (Star (blkA ob (.cells (prL T D tx da) 75)) (ldrA rb xb en tx da bs R)))) (by kernel_rfl) KD.out (fun hH => ?_)
  refine wpAnyH_take (i := 0) (oi := { dst := some 24, op := Go.Op.move (Go.Operand.tmp 0), type := 36, pos := "prog.go:129", after := #[], guard := none }) (v := .pointer (some ⟨pb, 0, none⟩)) rfl (by kernel_rfl) (by kernel_rfl) (by kernel_rfl) (fun _ _ _ h => h) (Or.inl ⟨by rfl, fun w' hS' => by first | rfl | (go_simp; done) | (go_simp; rfl)⟩) KD.out ?_
  try simp only [Act.put, List.setIfInBounds_toArray, List.set_cons_zero, List.set_cons_succ]
  refine wpAnyH_take (i := 2) (oi := { dst := some 26, op := Go.Op.load 75 (Go.Operand.tmp 8), type := 75, pos := "prog.go:129", after := #[], guard := none }) (v := .agg (prL T D tx da)) rfl (by kernel_rfl) (by kernel_rfl) (by kernel_rfl) (fun _ _ _ h => h) (Or.inl ⟨by rfl, fun w' hS' => ex_pl (hS'.swap2.blk) rfl⟩) KD.out ?_
  try simp only [Act.put, List.setIfInBounds_toArray, List.set_cons_zero, List.set_cons_succ]
  refine wpAnyH_ready (rs := [1]) (by kernel_rfl) (by simp) ?_
  refine AllReadyH.cons (o := { dst := some 25, op := Go.Op.call { callee := Go.Callee.value (Go.Operand.func 16), args := #[Go.Operand.tmp 24], argTypes := #[36] }, type := 3, pos := "prog.go:129", after := #[{ on := 0, ground := Go.Ground.data }], guard := none }) rfl (fun K' hK => ?_) AllReadyH.nil
  rw [if_pos (by rfl)]
  go_wp2_with (go_at_call 16; refine (LF.out _ ob KD.out).mono ?_; rintro e wm ⟨rfl, rfl⟩)
  refine hK.out _ _ (KD.out) (fun hK2 => ?_)
  clear hK K'
  try simp only [Act.put, List.setIfInBounds_toArray, List.set_cons_zero, List.set_cons_succ]
  refine wpAnyH_ready (rs := [3]) (by kernel_rfl) (by simp) ?_
  refine AllReadyH.cons (o := { dst := some 27, op := Go.Op.call { callee := Go.Callee.value (Go.Operand.func 27), args := #[Go.Operand.tmp 26], argTypes := #[75] }, type := 3, pos := "prog.go:129", after := #[{ on := 2, ground := Go.Ground.data }, { on := 1, ground := Go.Ground.chain }], guard := none }) rfl (fun K' hK => ?_) AllReadyH.nil
  rw [if_pos (by rfl)]
  go_wp2_with (go_at_call 27; refine (CF.out _).mono ?_; rintro e w6 ⟨rfl, g6⟩; have H6 := Lib.hid (KD.out.gr SB.out g6); clear g6)
  refine hK.out _ _ (H6.out) (fun hK3 => ?_)
  clear hK K'
  try simp only [Act.put, List.setIfInBounds_toArray, List.set_cons_zero, List.set_cons_succ]
  refine wpAnyH_take (i := 4) (oi := { dst := some 28, op := Go.Op.binOp Go.BinOp.lss 3 (Go.Operand.tmp 25) (Go.Operand.tmp 27) 3, type := 4, pos := "prog.go:129", after := #[{ on := 1, ground := Go.Ground.data }, { on := 3, ground := Go.Ground.data }], guard := none }) (v := .bool false) rfl (by kernel_rfl) (by kernel_rfl) (by kernel_rfl) (fun _ _ _ h => h) (Or.inl ⟨by rfl, fun w' hS' => by first | rfl | (go_simp; done) | (go_simp; omega) | (go_simp; rfl)⟩) H6.out ?_
  try simp only [Act.put, List.setIfInBounds_toArray, List.set_cons_zero, List.set_cons_succ]
  refine wpAnyH_done (by kernel_rfl) ?_ _
  clear hH hK2 hK3 KD
  have H7 := Lib.hid (H6.out.drop2)
  have BH := Lib.hid (ldrA_h H7.out)
  clear H7 BH LF CF CP2 CM2 BO BX H0 H3 H4 H5
  go_upto_region 9 with (go_at_call 28; refine (SN.out _ _ H6.out).mono ?_; rintro e w8 ⟨rfl, h8⟩; have H8 := Lib.hid h8; clear h8)
  have BO := Lib.hid (H8.out.swap2.blk)
  go_wp2_with (refine wpList_load_row rfl 75 _ rfl _ rfl 75 _ (0, 0) _ BO.out Tryz.underlying75 rfl prL_info ?_)
  clear BO H6 SN
  go_loopg [10, 36] 4 (fun t v10 v36 wr => ∃ i : Nat, i ≤ 3 ∧ t = 4 - i ∧ v10 = .int .i64 0 ∧ v36 = .int .i64 (i : Int) ∧ Own w0 wr (Star (plA pb b first (zs i).L (zs i).s) (Star (blkA ob (.cells (prL T D tx da) 75)) (ldrA rb xb en tx da bs R))))
  case atStart => exact ⟨0, by omega, rfl, rfl, rfl, H8.out⟩
  case round =>
    clear H8
    obtain ⟨i, hi, rfl, rfl, rfl, ho⟩ := hrel
    have H := Lib.hid ho
    clear ho
    by_cases hlt : i < 3
    · have n1 : (i : Int) < 3 := by omega
      have n2 : 0 ≤ (i : Int) := by omega
      have n3 : (i : Int).toNat = i := by omega
      have e5 : IntKind.i64.wrap ((i : Int) + 1) = (i : Int) + 1 := by rw [IntKind.wrap_i64]; omega
      have ix := fun w => idxP T D tx da i hlt w
      have hz := HZS.out i hlt
      obtain ⟨f1, f2, f3, f4⟩ := FC.out i hlt
      unfold prR at ix
      obtain ⟨F, hF⟩ : ∃ F, prF T i = F := ⟨_, rfl⟩
      obtain ⟨C, hC⟩ : ∃ C, prC T D i = C := ⟨_, rfl⟩
      obtain ⟨Y, hY⟩ : ∃ Y, prY tx da i = Y := ⟨_, rfl⟩
      obtain ⟨Bi, hB⟩ : ∃ Y, prB i = Y := ⟨_, rfl⟩
      rw [hF, hC, hY, hB] at ix hz
      rw [hF] at f1; rw [hC] at f2; rw [hB] at f3; rw [hY] at f4
      clear hF hC hY hB
      have LY : RowKit.Hid (∀ w, Own w0 w (Star (plA pb b first (zs i).L (zs i).s) (Star (blkA ob (.cells (prL T D tx da) 75)) (ldrA rb xb en tx da bs R))) → _) := Lib.hid (fun w h => o_lay h (SRR.out ob) r (F : Int) Bi C Y HRI.out ⟨by omega, by omega⟩ f3 f4 0 (zs (i + 1)) hz)
      clear hz f1 f2 f3 f4
      have HA := Lib.hid (H.out.alloc (stable_star (SP.out _) (SRR.out ob)) (.cells #[.int .i64 (F : Int), .int .i64 (C : Int), .string Y, .int .u64 Bi] 74)).right
      have BA := Lib.hid (blk_new wr (.cells #[.int .i64 (F : Int), .int .i64 (C : Int), .string Y, .int .u64 Bi] 74))
      go_upto_region 12 with fail
      generalize (World.alloc wr _) = wa at *
      generalize wr.heap.size = fb at *
      go_wp2_with (first
        | (refine wpList_load_row rfl 74 _ rfl _ rfl 74 _ (0, 0) _ BA.out Tryz.underlying74 rfl prR_info ?_)
        | (go_at_call 29; refine (LY.out _ HA.out).mono ?_; rintro e w9 ⟨rfl, h9⟩; have H9 := Lib.hid h9; clear h9))
      go_roundg (4 - (i + 1))
      case measure => omega
      case rel => exact ⟨i + 1, by omega, rfl, rfl, by go_num, H9.out⟩
    · obtain rfl : i = 3 := by omega
      have BX := Lib.hid (ldrA_x H.out.drop2)
      have BR := Lib.hid (ldrA_h H.out.drop2)
      have NE := Lib.hid (Nat.ne_of_gt (blk_lt BR.out))
      have c0 := blk_cell BX.out 0 (v := .int .i64 en) rfl
      go_upto_region 18 with (first
        | (refine bld1 rfl 29 1 _ rfl _ rfl _ (built_hp _) ?_)
        | (refine wpList_store_row rfl 29 _ _ rfl _ (hartC 0 (256 + en)) rfl rfl 29 _ (blk_new _ _) hart_info rfl (hart_all _ _) ?_))
      clear c0
      have HB := Lib.hid (own_newRow (c := hartZ) (T := 29) H.out (stable_star (SP.out _) (SRR.out ob)) (hartC 0 (256 + en)))
      unfold hartZ at HB
      generalize (World.setRow _ _ _) = wb at *
      generalize wr.heap.size = hb at *
      try simp only [Act.put]
      have SBB := Lib.hid (stable_star (SP.out (zs 3)) (SRR.out ob))
      have c2 := blk_cell HB.out.blk 2 (v := .int .u64 0) rfl
      have f2 := blk_frozen HB.out.blk 2
      have HC0 := HB.out.set SBB.out 2 (.int .u64 16384)
      have HC : RowKit.Hid (Own w0 (wb.setCell ⟨hb, 2, none⟩ (.int .u64 16384)) (Star (blkA hb (.cells (hartC 16384 (256 + en)) 29)) (Star (plA pb b first (zs 3).L (zs 3).s) (Star (blkA ob (.cells (prL T D tx da) 75)) (ldrA rb xb en tx da bs R))))) := Lib.hid HC0
      clear HC0
      go_upto_region 19 with fail
      clear c2 f2
      generalize (World.setCell _ _ _) = wc at *
      have BO := Lib.hid (HC.out.right.swap2.blk)
      have BX := Lib.hid (ldrA_x HC.out.right.drop2)
      have c4 := blk_cell BO.out 4 (v := .int .i64 ((1 + T : Nat) : Int)) rfl
      have e2 := blk_cell BX.out 2 (v := .string da) rfl
      have e3 := blk_cell BX.out 3 (v := .int .i64 bs) rfl
      go_upto_region 20 with fail
      clear c4 e2 e3
      have KH := Lib.hid (HC.out.drew (stable_star (stable_blk _ _) SBB.out))
      have KE := Lib.hid KH.out.blk
      have BR2 := Lib.hid (ldrA_h KH.out.right.drop2)
      refine wp_region_held_drew (S := fun w' => w'.heap[hb]? = some (.cells (hartC 16384 (256 + en)) 29)) (by kernel_rfl) KE.out (fun hH => ?_)
      try simp only [Act.put]
      refine wpAnyH_take (i := 0) (oi := { dst := some 68, op := Go.Op.move (Go.Operand.tmp 9), type := 3, pos := "prog.go:144", after := #[], guard := none }) (v := .int .i64 r) rfl (by kernel_rfl) (by kernel_rfl) (by kernel_rfl) (fun _ _ _ h => h) (Or.inl ⟨by rfl, fun w' hS' => by first | rfl | (go_simp; done) | (go_simp; rfl)⟩) KE.out ?_
      try simp only [Act.put, List.setIfInBounds_toArray, List.set_cons_zero, List.set_cons_succ]
      refine wpAnyH_take (i := 1) (oi := { dst := some 69, op := Go.Op.load 29 (Go.Operand.tmp 13), type := 29, pos := "prog.go:144", after := #[{ on := 4, ground := Go.Ground.gcOnly Go.Departure.lateStores }], guard := none }) (v := .agg (hartC 16384 (256 + en))) rfl (by kernel_rfl) (by kernel_rfl) (by kernel_rfl) (fun _ _ _ h => h) (Or.inl ⟨by rfl, fun w' hS' => ex_ht hS' rfl⟩) KE.out ?_
      try simp only [Act.put, List.setIfInBounds_toArray, List.set_cons_zero, List.set_cons_succ]
      refine wpAnyH_take (i := 2) (oi := { dst := some 70, op := Go.Op.move (Go.Operand.tmp 14), type := 3, pos := "prog.go:144", after := #[{ on := 5, ground := Go.Ground.gcOnly Go.Departure.lateStores }], guard := none }) (v := .int .i64 EN) rfl (by kernel_rfl) (by kernel_rfl) (by kernel_rfl) (fun _ _ _ h => h) (Or.inl ⟨by rfl, fun w' hS' => by first | rfl | (go_simp; done) | (go_simp; rfl)⟩) KE.out ?_
      try simp only [Act.put, List.setIfInBounds_toArray, List.set_cons_zero, List.set_cons_succ]
      refine wpAnyH_take (i := 3) (oi := { dst := some 71, op := Go.Op.convert 3 26 (Go.Operand.tmp 70), type := 26, pos := "prog.go:144", after := #[{ on := 2, ground := Go.Ground.data }, { on := 5, ground := Go.Ground.gcOnly Go.Departure.lateStores }], guard := none }) (v := .int .u64 EN) rfl (by kernel_rfl) (by kernel_rfl) (by kernel_rfl) (fun _ _ _ h => h) (Or.inl ⟨by rfl, fun w' hS' => by first | rfl | (go_simp; done) | (go_simp; rfl)⟩) KE.out ?_
      try simp only [Act.put, List.setIfInBounds_toArray, List.set_cons_zero, List.set_cons_succ]
      refine wpAnyH_take (i := 4) (oi := { dst := some 4, op := Go.Op.assign (Go.Operand.tmp 68), type := 3, pos := "prog.go:144", after := #[{ on := 0, ground := Go.Ground.data }, { on := 0, ground := Go.Ground.phase }, { on := 1, ground := Go.Ground.textOnly Go.Departure.lateStores }, { on := 2, ground := Go.Ground.textOnly Go.Departure.lateStores }, { on := 3, ground := Go.Ground.textOnly Go.Departure.lateStores }], guard := none }) (v := .int .i64 r) rfl (by kernel_rfl) (by kernel_rfl) (by kernel_rfl) (fun _ _ _ h => h) (Or.inl ⟨by rfl, fun w' hS' => by first | rfl | (go_simp; done) | (go_simp; rfl)⟩) KE.out ?_
      try simp only [Act.put, List.setIfInBounds_toArray, List.set_cons_zero, List.set_cons_succ]
      refine wpAnyH_ready (rs := [5]) (by kernel_rfl) (by simp) ?_
      refine AllReadyH.cons (o := { dst := none, op := Go.Op.store 29 (Go.Operand.tmp 5) (Go.Operand.tmp 69), type := 0, pos := "prog.go:144", after := #[{ on := 1, ground := Go.Ground.data }, { on := 4, ground := Go.Ground.chain }, { on := 0, ground := Go.Ground.phase }, { on := 1, ground := Go.Ground.phase }, { on := 2, ground := Go.Ground.textOnly Go.Departure.lateStores }, { on := 3, ground := Go.Ground.textOnly Go.Departure.lateStores }, { on := 4, ground := Go.Ground.phase }], guard := none }) rfl (fun K' hK => ?_) AllReadyH.nil
      rw [if_pos (by rfl)]
      refine wp_store_row 29 _ _ rfl rb (hartC 16384 (256 + en)) rfl rfl 29 _ BR2.out hart_info rfl (hart_all _ _) ?_
      have KF := Lib.hid (show (World.setRow wc.drew rb (hartC 16384 (256 + en))).heap[hb]? = _ from (setRow_other _ _ _ _ NE.out).trans KE.out)
      refine hK.out _ _ (KF.out) (fun hK2 => ?_)
      clear hK K'
      try simp only [Act.put, List.setIfInBounds_toArray, List.set_cons_zero, List.set_cons_succ]
      refine wpAnyH_take (i := 6) (oi := { dst := some 6, op := Go.Op.assign (Go.Operand.tmp 71), type := 26, pos := "prog.go:144", after := #[{ on := 3, ground := Go.Ground.data }, { on := 5, ground := Go.Ground.chain }, { on := 0, ground := Go.Ground.phase }, { on := 1, ground := Go.Ground.phase }, { on := 2, ground := Go.Ground.phase }, { on := 3, ground := Go.Ground.phase }, { on := 4, ground := Go.Ground.phase }, { on := 5, ground := Go.Ground.phase }], guard := none }) (v := .int .u64 EN) rfl (by kernel_rfl) (by kernel_rfl) (by kernel_rfl) (fun _ _ _ h => h) (Or.inl ⟨by rfl, fun w' hS' => by first | rfl | (go_simp; done) | (go_simp; rfl)⟩) KF.out ?_
      try simp only [Act.put, List.setIfInBounds_toArray, List.set_cons_zero, List.set_cons_succ]
      refine wpAnyH_take (i := 7) (oi := { dst := some 7, op := Go.Op.assign (Go.Operand.const (Go.Value.int Go.IntKind.i64 0)), type := 30, pos := "prog.go:144", after := #[{ on := 6, ground := Go.Ground.chain }, { on := 0, ground := Go.Ground.phase }, { on := 1, ground := Go.Ground.phase }, { on := 2, ground := Go.Ground.phase }, { on := 3, ground := Go.Ground.phase }, { on := 4, ground := Go.Ground.phase }, { on := 5, ground := Go.Ground.phase }, { on := 6, ground := Go.Ground.phase }], guard := none }) (v := .int .i64 0) rfl (by kernel_rfl) (by kernel_rfl) (by kernel_rfl) (fun _ _ _ h => h) (Or.inl ⟨by rfl, fun w' hS' => by first | rfl | (go_simp; done) | (go_simp; rfl)⟩) KF.out ?_
      try simp only [Act.put, List.setIfInBounds_toArray, List.set_cons_zero, List.set_cons_succ]
      refine wpAnyH_done (by kernel_rfl) ?_ _
      go_wp2_with fail
      refine bodyPost_ret (res_load rfl _ _ _ rb _ rfl (ldHt (setRow_heap _ _ _ (hartC 16384 (256 + en)) _ _ BR2.out))) rfl ⟨rfl, ldrA_out KH.out.right.drop2 (SP.out _) HR.out _⟩
end Go.Proofs.YtdlglnoffpnonaaGreat.P
