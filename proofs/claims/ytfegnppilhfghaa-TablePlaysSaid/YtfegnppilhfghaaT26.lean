/- Stage 14: the walk of TablePlays. No condition. -/
import Derived.Test.YtfegnppilhfghaaT25
import Derived.Deep.CutBlock
import Derived.Deep.LoopGhost
import Derived.Deep.RegionHeld3
import Derived.Deep.DeepCutAuto
set_option linter.unusedVariables false
namespace Go.Proofs.Ytfegnppilhfghaa.P
open Go.RowKit
theorem s6_drew {w0 w : World} {tb ub bb ab : Nat} {T U : Nat → RowV} {B : Nat → Bool} {A : Array Value} (h : S6 w0 w tb ub bb ab T U B A) : S6 w0 w.drew tb ub bb ab T U B A := h.gr (Below.drew (Below.refl _ _))
theorem s6_n {w0 w : World} {tb ub bb ab : Nat} {T U : Nat → RowV} {B : Nat → Bool} {x y z : Value} (h : S6 w0 w tb ub bb ab T U B #[x, y, z]) : w.cell? ⟨ab, 2, none⟩ = some z := blk_cell h.2.2.2.2.1 2 rfl
theorem ex_t {w0 w : World} {tb ub bb ab : Nat} {T U : Nat → RowV} {B : Nat → Bool} {A : Array Value} {e : Operand → Value} {d : Option Tmp} {x : Operand} {ty : TypeId} {p : String} {af : Array Edge} {gd : Option (Nat × Bool)} (h : S6 w0 w tb ub bb ab T U B A) (hx : e x = .pointer (some ⟨tb, 0, none⟩)) : (execOp e ⟨d, .load 25 x, ty, p, af, gd⟩).run Try.prog w = .ok (.value (.agg (tc T))) w := by
  unfold execOp
  simp only [hx, Instr.loadAt, Instr.sureAddr, Sem.run_bind, Sem.run_pure, Result.andThen_ok, ld h.2.1]
theorem ex_u {w0 w : World} {tb ub bb ab : Nat} {T U : Nat → RowV} {B : Nat → Bool} {A : Array Value} {e : Operand → Value} {d : Option Tmp} {x : Operand} {ty : TypeId} {p : String} {af : Array Edge} {gd : Option (Nat × Bool)} (h : S6 w0 w tb ub bb ab T U B A) (hx : e x = .pointer (some ⟨ub, 0, none⟩)) : (execOp e ⟨d, .load 25 x, ty, p, af, gd⟩).run Try.prog w = .ok (.value (.agg (tc U))) w := by
  unfold execOp
  simp only [hx, Instr.loadAt, Instr.sureAddr, Sem.run_bind, Sem.run_pure, Result.andThen_ok, ld h.2.2.1]
theorem ld_busy {w : World} {g : Nat} {B : Nat → Bool} (h : w.heap[g]? = some (.cells (bc B) 27)) : (loadVar 27 ⟨g, 0, none⟩).run Try.prog w = .ok (.agg (bc B)) w :=
  run_loadVar_mid w g 0 27 (bc B).toList _ (fun j v hv => blk_cell h (0 + j) (by rw [Nat.zero_add]; rwa [Array.getElem?_toList] at hv)) Try.underlying27 rfl (by kernel_rfl)
theorem ex_b {w0 w : World} {tb ub bb ab : Nat} {T U : Nat → RowV} {B : Nat → Bool} {A : Array Value} {e : Operand → Value} {d : Option Tmp} {x : Operand} {ty : TypeId} {p : String} {af : Array Edge} {gd : Option (Nat × Bool)} (h : S6 w0 w tb ub bb ab T U B A) (hx : e x = .pointer (some ⟨bb, 0, none⟩)) : (execOp e ⟨d, .load 27 x, ty, p, af, gd⟩).run Try.prog w = .ok (.value (.agg (bc B))) w := by
  unfold execOp
  simp only [hx, Instr.loadAt, Instr.sureAddr, Sem.run_bind, Sem.run_pure, Result.andThen_ok, ld_busy h.2.2.2.1]
/-- From wc on only new memory, and a table there. -/
def HTb (wc w : World) (g : Nat) (T : Nat → RowV) : Prop := Gr wc w ∧ w.heap[g]? = some (.cells (tc T) 25)
theorem HTb.gr {wc w w' : World} {g : Nat} {T : Nat → RowV} (h : HTb wc w g T) (k : Gr w w') : HTb wc w' g T := ⟨gtrans h.1 k, blk_gr k h.2⟩
theorem htb_drew {wc w : World} {g : Nat} {T : Nat → RowV} (h : HTb wc w g T) : HTb wc w.drew g T := ⟨Below.drew h.1, h.2⟩
theorem htb_ld {wc w : World} {g : Nat} {T : Nat → RowV} (h : HTb wc w g T) : (loadVar 25 ⟨g, 0, none⟩).run Try.prog w = .ok (.agg (tc T)) w := ld h.2
theorem htb_ex {wc w : World} {g : Nat} {T : Nat → RowV} {e : Operand → Value} {d : Option Tmp} {x : Operand} {ty : TypeId} {p : String} {af : Array Edge} {gd : Option (Nat × Bool)} (h : HTb wc w g T) (hx : e x = .pointer (some ⟨g, 0, none⟩)) : (execOp e ⟨d, .load 25 x, ty, p, af, gd⟩).run Try.prog w = .ok (.value (.agg (tc T))) w := by
  unfold execOp
  simp only [hx, Instr.loadAt, Instr.sureAddr, Sem.run_bind, Sem.run_pure, Result.andThen_ok, htb_ld h]
theorem gr_drew {a w : World} (h : Gr a w) : Gr a w.drew := Below.drew h
theorem range_drew {w : World} {b o : Nat} {cs : List Value} (h : w.rangeAt b o cs) : w.drew.rangeAt b o cs := fun j v hv => h j v hv
theorem cell14_drew {w : World} {p : Addr} {v : Value} (h : w.cell? p = some v) : w.drew.cell? p = some v := h
set_option maxRecDepth 100000 in
set_option maxHeartbeats 40000000 in
theorem l_plays14 (T : Nat → RowV) (fst : Bool) (B : Nat → Bool) (w : World) (o : Option Addr) (len cap bl off : Nat) (f : Nat → AActV) (hlen : len ≤ 9223372036854775807) (ho : 0 < len → o = some ⟨bl, off, none⟩ ∧ bl < w.heap.size) (hl : AActs w bl off len f) :
    Calls Try.prog 3 #[.agg (pc T fst B (.slice o len cap))] w fun e w' => e = .returned (.bool true) ∧ Gr w w' := by
  have hc := pc_size T fst B (.slice o len cap)
  have HA := Lib.hid hl
  have HO := Lib.hid ho
  clear hl ho
  have A0 := Lib.hid (blk_new w (.cells (pc T fst B (.slice o len cap)) 30))
  have hz32 : (#[.int .i64 0, .int .i64 0, .int .i64 0, .bool false, .int .i64 0, .int .i64 0, .int .i64 0, .bool false, .int .i64 0, .int .i64 0, .int .i64 0, .bool false, .int .i64 0, .int .i64 0, .int .i64 0, .bool false, .int .i64 0, .int .i64 0, .int .i64 0, .bool false, .int .i64 0, .int .i64 0, .int .i64 0, .bool false, .int .i64 0, .int .i64 0, .int .i64 0, .bool false, .int .i64 0, .int .i64 0, .int .i64 0, .bool false] : Array Value) = tc Z0 := rfl
  have hz8 : (#[.bool false, .bool false, .bool false, .bool false, .bool false, .bool false, .bool false, .bool false] : Array Value) = bc noB := rfl
  go_enter Try.func3, Try.ntmps3
  go_upto_region 1 with fail
  generalize hw0 : w.alloc (.cells (pc T fst B (.slice o len cap)) 30) = wa at *
  have l0 := blk_lt A0.out
  have N1 := Lib.hid (blk_new wa (.cells (tc Z0) 25))
  go_upto_region 2 with ((first | (refine wpList_load_mid rfl 25 _ rfl w.heap.size 0 rfl (tc T).toList _ (fun j v h => blk_cell A0.out (0 + j) (by rw [Nat.zero_add]; exact pc_tab T fst B _ j v h)) Try.underlying25 rfl (by kernel_rfl) ?_) | (refine wpList_store_row rfl 25 _ _ rfl _ _ rfl rfl 25 _ N1.out (tc_info _) (tc_szs _ _) (tc_one _) ?_)))
  have T1 : RowKit.Hid (((wa.alloc (.cells (tc Z0) 25)).setRow wa.heap.size (tc T)).heap[wa.heap.size]? = some (.cells (tc T) 25)) := Lib.hid (setRow_heap _ _ _ _ _ _ N1.out)
  have A1 : RowKit.Hid (((wa.alloc (.cells (tc Z0) 25)).setRow wa.heap.size (tc T)).heap[w.heap.size]? = some (.cells (pc T fst B (.slice o len cap)) 30)) := by
    have := blk_alloc (.cells (tc Z0) 25) A0.out
    rw [← setRow_other (wa.alloc (.cells (tc Z0) 25)) wa.heap.size w.heap.size (tc T) (by omega)] at this
    exact this
  have GA : RowKit.Hid (Gr w wa) := by rw [← hw0]; exact Below.alloc (Below.refl _ _) (Nat.le_refl _) _
  have G1 : RowKit.Hid (Gr w ((wa.alloc (.cells (tc Z0) 25)).setRow wa.heap.size (tc T))) := Lib.hid (below_setRow (Below.alloc GA.out GA.out.size _) GA.out.size _)
  clear N1 hw0 l0
  generalize hw1 : (wa.alloc (.cells (tc Z0) 25)).setRow wa.heap.size (tc T) = wb at *
  clear hw1
  have l0 := blk_lt A1.out
  have l1 := blk_lt T1.out
  have p32 := blk_cell A1.out 32 (pc_first T fst B _)
  go_upto_region 3 with fail
  have N2 := Lib.hid (blk_new wb (.cells (bc noB) 27))
  go_upto_region 4 with ((first | (refine wpList_load_mid rfl 27 _ rfl w.heap.size 33 rfl (bc B).toList _ (fun j v h => blk_cell A1.out (33 + j) (pc_busy T fst B _ j v h)) Try.underlying27 rfl (by kernel_rfl) ?_) | (refine wpList_store_row rfl 27 _ _ rfl _ (bc B) rfl rfl 27 _ N2.out (bc_info _) rfl (bc_one _) ?_)))
  have U2 : RowKit.Hid (((wb.alloc (.cells (bc noB) 27)).setRow wb.heap.size (bc B)).heap[wb.heap.size]? = some (.cells (bc B) 27)) := Lib.hid (setRow_heap _ _ _ _ _ _ N2.out)
  have A2 : RowKit.Hid (((wb.alloc (.cells (bc noB) 27)).setRow wb.heap.size (bc B)).heap[w.heap.size]? = some (.cells (pc T fst B (.slice o len cap)) 30)) := by
    have := blk_alloc (.cells (bc noB) 27) A1.out
    rw [← setRow_other (wb.alloc (.cells (bc noB) 27)) wb.heap.size w.heap.size (bc B) (by omega)] at this
    exact this
  have T2 : RowKit.Hid (((wb.alloc (.cells (bc noB) 27)).setRow wb.heap.size (bc B)).heap[wa.heap.size]? = some (.cells (tc T) 25)) := by
    have := blk_alloc (.cells (bc noB) 27) T1.out
    rw [← setRow_other (wb.alloc (.cells (bc noB) 27)) wb.heap.size wa.heap.size (bc B) (by omega)] at this
    exact this
  have G2 : RowKit.Hid (Gr w ((wb.alloc (.cells (bc noB) 27)).setRow wb.heap.size (bc B))) := Lib.hid (below_setRow (Below.alloc G1.out G1.out.size _) G1.out.size _)
  have lta : RowKit.Hid (w.heap.size ≤ wa.heap.size) := Lib.hid GA.out.size
  have ltb : RowKit.Hid (wa.heap.size < wb.heap.size) := Lib.hid l1
  clear N2 l0 l1 p32
  generalize hw2 : (wb.alloc (.cells (bc noB) 27)).setRow wb.heap.size (bc B) = wd at *
  clear hw2
  have p41 := blk_cell A2.out 41 (pc_last T fst B _)
  go_wp2_with fail
  refine (c_shown _).mono ?_; rintro e w1 ⟨rfl, g1⟩
  have T3 := Lib.hid (blk_gr g1 T2.out)
  have U3 := Lib.hid (blk_gr g1 U2.out)
  have G3 := Lib.hid (gtrans G2.out g1)
  clear g1 p41 T2 U2 A2 A1 A0 T1 G1 G2 GA
  generalize wa.heap.size = tb at *
  generalize wb.heap.size = bb at *
  go_upto_if 42 with (fail)
  go_cut [] (fun wx => ∃ T0 : Nat → RowV, (fst = true → T0 = F0) ∧ Gr w wx ∧ wx.heap[tb]? = some (.cells (tc T0) 25) ∧ wx.heap[bb]? = some (.cells (bc B) 27))
  case first =>
    cases fst with
    | true =>
      go_wp2_with fail
      refine (c_first _).mono ?_; rintro e w2 ⟨rfl, g2⟩
      have T4 := Lib.hid (blk_gr g2 T3.out)
      have U4 := Lib.hid (blk_gr g2 U3.out)
      have G4 := Lib.hid (gtrans G3.out g2)
      clear g2
      go_wp2_with (first | (refine wpList_store_row rfl 25 _ _ rfl _ _ rfl rfl 25 _ T4.out (tc_info _) (tc_szs _ _) (tc_one _) ?_))
      go_meet
      exact ⟨F0, fun _ => rfl, below_setRow G4.out lta.out _, setRow_heap _ _ _ _ _ _ T4.out, by rw [setRow_other _ _ _ _ (by have := ltb.out; omega)]; exact U4.out⟩
    | false =>
      go_wp2_with fail
      go_meet
      exact ⟨T, fun h => Bool.noConfusion h, G3.out, T3.out, U3.out⟩
  case rest =>
    obtain ⟨T0, hF, hg, ht, hu⟩ := hcut
    have HF := Lib.hid hF
    have G4 := Lib.hid hg
    have T4 := Lib.hid ht
    have U4 := Lib.hid hu
    clear hF hg ht hu T3 U3 G3
    go_upto_region 8 with fail
    go_cut [49] (fun s49 wx => s49 = .bool false ∧ Gr w wx ∧ wx.heap[tb]? = some (.cells (tc T0) 25) ∧ wx.heap[bb]? = some (.cells (bc B) 27))
    case first =>
      cases fst with
      | false =>
        have h0 : HTb wc wc tb T0 := ⟨Below.refl _ _, T4.out⟩
        refine wp_region_held_drew (S := fun w' => HTb wc w' tb T0) (by kernel_rfl) (htb_drew h0) (fun hH => ?_)
        refine wpAnyH_take (i := 0) (oi := { dst := some 44, op := Go.Op.move (Go.Operand.tmp 4), type := 4, pos := "law.go:43", after := #[], guard := none }) (v := .bool false) rfl (by kernel_rfl) (by kernel_rfl) (by kernel_rfl) (fun _ _ _ h => h) (Or.inl ⟨by rfl, fun w' hS' => by first | rfl | (go_simp; done) | (go_simp; rfl)⟩) hH ?_
        try simp only [Act.put, List.setIfInBounds_toArray, List.set_cons_zero, List.set_cons_succ]
        refine wpAnyH_take (i := 1) (oi := { dst := some 45, op := Go.Op.move (Go.Operand.tmp 44), type := 4, pos := "law.go:43", after := #[{ on := 0, ground := Go.Ground.data }], guard := none }) (v := .bool false) rfl (by kernel_rfl) (by kernel_rfl) (by kernel_rfl) (fun _ _ _ h => h) (Or.inl ⟨by rfl, fun w' hS' => by first | rfl | (go_simp; done) | (go_simp; rfl)⟩) hH ?_
        try simp only [Act.put, List.setIfInBounds_toArray, List.set_cons_zero, List.set_cons_succ]
        refine wpAnyH_take (i := 2) (oi := { dst := some 46, op := Go.Op.load 25 (Go.Operand.tmp 3), type := 25, pos := "law.go:43", after := #[{ on := 1, ground := Go.Ground.guard }], guard := some (1, true) }) (v := undef) rfl (by kernel_rfl) (by kernel_rfl) (by kernel_rfl) (fun _ _ _ h => h) (Or.inr ⟨by rfl, rfl⟩) hH ?_
        try simp only [Act.put, List.setIfInBounds_toArray, List.set_cons_zero, List.set_cons_succ]
        refine wpAnyH_take (i := 3) (oi := { dst := some 47, op := Go.Op.call { callee := Go.Callee.value (Go.Operand.func 10), args := #[], argTypes := #[] }, type := 25, pos := "law.go:43", after := #[{ on := 1, ground := Go.Ground.chain }, { on := 1, ground := Go.Ground.guard }], guard := some (1, true) }) (v := undef) rfl (by kernel_rfl) (by kernel_rfl) (by kernel_rfl) (fun _ _ _ h => h) (Or.inr ⟨by rfl, rfl⟩) hH ?_
        try simp only [Act.put, List.setIfInBounds_toArray, List.set_cons_zero, List.set_cons_succ]
        refine wpAnyH_take (i := 4) (oi := { dst := some 48, op := Go.Op.binOp Go.BinOp.neq 25 (Go.Operand.tmp 46) (Go.Operand.tmp 47) 25, type := 4, pos := "law.go:43", after := #[{ on := 2, ground := Go.Ground.data }, { on := 3, ground := Go.Ground.data }, { on := 1, ground := Go.Ground.guard }], guard := some (1, true) }) (v := undef) rfl (by kernel_rfl) (by kernel_rfl) (by kernel_rfl) (fun _ _ _ h => h) (Or.inr ⟨by rfl, rfl⟩) hH ?_
        try simp only [Act.put, List.setIfInBounds_toArray, List.set_cons_zero, List.set_cons_succ]
        refine wpAnyH_take (i := 5) (oi := { dst := some 49, op := Go.Op.pick (Go.Operand.tmp 45) (Go.Operand.tmp 48) (Go.Operand.const (Go.Value.bool false)), type := 4, pos := "law.go:43", after := #[{ on := 1, ground := Go.Ground.data }, { on := 4, ground := Go.Ground.data }], guard := none }) (v := .bool false) rfl (by kernel_rfl) (by kernel_rfl) (by kernel_rfl) (fun _ _ _ h => h) (Or.inl ⟨by rfl, fun w' hS' => by first | rfl | (go_simp; done) | (go_simp; rfl)⟩) hH ?_
        try simp only [Act.put, List.setIfInBounds_toArray, List.set_cons_zero, List.set_cons_succ]
        refine wpAnyH_done (by kernel_rfl) ?_ _
        go_wp2_with fail
        go_meet
        exact ⟨rfl, gtrans G4.out hH.1, hH.2, blk_gr hH.1 U4.out⟩
      | true =>
        have e := HF.out rfl
        subst e
        have eqt := eqT F0
        have h0 : HTb wc wc tb F0 := ⟨Below.refl _ _, T4.out⟩
        refine wp_region_held_drew (S := fun w' => HTb wc w' tb F0) (by kernel_rfl) (htb_drew h0) (fun hH => ?_)
        refine wpAnyH_take (i := 0) (oi := { dst := some 44, op := Go.Op.move (Go.Operand.tmp 4), type := 4, pos := "law.go:43", after := #[], guard := none }) (v := .bool true) rfl (by kernel_rfl) (by kernel_rfl) (by kernel_rfl) (fun _ _ _ h => h) (Or.inl ⟨by rfl, fun w' hS' => by first | rfl | (go_simp; done) | (go_simp; rfl)⟩) hH ?_
        try simp only [Act.put, List.setIfInBounds_toArray, List.set_cons_zero, List.set_cons_succ]
        refine wpAnyH_take (i := 1) (oi := { dst := some 45, op := Go.Op.move (Go.Operand.tmp 44), type := 4, pos := "law.go:43", after := #[{ on := 0, ground := Go.Ground.data }], guard := none }) (v := .bool true) rfl (by kernel_rfl) (by kernel_rfl) (by kernel_rfl) (fun _ _ _ h => h) (Or.inl ⟨by rfl, fun w' hS' => by first | rfl | (go_simp; done) | (go_simp; rfl)⟩) hH ?_
        try simp only [Act.put, List.setIfInBounds_toArray, List.set_cons_zero, List.set_cons_succ]
        refine wpAnyH_take (i := 2) (oi := { dst := some 46, op := Go.Op.load 25 (Go.Operand.tmp 3), type := 25, pos := "law.go:43", after := #[{ on := 1, ground := Go.Ground.guard }], guard := some (1, true) }) (v := .agg (tc F0)) rfl (by kernel_rfl) (by kernel_rfl) (by kernel_rfl) (fun _ _ _ h => h) (Or.inl ⟨by rfl, fun w' hS' => htb_ex hS' rfl⟩) hH ?_
        try simp only [Act.put, List.setIfInBounds_toArray, List.set_cons_zero, List.set_cons_succ]
        refine wpAnyH_ready (rs := [3]) (by kernel_rfl) (by simp) ?_
        refine AllReadyH.cons (o := { dst := some 47, op := Go.Op.call { callee := Go.Callee.value (Go.Operand.func 10), args := #[], argTypes := #[] }, type := 25, pos := "law.go:43", after := #[{ on := 1, ground := Go.Ground.chain }, { on := 1, ground := Go.Ground.guard }], guard := some (1, true) }) rfl (fun K hK => ?_) AllReadyH.nil
        rw [if_pos (by rfl)]
        go_simp
        refine (c_rfirst _).mono ?_; rintro e w2 ⟨rfl, g2⟩
        go_wp2_with fail
        refine hK.out _ _ (HTb.gr hH g2) (fun hH2 => ?_)
        clear hK K
        try simp only [Act.put, List.setIfInBounds_toArray, List.set_cons_zero, List.set_cons_succ]
        refine wpAnyH_take (i := 4) (oi := { dst := some 48, op := Go.Op.binOp Go.BinOp.neq 25 (Go.Operand.tmp 46) (Go.Operand.tmp 47) 25, type := 4, pos := "law.go:43", after := #[{ on := 2, ground := Go.Ground.data }, { on := 3, ground := Go.Ground.data }, { on := 1, ground := Go.Ground.guard }], guard := some (1, true) }) (v := .bool false) rfl (by kernel_rfl) (by kernel_rfl) (by kernel_rfl) (fun _ _ _ h => h) (Or.inl ⟨by rfl, fun w' hS' => by first | rfl | (go_simp; done) | (go_simp; rfl)⟩) hH2 ?_
        try simp only [Act.put, List.setIfInBounds_toArray, List.set_cons_zero, List.set_cons_succ]
        refine wpAnyH_take (i := 5) (oi := { dst := some 49, op := Go.Op.pick (Go.Operand.tmp 45) (Go.Operand.tmp 48) (Go.Operand.const (Go.Value.bool false)), type := 4, pos := "law.go:43", after := #[{ on := 1, ground := Go.Ground.data }, { on := 4, ground := Go.Ground.data }], guard := none }) (v := .bool false) rfl (by kernel_rfl) (by kernel_rfl) (by kernel_rfl) (fun _ _ _ h => h) (Or.inl ⟨by rfl, fun w' hS' => by first | rfl | (go_simp; done) | (go_simp; rfl)⟩) hH2 ?_
        try simp only [Act.put, List.setIfInBounds_toArray, List.set_cons_zero, List.set_cons_succ]
        refine wpAnyH_done (by kernel_rfl) ?_ _
        go_wp2_with fail
        go_meet
        exact ⟨rfl, gtrans G4.out hH2.1, hH2.2, blk_gr hH2.1 U4.out⟩
    case rest =>
      obtain ⟨rfl, hg, ht, hu⟩ := hcut
      have G5 := Lib.hid hg
      have T5 := Lib.hid ht
      have U5 := Lib.hid hu
      clear hg ht hu T4 U4 G4 HF
      rename_i wp
      have N5 := Lib.hid (blk_new wc (.cells (tc Z0) 25))
      go_upto_region 11 with (first | (refine wpList_load_row rfl 25 _ rfl _ rfl 25 _ (0, 0) _ T5.out Try.underlying25 rfl (by kernel_rfl) ?_) | (refine wpList_store_row rfl 25 _ _ rfl _ _ rfl rfl 25 _ N5.out (tc_info _) (tc_szs _ _) (tc_one _) ?_))
      have gn := gr_new wc T0
      have T6 : RowKit.Hid (((wc.alloc (.cells (tc Z0) 25)).setRow wc.heap.size (tc T0)).heap[tb]? = some (.cells (tc T0) 25)) := Lib.hid (blk_gr gn T5.out)
      have U6 : RowKit.Hid (((wc.alloc (.cells (tc Z0) 25)).setRow wc.heap.size (tc T0)).heap[bb]? = some (.cells (bc B) 27)) := Lib.hid (blk_gr gn U5.out)
      have X6 : RowKit.Hid (((wc.alloc (.cells (tc Z0) 25)).setRow wc.heap.size (tc T0)).heap[wc.heap.size]? = some (.cells (tc T0) 25)) := Lib.hid (heap_new wc T0)
      have G6 : RowKit.Hid (Gr w ((wc.alloc (.cells (tc Z0) 25)).setRow wc.heap.size (tc T0))) := Lib.hid (gtrans G5.out gn)
      have ltu : RowKit.Hid (bb < wc.heap.size) := Lib.hid (blk_lt U5.out)
      clear gn N5 T5 U5 G5
      generalize (wc.alloc (.cells (tc Z0) 25)).setRow wc.heap.size (tc T0) = we at *
      generalize wc.heap.size = ub at *
      go_wp2_with fail
      go_loopg [9] len (fun g vi wr => ∃ (i : Nat) (T : Nat → RowV), i ≤ len ∧ g = len - i ∧ vi = .int .i64 i ∧ Gr w wr ∧ wr.heap[tb]? = some (.cells (tc T) 25) ∧ wr.heap[ub]? = some (.cells (tc T) 25) ∧ wr.heap[bb]? = some (.cells (bc B) 27))
      case atStart => exact ⟨0, T0, Nat.zero_le _, rfl, rfl, G6.out, T6.out, X6.out, U6.out⟩
      case round =>
        clear T6 U6 X6 G6
        obtain ⟨i, T, hi, rfl, rfl, hgr, ht, hu, hb⟩ := hrel
        have HGR := Lib.hid hgr
        have HT := Lib.hid ht
        have HU := Lib.hid hu
        have HB := Lib.hid hb
        clear hgr ht hu hb
        by_cases hlt : i < len
        · obtain ⟨rfl, hbl⟩ := HO.out (by omega)
          obtain ⟨⟨huk, hup, hun⟩, a0', a1', a2'⟩ := HA.out i hlt
          have c0 := kcell HGR.out a0'
          have c1 := kcell HGR.out a1'
          have c2 := kcell HGR.out a2'
          clear a0' a1' a2' huk hup hun
          go_upto_region 15 with fail
          have H6 : RowKit.Hid (S6 w (wr.alloc (.cells #[.int .i64 (f i).kind, .int .i64 (f i).pid, .int .i64 (f i).n] 34)) tb ub bb wr.heap.size T T B #[.int .i64 (f i).kind, .int .i64 (f i).pid, .int .i64 (f i).n]) := Lib.hid ⟨Below.alloc HGR.out HGR.out.size _, blk_alloc _ HT.out, blk_alloc _ HU.out, blk_alloc _ HB.out, blk_new wr _, ⟨by have := lta.out; omega, by have := lta.out; have := ltb.out; have := ltu.out; omega⟩, ⟨by have := ltb.out; have := ltu.out; omega, by have := ltb.out; omega, by have := ltu.out; omega, by have := blk_lt HT.out; omega, by have := blk_lt HU.out; omega⟩⟩
          clear c0 c1 c2 HT HU HB
          generalize wr.alloc (.cells #[.int .i64 (f i).kind, .int .i64 (f i).pid, .int .i64 (f i).n] 34) = wb at *
          generalize wr.heap.size = ab at *
          have d0 := blk_cell H6.out.2.2.2.2.1 0 (v := .int .i64 (f i).kind) rfl
          go_upto_block 2 with fail
          go_cut [] (fun wx => ∃ T' : Nat → RowV, S6 w wx tb ub bb ab T' T' B #[.int .i64 (f i).kind, .int .i64 (f i).pid, .int .i64 (f i).n])
          case first =>
            generalize hkd : (f i).kind = kd at *
            by_cases hk1 : kd = 1
            · rw [hk1] at hkd
              subst hk1
              have c1 := blk_cell H6.out.2.2.2.2.1 1 (v := .int .i64 (f i).pid) rfl
              have CF := fun w => c_fork T (f i).pid w
              have CR := fun w => c_rfork T (f i).pid w
              generalize forkN T (f i).pid = xn at *
              generalize forkE T (f i).pid = xe at *
              generalize forkT T (f i).pid = X at *
              go_wp2_with (first | (refine wpList_load_row rfl 25 _ rfl _ rfl 25 _ (0, 0) _ H6.out.2.1 Try.underlying25 rfl (by kernel_rfl) ?_))
              refine (CF _).mono ?_; rintro e w5 ⟨rfl, g5⟩
              have H7 := Lib.hid (H6.out.gr g5)
              have N7 := Lib.hid (blk_new w5 (.cells (tc Z0) 25))
              clear g5 c1 
              go_upto_region 18 with (first | (refine wpList_store_row rfl 25 _ _ rfl _ _ rfl rfl 25 _ N7.out (tc_info _) (tc_szs _ _) (tc_one _) ?_))
              have H8 := Lib.hid (H7.out.gr (gr_new w5 X))
              have X8 := Lib.hid (heap_new w5 X)
              clear N7 CF
              generalize hw6 : (w5.alloc (.cells (tc Z0) 25)).setRow w5.heap.size (tc X) = w6 at *
              clear hw6 H7
              generalize w5.heap.size = xb at *
              have c1 := blk_cell H8.out.2.2.2.2.1 1 (v := .int .i64 (f i).pid) rfl
              go_wp2_with (first | (refine wpList_load_row rfl 25 _ rfl _ rfl 25 _ (0, 0) _ H8.out.2.2.1 Try.underlying25 rfl (by kernel_rfl) ?_))
              refine (CR _).mono ?_; rintro e w7 ⟨rfl, g7⟩
              have H9 := Lib.hid (H8.out.gr g7)
              have X9 := Lib.hid (blk_gr g7 X8.out)
              have N9 := Lib.hid (blk_new w7 (.cells (tc Z0) 25))
              clear g7 c1  H8 X8
              go_upto_region 19 with (first | (refine wpList_store_row rfl 25 _ _ rfl _ _ rfl rfl 25 _ N9.out (tc_info _) (tc_szs _ _) (tc_one _) ?_))
              have H10 := Lib.hid (H9.out.gr (gr_new w7 X))
              have X10 := Lib.hid (blk_gr (gr_new w7 X) X9.out)
              have Y10 := Lib.hid (heap_new w7 X)
              have ny : RowKit.Hid (w7.heap.size ≠ tb) := Lib.hid (by have := blk_lt H9.out.2.1; omega)
              clear N9 CR H9 X9
              generalize hw8 : (w7.alloc (.cells (tc Z0) 25)).setRow w7.heap.size (tc X) = w8 at *
              clear hw8
              generalize w7.heap.size = yb at *
              have eqt := eqT X
              go_upto_region 21 with (first | (refine wpList_load_row rfl 25 _ rfl _ rfl 25 _ (0, 0) _ X10.out Try.underlying25 rfl (by kernel_rfl) ?_) | (refine wpList_load_row rfl 25 _ rfl _ rfl 25 _ (0, 0) _ Y10.out Try.underlying25 rfl (by kernel_rfl) ?_))
              clear eqt
              go_upto_region 22 with (first | (refine wpList_load_row rfl 25 _ rfl _ rfl 25 _ (0, 0) _ X10.out Try.underlying25 rfl (by kernel_rfl) ?_) | (refine wpList_store_row rfl 25 _ _ rfl _ _ rfl rfl 25 _ H10.out.2.1 (tc_info _) (tc_szs _ _) (tc_one _) ?_))
              have H11 := Lib.hid (H10.out.setT X)
              have Y11 : RowKit.Hid ((w8.setRow tb (tc X)).heap[yb]? = some (.cells (tc X) 25)) := Lib.hid (by rw [setRow_other _ _ _ _ ny.out]; exact Y10.out)
              clear H10 X10 Y10 ny
              generalize w8.setRow tb (tc X) = w9 at *
              go_wp2_with (first | (refine wpList_load_row rfl 25 _ rfl _ rfl 25 _ (0, 0) _ Y11.out Try.underlying25 rfl (by kernel_rfl) ?_) | (refine wpList_store_row rfl 25 _ _ rfl _ _ rfl rfl 25 _ H11.out.2.2.1 (tc_info _) (tc_szs _ _) (tc_one _) ?_))
              go_meet
              exact ⟨X, H11.out.setU X⟩
            · by_cases hk2 : kd = 2
              · rw [hk2] at hkd
                subst hk2
                have c1 := blk_cell H6.out.2.2.2.2.1 1 (v := .int .i64 (f i).pid) rfl
                have c2 := blk_cell H6.out.2.2.2.2.1 2 (v := .int .i64 (f i).n) rfl
                have CF := fun w => c_exit T (f i).pid (f i).n w
                have CR := fun w => c_rexit T (f i).pid (f i).n w
                generalize exitE T (f i).pid = xe at *
                generalize exitT T (f i).pid (f i).n = X at *
                go_wp2_with (first | (refine wpList_load_row rfl 25 _ rfl _ rfl 25 _ (0, 0) _ H6.out.2.1 Try.underlying25 rfl (by kernel_rfl) ?_))
                refine (CF _).mono ?_; rintro e w5 ⟨rfl, g5⟩
                have H7 := Lib.hid (H6.out.gr g5)
                have N7 := Lib.hid (blk_new w5 (.cells (tc Z0) 25))
                clear g5 c1 c2
                go_upto_region 25 with (first | (refine wpList_store_row rfl 25 _ _ rfl _ _ rfl rfl 25 _ N7.out (tc_info _) (tc_szs _ _) (tc_one _) ?_))
                have H8 := Lib.hid (H7.out.gr (gr_new w5 X))
                have X8 := Lib.hid (heap_new w5 X)
                clear N7 CF
                generalize hw6 : (w5.alloc (.cells (tc Z0) 25)).setRow w5.heap.size (tc X) = w6 at *
                clear hw6 H7
                generalize w5.heap.size = xb at *
                have c1 := blk_cell H8.out.2.2.2.2.1 1 (v := .int .i64 (f i).pid) rfl
                have c2 := blk_cell H8.out.2.2.2.2.1 2 (v := .int .i64 (f i).n) rfl
                go_wp2_with (first | (refine wpList_load_row rfl 25 _ rfl _ rfl 25 _ (0, 0) _ H8.out.2.2.1 Try.underlying25 rfl (by kernel_rfl) ?_))
                refine (CR _).mono ?_; rintro e w7 ⟨rfl, g7⟩
                have H9 := Lib.hid (H8.out.gr g7)
                have X9 := Lib.hid (blk_gr g7 X8.out)
                have N9 := Lib.hid (blk_new w7 (.cells (tc Z0) 25))
                clear g7 c1 c2 H8 X8
                go_upto_region 26 with (first | (refine wpList_store_row rfl 25 _ _ rfl _ _ rfl rfl 25 _ N9.out (tc_info _) (tc_szs _ _) (tc_one _) ?_))
                have H10 := Lib.hid (H9.out.gr (gr_new w7 X))
                have X10 := Lib.hid (blk_gr (gr_new w7 X) X9.out)
                have Y10 := Lib.hid (heap_new w7 X)
                have ny : RowKit.Hid (w7.heap.size ≠ tb) := Lib.hid (by have := blk_lt H9.out.2.1; omega)
                clear N9 CR H9 X9
                generalize hw8 : (w7.alloc (.cells (tc Z0) 25)).setRow w7.heap.size (tc X) = w8 at *
                clear hw8
                generalize w7.heap.size = yb at *
                have eqt := eqT X
                go_upto_region 28 with (first | (refine wpList_load_row rfl 25 _ rfl _ rfl 25 _ (0, 0) _ X10.out Try.underlying25 rfl (by kernel_rfl) ?_) | (refine wpList_load_row rfl 25 _ rfl _ rfl 25 _ (0, 0) _ Y10.out Try.underlying25 rfl (by kernel_rfl) ?_))
                clear eqt
                go_upto_region 29 with (first | (refine wpList_load_row rfl 25 _ rfl _ rfl 25 _ (0, 0) _ X10.out Try.underlying25 rfl (by kernel_rfl) ?_) | (refine wpList_store_row rfl 25 _ _ rfl _ _ rfl rfl 25 _ H10.out.2.1 (tc_info _) (tc_szs _ _) (tc_one _) ?_))
                have H11 := Lib.hid (H10.out.setT X)
                have Y11 : RowKit.Hid ((w8.setRow tb (tc X)).heap[yb]? = some (.cells (tc X) 25)) := Lib.hid (by rw [setRow_other _ _ _ _ ny.out]; exact Y10.out)
                clear H10 X10 Y10 ny
                generalize w8.setRow tb (tc X) = w9 at *
                go_wp2_with (first | (refine wpList_load_row rfl 25 _ rfl _ rfl 25 _ (0, 0) _ Y11.out Try.underlying25 rfl (by kernel_rfl) ?_) | (refine wpList_store_row rfl 25 _ _ rfl _ _ rfl rfl 25 _ H11.out.2.2.1 (tc_info _) (tc_szs _ _) (tc_one _) ?_))
                go_meet
                exact ⟨X, H11.out.setU X⟩
              · by_cases hk3 : kd = 3
                · rw [hk3] at hkd
                  subst hk3
                  have c1 := blk_cell H6.out.2.2.2.2.1 1 (v := .int .i64 (f i).pid) rfl
                  have CF := fun w => c_wait T (f i).pid w
                  have CR := fun w => c_rwait T (f i).pid w
                  generalize waitN T (f i).pid = xn at *
                  generalize waitS T (f i).pid = xs at *
                  generalize waitE T (f i).pid = xe at *
                  generalize waitT T (f i).pid = X at *
                  go_wp2_with (first | (refine wpList_load_row rfl 25 _ rfl _ rfl 25 _ (0, 0) _ H6.out.2.1 Try.underlying25 rfl (by kernel_rfl) ?_))
                  refine (CF _).mono ?_; rintro e w5 ⟨rfl, g5⟩
                  have H7 := Lib.hid (H6.out.gr g5)
                  have N7 := Lib.hid (blk_new w5 (.cells (tc Z0) 25))
                  clear g5 c1 
                  go_upto_region 32 with (first | (refine wpList_store_row rfl 25 _ _ rfl _ _ rfl rfl 25 _ N7.out (tc_info _) (tc_szs _ _) (tc_one _) ?_))
                  have H8 := Lib.hid (H7.out.gr (gr_new w5 X))
                  have X8 := Lib.hid (heap_new w5 X)
                  clear N7 CF
                  generalize hw6 : (w5.alloc (.cells (tc Z0) 25)).setRow w5.heap.size (tc X) = w6 at *
                  clear hw6 H7
                  generalize w5.heap.size = xb at *
                  have c1 := blk_cell H8.out.2.2.2.2.1 1 (v := .int .i64 (f i).pid) rfl
                  go_wp2_with (first | (refine wpList_load_row rfl 25 _ rfl _ rfl 25 _ (0, 0) _ H8.out.2.2.1 Try.underlying25 rfl (by kernel_rfl) ?_))
                  refine (CR _).mono ?_; rintro e w7 ⟨rfl, g7⟩
                  have H9 := Lib.hid (H8.out.gr g7)
                  have X9 := Lib.hid (blk_gr g7 X8.out)
                  have N9 := Lib.hid (blk_new w7 (.cells (tc Z0) 25))
                  clear g7 c1  H8 X8
                  go_upto_region 33 with (first | (refine wpList_store_row rfl 25 _ _ rfl _ _ rfl rfl 25 _ N9.out (tc_info _) (tc_szs _ _) (tc_one _) ?_))
                  have H10 := Lib.hid (H9.out.gr (gr_new w7 X))
                  have X10 := Lib.hid (blk_gr (gr_new w7 X) X9.out)
                  have Y10 := Lib.hid (heap_new w7 X)
                  have ny : RowKit.Hid (w7.heap.size ≠ tb) := Lib.hid (by have := blk_lt H9.out.2.1; omega)
                  clear N9 CR H9 X9
                  generalize hw8 : (w7.alloc (.cells (tc Z0) 25)).setRow w7.heap.size (tc X) = w8 at *
                  clear hw8
                  generalize w7.heap.size = yb at *
                  have eqt := eqT X
                  go_upto_region 35 with (first | (refine wpList_load_row rfl 25 _ rfl _ rfl 25 _ (0, 0) _ X10.out Try.underlying25 rfl (by kernel_rfl) ?_) | (refine wpList_load_row rfl 25 _ rfl _ rfl 25 _ (0, 0) _ Y10.out Try.underlying25 rfl (by kernel_rfl) ?_))
                  clear eqt
                  go_upto_region 36 with (first | (refine wpList_load_row rfl 25 _ rfl _ rfl 25 _ (0, 0) _ X10.out Try.underlying25 rfl (by kernel_rfl) ?_) | (refine wpList_store_row rfl 25 _ _ rfl _ _ rfl rfl 25 _ H10.out.2.1 (tc_info _) (tc_szs _ _) (tc_one _) ?_))
                  have H11 := Lib.hid (H10.out.setT X)
                  have Y11 : RowKit.Hid ((w8.setRow tb (tc X)).heap[yb]? = some (.cells (tc X) 25)) := Lib.hid (by rw [setRow_other _ _ _ _ ny.out]; exact Y10.out)
                  clear H10 X10 Y10 ny
                  generalize w8.setRow tb (tc X) = w9 at *
                  go_wp2_with (first | (refine wpList_load_row rfl 25 _ rfl _ rfl 25 _ (0, 0) _ Y11.out Try.underlying25 rfl (by kernel_rfl) ?_) | (refine wpList_store_row rfl 25 _ _ rfl _ _ rfl rfl 25 _ H11.out.2.2.1 (tc_info _) (tc_szs _ _) (tc_one _) ?_))
                  go_meet
                  exact ⟨X, H11.out.setU X⟩
                · by_cases hk4 : kd = 4
                  · rw [hk4] at hkd
                    subst hk4
                    have c1 := blk_cell H6.out.2.2.2.2.1 1 (v := .int .i64 (f i).pid) rfl
                    have CF := fun w => c_kill T (f i).pid w
                    have CR := fun w => c_rkill T (f i).pid w
                    generalize killE T (f i).pid = xe at *
                    generalize killT T (f i).pid = X at *
                    go_wp2_with (first | (refine wpList_load_row rfl 25 _ rfl _ rfl 25 _ (0, 0) _ H6.out.2.1 Try.underlying25 rfl (by kernel_rfl) ?_))
                    refine (CF _).mono ?_; rintro e w5 ⟨rfl, g5⟩
                    have H7 := Lib.hid (H6.out.gr g5)
                    have N7 := Lib.hid (blk_new w5 (.cells (tc Z0) 25))
                    clear g5 c1 
                    go_upto_region 39 with (first | (refine wpList_store_row rfl 25 _ _ rfl _ _ rfl rfl 25 _ N7.out (tc_info _) (tc_szs _ _) (tc_one _) ?_))
                    have H8 := Lib.hid (H7.out.gr (gr_new w5 X))
                    have X8 := Lib.hid (heap_new w5 X)
                    clear N7 CF
                    generalize hw6 : (w5.alloc (.cells (tc Z0) 25)).setRow w5.heap.size (tc X) = w6 at *
                    clear hw6 H7
                    generalize w5.heap.size = xb at *
                    have c1 := blk_cell H8.out.2.2.2.2.1 1 (v := .int .i64 (f i).pid) rfl
                    go_wp2_with (first | (refine wpList_load_row rfl 25 _ rfl _ rfl 25 _ (0, 0) _ H8.out.2.2.1 Try.underlying25 rfl (by kernel_rfl) ?_))
                    refine (CR _).mono ?_; rintro e w7 ⟨rfl, g7⟩
                    have H9 := Lib.hid (H8.out.gr g7)
                    have X9 := Lib.hid (blk_gr g7 X8.out)
                    have N9 := Lib.hid (blk_new w7 (.cells (tc Z0) 25))
                    clear g7 c1  H8 X8
                    go_upto_region 40 with (first | (refine wpList_store_row rfl 25 _ _ rfl _ _ rfl rfl 25 _ N9.out (tc_info _) (tc_szs _ _) (tc_one _) ?_))
                    have H10 := Lib.hid (H9.out.gr (gr_new w7 X))
                    have X10 := Lib.hid (blk_gr (gr_new w7 X) X9.out)
                    have Y10 := Lib.hid (heap_new w7 X)
                    have ny : RowKit.Hid (w7.heap.size ≠ tb) := Lib.hid (by have := blk_lt H9.out.2.1; omega)
                    clear N9 CR H9 X9
                    generalize hw8 : (w7.alloc (.cells (tc Z0) 25)).setRow w7.heap.size (tc X) = w8 at *
                    clear hw8
                    generalize w7.heap.size = yb at *
                    have eqt := eqT X
                    go_upto_region 42 with (first | (refine wpList_load_row rfl 25 _ rfl _ rfl 25 _ (0, 0) _ X10.out Try.underlying25 rfl (by kernel_rfl) ?_) | (refine wpList_load_row rfl 25 _ rfl _ rfl 25 _ (0, 0) _ Y10.out Try.underlying25 rfl (by kernel_rfl) ?_))
                    clear eqt
                    go_upto_region 43 with (first | (refine wpList_load_row rfl 25 _ rfl _ rfl 25 _ (0, 0) _ X10.out Try.underlying25 rfl (by kernel_rfl) ?_) | (refine wpList_store_row rfl 25 _ _ rfl _ _ rfl rfl 25 _ H10.out.2.1 (tc_info _) (tc_szs _ _) (tc_one _) ?_))
                    have H11 := Lib.hid (H10.out.setT X)
                    have Y11 : RowKit.Hid ((w8.setRow tb (tc X)).heap[yb]? = some (.cells (tc X) 25)) := Lib.hid (by rw [setRow_other _ _ _ _ ny.out]; exact Y10.out)
                    clear H10 X10 Y10 ny
                    generalize w8.setRow tb (tc X) = w9 at *
                    go_wp2_with (first | (refine wpList_load_row rfl 25 _ rfl _ rfl 25 _ (0, 0) _ Y11.out Try.underlying25 rfl (by kernel_rfl) ?_) | (refine wpList_store_row rfl 25 _ _ rfl _ _ rfl rfl 25 _ H11.out.2.2.1 (tc_info _) (tc_szs _ _) (tc_one _) ?_))
                    go_meet
                    exact ⟨X, H11.out.setU X⟩
                  · have q1 : (kd == 1) = false := by simpa using hk1
                    have q2 : (kd == 2) = false := by simpa using hk2
                    have q3 : (kd == 3) = false := by simpa using hk3
                    have q4 : (kd == 4) = false := by simpa using hk4
                    clear hk1 hk2 hk3 hk4
                    go_wp2_with fail
                    go_meet
                    exact ⟨T, H6.out⟩
          case rest =>
            obtain ⟨T', hc'⟩ := hcut
            have HC := Lib.hid hc'
            clear hc' d0
            go_upto_region 44 with fail
            refine wp_region_held_drew (S := fun w' => S6 w w' tb ub bb ab T' T' B #[.int .i64 (f i).kind, .int .i64 (f i).pid, .int .i64 (f i).n]) (by kernel_rfl) (s6_drew HC.out) (fun hH => ?_)
            refine wpAnyH_take (i := 0) (oi := { dst := some 192, op := Go.Op.load 25 (Go.Operand.tmp 3), type := 25, pos := "law.go:83", after := #[], guard := none }) (v := .agg (tc T')) rfl (by kernel_rfl) (by kernel_rfl) (by kernel_rfl) (fun _ _ _ h => h) (Or.inl ⟨by rfl, fun w' hS' => ex_t hS' rfl⟩) hH ?_
            try simp only [Act.put, List.setIfInBounds_toArray, List.set_cons_zero, List.set_cons_succ]
            refine wpAnyH_take (i := 1) (oi := { dst := some 193, op := Go.Op.fieldAddr 34 (Go.Operand.tmp 10) 2, type := 0, pos := "law.go:83", after := #[], guard := none }) (v := .pointer (some ⟨ab, 2, none⟩)) rfl (by kernel_rfl) (by kernel_rfl) (by kernel_rfl) (fun _ _ _ h => h) (Or.inl ⟨by rfl, fun w' hS' => by first | rfl | (go_simp; done) | (go_simp; rfl)⟩) hH ?_
            try simp only [Act.put, List.setIfInBounds_toArray, List.set_cons_zero, List.set_cons_succ]
            refine wpAnyH_take (i := 2) (oi := { dst := some 194, op := Go.Op.load 3 (Go.Operand.tmp 193), type := 3, pos := "law.go:83", after := #[{ on := 1, ground := Go.Ground.data }], guard := none }) (v := .int .i64 (f i).n) rfl (by kernel_rfl) (by kernel_rfl) (by kernel_rfl) (fun _ _ _ h => h) (Or.inl ⟨by rfl, fun w' hS' => by have c := s6_n hS'; go_simp⟩) hH ?_
            try simp only [Act.put, List.setIfInBounds_toArray, List.set_cons_zero, List.set_cons_succ]
            refine wpAnyH_take (i := 3) (oi := { dst := some 195, op := Go.Op.load 27 (Go.Operand.tmp 5), type := 27, pos := "law.go:83", after := #[], guard := none }) (v := .agg (bc B)) rfl (by kernel_rfl) (by kernel_rfl) (by kernel_rfl) (fun _ _ _ h => h) (Or.inl ⟨by rfl, fun w' hS' => ex_b hS' rfl⟩) hH ?_
            try simp only [Act.put, List.setIfInBounds_toArray, List.set_cons_zero, List.set_cons_succ]
            refine wpAnyH_take (i := 5) (oi := { dst := some 197, op := Go.Op.load 25 (Go.Operand.tmp 8), type := 25, pos := "law.go:83", after := #[], guard := none }) (v := .agg (tc T')) rfl (by kernel_rfl) (by kernel_rfl) (by kernel_rfl) (fun _ _ _ h => h) (Or.inl ⟨by rfl, fun w' hS' => ex_u hS' rfl⟩) hH ?_
            try simp only [Act.put, List.setIfInBounds_toArray, List.set_cons_zero, List.set_cons_succ]
            refine wpAnyH_take (i := 6) (oi := { dst := some 198, op := Go.Op.fieldAddr 34 (Go.Operand.tmp 10) 2, type := 0, pos := "law.go:83", after := #[], guard := none }) (v := .pointer (some ⟨ab, 2, none⟩)) rfl (by kernel_rfl) (by kernel_rfl) (by kernel_rfl) (fun _ _ _ h => h) (Or.inl ⟨by rfl, fun w' hS' => by first | rfl | (go_simp; done) | (go_simp; rfl)⟩) hH ?_
            try simp only [Act.put, List.setIfInBounds_toArray, List.set_cons_zero, List.set_cons_succ]
            refine wpAnyH_take (i := 7) (oi := { dst := some 199, op := Go.Op.load 3 (Go.Operand.tmp 198), type := 3, pos := "law.go:83", after := #[{ on := 6, ground := Go.Ground.data }], guard := none }) (v := .int .i64 (f i).n) rfl (by kernel_rfl) (by kernel_rfl) (by kernel_rfl) (fun _ _ _ h => h) (Or.inl ⟨by rfl, fun w' hS' => by have c := s6_n hS'; go_simp⟩) hH ?_
            try simp only [Act.put, List.setIfInBounds_toArray, List.set_cons_zero, List.set_cons_succ]
            refine wpAnyH_take (i := 8) (oi := { dst := some 200, op := Go.Op.load 27 (Go.Operand.tmp 5), type := 27, pos := "law.go:83", after := #[], guard := none }) (v := .agg (bc B)) rfl (by kernel_rfl) (by kernel_rfl) (by kernel_rfl) (fun _ _ _ h => h) (Or.inl ⟨by rfl, fun w' hS' => ex_b hS' rfl⟩) hH ?_
            try simp only [Act.put, List.setIfInBounds_toArray, List.set_cons_zero, List.set_cons_succ]
            refine wpAnyH_ready (rs := [4]) (by kernel_rfl) (by simp) ?_
            refine AllReadyH.cons (o := { dst := some 196, op := Go.Op.call { callee := Go.Callee.value (Go.Operand.func 19), args := #[Go.Operand.tmp 192, Go.Operand.tmp 194, Go.Operand.tmp 195], argTypes := #[25, 3, 27] }, type := 3, pos := "law.go:83", after := #[{ on := 0, ground := Go.Ground.data }, { on := 2, ground := Go.Ground.data }, { on := 3, ground := Go.Ground.data }], guard := none }) rfl (fun K hK => ?_) AllReadyH.nil
            rw [if_pos (by rfl)]
            go_simp
            refine (tnext T' (f i).n B _).mono ?_; rintro e w2 ⟨rfl, g2⟩
            go_wp2_with fail
            refine hK.out _ _ (S6.gr hH g2) (fun hH2 => ?_)
            clear hK K
            try simp only [Act.put, List.setIfInBounds_toArray, List.set_cons_zero, List.set_cons_succ]
            refine wpAnyH_ready (rs := [9]) (by kernel_rfl) (by simp) ?_
            refine AllReadyH.cons (o := { dst := some 201, op := Go.Op.call { callee := Go.Callee.value (Go.Operand.func 20), args := #[Go.Operand.tmp 197, Go.Operand.tmp 199, Go.Operand.tmp 200], argTypes := #[25, 3, 27] }, type := 3, pos := "law.go:83", after := #[{ on := 5, ground := Go.Ground.data }, { on := 7, ground := Go.Ground.data }, { on := 8, ground := Go.Ground.data }, { on := 4, ground := Go.Ground.chain }], guard := none }) rfl (fun K hK => ?_) AllReadyH.nil
            rw [if_pos (by rfl)]
            go_simp
            refine (rnext T' (f i).n B _).mono ?_; rintro e w2 ⟨rfl, g2⟩
            go_wp2_with fail
            refine hK.out _ _ (S6.gr hH2 g2) (fun hH3 => ?_)
            clear hK K
            try simp only [Act.put, List.setIfInBounds_toArray, List.set_cons_zero, List.set_cons_succ]
            refine wpAnyH_take (i := 10) (oi := { dst := some 202, op := Go.Op.binOp Go.BinOp.neq 3 (Go.Operand.tmp 196) (Go.Operand.tmp 201) 3, type := 4, pos := "law.go:83", after := #[{ on := 4, ground := Go.Ground.data }, { on := 9, ground := Go.Ground.data }], guard := none }) (v := .bool false) rfl (by kernel_rfl) (by kernel_rfl) (by kernel_rfl) (fun _ _ _ h => h) (Or.inl ⟨by rfl, fun w' hS' => by first | rfl | (go_simp; done) | (go_simp; rfl)⟩) hH3 ?_
            try simp only [Act.put, List.setIfInBounds_toArray, List.set_cons_zero, List.set_cons_succ]
            refine wpAnyH_done (by kernel_rfl) ?_ _
            go_wp2_with fail
            go_roundg (len - (i + 1))
            case measure => omega
            case rel => exact ⟨i + 1, T', by omega, rfl, by go_num, hH3.1, hH3.2.1, hH3.2.2.1, hH3.2.2.2.1⟩
        · have hil : i = len := by omega
          subst hil
          go_wp2_with fail
          go_ret
          exact ⟨rfl, HGR.out⟩
end Go.Proofs.Ytfegnppilhfghaa.P
