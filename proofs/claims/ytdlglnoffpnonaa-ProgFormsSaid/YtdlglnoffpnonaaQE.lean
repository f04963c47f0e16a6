/- Stage 12: the document's Size. No condition. -/
import Derived.Test.YtdlglnoffpnonaaPJ
import Derived.Test.YtdlglnoffpnonaaPG
import Derived.Deep.DeepCutAuto
import Derived.Test.YtdlglnoffpnonaaQC
import Derived.Test.YtdlglnoffpnonaaPV
set_option linter.unusedVariables false
set_option linter.unusedSimpArgs false
set_option maxRecDepth 100000
namespace Go.Proofs.Ytdlglnoffpnonaa.P
open Go.RowKit Go.Proofs.Ytdlglnoffpnonaa.W
set_option maxHeartbeats 3200000 in
theorem r_size12 (x : Pg) (h1 : x.tx.size ≤ maxLen) (h2 : x.da.size ≤ maxLen) (w : World) :
    Calls Try.prog 14 #[pgV x] w fun e w' => e = .returned (.tuple #[.int .i64 (szT x : Nat), .int .i64 (szD x : Nat)]) ∧ Gr w w' := by
  have CM := Lib.hid (fun w => r_may12 x h1 h2 w)
  unfold szT szD
  cases hm : mayP x with
  | false =>
    rw [hm] at CM
    obtain ⟨en, tx, da, bs⟩ := x
    have CM2 : RowKit.Hid (∀ w, Calls Try.prog 15 #[.agg #[.int .i64 en, .string tx, .string da, .int .i64 bs]] w fun e w' => e = .returned (.bool false) ∧ Gr w w') := Lib.hid CM.out
    show Calls Try.prog 14 #[.agg #[.int .i64 en, .string tx, .string da, .int .i64 bs]] w _
    clear CM hm h1 h2
    go_enter Try.func14, Try.ntmps14
    go_wp2_with (go_at_call 15; refine (CM2.out _).mono ?_; rintro e w1 ⟨rfl, g1⟩; have G1 := Lib.hid (galloc _ g1); clear g1)
    go_ret2
    exact ⟨rfl, G1.out⟩
  | true =>
    rw [hm] at CM
    obtain ⟨m1, m2, m3, m4, m5, m6, m7, m8, m9, m10⟩ := may_iff.1 hm
    obtain ⟨en, tx, da, bs⟩ := x
    have CM2 : RowKit.Hid (∀ w, Calls Try.prog 15 #[.agg #[.int .i64 en, .string tx, .string da, .int .i64 bs]] w fun e w' => e = .returned (.bool true) ∧ Gr w w') := Lib.hid CM.out
    show Calls Try.prog 14 #[.agg #[.int .i64 en, .string tx, .string da, .int .i64 bs]] w _
    have m2 : tx.size ≤ 2048 := m2
    have m7 : da.size ≤ 1024 := m7
    have m8 : 0 ≤ bs := m8
    have m9 : bs ≤ 4096 := m9
    obtain ⟨B, rfl⟩ : ∃ B : Nat, bs = (B : Int) := ⟨bs.toNat, by omega⟩
    have P1 := Lib.hid (fun w => r_pages12 tx.size (by omega) w)
    have P2 : RowKit.Hid (∀ w, Calls Try.prog 29 #[.int .i64 ((da.size : Int) + (B : Int))] w fun e w' => e = .returned (.int .i64 (pgN (da.size + B) : Nat)) ∧ w' = w) := Lib.hid (fun w => by
      have := r_pages12 (da.size + B) (by omega) w
      rw [Int.natCast_add] at this; exact this)
    have k1 : IntKind.i64.wrap ((da.size : Int) + (B : Int)) = (da.size : Int) + (B : Int) := by rw [IntKind.wrap_i64]; omega
    clear CM hm h1 h2 m1 m3 m4 m5 m6 m8 m10
    go_enter Try.func14, Try.ntmps14
    go_upto_region 4 with (go_at_call 15; refine (CM2.out _).mono ?_; rintro e w1 ⟨rfl, g1⟩; have G1 := Lib.hid g1; clear g1)
    have c1 : w1.cell? ⟨w.heap.size, 1, none⟩ = some (.string tx) := kcell G1.out (cnew w #[.int .i64 en, .string tx, .string da, .int .i64 B] 23 1 rfl)
    have c2 : w1.cell? ⟨w.heap.size, 2, none⟩ = some (.string da) := kcell G1.out (cnew w #[.int .i64 en, .string tx, .string da, .int .i64 B] 23 2 rfl)
    have c3 : w1.cell? ⟨w.heap.size, 3, none⟩ = some (.int .i64 B) := kcell G1.out (cnew w #[.int .i64 en, .string tx, .string da, .int .i64 B] 23 3 rfl)
    have GG := galloc _ G1.out
    have G1c := Lib.hid G1.out
    clear G1
    have BB := Lib.hid (show w1.drew.heap[w.heap.size]? = some (.cells #[.int .i64 en, .string tx, .string da, .int .i64 B] 23) from blk_gr (Below.drew G1c.out) (blk_new _ _))
    have G9 := Lib.hid (Below.drew GG)
    refine wp_region_held_drew (S := fun w' => w'.heap[w.heap.size]? = some (.cells #[.int .i64 en, .string tx, .string da, .int .i64 B] 23)) (by kernel_rfl) (BB.out) (fun hH => ?_)
    generalize w1.drew = wd at *
    try simp only [Act.put, List.setIfInBounds_toArray, List.set_cons_zero, List.set_cons_succ]
    refine wpAnyH_take (i := 0) (oi := { dst := some 9, op := Go.Op.fieldAddr 23 (Go.Operand.tmp 1) 1, type := 0, pos := "ref.go:66", after := #[], guard := none }) (v := .pointer (some ⟨w.heap.size, 1, none⟩)) rfl (by kernel_rfl) (by kernel_rfl) (by kernel_rfl) (fun _ _ _ h => h) (Or.inl ⟨by rfl, fun w' hS' => by first | rfl | (go_simp; done) | (go_simp; rfl)⟩) hH ?_
    try simp only [Act.put, List.setIfInBounds_toArray, List.set_cons_zero, List.set_cons_succ]
    refine wpAnyH_take (i := 1) (oi := { dst := some 10, op := Go.Op.load 9 (Go.Operand.tmp 9), type := 9, pos := "ref.go:66", after := #[{ on := 0, ground := Go.Ground.data }], guard := none }) (v := .string tx) rfl (by kernel_rfl) (by kernel_rfl) (by kernel_rfl) (fun _ _ _ h => h) (Or.inl ⟨by rfl, fun w' hS' => by have c := blk_cell hS' 1 (v := .string tx) rfl; go_simp⟩) hH ?_
    try simp only [Act.put, List.setIfInBounds_toArray, List.set_cons_zero, List.set_cons_succ]
    refine wpAnyH_take (i := 2) (oi := { dst := some 11, op := Go.Op.call { callee := Go.Callee.builtin Go.Builtin.len, args := #[Go.Operand.tmp 10], argTypes := #[9] }, type := 3, pos := "ref.go:66", after := #[{ on := 1, ground := Go.Ground.data }], guard := none }) (v := .int .i64 (tx.size : Int)) rfl (by kernel_rfl) (by kernel_rfl) (by kernel_rfl) (fun _ _ _ h => h) (Or.inl ⟨by rfl, fun w' hS' => by first | rfl | (go_simp; done) | (go_simp; rfl)⟩) hH ?_
    try simp only [Act.put, List.setIfInBounds_toArray, List.set_cons_zero, List.set_cons_succ]
    refine wpAnyH_take (i := 4) (oi := { dst := some 13, op := Go.Op.fieldAddr 23 (Go.Operand.tmp 1) 2, type := 0, pos := "ref.go:66", after := #[], guard := none }) (v := .pointer (some ⟨w.heap.size, 2, none⟩)) rfl (by kernel_rfl) (by kernel_rfl) (by kernel_rfl) (fun _ _ _ h => h) (Or.inl ⟨by rfl, fun w' hS' => by first | rfl | (go_simp; done) | (go_simp; rfl)⟩) hH ?_
    try simp only [Act.put, List.setIfInBounds_toArray, List.set_cons_zero, List.set_cons_succ]
    refine wpAnyH_take (i := 5) (oi := { dst := some 14, op := Go.Op.load 9 (Go.Operand.tmp 13), type := 9, pos := "ref.go:66", after := #[{ on := 4, ground := Go.Ground.data }], guard := none }) (v := .string da) rfl (by kernel_rfl) (by kernel_rfl) (by kernel_rfl) (fun _ _ _ h => h) (Or.inl ⟨by rfl, fun w' hS' => by have c := blk_cell hS' 2 (v := .string da) rfl; go_simp⟩) hH ?_
    try simp only [Act.put, List.setIfInBounds_toArray, List.set_cons_zero, List.set_cons_succ]
    refine wpAnyH_take (i := 6) (oi := { dst := some 15, op := Go.Op.call { callee := Go.Callee.builtin Go.Builtin.len, args := #[Go.Operand.tmp 14], argTypes := #[9] }, type := 3, pos := "ref.go:66", after := #[{ on := 5, ground := Go.Ground.data }], guard := none }) (v := .int .i64 (da.size : Int)) rfl (by kernel_rfl) (by kernel_rfl) (by kernel_rfl) (fun _ _ _ h => h) (Or.inl ⟨by rfl, fun w' hS' => by first | rfl | (go_simp; done) | (go_simp; rfl)⟩) hH ?_
    try simp only [Act.put, List.setIfInBounds_toArray, List.set_cons_zero, List.set_cons_succ]
    refine wpAnyH_take (i := 7) (oi := { dst := some 16, op := Go.Op.fieldAddr 23 (Go.Operand.tmp 1) 3, type := 0, pos := "ref.go:66", after := #[], guard := none }) (v := .pointer (some ⟨w.heap.size, 3, none⟩)) rfl (by kernel_rfl) (by kernel_rfl) (by kernel_rfl) (fun _ _ _ h => h) (Or.inl ⟨by rfl, fun w' hS' => by first | rfl | (go_simp; done) | (go_simp; rfl)⟩) hH ?_
    try simp only [Act.put, List.setIfInBounds_toArray, List.set_cons_zero, List.set_cons_succ]
    refine wpAnyH_take (i := 8) (oi := { dst := some 17, op := Go.Op.load 3 (Go.Operand.tmp 16), type := 3, pos := "ref.go:66", after := #[{ on := 7, ground := Go.Ground.data }], guard := none }) (v := .int .i64 (B : Int)) rfl (by kernel_rfl) (by kernel_rfl) (by kernel_rfl) (fun _ _ _ h => h) (Or.inl ⟨by rfl, fun w' hS' => by have c := blk_cell hS' 3 (v := .int .i64 (B)) rfl; go_simp⟩) hH ?_
    try simp only [Act.put, List.setIfInBounds_toArray, List.set_cons_zero, List.set_cons_succ]
    refine wpAnyH_take (i := 9) (oi := { dst := some 18, op := Go.Op.binOp Go.BinOp.add 3 (Go.Operand.tmp 15) (Go.Operand.tmp 17) 3, type := 3, pos := "ref.go:66", after := #[{ on := 6, ground := Go.Ground.data }, { on := 8, ground := Go.Ground.data }], guard := none }) (v := .int .i64 ((da.size : Int) + (B : Int))) rfl (by kernel_rfl) (by kernel_rfl) (by kernel_rfl) (fun _ _ _ h => h) (Or.inl ⟨by rfl, fun w' hS' => by first | rfl | (go_simp; done) | (go_simp; rfl)⟩) hH ?_
    try simp only [Act.put, List.setIfInBounds_toArray, List.set_cons_zero, List.set_cons_succ]
    refine wpAnyH_ready (rs := [3]) (by kernel_rfl) (by simp) ?_
    refine AllReadyH.cons (o := { dst := some 12, op := Go.Op.call { callee := Go.Callee.value (Go.Operand.func 29), args := #[Go.Operand.tmp 11], argTypes := #[3] }, type := 3, pos := "ref.go:66", after := #[{ on := 2, ground := Go.Ground.data }], guard := none }) rfl (fun K' hK => ?_) AllReadyH.nil
    rw [if_pos (by rfl)]
    go_wp2_with (go_at_call 29; refine (P1.out _).mono ?_; rintro e wp ⟨rfl, rfl⟩)
    refine hK.out _ _ (BB.out) (fun hH1 => ?_)
    clear hK K'
    try simp only [Act.put, List.setIfInBounds_toArray, List.set_cons_zero, List.set_cons_succ]
    refine wpAnyH_ready (rs := [10]) (by kernel_rfl) (by simp) ?_
    refine AllReadyH.cons (o := { dst := some 19, op := Go.Op.call { callee := Go.Callee.value (Go.Operand.func 29), args := #[Go.Operand.tmp 18], argTypes := #[3] }, type := 3, pos := "ref.go:66", after := #[{ on := 9, ground := Go.Ground.data }, { on := 3, ground := Go.Ground.chain }], guard := none }) rfl (fun K' hK => ?_) AllReadyH.nil
    rw [if_pos (by rfl)]
    go_wp2_with (go_at_call 29; refine (P2.out _).mono ?_; rintro e wp ⟨rfl, rfl⟩)
    refine hK.out _ _ (BB.out) (fun hH2 => ?_)
    clear hK K'
    try simp only [Act.put, List.setIfInBounds_toArray, List.set_cons_zero, List.set_cons_succ]
    refine wpAnyH_take (i := 11) (oi := { dst := some 2, op := Go.Op.assign (Go.Operand.tmp 12), type := 3, pos := "ref.go:66", after := #[{ on := 3, ground := Go.Ground.data }, { on := 10, ground := Go.Ground.chain }, { on := 0, ground := Go.Ground.phase }, { on := 1, ground := Go.Ground.phase }, { on := 2, ground := Go.Ground.phase }, { on := 3, ground := Go.Ground.phase }, { on := 4, ground := Go.Ground.textOnly Go.Departure.lateStores }, { on := 5, ground := Go.Ground.textOnly Go.Departure.lateStores }, { on := 6, ground := Go.Ground.textOnly Go.Departure.lateStoresUnsure }, { on := 7, ground := Go.Ground.textOnly Go.Departure.lateStores }, { on := 8, ground := Go.Ground.textOnly Go.Departure.lateStores }, { on := 9, ground := Go.Ground.textOnly Go.Departure.lateStores }, { on := 10, ground := Go.Ground.textOnly Go.Departure.lateStoresUnsure }], guard := none }) (v := .int .i64 (pgN tx.size : Nat)) rfl (by kernel_rfl) (by kernel_rfl) (by kernel_rfl) (fun _ _ _ h => h) (Or.inl ⟨by rfl, fun w' hS' => by first | rfl | (go_simp; done) | (go_simp; rfl)⟩) hH2 ?_
    try simp only [Act.put, List.setIfInBounds_toArray, List.set_cons_zero, List.set_cons_succ]
    refine wpAnyH_take (i := 12) (oi := { dst := some 3, op := Go.Op.assign (Go.Operand.tmp 19), type := 3, pos := "ref.go:66", after := #[{ on := 10, ground := Go.Ground.data }, { on := 11, ground := Go.Ground.chain }, { on := 0, ground := Go.Ground.phase }, { on := 1, ground := Go.Ground.phase }, { on := 2, ground := Go.Ground.phase }, { on := 3, ground := Go.Ground.phase }, { on := 4, ground := Go.Ground.phase }, { on := 5, ground := Go.Ground.phase }, { on := 6, ground := Go.Ground.phase }, { on := 7, ground := Go.Ground.phase }, { on := 8, ground := Go.Ground.phase }, { on := 9, ground := Go.Ground.phase }, { on := 10, ground := Go.Ground.phase }, { on := 11, ground := Go.Ground.phase }], guard := none }) (v := .int .i64 (pgN (da.size + B) : Nat)) rfl (by kernel_rfl) (by kernel_rfl) (by kernel_rfl) (fun _ _ _ h => h) (Or.inl ⟨by rfl, fun w' hS' => by first | rfl | (go_simp; done) | (go_simp; rfl)⟩) hH2 ?_
    try simp only [Act.put, List.setIfInBounds_toArray, List.set_cons_zero, List.set_cons_succ]
    refine wpAnyH_done (by kernel_rfl) ?_ _
    have g1 := G9.out
    go_wp2_with fail
    go_ret2
    exact ⟨rfl, g1⟩
end Go.Proofs.Ytdlglnoffpnonaa.P
namespace Go.Proofs.Ytdlglnoffpnonaa.P
open Go.RowKit Go.MuLone Go.Maps
set_option maxHeartbeats 6400000 in
theorem l_forms12 (x : Pg) (s : ByteArray) (hx1 : x.tx.size ≤ maxLen) (hx2 : x.da.size ≤ maxLen) (hs : s.size ≤ maxLen) (w : World) :
    Calls Try.prog 3 #[pgV x, .string s] w fun e w' => e = .returned (.bool true) ∧ Gr w w' := by
  have A1 := Lib.hid (fun w => c_may x hx1 hx2 w)
  have A2 := Lib.hid (fun w => c_encode x hx1 hx2 w)
  have A3 := Lib.hid (fun w => r_encode12 x hx1 hx2 w)
  have A4 := Lib.hid (fun w => c_decode s hs w)
  have A5 := Lib.hid (fun w => r_decode12 s hs w)
  have A6 := Lib.hid (fun w => c_size12 x hx1 hx2 w)
  have A7 := Lib.hid (fun w => r_size12 x hx1 hx2 w)
  have A8 := Lib.hid (fun w => r_may12 x hx1 hx2 w)
  generalize mayP x = M at *
  generalize encV x = S at *
  generalize encE x = E1 at *
  generalize decP s = y at *
  generalize decE s = E2 at *
  generalize szT x = T at *
  generalize szD x = D at *
  clear hx1 hx2 hs
  obtain ⟨en, tx, da, bs⟩ := x
  obtain ⟨en2, tx2, da2, bs2⟩ := y
  have B1 : RowKit.Hid (∀ w, Calls Try.prog 8 #[.agg #[.int .i64 en, .string tx, .string da, .int .i64 bs]] w fun e w' => e = .returned (.bool M) ∧ Gr w w') := Lib.hid A1.out
  have B2 : RowKit.Hid (∀ w, Calls Try.prog 9 #[.agg #[.int .i64 en, .string tx, .string da, .int .i64 bs]] w fun e w' => e = .returned (.tuple #[.string S, .int .i64 E1]) ∧ Gr w w') := Lib.hid A2.out
  have B3 : RowKit.Hid (∀ w, Calls Try.prog 10 #[.agg #[.int .i64 en, .string tx, .string da, .int .i64 bs]] w fun e w' => e = .returned (.tuple #[.string S, .int .i64 E1]) ∧ Gr w w') := Lib.hid A3.out
  have B4 : RowKit.Hid (∀ w, Calls Try.prog 11 #[.string s] w fun e w' => e = .returned (.tuple #[.agg #[.int .i64 en2, .string tx2, .string da2, .int .i64 bs2], .int .i64 E2]) ∧ Gr w w') := Lib.hid A4.out
  have B5 : RowKit.Hid (∀ w, Calls Try.prog 12 #[.string s] w fun e w' => e = .returned (.tuple #[.agg #[.int .i64 en2, .string tx2, .string da2, .int .i64 bs2], .int .i64 E2]) ∧ Gr w w') := Lib.hid A5.out
  have B6 : RowKit.Hid (∀ w, Calls Try.prog 13 #[.agg #[.int .i64 en, .string tx, .string da, .int .i64 bs]] w fun e w' => e = .returned (.tuple #[.int .i64 (T : Nat), .int .i64 (D : Nat)]) ∧ Gr w w') := Lib.hid A6.out
  have B7 : RowKit.Hid (∀ w, Calls Try.prog 14 #[.agg #[.int .i64 en, .string tx, .string da, .int .i64 bs]] w fun e w' => e = .returned (.tuple #[.int .i64 (T : Nat), .int .i64 (D : Nat)]) ∧ Gr w w') := Lib.hid A7.out
  have B8 : RowKit.Hid (∀ w, Calls Try.prog 15 #[.agg #[.int .i64 en, .string tx, .string da, .int .i64 bs]] w fun e w' => e = .returned (.bool M) ∧ Gr w w') := Lib.hid A8.out
  clear A1 A2 A3 A4 A5 A6 A7 A8
  have b0 : (S.toList == S.toList) = true := beq_self_eq_true _
  have b1 : (tx2.toList == tx2.toList) = true := beq_self_eq_true _
  have b2 : (da2.toList == da2.toList) = true := beq_self_eq_true _
  have b3 : (M == M) = true := beq_self_eq_true _
  show Calls Try.prog 3 #[.agg #[.int .i64 en, .string tx, .string da, .int .i64 bs], .string s] w _
  go_enter Try.func3, Try.ntmps3
  go_upto_region 1 with fail
  have BX0 := Lib.hid (blk_new w (.cells #[.int .i64 en, .string tx, .string da, .int .i64 bs] 23))
  have G0 := Lib.hid ((Gr.refl w).alloc (Nat.le_refl _) (.cells #[.int .i64 en, .string tx, .string da, .int .i64 bs] 23))
  obtain ⟨wa, hwa⟩ : ∃ wa, w.alloc (.cells #[.int .i64 en, .string tx, .string da, .int .i64 bs] 23) = wa := ⟨_, rfl⟩
  rw [hwa] at BX0 G0
  rw [hwa]
  clear hwa
  obtain ⟨xb, hxb⟩ : ∃ n, w.heap.size = n := ⟨_, rfl⟩
  rw [hxb] at BX0
  rw [hxb]
  clear hxb
  go_upto_region 2 with (go_at_call 7; refine (c_shown12 _).mono ?_; rintro e w1 ⟨rfl, g1⟩; have BX1 := Lib.hid (blk_gr g1 BX0.out); have G1 := Lib.hid (gtrans G0.out g1); clear g1)
  go_upto_region 3 with (first
    | (refine wpList_load_row rfl 23 _ rfl _ rfl 23 _ (0, 0) _ BX1.out Try.underlying23 rfl pg_info ?_)
    | (go_at_call 8; refine (B1.out _).mono ?_; rintro e w2 ⟨rfl, g⟩; have BX2 := Lib.hid (blk_gr g BX1.out); have G2 := Lib.hid (gtrans G1.out g); clear g))
  go_upto_region 4 with (first
    | (refine wpList_load_row rfl 23 _ rfl _ rfl 23 _ (0, 0) _ BX2.out Try.underlying23 rfl pg_info ?_)
    | (go_at_call 9; refine (B2.out _).mono ?_; rintro e w3 ⟨rfl, g⟩; have BX3 := Lib.hid (blk_gr g BX2.out); have G3 := Lib.hid (gtrans G2.out g); clear g))
  go_upto_region 5 with (first
    | (refine wpList_load_row rfl 23 _ rfl _ rfl 23 _ (0, 0) _ BX3.out Try.underlying23 rfl pg_info ?_)
    | (go_at_call 10; refine (B3.out _).mono ?_; rintro e w4 ⟨rfl, g⟩; have BX4 := Lib.hid (blk_gr g BX3.out); have G4 := Lib.hid (gtrans G3.out g); clear g))
  go_upto_region 6 with (go_at_call 11; refine (B4.out _).mono ?_; rintro e w5 ⟨rfl, g⟩; have BX5 := Lib.hid (blk_gr g BX4.out); have G5 := Lib.hid (gtrans G4.out g); clear g)
  have BX6 := Lib.hid (blk_alloc (.cells #[.int .i64 en2, .string tx2, .string da2, .int .i64 bs2] 23) BX5.out)
  have BY6 := Lib.hid (blk_new w5 (.cells #[.int .i64 en2, .string tx2, .string da2, .int .i64 bs2] 23))
  have G6 := Lib.hid (G5.out.alloc G5.out.size (.cells #[.int .i64 en2, .string tx2, .string da2, .int .i64 bs2] 23))
  generalize (World.alloc w5 _) = w6 at *
  generalize w5.heap.size = yb at *
  go_upto_region 7 with (go_at_call 12; refine (B5.out _).mono ?_; rintro e w7 ⟨rfl, g⟩; have BX7 := Lib.hid (blk_gr g BX6.out); have BY7 := Lib.hid (blk_gr g BY6.out); have G7 := Lib.hid (gtrans G6.out g); clear g)
  have BX8 := Lib.hid (blk_alloc (.cells #[.int .i64 en2, .string tx2, .string da2, .int .i64 bs2] 23) BX7.out)
  have BY8 := Lib.hid (blk_alloc (.cells #[.int .i64 en2, .string tx2, .string da2, .int .i64 bs2] 23) BY7.out)
  have BZ8 := Lib.hid (blk_new w7 (.cells #[.int .i64 en2, .string tx2, .string da2, .int .i64 bs2] 23))
  have G8 := Lib.hid (G7.out.alloc G7.out.size (.cells #[.int .i64 en2, .string tx2, .string da2, .int .i64 bs2] 23))
  generalize (World.alloc w7 _) = w8 at *
  generalize w7.heap.size = zb at *
  clear B1 B2 B3 B4 B5 BX0 BX1 BX2 BX3 BX4 BX5 BX6 BX7 BY6 BY7 G0 G1 G2 G3 G4 G5 G6 G7
  go_upto_region 8 with (first
    | (refine wpList_load_row rfl 23 _ rfl _ rfl 23 _ (0, 0) _ BX8.out Try.underlying23 rfl pg_info ?_)
    | (go_at_call 13; refine (B6.out _).mono ?_; rintro e w9 ⟨rfl, g⟩; have BX9 := Lib.hid (blk_gr g BX8.out); have BY9 := Lib.hid (blk_gr g BY8.out); have BZ9 := Lib.hid (blk_gr g BZ8.out); have G9 := Lib.hid (gtrans G8.out g); clear g))
  go_upto_region 9 with (first
    | (refine wpList_load_row rfl 23 _ rfl _ rfl 23 _ (0, 0) _ BX9.out Try.underlying23 rfl pg_info ?_)
    | (go_at_call 14; refine (B7.out _).mono ?_; rintro e w10 ⟨rfl, g⟩; have BXa := Lib.hid (blk_gr g BX9.out); have BYa := Lib.hid (blk_gr g BY9.out); have BZa := Lib.hid (blk_gr g BZ9.out); have Ga := Lib.hid (gtrans G9.out g); clear g))
  have x0 := blk_cell BXa.out 0 (v := .int .i64 en) rfl
  have x1 := blk_cell BXa.out 1 (v := .string tx) rfl
  have x2 := blk_cell BXa.out 2 (v := .string da) rfl
  have x3 := blk_cell BXa.out 3 (v := .int .i64 bs) rfl
  clear BX8 BX9 BY8 BY9 BZ8 BZ9 G8 G9 B6 B7
  go_wp2_with (go_at_call 15; refine (B8.out _).mono ?_; rintro e wm ⟨rfl, g⟩; have y0 := blk_cell (blk_gr g BYa.out) 0 (v := .int .i64 en2) rfl; have y1 := blk_cell (blk_gr g BYa.out) 1 (v := .string tx2) rfl; have y2 := blk_cell (blk_gr g BYa.out) 2 (v := .string da2) rfl; have y3 := blk_cell (blk_gr g BYa.out) 3 (v := .int .i64 bs2) rfl; have z0 := blk_cell (blk_gr g BZa.out) 0 (v := .int .i64 en2) rfl; have z1 := blk_cell (blk_gr g BZa.out) 1 (v := .string tx2) rfl; have z2 := blk_cell (blk_gr g BZa.out) 2 (v := .string da2) rfl; have z3 := blk_cell (blk_gr g BZa.out) 3 (v := .int .i64 bs2) rfl; have Gm := Lib.hid (gtrans Ga.out g); clear g)
  go_ret
  exact ⟨rfl, Gm.out⟩
end Go.Proofs.Ytdlglnoffpnonaa.P
