/- Stage 12: the document's May. No condition. -/
import Derived.Test.YtdlglnoffpnonaaGreatPA
import Derived.Test.YtdlglnoffpnonaaGreatO
import Derived.Deep.QuietTactic
import Derived.Test.YtdlglnoffpnonaaGreatPH
import Derived.Deep.DeepCutAuto
import Derived.Test.YtdlglnoffpnonaaGreatPG
set_option linter.unusedVariables false
set_option linter.unusedSimpArgs false
set_option maxRecDepth 100000
namespace Go.Proofs.YtdlglnoffpnonaaGreat.P
open Go.RowKit Go.Proofs.YtdlglnoffpnonaaGreat.W
set_option maxHeartbeats 3200000 in
theorem r_may12 (x : Pg) (h1 : x.tx.size ≤ maxLen) (h2 : x.da.size ≤ maxLen) (w : World) :
    Calls Tryz.prog 18 #[pgV x] w fun e w' => e = .returned (.bool (mayP x)) ∧ Gr w w' := by
  obtain ⟨en, tx, da, bs⟩ := x
  unfold maxLen at h1 h2
  have h1 : tx.size ≤ 2 ^ 63 - 1 := h1
  have h2 : da.size ≤ 2 ^ 63 - 1 := h2
  obtain ⟨B, hB⟩ : ∃ B, mayP ⟨en, tx, da, bs⟩ = B := ⟨_, rfl⟩
  rw [hB]
  have hB2 := hB
  unfold mayP at hB2
  have hB3 : (decide (4 ≤ tx.size) && (decide (tx.size ≤ 2048) && (decide (tx.size % 4 = 0) && (decide (0 ≤ en) && (decide (en < tx.size) && (decide (en % 4 = 0) && (decide (da.size ≤ 1024) && (decide (0 ≤ bs) && (decide (bs ≤ 4096) && decide (32 + tx.size + da.size ≤ 2368)))))))))) = B := hB2
  clear hB hB2
  show Calls Tryz.prog 18 #[.agg #[.int .i64 en, .string tx, .string da, .int .i64 bs]] w _
  by_cases e1 : 4 ≤ tx.size
  rotate_left
  · rw [decide_eq_false e1] at hB3
    obtain rfl : false = B := hB3
    have m1 : ¬ (4 : Int) ≤ (tx.size : Int) := by omega
    go_enter Tryz.func18, Tryz.ntmps18
    go_wp2_with fail
    go_ret
    exact ⟨rfl, (Gr.refl w).alloc (Nat.le_refl _) _⟩
  have m1 : (4 : Int) ≤ (tx.size : Int) := by omega
  rw [decide_eq_true e1, Bool.true_and] at hB3
  by_cases e2 : tx.size ≤ 2048
  rotate_left
  · rw [decide_eq_false e2] at hB3
    obtain rfl : false = B := hB3
    have m2 : ¬ (tx.size : Int) ≤ 2048 := by omega
    go_enter Tryz.func18, Tryz.ntmps18
    go_wp2_with fail
    go_ret
    exact ⟨rfl, (Gr.refl w).alloc (Nat.le_refl _) _⟩
  have m2 : (tx.size : Int) ≤ 2048 := by omega
  rw [decide_eq_true e2, Bool.true_and] at hB3
  have t3 : (tx.size : Int).tmod 4 = ((tx.size % 4 : Nat) : Int) := by rw [Int.tmod_eq_emod_of_nonneg (by omega)]; omega
  by_cases e3 : tx.size % 4 = 0
  rotate_left
  · rw [decide_eq_false e3] at hB3
    obtain rfl : false = B := hB3
    obtain ⟨k, hk⟩ : ∃ k : Nat, tx.size % 4 = k + 1 := ⟨tx.size % 4 - 1, by omega⟩
    have m3 : ¬ (tx.size : Int).tmod 4 = 0 := by omega
    clear t3
    go_enter Tryz.func18, Tryz.ntmps18
    go_wp2_with fail
    go_ret
    exact ⟨rfl, (Gr.refl w).alloc (Nat.le_refl _) _⟩
  have m3 : (tx.size : Int).tmod 4 = 0 := by omega
  clear t3
  rw [decide_eq_true e3, Bool.true_and] at hB3
  by_cases e4 : 0 ≤ en
  rotate_left
  · rw [decide_eq_false e4] at hB3
    obtain rfl : false = B := hB3
    go_enter Tryz.func18, Tryz.ntmps18
    go_wp2_with fail
    go_ret
    exact ⟨rfl, (Gr.refl w).alloc (Nat.le_refl _) _⟩
  rw [decide_eq_true e4, Bool.true_and] at hB3
  rw [Bool.and_left_comm] at hB3
  have t6 : en.tmod 4 = en % 4 := Int.tmod_eq_emod_of_nonneg e4
  by_cases e6 : en % 4 = 0
  rotate_left
  · rw [decide_eq_false e6] at hB3
    obtain rfl : false = B := hB3
    have m6 : ¬ en.tmod 4 = 0 := by omega
    clear t6
    go_enter Tryz.func18, Tryz.ntmps18
    go_wp2_with fail
    go_ret
    exact ⟨rfl, (Gr.refl w).alloc (Nat.le_refl _) _⟩
  have m6 : en.tmod 4 = 0 := by omega
  clear t6
  rw [decide_eq_true e6, Bool.true_and] at hB3
  by_cases e5 : en < tx.size
  rotate_left
  · rw [decide_eq_false e5] at hB3
    obtain rfl : false = B := hB3
    go_enter Tryz.func18, Tryz.ntmps18
    go_wp2_with fail
    go_ret
    exact ⟨rfl, (Gr.refl w).alloc (Nat.le_refl _) _⟩
  rw [decide_eq_true e5, Bool.true_and] at hB3
  by_cases e7 : da.size ≤ 1024
  rotate_left
  · rw [decide_eq_false e7] at hB3
    obtain rfl : false = B := hB3
    have m7 : ¬ (da.size : Int) ≤ 1024 := by omega
    go_enter Tryz.func18, Tryz.ntmps18
    go_wp2_with fail
    go_ret
    exact ⟨rfl, (Gr.refl w).alloc (Nat.le_refl _) _⟩
  have m7 : (da.size : Int) ≤ 1024 := by omega
  rw [decide_eq_true e7, Bool.true_and] at hB3
  by_cases e8 : 0 ≤ bs
  rotate_left
  · rw [decide_eq_false e8] at hB3
    obtain rfl : false = B := hB3
    go_enter Tryz.func18, Tryz.ntmps18
    go_wp2_with fail
    go_ret
    exact ⟨rfl, (Gr.refl w).alloc (Nat.le_refl _) _⟩
  rw [decide_eq_true e8, Bool.true_and] at hB3
  by_cases e9 : bs ≤ 4096
  rotate_left
  · rw [decide_eq_false e9] at hB3
    obtain rfl : false = B := hB3
    go_enter Tryz.func18, Tryz.ntmps18
    go_wp2_with fail
    go_ret
    exact ⟨rfl, (Gr.refl w).alloc (Nat.le_refl _) _⟩
  rw [decide_eq_true e9, Bool.true_and] at hB3
  have t1 : IntKind.i64.wrap (32 + (tx.size : Int)) = 32 + (tx.size : Int) := by rw [IntKind.wrap_i64]; omega
  have t2 : IntKind.i64.wrap (32 + (tx.size : Int) + (da.size : Int)) = 32 + (tx.size : Int) + (da.size : Int) := by rw [IntKind.wrap_i64]; omega
  by_cases e10 : 32 + tx.size + da.size ≤ 2368
  · rw [decide_eq_true e10] at hB3
    obtain rfl : true = B := hB3
    have m10 : 32 + (tx.size : Int) + (da.size : Int) ≤ 2368 := by omega
    go_enter Tryz.func18, Tryz.ntmps18
    go_wp2_with fail
    go_ret
    exact ⟨rfl, (Gr.refl w).alloc (Nat.le_refl _) _⟩
  · rw [decide_eq_false e10] at hB3
    obtain rfl : false = B := hB3
    have m10 : ¬ 32 + (tx.size : Int) + (da.size : Int) ≤ 2368 := by omega
    go_enter Tryz.func18, Tryz.ntmps18
    go_wp2_with fail
    go_ret
    exact ⟨rfl, (Gr.refl w).alloc (Nat.le_refl _) _⟩
end Go.Proofs.YtdlglnoffpnonaaGreat.P
namespace Go.Proofs.YtdlglnoffpnonaaGreat.P
open Go.RowKit Go.Proofs.YtdlglnoffpnonaaGreat.W
theorem r_pages12 (n : Nat) (hn : n ≤ 100000) (w : World) : Calls Tryz.prog 60 #[.int .i64 (n : Int)] w fun e w' => e = .returned (.int .i64 (pgN n : Nat)) ∧ w' = w := by
  obtain ⟨q, hq⟩ : ∃ q : Nat, n / 256 = q := ⟨_, rfl⟩
  have t1 : (n : Int).tdiv 256 = (q : Int) := by rw [Int.tdiv_eq_ediv_of_nonneg (by omega)]; omega
  have t2 : (n : Int).tmod 256 = ((n % 256 : Nat) : Int) := by rw [Int.tmod_eq_emod_of_nonneg (by omega)]; omega
  have w1 : IntKind.i64.wrap (q : Int) = (q : Int) := by rw [IntKind.wrap_i64]; omega
  have w2 : IntKind.i64.wrap ((q : Int) + 1) = (q : Int) + 1 := by rw [IntKind.wrap_i64]; omega
  have t3 : (n : Int) / 256 = (q : Int) := by omega
  obtain ⟨m, hm⟩ : ∃ m : Nat, n % 256 = m := ⟨_, rfl⟩
  rw [hm] at t2
  have w3 : IntKind.i64.wrap (m : Int) = (m : Int) := by rw [IntKind.wrap_i64]; omega
  have t4 : (n : Int) % 256 = (m : Int) := by omega
  by_cases h : 0 < m
  · have p1 : pgN n = q + 1 := by unfold pgN; omega
    rw [p1]
    have h2 : 0 < (m : Int) := by omega
    clear p1 hq hm hn
    go_enter Tryz.func60, Tryz.ntmps60
    go_wp2_with fail
    go_ret
    exact ⟨by go_num, rfl⟩
  · have p1 : pgN n = q := by unfold pgN; omega
    rw [p1]
    have h2 : ¬ 0 < (m : Int) := by omega
    clear p1 hq hm hn
    go_enter Tryz.func60, Tryz.ntmps60
    go_wp2_with fail
    go_ret
    exact ⟨by go_num, rfl⟩
end Go.Proofs.YtdlglnoffpnonaaGreat.P
namespace Go.Proofs.YtdlglnoffpnonaaGreat.P
open Go.RowKit Go.Proofs.YtdlglnoffpnonaaGreat.W
set_option maxHeartbeats 3200000 in
theorem r_size12 (x : Pg) (h1 : x.tx.size ≤ maxLen) (h2 : x.da.size ≤ maxLen) (w : World) :
    Calls Tryz.prog 34 #[pgV x] w fun e w' => e = .returned (.tuple #[.int .i64 (szT x : Nat), .int .i64 (szD x : Nat)]) ∧ Gr w w' := by
  have CM := Lib.hid (fun w => r_may12 x h1 h2 w)
  unfold szT szD
  cases hm : mayP x with
  | false =>
    rw [hm] at CM
    obtain ⟨en, tx, da, bs⟩ := x
    have CM2 : RowKit.Hid (∀ w, Calls Tryz.prog 18 #[.agg #[.int .i64 en, .string tx, .string da, .int .i64 bs]] w fun e w' => e = .returned (.bool false) ∧ Gr w w') := Lib.hid CM.out
    show Calls Tryz.prog 34 #[.agg #[.int .i64 en, .string tx, .string da, .int .i64 bs]] w _
    clear CM hm h1 h2
    go_enter Tryz.func34, Tryz.ntmps34
    go_wp2_with (go_at_call 18; refine (CM2.out _).mono ?_; rintro e w1 ⟨rfl, g1⟩; have G1 := Lib.hid (galloc _ g1); clear g1)
    go_ret2
    exact ⟨rfl, G1.out⟩
  | true =>
    rw [hm] at CM
    obtain ⟨m1, m2, m3, m4, m5, m6, m7, m8, m9, m10⟩ := may_iff.1 hm
    obtain ⟨en, tx, da, bs⟩ := x
    have CM2 : RowKit.Hid (∀ w, Calls Tryz.prog 18 #[.agg #[.int .i64 en, .string tx, .string da, .int .i64 bs]] w fun e w' => e = .returned (.bool true) ∧ Gr w w') := Lib.hid CM.out
    show Calls Tryz.prog 34 #[.agg #[.int .i64 en, .string tx, .string da, .int .i64 bs]] w _
    have m2 : tx.size ≤ 2048 := m2
    have m7 : da.size ≤ 1024 := m7
    have m8 : 0 ≤ bs := m8
    have m9 : bs ≤ 4096 := m9
    obtain ⟨B, rfl⟩ : ∃ B : Nat, bs = (B : Int) := ⟨bs.toNat, by omega⟩
    have P1 := Lib.hid (fun w => r_pages12 tx.size (by omega) w)
    have P2 : RowKit.Hid (∀ w, Calls Tryz.prog 60 #[.int .i64 ((da.size : Int) + (B : Int))] w fun e w' => e = .returned (.int .i64 (pgN (da.size + B) : Nat)) ∧ w' = w) := Lib.hid (fun w => by
      have := r_pages12 (da.size + B) (by omega) w
      rw [Int.natCast_add] at this; exact this)
    have k1 : IntKind.i64.wrap ((da.size : Int) + (B : Int)) = (da.size : Int) + (B : Int) := by rw [IntKind.wrap_i64]; omega
    clear CM hm h1 h2 m1 m3 m4 m5 m6 m8 m10
    go_enter Tryz.func34, Tryz.ntmps34
    go_upto_region 4 with (go_at_call 18; refine (CM2.out _).mono ?_; rintro e w1 ⟨rfl, g1⟩; have G1 := Lib.hid g1; clear g1)
    have c1 : w1.cell? ⟨w.heap.size, 1, none⟩ = some (.string tx) := kcell G1.out (cnew w #[.int .i64 en, .string tx, .string da, .int .i64 B] 23 1 rfl)
    have c2 : w1.cell? ⟨w.heap.size, 2, none⟩ = some (.string da) := kcell G1.out (cnew w #[.int .i64 en, .string tx, .string da, .int .i64 B] 23 2 rfl)
    have c3 : w1.cell? ⟨w.heap.size, 3, none⟩ = some (.int .i64 B) := kcell G1.out (cnew w #[.int .i64 en, .string tx, .string da, .int .i64 B] 23 3 rfl)
    have GG := galloc _ G1.out
    have G1c := Lib.hid G1.out
    clear G1
    have BB := Lib.hid (show w1.drew.heap[w.heap.size]? = some (.cells #[.int .i64 en, .string tx, .string da, .int .i64 B] 23) from blk_gr (Below.drew G1c.out) (blk_new _ _))
    have G9 := Lib.hid (Below.drew GG)
    refine wp_region_held_drew (S := fun w' => w'.heap[w.heap.size]? = some (.cells #[.int .i64 en, .string tx, .string da, .int .i64 B] 23)) (by kernel_rfl) (BB.out) (fun hH => ?_)
    generalize w1.drew = wd at *
    try simp only [Act.put, List.setIfInBounds_toArray, List.set_cons_zero, List.set_cons_succ]
    refine wpAnyH_take (i := 0) (oi := { dst := some 9, op := Go.Op.fieldAddr 23 (Go.Operand.tmp 1) 1, type := 0, pos := "ref.go:66", after := #[], guard := none }) (v := .pointer (some ⟨w.heap.size, 1, none⟩)) rfl (by kernel_rfl) (by kernel_rfl) (by kernel_rfl) (fun _ _ _ h => h) (Or.inl ⟨by rfl, fun w' hS' => by first | rfl | (go_simp; done) | (go_simp; rfl)⟩) hH ?_
    try simp only [Act.put, List.setIfInBounds_toArray, List.set_cons_zero, List.set_cons_succ]
    refine wpAnyH_take (i := 1) (oi := { dst := some 10, op := Go.Op.load 9 (Go.Operand.tmp 9), type := 9, pos := "ref.go:66", after := #[{ on := 0, ground := Go.Ground.data }], guard := none }) (v := .string tx) rfl (by kernel_rfl) (by kernel_rfl) (by kernel_rfl) (fun _ _ _ h => h) (Or.inl ⟨by rfl, fun w' hS' => by have c := blk_cell hS' 1 (v := .string tx) rfl; go_simp⟩) hH ?_
    try simp only [Act.put, List.setIfInBounds_toArray, List.set_cons_zero, List.set_cons_succ]
    refine wpAnyH_take (i := 2) (oi := { dst := some 11, op := Go.Op.call { callee := Go.Callee.builtin Go.Builtin.len, args := #[Go.Operand.tmp 10], argTypes := #[9] }, type := 3, pos := "ref.go:66", after := #[{ on := 1, ground := Go.Ground.data }], guard := none }) (v := .int .i64 (tx.size : Int)) rfl (by kernel_rfl) (by kernel_rfl) (by kernel_rfl) (fun _ _ _ h => h) (Or.inl ⟨by rfl, fun w' hS' => by first | rfl | (go_simp; done) | (go_simp; rfl)⟩) hH ?_
    try simp only [Act.put, List.setIfInBounds_toArray, List.set_cons_zero, List.set_cons_succ]
    refine wpAnyH_take (i := 4) (oi := { dst := some 13, op := Go.Op.fieldAddr 23 (Go.Operand.tmp 1) 2, type := 0, pos := "ref.go:66", after := #[], guard := none }) (v := .pointer (some ⟨w.heap.size, 2, none⟩)) rfl (by kernel_rfl) (by kernel_rfl) (by kernel_rfl) (fun _ _ _ h => h) (Or.inl ⟨by rfl, fun w' hS' => by first | rfl | (go_simp; done) | (go_simp; rfl)⟩) hH ?_
    try simp only [Act.put, List.setIfInBounds_toArray, List.set_cons_zero, List.set_cons_succ]
    refine wpAnyH_take (i := 5) (oi := { dst := some 14, op := Go.Op.load 9 (Go.Operand.tmp 13), type := 9, pos := "ref.go:66", after := #[{ on := 4, ground := Go.Ground.data }], guard := none }) (v := .string da) rfl (by kernel_rfl) (by kernel_rfl) (by kernel_rfl) (fun _ _ _ h => h) (Or.inl ⟨by rfl, fun w' hS' => by have c := blk_cell hS' 2 (v := .string da) rfl; go_simp⟩) hH ?_
    try simp only [Act.put, List.setIfInBounds_toArray, List.set_cons_zero, List.set_cons_succ]
    refine wpAnyH_take (i := 6) (oi := { dst := some 15, op := Go.Op.call { callee := Go.Callee.builtin Go.Builtin.len, args := #[Go.Operand.tmp 14], argTypes := #[9] }, type := 3, pos := "ref.go:66", after := #[{ on := 5, ground := Go.Ground.data }], guard := none }) (v := .int .i64 (da.size : Int)) rfl (by kernel_rfl) (by kernel_rfl) (by kernel_rfl) (fun _ _ _ h => h) (Or.inl ⟨by rfl, fun w' hS' => by first | rfl | (go_simp; done) | (go_simp; rfl)⟩) hH ?_
    try simp only [Act.put, List.setIfInBounds_toArray, List.set_cons_zero, List.set_cons_succ]
    refine wpAnyH_take (i := 7) (oi := { dst := some 16, op := Go.Op.fieldAddr 23 (Go.Operand.tmp 1) 3, type := 0, pos := "ref.go:66", after := #[], guard := none }) (v := .pointer (some ⟨w.heap.size, 3, none⟩)) rfl (by kernel_rfl) (by kernel_rfl) (by kernel_rfl) (fun _ _ _ h => h) (Or.inl ⟨by rfl, fun w' hS' => by first | rfl | (go_simp; done) | (go_simp; rfl)⟩) hH ?_
    try simp only [Act.put, List.setIfInBounds_toArray, List.set_cons_zero, List.set_cons_succ]
    refine wpAnyH_take (i := 8) (oi := { dst := some 17, op := Go.Op.load 3 (Go.Operand.tmp 16), type := 3, pos := "ref.go:66", after := #[{ on := 7, ground := Go.Ground.data }], guard := none }) (v := .int .i64 (B : Int)) rfl (by kernel_rfl) (by kernel_rfl) (by kernel_rfl) (fun _ _ _ h => h) (Or.inl ⟨by rfl, fun w' hS' => by have c := blk_cell hS' 3 (v := .int .i64 (B)) rfl; go_simp⟩) hH ?_
    try simp only [Act.put, List.setIfInBounds_toArray, List.set_cons_zero, List.set_cons_succ]
    refine wpAnyH_take (i := 9) (oi := { dst := some 18, op := Go.Op.binOp Go.BinOp.add 3 (Go.Operand.tmp 15) (Go.Operand.tmp 17) 3, type := 3, pos := "ref.go:66", after := #[{ on := 6, ground := Go.Ground.data }, { on := 8, ground := Go.Ground.data }], guard := none }) (v := .int .i64 ((da.size : Int) + (B : Int))) rfl (by kernel_rfl) (by kernel_rfl) (by kernel_rfl) (fun _ _ _ h => h) (Or.inl ⟨by rfl, fun w' hS' => by first | rfl | (go_simp; done) | (go_simp; rfl)⟩) hH ?_
    try simp only [Act.put, List.setIfInBounds_toArray, List.set_cons_zero, List.set_cons_succ]
    refine wpAnyH_ready (rs := [3]) (by kernel_rfl) (by simp) ?_
    refine AllReadyH.cons (o := { dst := some 12, op := Go.Op.call { callee := Go.Callee.value (Go.Operand.func 60), args := #[Go.Operand.tmp 11], argTypes := #[3] }, type := 3, pos := "ref.go:66", after := #[{ on := 2, ground := Go.Ground.data }], guard := none }) rfl (fun K' hK => ?_) AllReadyH.nil
    rw [if_pos (by rfl)]
    go_wp2_with (go_at_call 60; refine (P1.out _).mono ?_; rintro e wp ⟨rfl, rfl⟩)
    refine hK.out _ _ (BB.out) (fun hH1 => ?_)
    clear hK K'
    try simp only [Act.put, List.setIfInBounds_toArray, List.set_cons_zero, List.set_cons_succ]
    refine wpAnyH_ready (rs := [10]) (by kernel_rfl) (by simp) ?_
    refine AllReadyH.cons (o := { dst := some 19, op := Go.Op.call { callee := Go.Callee.value (Go.Operand.func 60), args := #[Go.Operand.tmp 18], argTypes := #[3] }, type := 3, pos := "ref.go:66", after := #[{ on := 9, ground := Go.Ground.data }, { on := 3, ground := Go.Ground.chain }], guard := none }) rfl (fun K' hK => ?_) AllReadyH.nil
    rw [if_pos (by rfl)]
    go_wp2_with (go_at_call 60; refine (P2.out _).mono ?_; rintro e wp ⟨rfl, rfl⟩)
    refine hK.out _ _ (BB.out) (fun hH2 => ?_)
    clear hK K'
    try simp only [Act.put, List.setIfInBounds_toArray, List.set_cons_zero, List.set_cons_succ]
    refine wpAnyH_take (i := 11) (oi := { dst := some 2, op := Go.Op.assign (Go.Operand.tmp 12), type := 3, pos := "ref.go:66", after := #[{ on := 3, ground := Go.Ground.data }, { on := 10, ground := Go.Ground.chain }, { on := 0, ground := Go.Ground.phase }, { on := 1, ground := Go.Ground.phase }, { on := 2, ground := Go.Ground.phase }, { on := 3, ground := Go.Ground.phase }, { on := 4, ground := Go.Ground.textOnly Go.Departure.lateStores }, { on := 5, ground := Go.Ground.textOnly Go.Departure.lateStores }, { on := 6, ground := Go.Ground.textOnly Go.Departure.lateStoresUnsure }, { on := 7, ground := Go.Ground.textOnly Go.Departure.lateStores }, { on := 8, ground := Go.Ground.textOnly Go.Departure.lateStores }, { on := 9, ground := Go.Ground.textOnly Go.Departure.lateStores }, { on := 10, ground := Go.Ground.textOnly Go.Departure.lateStoresUnsure }], guard := none }) (v := .int .i64 (pgN tx.size : Nat)) rfl (by kernel_rfl) (by kernel_rfl) (by kernel_rfl) (fun _ _ _ h => h) (Or.inl ⟨by rfl, fun w' hS' => by first | rfl | (go_simp; done) | (go_simp; rfl)⟩) hH2 ?_
    try simp only [Act.put, List.setIfInBounds_toArray, List.set_cons_zero, List.set_cons_succ]
    refine wpAnyH_take (i := 12) (oi := { dst := some 3, op := Go.Op.assign (Go.Operand.tmp 19), type := 3, pos := "ref.go:66", after := #[{ on := 10, ground := Go.Ground.data }, { on := 11, ground := Go.Ground.chain }, { on := 0, ground := Go.Ground.phase }, { on := 1, ground := Go.Ground.phase }, { on := 2, ground := Go.Ground.phase }, { on := 3, ground := Go.Ground.phase }, { on := 4, ground := Go.Ground.phase }, { on := 5, ground := Go.Ground.phase }, { on := 6, ground := Go.Ground.phase }, { on := 7, ground := Go.Ground.phase }, { on := 8, ground := Go.Ground.phase }, { on := 9, ground := Go.Ground.phase }, { on := 10, ground := Go.Ground.phase }, { on := 11, ground := Go.Ground.phase }], guard := none }) (v := .int .i64 (pgN (da.size + B) : Nat)) rfl (by kernel_rfl) (by kernel_rfl) (by kernel_rfl) (fun _ _ _ h => h) (Or.inl ⟨by rfl, fun w' hS' => by first | rfl | (go_simp; done) | (go_simp; rfl)⟩) hH2 ?_
    try simp only [Act.put, List.setIfInBounds_toArray, List.set_cons_zero, List.set_cons_succ]
    refine wpAnyH_done (by kernel_rfl) ?_ _
    have g1 := G9.out
    go_wp2_with fail
    go_ret2
    exact ⟨rfl, g1⟩
end Go.Proofs.YtdlglnoffpnonaaGreat.P
