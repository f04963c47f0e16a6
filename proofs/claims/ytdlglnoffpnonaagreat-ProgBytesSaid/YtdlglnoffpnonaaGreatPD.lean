/- Stage 12: May, Size. No condition. -/
import Derived.Test.YtdlglnoffpnonaaGreatPA
import Derived.Test.YtdlglnoffpnonaaGreatO
import Derived.Deep.QuietTactic
set_option linter.unusedVariables false
set_option linter.unusedSimpArgs false
set_option maxRecDepth 100000
namespace Go.Proofs.YtdlglnoffpnonaaGreat.P
open Go.RowKit Go.Proofs.YtdlglnoffpnonaaGreat.W
set_option maxHeartbeats 3200000 in
theorem c_may (x : Pg) (h1 : x.tx.size ≤ maxLen) (h2 : x.da.size ≤ maxLen) (w : World) :
    Calls Tryz.prog 25 #[pgV x] w fun e w' => e = .returned (.bool (mayP x)) ∧ Gr w w' := by
  obtain ⟨en, tx, da, bs⟩ := x
  unfold maxLen at h1 h2
  have h1 : tx.size ≤ 2 ^ 63 - 1 := h1
  have h2 : da.size ≤ 2 ^ 63 - 1 := h2
  obtain ⟨B, hB⟩ : ∃ B, mayP ⟨en, tx, da, bs⟩ = B := ⟨_, rfl⟩
  rw [hB]
  have hB2 := hB
  unfold mayP at hB2
  have hB3 : (decide (4 ≤ tx.size) && (decide (tx.size ≤ 2048) && (decide (tx.size % 4 = 0) && (decide (0 ≤ en) && (decide (en < tx.size) && (decide (en % 4 = 0) && (decide (da.size ≤ 1024) && (decide (0 ≤ bs) && (decide (bs ≤ 4096) && decide (32 + tx.size + da.size ≤ 2368)))))))))) = B := hB2
  clear hB hB2
  show Calls Tryz.prog 25 #[.agg #[.int .i64 en, .string tx, .string da, .int .i64 bs]] w _
  by_cases e1 : 4 ≤ tx.size
  rotate_left
  · rw [decide_eq_false e1] at hB3
    obtain rfl : false = B := hB3
    have m1 : ¬ (4 : Int) ≤ (tx.size : Int) := by omega
    go_enter Tryz.func25, Tryz.ntmps25
    go_wp2_with fail
    have c0 : (w.alloc (.cells #[.int .i64 en, .string tx, .string da, .int .i64 bs] 23)).cell? ⟨w.heap.size, 0, none⟩ = some (.int .i64 en) := cnew w #[.int .i64 en, .string tx, .string da, .int .i64 bs] 23 0 rfl
    have c1 : (w.alloc (.cells #[.int .i64 en, .string tx, .string da, .int .i64 bs] 23)).cell? ⟨w.heap.size, 1, none⟩ = some (.string tx) := cnew w #[.int .i64 en, .string tx, .string da, .int .i64 bs] 23 1 rfl
    have c2 : (w.alloc (.cells #[.int .i64 en, .string tx, .string da, .int .i64 bs] 23)).cell? ⟨w.heap.size, 2, none⟩ = some (.string da) := cnew w #[.int .i64 en, .string tx, .string da, .int .i64 bs] 23 2 rfl
    have c3 : (w.alloc (.cells #[.int .i64 en, .string tx, .string da, .int .i64 bs] 23)).cell? ⟨w.heap.size, 3, none⟩ = some (.int .i64 bs) := cnew w #[.int .i64 en, .string tx, .string da, .int .i64 bs] 23 3 rfl
    have g0 : Gr w (w.alloc (.cells #[.int .i64 en, .string tx, .string da, .int .i64 bs] 23)) := (Gr.refl w).alloc (Nat.le_refl _) _
    generalize (w.alloc (.cells #[.int .i64 en, .string tx, .string da, .int .i64 bs] 23)) = w1 at *
    go_quiet (fail)
    clear c1 c2
    have g1 := g0.drewN nq
    have d0 : (w1.drewN nq).cell? ⟨w.heap.size, 0, none⟩ = some (.int .i64 en) := c0
    have d3 : (w1.drewN nq).cell? ⟨w.heap.size, 3, none⟩ = some (.int .i64 bs) := c3
    clear c0 c3 g0
    generalize w1.drewN nq = w2 at *
    go_wp2_with fail
    go_ret
    exact ⟨rfl, g1⟩
  have m1 : (4 : Int) ≤ (tx.size : Int) := by omega
  rw [decide_eq_true e1, Bool.true_and] at hB3
  by_cases e2 : tx.size ≤ 2048
  rotate_left
  · rw [decide_eq_false e2] at hB3
    obtain rfl : false = B := hB3
    have m2 : ¬ (tx.size : Int) ≤ 2048 := by omega
    go_enter Tryz.func25, Tryz.ntmps25
    go_wp2_with fail
    have c0 : (w.alloc (.cells #[.int .i64 en, .string tx, .string da, .int .i64 bs] 23)).cell? ⟨w.heap.size, 0, none⟩ = some (.int .i64 en) := cnew w #[.int .i64 en, .string tx, .string da, .int .i64 bs] 23 0 rfl
    have c1 : (w.alloc (.cells #[.int .i64 en, .string tx, .string da, .int .i64 bs] 23)).cell? ⟨w.heap.size, 1, none⟩ = some (.string tx) := cnew w #[.int .i64 en, .string tx, .string da, .int .i64 bs] 23 1 rfl
    have c2 : (w.alloc (.cells #[.int .i64 en, .string tx, .string da, .int .i64 bs] 23)).cell? ⟨w.heap.size, 2, none⟩ = some (.string da) := cnew w #[.int .i64 en, .string tx, .string da, .int .i64 bs] 23 2 rfl
    have c3 : (w.alloc (.cells #[.int .i64 en, .string tx, .string da, .int .i64 bs] 23)).cell? ⟨w.heap.size, 3, none⟩ = some (.int .i64 bs) := cnew w #[.int .i64 en, .string tx, .string da, .int .i64 bs] 23 3 rfl
    have g0 : Gr w (w.alloc (.cells #[.int .i64 en, .string tx, .string da, .int .i64 bs] 23)) := (Gr.refl w).alloc (Nat.le_refl _) _
    generalize (w.alloc (.cells #[.int .i64 en, .string tx, .string da, .int .i64 bs] 23)) = w1 at *
    go_quiet (fail)
    clear c1 c2
    have g1 := g0.drewN nq
    have d0 : (w1.drewN nq).cell? ⟨w.heap.size, 0, none⟩ = some (.int .i64 en) := c0
    have d3 : (w1.drewN nq).cell? ⟨w.heap.size, 3, none⟩ = some (.int .i64 bs) := c3
    clear c0 c3 g0
    generalize w1.drewN nq = w2 at *
    go_wp2_with fail
    go_ret
    exact ⟨rfl, g1⟩
  have m2 : (tx.size : Int) ≤ 2048 := by omega
  rw [decide_eq_true e2, Bool.true_and] at hB3
  have t3 : (tx.size : Int).tmod 4 = ((tx.size % 4 : Nat) : Int) := by rw [Int.tmod_eq_emod_of_nonneg (by omega)]; omega
  by_cases e3 : tx.size % 4 = 0
  rotate_left
  · rw [decide_eq_false e3] at hB3
    obtain rfl : false = B := hB3
    obtain ⟨k, hk⟩ : ∃ k : Nat, tx.size % 4 = k + 1 := ⟨tx.size % 4 - 1, by omega⟩
    have m3 : ¬ (tx.size : Int).tmod 4 = 0 := by omega
    clear t3
    go_enter Tryz.func25, Tryz.ntmps25
    go_wp2_with fail
    have c0 : (w.alloc (.cells #[.int .i64 en, .string tx, .string da, .int .i64 bs] 23)).cell? ⟨w.heap.size, 0, none⟩ = some (.int .i64 en) := cnew w #[.int .i64 en, .string tx, .string da, .int .i64 bs] 23 0 rfl
    have c1 : (w.alloc (.cells #[.int .i64 en, .string tx, .string da, .int .i64 bs] 23)).cell? ⟨w.heap.size, 1, none⟩ = some (.string tx) := cnew w #[.int .i64 en, .string tx, .string da, .int .i64 bs] 23 1 rfl
    have c2 : (w.alloc (.cells #[.int .i64 en, .string tx, .string da, .int .i64 bs] 23)).cell? ⟨w.heap.size, 2, none⟩ = some (.string da) := cnew w #[.int .i64 en, .string tx, .string da, .int .i64 bs] 23 2 rfl
    have c3 : (w.alloc (.cells #[.int .i64 en, .string tx, .string da, .int .i64 bs] 23)).cell? ⟨w.heap.size, 3, none⟩ = some (.int .i64 bs) := cnew w #[.int .i64 en, .string tx, .string da, .int .i64 bs] 23 3 rfl
    have g0 : Gr w (w.alloc (.cells #[.int .i64 en, .string tx, .string da, .int .i64 bs] 23)) := (Gr.refl w).alloc (Nat.le_refl _) _
    generalize (w.alloc (.cells #[.int .i64 en, .string tx, .string da, .int .i64 bs] 23)) = w1 at *
    go_quiet (fail)
    clear c1 c2
    have g1 := g0.drewN nq
    have d0 : (w1.drewN nq).cell? ⟨w.heap.size, 0, none⟩ = some (.int .i64 en) := c0
    have d3 : (w1.drewN nq).cell? ⟨w.heap.size, 3, none⟩ = some (.int .i64 bs) := c3
    clear c0 c3 g0
    generalize w1.drewN nq = w2 at *
    go_wp2_with fail
    go_ret
    exact ⟨rfl, g1⟩
  have m3 : (tx.size : Int).tmod 4 = 0 := by omega
  clear t3
  rw [decide_eq_true e3, Bool.true_and] at hB3
  by_cases e4 : 0 ≤ en
  rotate_left
  · rw [decide_eq_false e4] at hB3
    obtain rfl : false = B := hB3
    go_enter Tryz.func25, Tryz.ntmps25
    go_wp2_with fail
    have c0 : (w.alloc (.cells #[.int .i64 en, .string tx, .string da, .int .i64 bs] 23)).cell? ⟨w.heap.size, 0, none⟩ = some (.int .i64 en) := cnew w #[.int .i64 en, .string tx, .string da, .int .i64 bs] 23 0 rfl
    have c1 : (w.alloc (.cells #[.int .i64 en, .string tx, .string da, .int .i64 bs] 23)).cell? ⟨w.heap.size, 1, none⟩ = some (.string tx) := cnew w #[.int .i64 en, .string tx, .string da, .int .i64 bs] 23 1 rfl
    have c2 : (w.alloc (.cells #[.int .i64 en, .string tx, .string da, .int .i64 bs] 23)).cell? ⟨w.heap.size, 2, none⟩ = some (.string da) := cnew w #[.int .i64 en, .string tx, .string da, .int .i64 bs] 23 2 rfl
    have c3 : (w.alloc (.cells #[.int .i64 en, .string tx, .string da, .int .i64 bs] 23)).cell? ⟨w.heap.size, 3, none⟩ = some (.int .i64 bs) := cnew w #[.int .i64 en, .string tx, .string da, .int .i64 bs] 23 3 rfl
    have g0 : Gr w (w.alloc (.cells #[.int .i64 en, .string tx, .string da, .int .i64 bs] 23)) := (Gr.refl w).alloc (Nat.le_refl _) _
    generalize (w.alloc (.cells #[.int .i64 en, .string tx, .string da, .int .i64 bs] 23)) = w1 at *
    go_quiet (fail)
    clear c1 c2
    have g1 := g0.drewN nq
    have d0 : (w1.drewN nq).cell? ⟨w.heap.size, 0, none⟩ = some (.int .i64 en) := c0
    have d3 : (w1.drewN nq).cell? ⟨w.heap.size, 3, none⟩ = some (.int .i64 bs) := c3
    clear c0 c3 g0
    generalize w1.drewN nq = w2 at *
    go_wp2_with fail
    go_ret
    exact ⟨rfl, g1⟩
  rw [decide_eq_true e4, Bool.true_and] at hB3
  by_cases e5 : en < tx.size
  rotate_left
  · rw [decide_eq_false e5] at hB3
    obtain rfl : false = B := hB3
    go_enter Tryz.func25, Tryz.ntmps25
    go_wp2_with fail
    have c0 : (w.alloc (.cells #[.int .i64 en, .string tx, .string da, .int .i64 bs] 23)).cell? ⟨w.heap.size, 0, none⟩ = some (.int .i64 en) := cnew w #[.int .i64 en, .string tx, .string da, .int .i64 bs] 23 0 rfl
    have c1 : (w.alloc (.cells #[.int .i64 en, .string tx, .string da, .int .i64 bs] 23)).cell? ⟨w.heap.size, 1, none⟩ = some (.string tx) := cnew w #[.int .i64 en, .string tx, .string da, .int .i64 bs] 23 1 rfl
    have c2 : (w.alloc (.cells #[.int .i64 en, .string tx, .string da, .int .i64 bs] 23)).cell? ⟨w.heap.size, 2, none⟩ = some (.string da) := cnew w #[.int .i64 en, .string tx, .string da, .int .i64 bs] 23 2 rfl
    have c3 : (w.alloc (.cells #[.int .i64 en, .string tx, .string da, .int .i64 bs] 23)).cell? ⟨w.heap.size, 3, none⟩ = some (.int .i64 bs) := cnew w #[.int .i64 en, .string tx, .string da, .int .i64 bs] 23 3 rfl
    have g0 : Gr w (w.alloc (.cells #[.int .i64 en, .string tx, .string da, .int .i64 bs] 23)) := (Gr.refl w).alloc (Nat.le_refl _) _
    generalize (w.alloc (.cells #[.int .i64 en, .string tx, .string da, .int .i64 bs] 23)) = w1 at *
    go_quiet (fail)
    clear c1 c2
    have g1 := g0.drewN nq
    have d0 : (w1.drewN nq).cell? ⟨w.heap.size, 0, none⟩ = some (.int .i64 en) := c0
    have d3 : (w1.drewN nq).cell? ⟨w.heap.size, 3, none⟩ = some (.int .i64 bs) := c3
    clear c0 c3 g0
    generalize w1.drewN nq = w2 at *
    go_wp2_with fail
    go_ret
    exact ⟨rfl, g1⟩
  rw [decide_eq_true e5, Bool.true_and] at hB3
  have t6 : en.tmod 4 = en % 4 := Int.tmod_eq_emod_of_nonneg e4
  by_cases e6 : en % 4 = 0
  rotate_left
  · rw [decide_eq_false e6] at hB3
    obtain rfl : false = B := hB3
    have m6 : ¬ en.tmod 4 = 0 := by omega
    clear t6
    go_enter Tryz.func25, Tryz.ntmps25
    go_wp2_with fail
    have c0 : (w.alloc (.cells #[.int .i64 en, .string tx, .string da, .int .i64 bs] 23)).cell? ⟨w.heap.size, 0, none⟩ = some (.int .i64 en) := cnew w #[.int .i64 en, .string tx, .string da, .int .i64 bs] 23 0 rfl
    have c1 : (w.alloc (.cells #[.int .i64 en, .string tx, .string da, .int .i64 bs] 23)).cell? ⟨w.heap.size, 1, none⟩ = some (.string tx) := cnew w #[.int .i64 en, .string tx, .string da, .int .i64 bs] 23 1 rfl
    have c2 : (w.alloc (.cells #[.int .i64 en, .string tx, .string da, .int .i64 bs] 23)).cell? ⟨w.heap.size, 2, none⟩ = some (.string da) := cnew w #[.int .i64 en, .string tx, .string da, .int .i64 bs] 23 2 rfl
    have c3 : (w.alloc (.cells #[.int .i64 en, .string tx, .string da, .int .i64 bs] 23)).cell? ⟨w.heap.size, 3, none⟩ = some (.int .i64 bs) := cnew w #[.int .i64 en, .string tx, .string da, .int .i64 bs] 23 3 rfl
    have g0 : Gr w (w.alloc (.cells #[.int .i64 en, .string tx, .string da, .int .i64 bs] 23)) := (Gr.refl w).alloc (Nat.le_refl _) _
    generalize (w.alloc (.cells #[.int .i64 en, .string tx, .string da, .int .i64 bs] 23)) = w1 at *
    go_quiet (fail)
    clear c1 c2
    have g1 := g0.drewN nq
    have d0 : (w1.drewN nq).cell? ⟨w.heap.size, 0, none⟩ = some (.int .i64 en) := c0
    have d3 : (w1.drewN nq).cell? ⟨w.heap.size, 3, none⟩ = some (.int .i64 bs) := c3
    clear c0 c3 g0
    generalize w1.drewN nq = w2 at *
    go_wp2_with fail
    go_ret
    exact ⟨rfl, g1⟩
  have m6 : en.tmod 4 = 0 := by omega
  clear t6
  rw [decide_eq_true e6, Bool.true_and] at hB3
  by_cases e7 : da.size ≤ 1024
  rotate_left
  · rw [decide_eq_false e7] at hB3
    obtain rfl : false = B := hB3
    have m7 : ¬ (da.size : Int) ≤ 1024 := by omega
    go_enter Tryz.func25, Tryz.ntmps25
    go_wp2_with fail
    have c0 : (w.alloc (.cells #[.int .i64 en, .string tx, .string da, .int .i64 bs] 23)).cell? ⟨w.heap.size, 0, none⟩ = some (.int .i64 en) := cnew w #[.int .i64 en, .string tx, .string da, .int .i64 bs] 23 0 rfl
    have c1 : (w.alloc (.cells #[.int .i64 en, .string tx, .string da, .int .i64 bs] 23)).cell? ⟨w.heap.size, 1, none⟩ = some (.string tx) := cnew w #[.int .i64 en, .string tx, .string da, .int .i64 bs] 23 1 rfl
    have c2 : (w.alloc (.cells #[.int .i64 en, .string tx, .string da, .int .i64 bs] 23)).cell? ⟨w.heap.size, 2, none⟩ = some (.string da) := cnew w #[.int .i64 en, .string tx, .string da, .int .i64 bs] 23 2 rfl
    have c3 : (w.alloc (.cells #[.int .i64 en, .string tx, .string da, .int .i64 bs] 23)).cell? ⟨w.heap.size, 3, none⟩ = some (.int .i64 bs) := cnew w #[.int .i64 en, .string tx, .string da, .int .i64 bs] 23 3 rfl
    have g0 : Gr w (w.alloc (.cells #[.int .i64 en, .string tx, .string da, .int .i64 bs] 23)) := (Gr.refl w).alloc (Nat.le_refl _) _
    generalize (w.alloc (.cells #[.int .i64 en, .string tx, .string da, .int .i64 bs] 23)) = w1 at *
    go_quiet (fail)
    clear c1 c2
    have g1 := g0.drewN nq
    have d0 : (w1.drewN nq).cell? ⟨w.heap.size, 0, none⟩ = some (.int .i64 en) := c0
    have d3 : (w1.drewN nq).cell? ⟨w.heap.size, 3, none⟩ = some (.int .i64 bs) := c3
    clear c0 c3 g0
    generalize w1.drewN nq = w2 at *
    go_wp2_with fail
    go_ret
    exact ⟨rfl, g1⟩
  have m7 : (da.size : Int) ≤ 1024 := by omega
  rw [decide_eq_true e7, Bool.true_and] at hB3
  by_cases e8 : 0 ≤ bs
  rotate_left
  · rw [decide_eq_false e8] at hB3
    obtain rfl : false = B := hB3
    go_enter Tryz.func25, Tryz.ntmps25
    go_wp2_with fail
    have c0 : (w.alloc (.cells #[.int .i64 en, .string tx, .string da, .int .i64 bs] 23)).cell? ⟨w.heap.size, 0, none⟩ = some (.int .i64 en) := cnew w #[.int .i64 en, .string tx, .string da, .int .i64 bs] 23 0 rfl
    have c1 : (w.alloc (.cells #[.int .i64 en, .string tx, .string da, .int .i64 bs] 23)).cell? ⟨w.heap.size, 1, none⟩ = some (.string tx) := cnew w #[.int .i64 en, .string tx, .string da, .int .i64 bs] 23 1 rfl
    have c2 : (w.alloc (.cells #[.int .i64 en, .string tx, .string da, .int .i64 bs] 23)).cell? ⟨w.heap.size, 2, none⟩ = some (.string da) := cnew w #[.int .i64 en, .string tx, .string da, .int .i64 bs] 23 2 rfl
    have c3 : (w.alloc (.cells #[.int .i64 en, .string tx, .string da, .int .i64 bs] 23)).cell? ⟨w.heap.size, 3, none⟩ = some (.int .i64 bs) := cnew w #[.int .i64 en, .string tx, .string da, .int .i64 bs] 23 3 rfl
    have g0 : Gr w (w.alloc (.cells #[.int .i64 en, .string tx, .string da, .int .i64 bs] 23)) := (Gr.refl w).alloc (Nat.le_refl _) _
    generalize (w.alloc (.cells #[.int .i64 en, .string tx, .string da, .int .i64 bs] 23)) = w1 at *
    go_quiet (fail)
    clear c1 c2
    have g1 := g0.drewN nq
    have d0 : (w1.drewN nq).cell? ⟨w.heap.size, 0, none⟩ = some (.int .i64 en) := c0
    have d3 : (w1.drewN nq).cell? ⟨w.heap.size, 3, none⟩ = some (.int .i64 bs) := c3
    clear c0 c3 g0
    generalize w1.drewN nq = w2 at *
    go_wp2_with fail
    go_ret
    exact ⟨rfl, g1⟩
  rw [decide_eq_true e8, Bool.true_and] at hB3
  by_cases e9 : bs ≤ 4096
  rotate_left
  · rw [decide_eq_false e9] at hB3
    obtain rfl : false = B := hB3
    go_enter Tryz.func25, Tryz.ntmps25
    go_wp2_with fail
    have c0 : (w.alloc (.cells #[.int .i64 en, .string tx, .string da, .int .i64 bs] 23)).cell? ⟨w.heap.size, 0, none⟩ = some (.int .i64 en) := cnew w #[.int .i64 en, .string tx, .string da, .int .i64 bs] 23 0 rfl
    have c1 : (w.alloc (.cells #[.int .i64 en, .string tx, .string da, .int .i64 bs] 23)).cell? ⟨w.heap.size, 1, none⟩ = some (.string tx) := cnew w #[.int .i64 en, .string tx, .string da, .int .i64 bs] 23 1 rfl
    have c2 : (w.alloc (.cells #[.int .i64 en, .string tx, .string da, .int .i64 bs] 23)).cell? ⟨w.heap.size, 2, none⟩ = some (.string da) := cnew w #[.int .i64 en, .string tx, .string da, .int .i64 bs] 23 2 rfl
    have c3 : (w.alloc (.cells #[.int .i64 en, .string tx, .string da, .int .i64 bs] 23)).cell? ⟨w.heap.size, 3, none⟩ = some (.int .i64 bs) := cnew w #[.int .i64 en, .string tx, .string da, .int .i64 bs] 23 3 rfl
    have g0 : Gr w (w.alloc (.cells #[.int .i64 en, .string tx, .string da, .int .i64 bs] 23)) := (Gr.refl w).alloc (Nat.le_refl _) _
    generalize (w.alloc (.cells #[.int .i64 en, .string tx, .string da, .int .i64 bs] 23)) = w1 at *
    go_quiet (fail)
    clear c1 c2
    have g1 := g0.drewN nq
    have d0 : (w1.drewN nq).cell? ⟨w.heap.size, 0, none⟩ = some (.int .i64 en) := c0
    have d3 : (w1.drewN nq).cell? ⟨w.heap.size, 3, none⟩ = some (.int .i64 bs) := c3
    clear c0 c3 g0
    generalize w1.drewN nq = w2 at *
    go_wp2_with fail
    go_ret
    exact ⟨rfl, g1⟩
  rw [decide_eq_true e9, Bool.true_and] at hB3
  have t1 : IntKind.i64.wrap (32 + (tx.size : Int)) = 32 + (tx.size : Int) := by rw [IntKind.wrap_i64]; omega
  have t2 : IntKind.i64.wrap (32 + (tx.size : Int) + (da.size : Int)) = 32 + (tx.size : Int) + (da.size : Int) := by rw [IntKind.wrap_i64]; omega
  by_cases e10 : 32 + tx.size + da.size ≤ 2368
  · rw [decide_eq_true e10] at hB3
    obtain rfl : true = B := hB3
    have m10 : 32 + (tx.size : Int) + (da.size : Int) ≤ 2368 := by omega
    go_enter Tryz.func25, Tryz.ntmps25
    go_wp2_with fail
    have c0 : (w.alloc (.cells #[.int .i64 en, .string tx, .string da, .int .i64 bs] 23)).cell? ⟨w.heap.size, 0, none⟩ = some (.int .i64 en) := cnew w #[.int .i64 en, .string tx, .string da, .int .i64 bs] 23 0 rfl
    have c1 : (w.alloc (.cells #[.int .i64 en, .string tx, .string da, .int .i64 bs] 23)).cell? ⟨w.heap.size, 1, none⟩ = some (.string tx) := cnew w #[.int .i64 en, .string tx, .string da, .int .i64 bs] 23 1 rfl
    have c2 : (w.alloc (.cells #[.int .i64 en, .string tx, .string da, .int .i64 bs] 23)).cell? ⟨w.heap.size, 2, none⟩ = some (.string da) := cnew w #[.int .i64 en, .string tx, .string da, .int .i64 bs] 23 2 rfl
    have c3 : (w.alloc (.cells #[.int .i64 en, .string tx, .string da, .int .i64 bs] 23)).cell? ⟨w.heap.size, 3, none⟩ = some (.int .i64 bs) := cnew w #[.int .i64 en, .string tx, .string da, .int .i64 bs] 23 3 rfl
    have g0 : Gr w (w.alloc (.cells #[.int .i64 en, .string tx, .string da, .int .i64 bs] 23)) := (Gr.refl w).alloc (Nat.le_refl _) _
    generalize (w.alloc (.cells #[.int .i64 en, .string tx, .string da, .int .i64 bs] 23)) = w1 at *
    go_quiet (fail)
    clear c1 c2
    have g1 := g0.drewN nq
    have d0 : (w1.drewN nq).cell? ⟨w.heap.size, 0, none⟩ = some (.int .i64 en) := c0
    have d3 : (w1.drewN nq).cell? ⟨w.heap.size, 3, none⟩ = some (.int .i64 bs) := c3
    clear c0 c3 g0
    generalize w1.drewN nq = w2 at *
    go_wp2_with fail
    go_ret
    exact ⟨rfl, g1⟩
  · rw [decide_eq_false e10] at hB3
    obtain rfl : false = B := hB3
    have m10 : ¬ 32 + (tx.size : Int) + (da.size : Int) ≤ 2368 := by omega
    go_enter Tryz.func25, Tryz.ntmps25
    go_wp2_with fail
    have c0 : (w.alloc (.cells #[.int .i64 en, .string tx, .string da, .int .i64 bs] 23)).cell? ⟨w.heap.size, 0, none⟩ = some (.int .i64 en) := cnew w #[.int .i64 en, .string tx, .string da, .int .i64 bs] 23 0 rfl
    have c1 : (w.alloc (.cells #[.int .i64 en, .string tx, .string da, .int .i64 bs] 23)).cell? ⟨w.heap.size, 1, none⟩ = some (.string tx) := cnew w #[.int .i64 en, .string tx, .string da, .int .i64 bs] 23 1 rfl
    have c2 : (w.alloc (.cells #[.int .i64 en, .string tx, .string da, .int .i64 bs] 23)).cell? ⟨w.heap.size, 2, none⟩ = some (.string da) := cnew w #[.int .i64 en, .string tx, .string da, .int .i64 bs] 23 2 rfl
    have c3 : (w.alloc (.cells #[.int .i64 en, .string tx, .string da, .int .i64 bs] 23)).cell? ⟨w.heap.size, 3, none⟩ = some (.int .i64 bs) := cnew w #[.int .i64 en, .string tx, .string da, .int .i64 bs] 23 3 rfl
    have g0 : Gr w (w.alloc (.cells #[.int .i64 en, .string tx, .string da, .int .i64 bs] 23)) := (Gr.refl w).alloc (Nat.le_refl _) _
    generalize (w.alloc (.cells #[.int .i64 en, .string tx, .string da, .int .i64 bs] 23)) = w1 at *
    go_quiet (fail)
    clear c1 c2
    have g1 := g0.drewN nq
    have d0 : (w1.drewN nq).cell? ⟨w.heap.size, 0, none⟩ = some (.int .i64 en) := c0
    have d3 : (w1.drewN nq).cell? ⟨w.heap.size, 3, none⟩ = some (.int .i64 bs) := c3
    clear c0 c3 g0
    generalize w1.drewN nq = w2 at *
    go_wp2_with fail
    go_ret
    exact ⟨ret_b (decide_eq_false (by omega)), g1⟩
end Go.Proofs.YtdlglnoffpnonaaGreat.P
