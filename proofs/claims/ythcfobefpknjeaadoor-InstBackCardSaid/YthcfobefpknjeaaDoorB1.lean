/- Stage 2: small calls: bits of a word, the registers that may be. No condition. -/
import Derived.Test.YthcfobefpknjeaaDoorG
import Derived.WalkKit
import Derived.Deep.QuietTactic
set_option linter.unusedVariables false
set_option maxRecDepth 50000
namespace Go.Proofs.YthcfobefpknjeaaDoor.P
open Go.RowKit
def u32 (a : Int) : Prop := 0 ≤ a ∧ a < 4294967296
theorem ret_u32 {a b : Int} (h : a = b) : Ending.returned (.int .u32 a) = .returned (.int .u32 b) := by rw [h]
theorem c_bits_31_12 (x : Int) (hx : u32 x) (w : World) : Calls Tryd.prog 29 #[.int .u32 x, .int .i64 31, .int .i64 12] w fun e w' => e = .returned (.int .u32 (x / 4096 % 1048576)) ∧ w' = w := by
  obtain ⟨x0, x1⟩ := hx
  go_enter Tryd.func29, Tryd.ntmps29
  go_wp2
  go_ret
  exact ⟨ret_u32 (by omega), rfl⟩
theorem c_bits_20_20 (x : Int) (hx : u32 x) (w : World) : Calls Tryd.prog 29 #[.int .u32 x, .int .i64 20, .int .i64 20] w fun e w' => e = .returned (.int .u32 (x / 1048576 % 2)) ∧ w' = w := by
  obtain ⟨x0, x1⟩ := hx
  go_enter Tryd.func29, Tryd.ntmps29
  go_wp2
  go_ret
  exact ⟨ret_u32 (by omega), rfl⟩
theorem c_bits_10_1 (x : Int) (hx : u32 x) (w : World) : Calls Tryd.prog 29 #[.int .u32 x, .int .i64 10, .int .i64 1] w fun e w' => e = .returned (.int .u32 (x / 2 % 1024)) ∧ w' = w := by
  obtain ⟨x0, x1⟩ := hx
  go_enter Tryd.func29, Tryd.ntmps29
  go_wp2
  go_ret
  exact ⟨ret_u32 (by omega), rfl⟩
theorem c_bits_11_11 (x : Int) (hx : u32 x) (w : World) : Calls Tryd.prog 29 #[.int .u32 x, .int .i64 11, .int .i64 11] w fun e w' => e = .returned (.int .u32 (x / 2048 % 2)) ∧ w' = w := by
  obtain ⟨x0, x1⟩ := hx
  go_enter Tryd.func29, Tryd.ntmps29
  go_wp2
  go_ret
  exact ⟨ret_u32 (by omega), rfl⟩
theorem c_bits_19_12 (x : Int) (hx : u32 x) (w : World) : Calls Tryd.prog 29 #[.int .u32 x, .int .i64 19, .int .i64 12] w fun e w' => e = .returned (.int .u32 (x / 4096 % 256)) ∧ w' = w := by
  obtain ⟨x0, x1⟩ := hx
  go_enter Tryd.func29, Tryd.ntmps29
  go_wp2
  go_ret
  exact ⟨ret_u32 (by omega), rfl⟩
theorem c_bits_11_0 (x : Int) (hx : u32 x) (w : World) : Calls Tryd.prog 29 #[.int .u32 x, .int .i64 11, .int .i64 0] w fun e w' => e = .returned (.int .u32 (x / 1 % 4096)) ∧ w' = w := by
  obtain ⟨x0, x1⟩ := hx
  go_enter Tryd.func29, Tryd.ntmps29
  go_wp2
  go_ret
  exact ⟨ret_u32 (by omega), rfl⟩
theorem c_bits_12_12 (x : Int) (hx : u32 x) (w : World) : Calls Tryd.prog 29 #[.int .u32 x, .int .i64 12, .int .i64 12] w fun e w' => e = .returned (.int .u32 (x / 4096 % 2)) ∧ w' = w := by
  obtain ⟨x0, x1⟩ := hx
  go_enter Tryd.func29, Tryd.ntmps29
  go_wp2
  go_ret
  exact ⟨ret_u32 (by omega), rfl⟩
theorem c_bits_10_5 (x : Int) (hx : u32 x) (w : World) : Calls Tryd.prog 29 #[.int .u32 x, .int .i64 10, .int .i64 5] w fun e w' => e = .returned (.int .u32 (x / 32 % 64)) ∧ w' = w := by
  obtain ⟨x0, x1⟩ := hx
  go_enter Tryd.func29, Tryd.ntmps29
  go_wp2
  go_ret
  exact ⟨ret_u32 (by omega), rfl⟩
theorem c_bits_4_1 (x : Int) (hx : u32 x) (w : World) : Calls Tryd.prog 29 #[.int .u32 x, .int .i64 4, .int .i64 1] w fun e w' => e = .returned (.int .u32 (x / 2 % 16)) ∧ w' = w := by
  obtain ⟨x0, x1⟩ := hx
  go_enter Tryd.func29, Tryd.ntmps29
  go_wp2
  go_ret
  exact ⟨ret_u32 (by omega), rfl⟩
theorem c_bits_11_5 (x : Int) (hx : u32 x) (w : World) : Calls Tryd.prog 29 #[.int .u32 x, .int .i64 11, .int .i64 5] w fun e w' => e = .returned (.int .u32 (x / 32 % 128)) ∧ w' = w := by
  obtain ⟨x0, x1⟩ := hx
  go_enter Tryd.func29, Tryd.ntmps29
  go_wp2
  go_ret
  exact ⟨ret_u32 (by omega), rfl⟩
theorem c_bits_4_0 (x : Int) (hx : u32 x) (w : World) : Calls Tryd.prog 29 #[.int .u32 x, .int .i64 4, .int .i64 0] w fun e w' => e = .returned (.int .u32 (x / 1 % 32)) ∧ w' = w := by
  obtain ⟨x0, x1⟩ := hx
  go_enter Tryd.func29, Tryd.ntmps29
  go_wp2
  go_ret
  exact ⟨ret_u32 (by omega), rfl⟩
theorem c_bits_6_0 (x : Int) (hx : u32 x) (w : World) : Calls Tryd.prog 29 #[.int .u32 x, .int .i64 6, .int .i64 0] w fun e w' => e = .returned (.int .u32 (x / 1 % 128)) ∧ w' = w := by
  obtain ⟨x0, x1⟩ := hx
  go_enter Tryd.func29, Tryd.ntmps29
  go_wp2
  go_ret
  exact ⟨ret_u32 (by omega), rfl⟩
theorem c_bits_11_7 (x : Int) (hx : u32 x) (w : World) : Calls Tryd.prog 29 #[.int .u32 x, .int .i64 11, .int .i64 7] w fun e w' => e = .returned (.int .u32 (x / 128 % 32)) ∧ w' = w := by
  obtain ⟨x0, x1⟩ := hx
  go_enter Tryd.func29, Tryd.ntmps29
  go_wp2
  go_ret
  exact ⟨ret_u32 (by omega), rfl⟩
theorem c_bits_19_15 (x : Int) (hx : u32 x) (w : World) : Calls Tryd.prog 29 #[.int .u32 x, .int .i64 19, .int .i64 15] w fun e w' => e = .returned (.int .u32 (x / 32768 % 32)) ∧ w' = w := by
  obtain ⟨x0, x1⟩ := hx
  go_enter Tryd.func29, Tryd.ntmps29
  go_wp2
  go_ret
  exact ⟨ret_u32 (by omega), rfl⟩
theorem c_bits_24_20 (x : Int) (hx : u32 x) (w : World) : Calls Tryd.prog 29 #[.int .u32 x, .int .i64 24, .int .i64 20] w fun e w' => e = .returned (.int .u32 (x / 1048576 % 32)) ∧ w' = w := by
  obtain ⟨x0, x1⟩ := hx
  go_enter Tryd.func29, Tryd.ntmps29
  go_wp2
  go_ret
  exact ⟨ret_u32 (by omega), rfl⟩
theorem c_bits_31_31 (x : Int) (hx : u32 x) (w : World) : Calls Tryd.prog 29 #[.int .u32 x, .int .i64 31, .int .i64 31] w fun e w' => e = .returned (.int .u32 (x / 2147483648 % 2)) ∧ w' = w := by
  obtain ⟨x0, x1⟩ := hx
  go_enter Tryd.func29, Tryd.ntmps29
  go_wp2
  go_ret
  exact ⟨ret_u32 (by omega), rfl⟩
theorem c_bits_30_12 (x : Int) (hx : u32 x) (w : World) : Calls Tryd.prog 29 #[.int .u32 x, .int .i64 30, .int .i64 12] w fun e w' => e = .returned (.int .u32 (x / 4096 % 524288)) ∧ w' = w := by
  obtain ⟨x0, x1⟩ := hx
  go_enter Tryd.func29, Tryd.ntmps29
  go_wp2
  go_ret
  exact ⟨ret_u32 (by omega), rfl⟩
theorem c_bits_30_21 (x : Int) (hx : u32 x) (w : World) : Calls Tryd.prog 29 #[.int .u32 x, .int .i64 30, .int .i64 21] w fun e w' => e = .returned (.int .u32 (x / 2097152 % 1024)) ∧ w' = w := by
  obtain ⟨x0, x1⟩ := hx
  go_enter Tryd.func29, Tryd.ntmps29
  go_wp2
  go_ret
  exact ⟨ret_u32 (by omega), rfl⟩
theorem c_bits_30_20 (x : Int) (hx : u32 x) (w : World) : Calls Tryd.prog 29 #[.int .u32 x, .int .i64 30, .int .i64 20] w fun e w' => e = .returned (.int .u32 (x / 1048576 % 2048)) ∧ w' = w := by
  obtain ⟨x0, x1⟩ := hx
  go_enter Tryd.func29, Tryd.ntmps29
  go_wp2
  go_ret
  exact ⟨ret_u32 (by omega), rfl⟩
theorem c_bits_30_25 (x : Int) (hx : u32 x) (w : World) : Calls Tryd.prog 29 #[.int .u32 x, .int .i64 30, .int .i64 25] w fun e w' => e = .returned (.int .u32 (x / 33554432 % 64)) ∧ w' = w := by
  obtain ⟨x0, x1⟩ := hx
  go_enter Tryd.func29, Tryd.ntmps29
  go_wp2
  go_ret
  exact ⟨ret_u32 (by omega), rfl⟩
theorem c_bits_11_8 (x : Int) (hx : u32 x) (w : World) : Calls Tryd.prog 29 #[.int .u32 x, .int .i64 11, .int .i64 8] w fun e w' => e = .returned (.int .u32 (x / 256 % 16)) ∧ w' = w := by
  obtain ⟨x0, x1⟩ := hx
  go_enter Tryd.func29, Tryd.ntmps29
  go_wp2
  go_ret
  exact ⟨ret_u32 (by omega), rfl⟩
theorem c_bits_7_7 (x : Int) (hx : u32 x) (w : World) : Calls Tryd.prog 29 #[.int .u32 x, .int .i64 7, .int .i64 7] w fun e w' => e = .returned (.int .u32 (x / 128 % 2)) ∧ w' = w := by
  obtain ⟨x0, x1⟩ := hx
  go_enter Tryd.func29, Tryd.ntmps29
  go_wp2
  go_ret
  exact ⟨ret_u32 (by omega), rfl⟩
theorem c_bits_25_20 (x : Int) (hx : u32 x) (w : World) : Calls Tryd.prog 29 #[.int .u32 x, .int .i64 25, .int .i64 20] w fun e w' => e = .returned (.int .u32 (x / 1048576 % 64)) ∧ w' = w := by
  obtain ⟨x0, x1⟩ := hx
  go_enter Tryd.func29, Tryd.ntmps29
  go_wp2
  go_ret
  exact ⟨ret_u32 (by omega), rfl⟩
theorem c_bits_26_25 (x : Int) (hx : u32 x) (w : World) : Calls Tryd.prog 29 #[.int .u32 x, .int .i64 26, .int .i64 25] w fun e w' => e = .returned (.int .u32 (x / 33554432 % 4)) ∧ w' = w := by
  obtain ⟨x0, x1⟩ := hx
  go_enter Tryd.func29, Tryd.ntmps29
  go_wp2
  go_ret
  exact ⟨ret_u32 (by omega), rfl⟩
theorem c_reserves (op : Int) (w : World) : Calls Tryd.prog 24 #[.int .i64 op] w fun e w' => e = .returned (.bool (decide (op = 66) || decide (op = 77))) ∧ w' = w := by
  have h : op = 66 ∨ op = 77 ∨ (op ≠ 66 ∧ op ≠ 77) := by omega
  rcases h with rfl | rfl | ⟨h1, h2⟩
  · go_enter Tryd.func24, Tryd.ntmps24
    go_wp2
    go_ret
    exact ⟨rfl, rfl⟩
  · go_enter Tryd.func24, Tryd.ntmps24
    go_wp2
    go_ret
    exact ⟨rfl, rfl⟩
  · have e1 : (op == 66) = false := by simp [h1]
    have e2 : (op == 77) = false := by simp [h2]
    go_enter Tryd.func24, Tryd.ntmps24
    go_wp2
    go_ret
    exact ⟨ret_b (by rw [decide_eq_false h1, decide_eq_false h2]; rfl), rfl⟩
def oneB (n : Int) (b : Bool) : Bool := decide (n = 0) || (b && decide (0 < n) && decide (n < 32))
theorem c_one (n : Int) (b : Bool) (w : World) : Calls Tryd.prog 45 #[.int .i64 n, .bool b] w fun e w' => e = .returned (.bool (oneB n b)) ∧ w' = w := by
  unfold oneB
  by_cases h0 : n = 0
  · subst h0
    go_enter Tryd.func45, Tryd.ntmps45
    go_wp2
    go_ret
    exact ⟨rfl, rfl⟩
  · have e0 : (n == 0) = false := by simp [h0]
    rw [decide_eq_false h0]
    cases b with
    | false =>
      go_enter Tryd.func45, Tryd.ntmps45
      go_wp2
      go_ret
      exact ⟨rfl, rfl⟩
    | true =>
      by_cases h1 : 0 < n
      · by_cases h2 : n < 32
        · rw [decide_eq_true h1, decide_eq_true h2]
          go_enter Tryd.func45, Tryd.ntmps45
          go_wp2
          go_ret
          exact ⟨rfl, rfl⟩
        · rw [decide_eq_true h1, decide_eq_false h2]
          go_enter Tryd.func45, Tryd.ntmps45
          go_wp2
          go_ret
          exact ⟨rfl, rfl⟩
      · rw [decide_eq_false h1]
        go_enter Tryd.func45, Tryd.ntmps45
        go_wp2
        go_ret
        exact ⟨rfl, rfl⟩
abbrev iv (op rd a b i : Int) : Value := .agg #[.int .i64 op, .int .i64 rd, .int .i64 a, .int .i64 b, .int .i64 i]
def fitsB (rd a b : Int) (p q r : Bool) : Bool := oneB rd p && oneB a q && oneB b r
theorem c_fits (op rd a b i : Int) (p q r : Bool) (w : World) : Calls Tryd.prog 23 #[iv op rd a b i, .bool p, .bool q, .bool r] w fun e w' => e = .returned (.bool (fitsB rd a b p q r)) ∧ Gr w w' := by
  unfold fitsB
  have C1 := Lib.hid (c_one rd p)
  have C2 := Lib.hid (c_one a q)
  have C3 := Lib.hid (c_one b r)
  generalize oneB rd p = x at *
  generalize oneB a q = y at *
  generalize oneB b r = z at *
  cases x
  · go_enter Tryd.func23, Tryd.ntmps23
    go_wp2_with (first | (go_at_call 45; refine (C1.out _).mono ?_; rintro e w1 ⟨rfl, rfl⟩))
    go_ret
    exact ⟨rfl, by go_grown⟩
  · cases y
    · go_enter Tryd.func23, Tryd.ntmps23
      go_wp2_with (first | (go_at_call 45; (with_reducible refine (C1.out _).mono ?_); rintro e w1 ⟨rfl, rfl⟩) | (go_at_call 45; (with_reducible refine (C2.out _).mono ?_); rintro e w1 ⟨rfl, rfl⟩))
      go_ret
      exact ⟨rfl, by go_grown⟩
    · go_enter Tryd.func23, Tryd.ntmps23
      go_wp2_with (first | (go_at_call 45; (with_reducible refine (C1.out _).mono ?_); rintro e w1 ⟨rfl, rfl⟩) | (go_at_call 45; (with_reducible refine (C2.out _).mono ?_); rintro e w1 ⟨rfl, rfl⟩) | (go_at_call 45; (with_reducible refine (C3.out _).mono ?_); rintro e w1 ⟨rfl, rfl⟩))
      go_ret
      exact ⟨rfl, by go_grown⟩
end Go.Proofs.YthcfobefpknjeaaDoor.P
