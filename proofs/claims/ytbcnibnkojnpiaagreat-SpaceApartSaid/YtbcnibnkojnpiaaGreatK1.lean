/- Stage 4: parts of an address, entries. No condition. -/
import Derived.Test.YtbcnibnkojnpiaaGreatR4
set_option linter.unusedVariables false
namespace Go.Proofs.YtbcnibnkojnpiaaGreat.P
open Go.RowKit Go.MuLone
def partI (a l : Int) : Int := if 0 ≤ l ∧ l ≤ 2 ∧ a < 8388608 then a / 2 ^ (8 + 5 * l.toNat) % 32 else 0
def entryI (f v : Int) : Int := if f < 0 then 0 else (f * 1024) % 18446744073709551616 + v % 1024
theorem ret_ui {a b c d : Int} (h : a = b) (h2 : c = d) : Ending.returned (.tuple #[.int .u64 a, .int .i64 c]) = .returned (.tuple #[.int .u64 b, .int .i64 d]) := by rw [h, h2]
theorem part0 (a : Int) (h : a < 8388608) : partI a 0 = a / 256 % 32 := by
  unfold partI; rw [if_pos ⟨by decide, by decide, h⟩]; rfl
theorem part1 (a : Int) (h : a < 8388608) : partI a 1 = a / 8192 % 32 := by
  unfold partI; rw [if_pos ⟨by decide, by decide, h⟩]; rfl
theorem part2 (a : Int) (h : a < 8388608) : partI a 2 = a / 262144 % 32 := by
  unfold partI; rw [if_pos ⟨by decide, by decide, h⟩]; rfl
theorem entry_or (f v : Int) (f0 : 0 ≤ f) (v0 : 0 ≤ v) : bits .or .u64 (IntKind.u64.wrap (f * 1024)) (v % 1024) = entryI f v := by
  have e : IntKind.u64.wrap (f * 1024) = (f * 1024) % 18446744073709551616 := IntKind.wrap_u64 _
  unfold entryI
  rw [if_neg (by omega), e]
  obtain ⟨x, hx⟩ : ∃ x : Nat, (f * 1024) % 18446744073709551616 = ((2 ^ 10 * x : Nat) : Int) := ⟨((f * 1024) % 18446744073709551616 / 1024).toNat, by omega⟩
  obtain ⟨z, hz⟩ : ∃ z : Nat, v % 1024 = (z : Int) := ⟨(v % 1024).toNat, by omega⟩
  rw [hx, hz, u64_or _ _ (by omega) (by omega) (by omega) (by omega), Int.toNat_natCast, Int.toNat_natCast, ← Nat.two_pow_add_eq_or_of_lt (by omega)]
  omega
set_option maxRecDepth 100000 in
theorem c_kpart (a l : Int) (ha : u64 a) (w : World) : Calls Tryz.prog 85 #[.int .u64 a, .int .i64 l] w fun e w' => e = .returned (.int .i64 (partI a l)) ∧ w' = w := by
  obtain ⟨a0, a1⟩ := ha
  have hl : l < 0 ∨ 2 < l ∨ l = 0 ∨ l = 1 ∨ l = 2 := by omega
  by_cases h : a < 8388608
  · rcases hl with h1 | h1 | rfl | rfl | rfl
    · go_enter Tryz.func85, Tryz.ntmps85
      go_wp2
      go_ret
      exact ⟨ret_i (by unfold partI; rw [if_neg (by omega)]), rfl⟩
    · go_enter Tryz.func85, Tryz.ntmps85
      go_wp2
      go_ret
      exact ⟨ret_i (by unfold partI; rw [if_neg (by omega)]), rfl⟩
    · go_enter Tryz.func85, Tryz.ntmps85
      go_wp2
      go_ret
      exact ⟨ret_i (part0 a h).symm, rfl⟩
    · go_enter Tryz.func85, Tryz.ntmps85
      go_wp2
      go_ret
      exact ⟨ret_i (part1 a h).symm, rfl⟩
    · go_enter Tryz.func85, Tryz.ntmps85
      go_wp2
      go_ret
      exact ⟨ret_i (part2 a h).symm, rfl⟩
  · have d : decide (8388608 ≤ a) = true := decide_eq_true (by omega)
    rcases hl with h1 | h1 | rfl | rfl | rfl
    all_goals
      go_enter Tryz.func85, Tryz.ntmps85
      go_wp2
      go_ret
      exact ⟨ret_i (by unfold partI; rw [if_neg (by omega)]), rfl⟩
set_option maxRecDepth 100000 in
theorem c_kentry (f v : Int) (hf : i64 f) (hv : u64 v) (w : World) : Calls Tryz.prog 56 #[.int .i64 f, .int .u64 v] w fun e w' => e = .returned (.int .u64 (entryI f v)) ∧ w' = w := by
  obtain ⟨f0, f1⟩ := hf
  obtain ⟨v0, v1⟩ := hv
  by_cases h : f < 0
  · go_enter Tryz.func56, Tryz.ntmps56
    go_wp2
    go_ret
    exact ⟨W.ret_u64 (by unfold entryI; rw [if_pos h]), rfl⟩
  · go_enter Tryz.func56, Tryz.ntmps56
    go_wp2
    go_ret
    exact ⟨W.ret_u64 (entry_or f v (by omega) v0), rfl⟩
theorem c_kframe (v : Int) (hv : u64 v) (w : World) : Calls Tryz.prog 79 #[.int .u64 v] w fun e w' => e = .returned (.int .u64 (v / 1024)) ∧ w' = w := by
  obtain ⟨v0, v1⟩ := hv
  go_enter Tryz.func79, Tryz.ntmps79
  go_wp2
  go_ret
  exact ⟨W.ret_u64 (by omega), rfl⟩
set_option maxRecDepth 100000 in
theorem r_kentry (f v : Int) (hf : i64 f) (hv : u64 v) (w : World) : Calls Tryz.prog 91 #[.int .i64 f, .int .u64 v] w fun e w' => e = .returned (.int .u64 (entryI f v)) ∧ w' = w := by
  obtain ⟨f0, f1⟩ := hf
  obtain ⟨v0, v1⟩ := hv
  by_cases h : f < 0
  · go_enter Tryz.func91, Tryz.ntmps91
    go_wp2
    go_ret
    exact ⟨W.ret_u64 (by unfold entryI; rw [if_pos h]), rfl⟩
  · go_enter Tryz.func91, Tryz.ntmps91
    go_wp2
    go_ret
    exact ⟨W.ret_u64 (by unfold entryI; rw [if_neg (by omega), IntKind.wrap_u64, IntKind.wrap_u64]; omega), rfl⟩
theorem r_kframe (v : Int) (hv : u64 v) (w : World) : Calls Tryz.prog 71 #[.int .u64 v] w fun e w' => e = .returned (.int .u64 (v / 1024)) ∧ w' = w := by
  obtain ⟨v0, v1⟩ := hv
  go_enter Tryz.func71, Tryz.ntmps71
  go_wp2
  go_ret
  exact ⟨W.ret_u64 (by omega), rfl⟩
set_option maxRecDepth 100000 in
theorem r_kpart (a l : Int) (ha : u64 a) (w : World) : Calls Tryz.prog 94 #[.int .u64 a, .int .i64 l] w fun e w' => e = .returned (.int .i64 (partI a l)) ∧ w' = w := by
  obtain ⟨a0, a1⟩ := ha
  have hl : l < 0 ∨ 2 < l ∨ l = 0 ∨ l = 1 ∨ l = 2 := by omega
  by_cases h : a < 8388608
  · rcases hl with h1 | h1 | rfl | rfl | rfl
    · go_enter Tryz.func94, Tryz.ntmps94
      go_wp2
      go_ret
      exact ⟨ret_i (by unfold partI; rw [if_neg (by omega)]), rfl⟩
    · go_enter Tryz.func94, Tryz.ntmps94
      go_wp2
      go_ret
      exact ⟨ret_i (by unfold partI; rw [if_neg (by omega)]), rfl⟩
    · go_enter Tryz.func94, Tryz.ntmps94
      go_wp2
      go_rounds 3
      go_ret
      exact ⟨ret_i (part0 a h).symm, rfl⟩
    · go_enter Tryz.func94, Tryz.ntmps94
      go_wp2
      go_rounds 3
      go_ret
      exact ⟨ret_i ((part1 a h).trans (by omega)).symm, rfl⟩
    · go_enter Tryz.func94, Tryz.ntmps94
      go_wp2
      go_rounds 3
      go_ret
      exact ⟨ret_i ((part2 a h).trans (by omega)).symm, rfl⟩
  · have d : decide (8388608 ≤ a) = true := decide_eq_true (by omega)
    rcases hl with h1 | h1 | rfl | rfl | rfl
    all_goals
      go_enter Tryz.func94, Tryz.ntmps94
      go_wp2
      go_ret
      exact ⟨ret_i (by unfold partI; rw [if_neg (by omega)]), rfl⟩
def neededI (acc : Int) : Int := if acc = 1 then 2 else if acc = 2 then 4 else if acc = 3 then 8 else 0
theorem c_needed (acc : Int) (w : World) : Calls Tryz.prog 77 #[.int .i64 acc] w fun e w' => e = .returned (.int .u64 (neededI acc)) ∧ w' = w := by
  by_cases h1 : acc = 1
  · subst h1
    go_enter Tryz.func77, Tryz.ntmps77
    go_wp2
    go_ret
    exact ⟨rfl, rfl⟩
  · by_cases h2 : acc = 2
    · subst h2
      go_enter Tryz.func77, Tryz.ntmps77
      go_wp2
      go_ret
      exact ⟨rfl, rfl⟩
    · by_cases h3 : acc = 3
      · subst h3
        go_enter Tryz.func77, Tryz.ntmps77
        go_wp2
        go_ret
        exact ⟨rfl, rfl⟩
      · have d1 : (acc == 1) = false := by simpa using h1
        have d2 : (acc == 2) = false := by simpa using h2
        have d3 : (acc == 3) = false := by simpa using h3
        have e : neededI acc = 0 := by unfold neededI; rw [if_neg h1, if_neg h2, if_neg h3]
        rw [e]
        clear h1 h2 h3 e
        go_enter Tryz.func77, Tryz.ntmps77
        go_wp2
        go_ret
        exact ⟨rfl, rfl⟩
end Go.Proofs.YtbcnibnkojnpiaaGreat.P
