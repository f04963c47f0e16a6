/- Stage 2: what is in a number; the numbers of a text. No condition. -/
import Derived.Test.YthcfobefpknjeaaDoorN2
import Derived.Deep.DeepCutAuto
import Derived.BigRegion
set_option linter.unusedVariables false
set_option linter.unusedSimpArgs false
set_option maxRecDepth 100000
namespace Go.Proofs.YthcfobefpknjeaaDoor.P
open Go.RowKit
def insN (x : Nat) : Bool := decide (x = 45) || (decide (48 ≤ x) && decide (x ≤ 57))
def outN (x : Nat) : Bool := !insN x
theorem c_ins (x : Nat) (hx : x ≤ 1114111) (w : World) : Calls Tryd.prog 66 #[.int .i32 (x : Int)] w fun e w' => e = .returned (.bool (insN x)) ∧ w' = w := by
  unfold insN
  by_cases h0 : x = 45
  · subst h0
    go_enter Tryd.func66, Tryd.ntmps66
    go_wp2
    go_ret
    exact ⟨rfl, rfl⟩
  · have e0 : ((x : Int) == 45) = false := beq_eq_false_iff_ne.2 (by omega)
    rw [decide_eq_false h0]
    by_cases h1 : 48 ≤ x
    · rw [decide_eq_true h1]
      by_cases h2 : x ≤ 57
      · rw [decide_eq_true h2]
        go_enter Tryd.func66, Tryd.ntmps66
        have e3 : (x : Int) ≤ 57 := by omega
        go_wp2
        go_ret
        exact ⟨ret_b (by simp [e3]), rfl⟩
      · rw [decide_eq_false h2]
        have e3 : ¬ (x : Int) ≤ 57 := by omega
        go_enter Tryd.func66, Tryd.ntmps66
        go_wp2
        go_ret
        exact ⟨ret_b (by simp [e3]), rfl⟩
    · rw [decide_eq_false h1]
      have e1 : decide (48 ≤ x) = false := decide_eq_false h1
      go_enter Tryd.func66, Tryd.ntmps66
      go_wp2
      go_ret
      exact ⟨rfl, rfl⟩
theorem c_out (x : Nat) (hx : x ≤ 1114111) (B : Nat) (w : World) (hc : w.cell? ⟨B, 0, none⟩ = some (.func (.func 66) #[] #[])) : Calls Tryd.prog 68 #[.int .i32 (x : Int), .pointer (some ⟨B, 0, none⟩)] w fun e w' => e = .returned (.bool (outN x)) ∧ w' = w := by
  have CI := Lib.hid (c_ins x hx w)
  unfold outN
  go_enter Tryd.func68, Tryd.ntmps68
  go_wp2_with (go_at_call 66; refine CI.out.mono ?_; rintro e w1 ⟨rfl, rfl⟩)
  go_ret
  exact ⟨rfl, rfl⟩
theorem eg_1 (args : Array Value) (w : World) : (callFunc 66 args).run Tryd.prog w = .ok (.enter 66 args) w := by go_simp
theorem eg_2 (args : Array Value) (w : World) : (callFunc 68 args).run Tryd.prog w = .ok (.enter 68 args) w := by go_simp
theorem c_ix (s : ByteArray) (n : Int) (hn : Lib.idxFunc insN true s = n) (w : World) : Calls Tryd.prog 67 #[.string s, .func (.func 66) #[] #[]] w fun e w' => e = .returned (.int .i64 n) ∧ Gr w w' := by
  have := sh_strings_IndexFunc_grows 66 #[] eg_1 insN s w (fun W x hx hb => (c_ins x hx W).mono (by
    rintro e w' ⟨rfl, rfl⟩
    exact ⟨rfl, Below.refl _ _⟩))
  rw [hn] at this
  exact this
theorem c_ox (B : Nat) (s : ByteArray) (n : Int) (hn : Lib.idxFunc outN true s = n) (w : World) (hc : w.cell? ⟨B, 0, none⟩ = some (.func (.func 66) #[] #[])) : Calls Tryd.prog 67 #[.string s, .func (.func 68) #[] #[.pointer (some ⟨B, 0, none⟩)]] w fun e w' => e = .returned (.int .i64 n) ∧ Gr w w' := by
  have := sh_strings_IndexFunc_grows 68 #[.pointer (some ⟨B, 0, none⟩)] eg_2 outN s w (fun W x hx hb => (c_out x hx B W (kcell hb hc)).mono (by
    rintro e w' ⟨rfl, rfl⟩
    exact ⟨rfl, Below.refl _ _⟩))
  rw [hn] at this
  exact this
end Go.Proofs.YthcfobefpknjeaaDoor.P
