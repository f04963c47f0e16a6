/- Stage 12: Size. No condition. -/
import Derived.Test.YtdlglnoffpnonaaGreatPD
import Derived.Deep.DeepCutAuto
set_option linter.unusedVariables false
set_option linter.unusedSimpArgs false
set_option maxRecDepth 100000
namespace Go.Proofs.YtdlglnoffpnonaaGreat.P
open Go.RowKit Go.Proofs.YtdlglnoffpnonaaGreat.W
def pgN (n : Nat) : Nat := (n + 255) / 256
theorem c_pagesOf (n : Nat) (hn : n ≤ 100000) (w : World) : Calls Tryz.prog 77 #[.int .i64 (n : Int)] w fun e w' => e = .returned (.int .i64 (pgN n : Nat)) ∧ w' = w := by
  have e1 : IntKind.i64.wrap ((n : Int) + 256) = (n : Int) + 256 := by rw [IntKind.wrap_i64]; omega
  have e2 : IntKind.i64.wrap ((n : Int) + 256 - 1) = (n : Int) + 255 := by rw [IntKind.wrap_i64]; omega
  have e3 : IntKind.i64.wrap (((n : Int) + 255).tdiv 256) = ((pgN n : Nat) : Int) := by
    unfold pgN
    rw [Int.tdiv_eq_ediv_of_nonneg (by omega), IntKind.wrap_i64]; omega
  have e4 : IntKind.i64.wrap (((n : Int) + 255) / 256) = ((pgN n : Nat) : Int) := by
    unfold pgN
    rw [IntKind.wrap_i64]; omega
  go_enter Tryz.func77, Tryz.ntmps77
  go_wp2_with fail
  go_ret
  exact ⟨by go_num, rfl⟩
def szT (x : Pg) : Nat := bif mayP x then pgN x.tx.size else 0
def szD (x : Pg) : Nat := bif mayP x then pgN (x.da.size + x.bs.toNat) else 0
set_option maxHeartbeats 3200000 in
theorem c_size12 (x : Pg) (h1 : x.tx.size ≤ maxLen) (h2 : x.da.size ≤ maxLen) (w : World) :
    Calls Tryz.prog 56 #[pgV x] w fun e w' => e = .returned (.tuple #[.int .i64 (szT x : Nat), .int .i64 (szD x : Nat)]) ∧ Gr w w' := by
  have CM := Lib.hid (fun w => c_may x h1 h2 w)
  unfold szT szD
  cases hm : mayP x with
  | false =>
    rw [hm] at CM
    obtain ⟨en, tx, da, bs⟩ := x
    have CM2 : RowKit.Hid (∀ w, Calls Tryz.prog 25 #[.agg #[.int .i64 en, .string tx, .string da, .int .i64 bs]] w fun e w' => e = .returned (.bool false) ∧ Gr w w') := Lib.hid CM.out
    show Calls Tryz.prog 56 #[.agg #[.int .i64 en, .string tx, .string da, .int .i64 bs]] w _
    clear CM hm h1 h2
    go_enter Tryz.func56, Tryz.ntmps56
    go_wp2_with (go_at_call 25; refine (CM2.out _).mono ?_; rintro e w1 ⟨rfl, g1⟩; have G1 := Lib.hid (galloc _ g1); clear g1)
    go_ret2
    exact ⟨rfl, G1.out⟩
  | true =>
    rw [hm] at CM
    obtain ⟨m1, m2, m3, m4, m5, m6, m7, m8, m9, m10⟩ := may_iff.1 hm
    obtain ⟨en, tx, da, bs⟩ := x
    have CM2 : RowKit.Hid (∀ w, Calls Tryz.prog 25 #[.agg #[.int .i64 en, .string tx, .string da, .int .i64 bs]] w fun e w' => e = .returned (.bool true) ∧ Gr w w') := Lib.hid CM.out
    show Calls Tryz.prog 56 #[.agg #[.int .i64 en, .string tx, .string da, .int .i64 bs]] w _
    have m2 : tx.size ≤ 2048 := m2
    have m7 : da.size ≤ 1024 := m7
    have m8 : 0 ≤ bs := m8
    have m9 : bs ≤ 4096 := m9
    obtain ⟨B, rfl⟩ : ∃ B : Nat, bs = (B : Int) := ⟨bs.toNat, by omega⟩
    have P1 := Lib.hid (fun w => c_pagesOf tx.size (by omega) w)
    have P2 : RowKit.Hid (∀ w, Calls Tryz.prog 77 #[.int .i64 ((da.size : Int) + (B : Int))] w fun e w' => e = .returned (.int .i64 (pgN (da.size + B) : Nat)) ∧ w' = w) := Lib.hid (fun w => by
      have := c_pagesOf (da.size + B) (by omega) w
      rw [Int.natCast_add] at this; exact this)
    have k1 : IntKind.i64.wrap ((da.size : Int) + (B : Int)) = (da.size : Int) + (B : Int) := by rw [IntKind.wrap_i64]; omega
    clear CM hm h1 h2 m1 m3 m4 m5 m6 m8 m10
    go_enter Tryz.func56, Tryz.ntmps56
    go_upto_region 3 with (go_at_call 25; refine (CM2.out _).mono ?_; rintro e w1 ⟨rfl, g1⟩; have G1 := Lib.hid g1; clear g1)
    have c1 : w1.cell? ⟨w.heap.size, 1, none⟩ = some (.string tx) := kcell G1.out (cnew w #[.int .i64 en, .string tx, .string da, .int .i64 B] 23 1 rfl)
    have c2 : w1.cell? ⟨w.heap.size, 2, none⟩ = some (.string da) := kcell G1.out (cnew w #[.int .i64 en, .string tx, .string da, .int .i64 B] 23 2 rfl)
    have c3 : w1.cell? ⟨w.heap.size, 3, none⟩ = some (.int .i64 B) := kcell G1.out (cnew w #[.int .i64 en, .string tx, .string da, .int .i64 B] 23 3 rfl)
    have GG := galloc _ G1.out
    clear G1
    go_quiet ((go_at_call 77; first | exact Calls.quiet_of_same (P1.out _) | exact Calls.quiet_of_same (P2.out _)))
    have g1 := GG.drewN nq
    clear c1 c2 c3 GG
    generalize w1.drewN nq = w2 at *
    go_wp2_with fail
    go_ret2
    exact ⟨rfl, g1⟩
end Go.Proofs.YtdlglnoffpnonaaGreat.P
