/- Stage 14: tables and rows compared with themselves. No condition. -/
import Derived.Test.YtfegnppilhfghaaT2
import Derived.ChangeKeysEq
set_option linter.unusedVariables false
namespace Go.Proofs.Ytfegnppilhfghaa.P
open Go.RowKit
theorem rowEq (r : RowV) (d : Nat) (w : World) : (Op.equalIn (d + 2) 23 (.agg ⟨rc r⟩) (.agg ⟨rc r⟩)).run Try.prog w = .ok true w := by
  have h1 : Try.prog.stoodInHeld 23 = false := by kernel_rfl
  have p0 : (part 3 ⟨rc r⟩ 0).run Try.prog w = .ok (.int .i64 r.st) w := run_part_plain w (by kernel_rfl) rfl
  have p1 : (part 3 ⟨rc r⟩ 1).run Try.prog w = .ok (.int .i64 r.pa) w := run_part_plain w (by kernel_rfl) rfl
  have p2 : (part 3 ⟨rc r⟩ 2).run Try.prog w = .ok (.int .i64 r.su) w := run_part_plain w (by kernel_rfl) rfl
  have p3 : (part 4 ⟨rc r⟩ 3).run Try.prog w = .ok (.bool r.ki) w := run_part_plain w (by kernel_rfl) rfl
  simp [Op.equalIn, Sem.run_bind, run_underlying Try.underlying23, run_underlying Try.underlying3, run_underlying Try.underlying4, h1, p0, p1, p2, p3]
theorem ext_row (T : Nat → RowV) (i : Nat) (h : i < 8) : (tc T).extract (i * 4) (i * 4 + 4) = ⟨rc (T i)⟩ :=
  eight (p := fun i => (tc T).extract (i * 4) (i * 4 + 4) = ⟨rc (T i)⟩) rfl rfl rfl rfl rfl rfl rfl rfl i h
theorem part_row (T : Nat → RowV) (i : Nat) (h : i < 8) (w : World) : (part 23 (tc T) (i * 4)).run Try.prog w = .ok (.agg ⟨rc (T i)⟩) w := by
  obtain ⟨inf, hi⟩ := info_of_underlying Try.underlying23
  have e4 : Try.prog.cellsOf 23 = 4 := by kernel_rfl
  simp [part, isAgg, run_underlying Try.underlying23, ext_row T i h]
theorem eqI (T : Nat → RowV) (d : Nat) (w : World) : ∀ is : List Nat, (∀ i ∈ is, i < 8) → (Op.eqItems (d + 2) 23 4 (tc T) (tc T) is).run Try.prog w = .ok true w
  | [], _ => by simp [Op.eqItems]
  | i :: is, h => by
    have h0 := part_row T i (h i (by simp)) w
    have h1 := rowEq (T i) d w
    have h2 := eqI T d w is (fun j hj => h j (by simp [hj]))
    simp [Op.eqItems, Sem.run_bind, h0, h1, h2]
theorem eqT (T : Nat → RowV) (w : World) : (Op.equalIn 10000 25 (.agg (tc T)) (.agg (tc T))).run Try.prog w = .ok true w := by
  obtain ⟨inf, hi⟩ := info_of_underlying Try.underlying23
  have e4 : Try.prog.cellsOf 23 = 4 := by kernel_rfl
  rw [run_equalIn_array w 9999 (tc T) (tc T) Try.underlying25 hi, e4]
  exact eqI T 9997 w _ (fun i hi => by simpa using hi)
end Go.Proofs.Ytfegnppilhfghaa.P
