/- Stage 13: the examples at the head of all statements. -/
import Derived.Test.YtplkijpllibpfaaP2
set_option linter.unusedVariables false
namespace Go.Proofs.Ytplkijpllibpfaa.P
open Go.RowKit
theorem x1 : wB ⟨#[97, 98]⟩ 1 ⟨#[99, 100]⟩ = ⟨#[97, 98, 99, 100]⟩ ∧ wR 1 1 = 1 ∧ wN ⟨#[97, 98]⟩ 1 ⟨#[99, 100]⟩ = 2 ∧ wE ⟨#[97, 98]⟩ 1 ⟨#[99, 100]⟩ = 0 := by decide
theorem x2 : rB ⟨#[97, 98, 99, 100]⟩ 1 3 = ⟨#[100]⟩ ∧ rR 3 1 = 1 ∧ rS ⟨#[97, 98, 99, 100]⟩ 1 3 = ⟨#[97, 98, 99]⟩ ∧ rE ⟨#[97, 98, 99, 100]⟩ 1 3 = 0 := by decide
theorem x3 : rB ⟨#[]⟩ 1 5 = ⟨#[]⟩ ∧ rR 5 1 = 1 ∧ rR 5 0 = 0 ∧ rS ⟨#[]⟩ 1 5 = ⟨#[]⟩ ∧ rE ⟨#[]⟩ 1 5 = 12 := by decide
theorem x4 : rB ⟨#[]⟩ 0 5 = ⟨#[]⟩ ∧ rR 5 0 = 0 ∧ rS ⟨#[]⟩ 0 5 = ⟨#[]⟩ ∧ rE ⟨#[]⟩ 0 5 = 0 := by decide
theorem s1 (w : World) : Calls Try.prog 8 #[.agg #[.string ⟨#[97, 98]⟩, .int .i64 1, .int .i64 1], .string ⟨#[99, 100]⟩] w fun e w' =>
    e = .returned (.tuple #[.agg #[.string ⟨#[97, 98, 99, 100]⟩, .int .i64 1, .int .i64 1], .int .i64 2, .int .i64 0]) ∧ Gr w w' := by
  have h := c_write ⟨#[97, 98]⟩ 1 1 ⟨#[99, 100]⟩ (by decide) (by decide) w
  unfold wV at h; rwa [x1.1, x1.2.1, x1.2.2.1, x1.2.2.2] at h
theorem s2 (w : World) : Calls Try.prog 10 #[.agg #[.string ⟨#[97, 98, 99, 100]⟩, .int .i64 1, .int .i64 1], .int .i64 3] w fun e w' =>
    e = .returned (.tuple #[.agg #[.string ⟨#[100]⟩, .int .i64 1, .int .i64 1], .string ⟨#[97, 98, 99]⟩, .int .i64 0]) ∧ Gr w w' := by
  have h := c_read ⟨#[97, 98, 99, 100]⟩ 1 1 3 (by decide) w
  unfold rV at h; rwa [x2.1, x2.2.1, x2.2.2.1, x2.2.2.2] at h
theorem s3 (w : World) : Calls Try.prog 10 #[.agg #[.string ⟨#[]⟩, .int .i64 0, .int .i64 1], .int .i64 5] w fun e w' =>
    e = .returned (.tuple #[.agg #[.string ⟨#[]⟩, .int .i64 0, .int .i64 1], .string ⟨#[]⟩, .int .i64 12]) ∧ Gr w w' := by
  have h := c_read ⟨#[]⟩ 0 1 5 (by decide) w
  unfold rV at h; rwa [x3.1, x3.2.1, x3.2.2.1, x3.2.2.2.1, x3.2.2.2.2] at h
theorem s4 (w : World) : Calls Try.prog 10 #[.agg #[.string ⟨#[]⟩, .int .i64 0, .int .i64 0], .int .i64 5] w fun e w' =>
    e = .returned (.tuple #[.agg #[.string ⟨#[]⟩, .int .i64 0, .int .i64 0], .string ⟨#[]⟩, .int .i64 0]) ∧ Gr w w' := by
  have h := c_read ⟨#[]⟩ 0 0 5 (by decide) w
  unfold rV at h; rwa [x4.1, x4.2.1, x4.2.2.1, x4.2.2.2] at h
set_option maxRecDepth 100000 in
set_option maxHeartbeats 1600000 in
theorem c_shown (w : World) : Calls Try.prog 7 #[] w fun e w' => e = .returned (.bool true) ∧ Gr w w' := by
  go_enter Try.func7, Try.ntmps7
  go_wp2_with fail
  refine (s1 _).mono ?_; rintro e w1 ⟨rfl, g1⟩
  go_wp2_with fail
  refine (s2 _).mono ?_; rintro e w2 ⟨rfl, g2⟩
  go_wp2_with fail
  refine (s3 _).mono ?_; rintro e w3 ⟨rfl, g3⟩
  go_wp2_with fail
  refine (s4 _).mono ?_; rintro e w4 ⟨rfl, g4⟩
  have c1 := kcell g4 (calloc _ (kcell g3 (calloc _ (kcell g2 (cnew w1 _ _ 0 rfl)))))
  have c2 := kcell g4 (calloc _ (kcell g3 (cnew w2 _ _ 0 rfl)))
  have l1 := cell_lt c1
  have l2 := cell_lt c2
  dsimp only at l1 l2
  go_wp2_with fail
  go_ret
  exact ⟨rfl, Below.alloc (gtrans g1 (galloc _ (gtrans g2 (galloc _ (gtrans g3 (galloc _ g4)))))) (gtrans g1 (galloc _ (gtrans g2 (galloc _ (gtrans g3 (galloc _ g4)))))).size _⟩
end Go.Proofs.Ytplkijpllibpfaa.P
