/- Stage 14: the contracts of the small calls: isChild, there, Lives, First. No condition. -/
import Derived.Test.YtfegnppilhfghaaT1
set_option linter.unusedVariables false
namespace Go.Proofs.Ytfegnppilhfghaa.P
open Go.RowKit
def thereB (T : Nat → RowV) (n : Nat) : Bool := (T n).st == 1 || (T n).st == 2
def childB (T : Nat → RowV) (n : Nat) (p : Int) : Bool := thereB T n && !((n : Int) == p) && ((T n).pa == p)
theorem l_there (T : Nat → RowV) (n : Nat) (hn : n < 8) (w : World) : Calls Try.prog 23 #[.agg (tc T), .int .i64 n] w fun e w' => e = .returned (.bool (thereB T n)) ∧ Gr w w' := by
  have hc := tc_size T
  have c0 := blk_cell (blk_new w (.cells (tc T) 25)) (n * 4) (tc_st T n hn)
  have E : thereB T n = ((T n).st == 1 || (T n).st == 2) := rfl
  have h : ((T n).st == 1) = true ∨ ((T n).st == 1) = false := by cases ((T n).st == 1) <;> simp
  rcases h with h | h
  all_goals
    go_enter Try.func23, Try.ntmps23
    go_wp2_with fail
    go_ret
    exact ⟨ret_b (by unfold thereB; simp_all), by go_grown⟩
theorem l_child (T : Nat → RowV) (n : Nat) (p : Int) (hn : n < 8) (w : World) : Calls Try.prog 24 #[.agg (tc T), .int .i64 n, .int .i64 p] w fun e w' => e = .returned (.bool (childB T n p)) ∧ Gr w w' := by
  have hc := tc_size T
  have c0 := blk_cell (blk_new w (.cells (tc T) 25)) (n * 4) (tc_st T n hn)
  have c1 := blk_cell (blk_new w (.cells (tc T) 25)) (n * 4 + 1) (tc_pa T n hn)
  have c2 := blk_cell (blk_new w (.cells (tc T) 25)) (n * 4 + 2) (tc_su T n hn)
  have c3 := blk_cell (blk_new w (.cells (tc T) 25)) (n * 4 + 3) (tc_ki T n hn)
  have h : ((T n).st == 1) = true ∨ ((T n).st == 1) = false := by cases ((T n).st == 1) <;> simp
  have h' : ((T n).st == 2) = true ∨ ((T n).st == 2) = false := by cases ((T n).st == 2) <;> simp
  rcases h with h | h <;> rcases h' with h' | h'
  all_goals
    go_enter Try.func24, Try.ntmps24
    go_wp2_with fail
    all_goals
      go_ret
      exact ⟨ret_b (by unfold childB thereB; simp_all [bne]), by go_grown⟩
theorem l_rlives (T : Nat → RowV) (p : Int) (w : World) : Calls Try.prog 22 #[.agg (tc T), .int .i64 p] w fun e w' => e = .returned (.bool (livesB T p)) ∧ Gr w w' := by
  have hc := tc_size T
  by_cases h1 : p < 0
  · go_enter Try.func22, Try.ntmps22
    go_wp2_with fail
    go_ret
    exact ⟨ret_b (by unfold livesB; simp; omega), by go_grown⟩
  · by_cases h2 : 8 ≤ p
    · go_enter Try.func22, Try.ntmps22
      go_wp2_with fail
      go_ret
      exact ⟨ret_b (by unfold livesB; simp; omega), by go_grown⟩
    · obtain ⟨n, rfl⟩ : ∃ n : Nat, p = (n : Int) := ⟨p.toNat, by omega⟩
      have hn : n < 8 := by omega
      have c0 := blk_cell (blk_new w (.cells (tc T) 25)) (n * 4) (tc_st T n hn)
      have e : livesB T n = ((T n).st == 1) := by unfold livesB; simp; omega
      have E := Lib.hid e
      have h3 : (n : Int) ≤ 7 := by omega
      clear e
      go_enter Try.func22, Try.ntmps22
      go_wp2_with fail
      go_ret
      exact ⟨ret_b E.out.symm, by go_grown⟩
theorem set_pa (T : Nat → RowV) (x : Int) (i : Nat) (h : i < 8) : (tc T).setIfInBounds (i * 4 + 1) (.int .i64 x) = tc (up T i { T i with pa := x }) :=
  eight (p := fun i => (tc T).setIfInBounds (i * 4 + 1) (.int .i64 x) = tc (up T i { T i with pa := x })) rfl rfl rfl rfl rfl rfl rfl rfl i h
theorem set_su (T : Nat → RowV) (x : Int) (i : Nat) (h : i < 8) : (tc T).setIfInBounds (i * 4 + 2) (.int .i64 x) = tc (up T i { T i with su := x }) :=
  eight (p := fun i => (tc T).setIfInBounds (i * 4 + 2) (.int .i64 x) = tc (up T i { T i with su := x })) rfl rfl rfl rfl rfl rfl rfl rfl i h
theorem up_up (T : Nat → RowV) (i : Nat) (r q : RowV) : up (up T i r) i q = up T i q := by funext j; unfold up; split <;> rfl
theorem up_at (T : Nat → RowV) (i : Nat) (r : RowV) : up T i r i = r := by unfold up; rw [if_pos rfl]
/-- A row set whole. -/
theorem set_row (T : Nat → RowV) (r : RowV) (i : Nat) (h : i < 8) :
    ((((tc T).setIfInBounds (i * 4) (.int .i64 r.st)).setIfInBounds (i * 4 + 1) (.int .i64 r.pa)).setIfInBounds (i * 4 + 2) (.int .i64 r.su)).setIfInBounds (i * 4 + 3) (.bool r.ki) = tc (up T i r) := by
  rw [set_st _ _ _ h, set_pa _ _ _ h, set_su _ _ _ h, set_ki _ _ _ h]
  simp only [up_up, up_at]
/-- A row stored whole into a table's block. -/
theorem blk_row {w : World} {B : Nat} {T : Nat → RowV} (h : w.heap[B]? = some (.cells (tc T) 25)) (i : Nat) (hi : i < 8) (r : RowV) :
    ((((w.setCell ⟨B, i * 4, none⟩ (.int .i64 r.st)).setCell ⟨B, i * 4 + 1, none⟩ (.int .i64 r.pa)).setCell ⟨B, i * 4 + 2, none⟩ (.int .i64 r.su)).setCell ⟨B, i * 4 + 3, none⟩ (.bool r.ki)).heap[B]? = some (.cells (tc (up T i r)) 25) := by
  have := blk_set (blk_set (blk_set (blk_set h (i * 4) (.int .i64 r.st)) (i * 4 + 1) (.int .i64 r.pa)) (i * 4 + 2) (.int .i64 r.su)) (i * 4 + 3) (.bool r.ki)
  rwa [set_row T r i hi] at this
theorem gr_row {w0 w : World} {B : Nat} (g : Gr w0 w) (hB : w0.heap.size ≤ B) (i : Nat) (r : RowV) :
    Gr w0 ((((w.setCell ⟨B, i * 4, none⟩ (.int .i64 r.st)).setCell ⟨B, i * 4 + 1, none⟩ (.int .i64 r.pa)).setCell ⟨B, i * 4 + 2, none⟩ (.int .i64 r.su)).setCell ⟨B, i * 4 + 3, none⟩ (.bool r.ki)) :=
  Below.setCell (Below.setCell (Below.setCell (Below.setCell g hB _) hB _) hB _) hB _
theorem there_t {T : Nat → RowV} {k : Nat} (h : thereB T k = true) : ((T k).st == 1) = true ∨ (((T k).st == 1) = false ∧ ((T k).st == 2) = true) := by
  unfold thereB at h; cases h1 : ((T k).st == 1) <;> simp_all
theorem there_f {T : Nat → RowV} {k : Nat} (h : thereB T k = false) : ((T k).st == 1) = false ∧ ((T k).st == 2) = false := by
  unfold thereB at h; simp_all
theorem row_other {w : World} {B C : Nat} {o : Obj} (h : w.heap[C]? = some o) (hne : C ≠ B) (i : Nat) (r : RowV) :
    ((((w.setCell ⟨B, i * 4, none⟩ (.int .i64 r.st)).setCell ⟨B, i * 4 + 1, none⟩ (.int .i64 r.pa)).setCell ⟨B, i * 4 + 2, none⟩ (.int .i64 r.su)).setCell ⟨B, i * 4 + 3, none⟩ (.bool r.ki)).heap[C]? = some o :=
  blk_other (blk_other (blk_other (blk_other h ⟨B, i * 4, none⟩ _ hne) ⟨B, i * 4 + 1, none⟩ _ hne) ⟨B, i * 4 + 2, none⟩ _ hne) ⟨B, i * 4 + 3, none⟩ _ hne
end Go.Proofs.Ytfegnppilhfghaa.P
