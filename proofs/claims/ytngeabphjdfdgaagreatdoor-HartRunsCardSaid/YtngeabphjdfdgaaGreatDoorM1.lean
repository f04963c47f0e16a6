/- Stage 2: the document's small answers: a register's number, a number within bounds. No condition. -/
import Derived.Test.YtngeabphjdfdgaaGreatDoorNA
import Derived.Test.YtngeabphjdfdgaaGreatDoorB7
set_option linter.unusedVariables false
set_option linter.unusedSimpArgs false
set_option maxRecDepth 100000
namespace Go.Proofs.YtngeabphjdfdgaaGreatDoor.P
open Go.RowKit
theorem tm_zero (v d : Int) : (v.tmod d == 0) = decide (v % d = 0) := by
  have h : v.tmod d = 0 ↔ v % d = 0 := by rw [← Int.dvd_iff_tmod_eq_zero, Int.dvd_iff_emod_eq_zero]
  rw [Bool.eq_iff_iff]
  simp [h]
theorem r_reg (n : Int) (w : World) : Calls Tryz.prog 93 #[.int .i64 n] w fun e w' => e = .returned (.bool (decide (0 ≤ n) && decide (n ≤ 31))) ∧ w' = w := by
  by_cases h0 : 0 ≤ n
  · by_cases h1 : n ≤ 31
    · go_enter Tryz.func93, Tryz.ntmps93
      go_wp2
      all_goals
        go_ret
        exact ⟨ret_b (by simp [*]), rfl⟩
    · go_enter Tryz.func93, Tryz.ntmps93
      go_wp2
      all_goals
        go_ret
        exact ⟨ret_b (by simp [*]), rfl⟩
  · go_enter Tryz.func93, Tryz.ntmps93
    go_wp2
    all_goals
      go_ret
      exact ⟨ret_b (by rw [decide_eq_false (Int.not_le.2 h0), Bool.false_and]), rfl⟩
def withinF (v lo hi d : Int) : Bool := decide (lo ≤ v) && decide (v ≤ hi) && decide (v % d = 0)
theorem r_within (v lo hi d : Int) (hd : d = 1 ∨ d = 2 ∨ d = 4096) (hv : i64 v) (w : World) : Calls Tryz.prog 94 #[.int .i64 v, .int .i64 lo, .int .i64 hi, .int .i64 d] w fun e w' => e = .returned (.bool (withinF v lo hi d)) ∧ w' = w := by
  unfold withinF
  have hv' := hv
  by_cases h0 : lo ≤ v
  · by_cases h1 : v ≤ hi
    · rcases hd with rfl | rfl | rfl
      all_goals
        go_enter Tryz.func94, Tryz.ntmps94
        go_wp2
        all_goals
          go_ret
          refine ⟨ret_b ?_, rfl⟩
          rw [decide_eq_true h0, decide_eq_true h1]
          first
            | (rw [tm_zero]; rfl)
            | (rw [Int.emod_one]; rfl)
    · go_enter Tryz.func94, Tryz.ntmps94
      go_wp2
      all_goals
        go_ret
        exact ⟨ret_b (by rw [decide_eq_false (Int.not_le.2 h1)]; simp), rfl⟩
  · go_enter Tryz.func94, Tryz.ntmps94
    go_wp2
    all_goals
      go_ret
      exact ⟨ret_b (by rw [decide_eq_false (Int.not_le.2 h0), Bool.false_and, Bool.false_and]), rfl⟩
def rcL : List Int := [0, 55, 23, 111, 103, 99, 99, 99, 99, 99, 99, 3, 3, 3, 3, 3, 3, 3, 35, 35, 35, 35, 19, 19, 19, 19, 19, 19, 19, 19, 19, 27, 27, 27, 27, 51, 51, 51, 51, 51, 51, 51, 51, 51, 51, 59, 59, 59, 59, 59, 51, 51, 51, 51, 51, 51, 51, 51, 59, 59, 59, 59, 59, 15, 115, 1048691, 47, 47, 47, 47, 47, 47, 47, 47, 47, 47, 47, 47, 47, 47, 47, 47, 47, 47, 47, 47, 47, 47]
def r3L : List Int := [0, 0, 0, 0, 0, 0, 1, 4, 5, 6, 7, 0, 1, 2, 3, 4, 5, 6, 0, 1, 2, 3, 0, 2, 3, 4, 6, 7, 1, 5, 5, 0, 1, 5, 5, 0, 0, 1, 2, 3, 4, 5, 5, 6, 7, 0, 0, 1, 5, 5, 0, 1, 2, 3, 4, 5, 6, 7, 0, 4, 5, 6, 7, 0, 0, 0, 2, 2, 2, 2, 2, 2, 2, 2, 2, 2, 2, 3, 3, 3, 3, 3, 3, 3, 3, 3, 3, 3]
def r7L : List Int := [0, 0, 0, 0, 0, 0, 0, 0, 0, 0, 0, 0, 0, 0, 0, 0, 0, 0, 0, 0, 0, 0, 0, 0, 0, 0, 0, 0, 0, 0, 32, 0, 0, 0, 32, 0, 32, 0, 0, 0, 0, 0, 32, 0, 0, 0, 32, 0, 0, 32, 1, 1, 1, 1, 1, 1, 1, 1, 1, 1, 1, 1, 1, 0, 0, 0, 2, 3, 1, 0, 4, 12, 8, 16, 20, 24, 28, 2, 3, 1, 0, 4, 12, 8, 16, 20, 24, 28]
def rcT (k : Nat) : Int := rcL.getD k 0
def r3T (k : Nat) : Int := r3L.getD k 0
def r7T (k : Nat) : Int := r7L.getD k 0
def frL : List ByteArray := [⟨#[]⟩, ⟨#[85]⟩, ⟨#[85]⟩, ⟨#[74]⟩, ⟨#[73]⟩, ⟨#[66]⟩, ⟨#[66]⟩, ⟨#[66]⟩, ⟨#[66]⟩, ⟨#[66]⟩, ⟨#[66]⟩, ⟨#[73]⟩, ⟨#[73]⟩, ⟨#[73]⟩, ⟨#[73]⟩, ⟨#[73]⟩, ⟨#[73]⟩, ⟨#[73]⟩, ⟨#[83]⟩, ⟨#[83]⟩, ⟨#[83]⟩, ⟨#[83]⟩, ⟨#[73]⟩, ⟨#[73]⟩, ⟨#[73]⟩, ⟨#[73]⟩, ⟨#[73]⟩, ⟨#[73]⟩, ⟨#[72]⟩, ⟨#[72]⟩, ⟨#[72]⟩, ⟨#[73]⟩, ⟨#[86]⟩, ⟨#[86]⟩, ⟨#[86]⟩, ⟨#[82]⟩, ⟨#[82]⟩, ⟨#[82]⟩, ⟨#[82]⟩, ⟨#[82]⟩, ⟨#[82]⟩, ⟨#[82]⟩, ⟨#[82]⟩, ⟨#[82]⟩, ⟨#[82]⟩, ⟨#[82]⟩, ⟨#[82]⟩, ⟨#[82]⟩, ⟨#[82]⟩, ⟨#[82]⟩, ⟨#[82]⟩, ⟨#[82]⟩, ⟨#[82]⟩, ⟨#[82]⟩, ⟨#[82]⟩, ⟨#[82]⟩, ⟨#[82]⟩, ⟨#[82]⟩, ⟨#[82]⟩, ⟨#[82]⟩, ⟨#[82]⟩, ⟨#[82]⟩, ⟨#[82]⟩, ⟨#[78]⟩, ⟨#[78]⟩, ⟨#[78]⟩, ⟨#[65]⟩, ⟨#[65]⟩, ⟨#[65]⟩, ⟨#[65]⟩, ⟨#[65]⟩, ⟨#[65]⟩, ⟨#[65]⟩, ⟨#[65]⟩, ⟨#[65]⟩, ⟨#[65]⟩, ⟨#[65]⟩, ⟨#[65]⟩, ⟨#[65]⟩, ⟨#[65]⟩, ⟨#[65]⟩, ⟨#[65]⟩, ⟨#[65]⟩, ⟨#[65]⟩, ⟨#[65]⟩, ⟨#[65]⟩, ⟨#[65]⟩, ⟨#[65]⟩]
def frT (k : Nat) : ByteArray := frL.getD k ⟨#[]⟩
def rowL (k : Nat) : List Value := [.string (nmT k), .string (frT k), .int .u32 (rcT k), .int .u32 (r3T k), .int .u32 (r7T k)]
theorem rows_eq : rowsC = ((List.range 88).flatMap rowL).toArray := by kernel_rfl
theorem flat5 {α : Type} (f : Nat → List α) (hf : ∀ k, (f k).length = 5) : ∀ (n k j : Nat), k < n → j < 5 → ((List.range n).flatMap f)[k * 5 + j]? = (f k)[j]?
  | 0, k, j, h, _ => absurd h (Nat.not_lt_zero _)
  | n + 1, k, j, h, hj => by
    rw [List.range_succ, List.flatMap_append]
    have hl : ∀ m, ((List.range m).flatMap f).length = m * 5 := by
      intro m
      induction m with
      | zero => rfl
      | succ m ih => rw [List.range_succ, List.flatMap_append, List.length_append, ih]; simp [hf]; omega
    by_cases hk : k < n
    · rw [List.getElem?_append_left (by rw [hl]; omega)]
      exact flat5 f hf n k j hk hj
    · obtain rfl : k = n := by omega
      rw [List.getElem?_append_right (by rw [hl]; omega), hl]
      simp
theorem rows_cell {k j : Nat} (hk : k < 88) (hj : j < 5) : rowsC[k * 5 + j]? = (rowL k)[j]? := by
  rw [rows_eq, List.getElem?_toArray]
  exact flat5 rowL (fun _ => rfl) 88 k j hk hj
theorem fr_is : ∀ k : Nat, k < 88 → 1 ≤ k → frT k = ⟨#[(fmT k).toNat.toUInt8]⟩ := by
  intro k h1 h2
  have h : (List.range 88).all (fun k => decide (k = 0) || decide ((frT k).data.toList = [(fmT k).toNat.toUInt8])) = true := by decide +kernel
  have := List.all_eq_true.1 h k (List.mem_range.2 h1)
  rw [decide_eq_false (by omega : ¬ k = 0), Bool.false_or] at this
  exact ByteArray.ext (Array.ext' (of_decide_eq_true this))
theorem r_rows (w : World) : Calls Tryz.prog 74 #[] w fun e w' => e = .returned (.slice (some ⟨w.heap.size, 0, none⟩) 88 88) ∧ Gr w w' ∧ w'.heap[w.heap.size]? = some (.cells rowsC 136) := (c_rows w).mono (by
  rintro e w' ⟨rfl, rfl⟩
  exact ⟨rfl, (Gr.refl w).alloc (Nat.le_refl _) _, blk_new w _⟩)
end Go.Proofs.YtngeabphjdfdgaaGreatDoor.P
