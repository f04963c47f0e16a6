import Derived.Test.YtplkijpllibpfaaP1
set_option linter.unusedVariables false
namespace Go.Proofs.Ytplkijpllibpfaa.P
open Go.RowKit
def okF (a b : Int) : Bool := decide (0 ≤ a + b ∧ a + b ≤ 1024)
set_option maxHeartbeats 800000 in
theorem c_ends (a b : Int) (ha : i64 a) (hb : i64 b) (w : World) :
    Calls Try.prog 15 #[.int .i64 a, .int .i64 b] w fun e w' => e = .returned (.tuple #[.int .i64 (wrap64 (a + b)), .bool (okF a b)]) ∧ w' = w := by
  obtain ⟨a1, a2⟩ := ha
  obtain ⟨b1, b2⟩ := hb
  have hs : (0 < b ∧ wrap64 (a + b) < a) ∨ (0 < b ∧ a ≤ wrap64 (a + b)) ∨ (b < 0 ∧ a < wrap64 (a + b)) ∨ (b < 0 ∧ wrap64 (a + b) ≤ a) ∨ b = 0 := by omega
  rcases hs with ⟨h1, h2⟩ | ⟨h1, h2⟩ | ⟨h1, h2⟩ | ⟨h1, h2⟩ | h1
  all_goals
    go_enter Try.func15, Try.ntmps15
    go_wp2_with (go_at_call 14; refine (c_within _ _ _ _).mono ?_; rintro e w' ⟨rfl, rfl⟩)
    all_goals
      go_ret2
      refine ⟨ret_ib ?_ ?_, rfl⟩
      · first | rfl | (unfold wrap64; omega)
      · unfold okF
        (try unfold wrap64 at *)
        rw [Bool.eq_iff_iff]
        simp
        try omega
set_option maxHeartbeats 800000 in
theorem c_sum_t (a b : Int) (ha : i64 a) (hb : i64 b) (h : okF a b = true) (w : World) :
    Calls Try.prog 16 #[.int .i64 a, .int .i64 b] w fun e w' => e = .returned (.tuple #[.int .i64 (a + b), .bool true]) ∧ w' = w := by
  obtain ⟨a1, a2⟩ := ha
  obtain ⟨b1, b2⟩ := hb
  obtain ⟨h1, h2⟩ := of_decide_eq_true (show decide (0 ≤ a + b ∧ a + b ≤ 1024) = true from h)
  clear h
  have hs : 0 ≤ b ∨ b < 0 := by omega
  rcases hs with hs | hs
  all_goals
    go_enter Try.func16, Try.ntmps16
    go_wp2
    go_ret2
    exact ⟨rfl, rfl⟩
set_option maxHeartbeats 800000 in
theorem c_sum_f (a b : Int) (ha : i64 a) (hb : i64 b) (h : okF a b = false) (w : World) :
    Calls Try.prog 16 #[.int .i64 a, .int .i64 b] w fun e w' => (∃ v : Int, e = .returned (.tuple #[.int .i64 v, .bool false])) ∧ w' = w := by
  obtain ⟨a1, a2⟩ := ha
  obtain ⟨b1, b2⟩ := hb
  have h' := of_decide_eq_false (show decide (0 ≤ a + b ∧ a + b ≤ 1024) = false from h)
  clear h
  have hw : wrap64 (a + b) = a + b ∨ wrap64 (a + b) = a + b - 18446744073709551616 ∨ wrap64 (a + b) = a + b + 18446744073709551616 := by unfold wrap64; omega
  have hr : -9223372036854775808 ≤ wrap64 (a + b) ∧ wrap64 (a + b) ≤ 9223372036854775807 := by unfold wrap64; omega
  obtain ⟨r1, r2⟩ := hr
  have hs : (0 ≤ b ∧ wrap64 (a + b) < a) ∨ (b < 0 ∧ a < wrap64 (a + b)) ∨ (0 ≤ b ∧ a ≤ wrap64 (a + b) ∧ 1024 < wrap64 (a + b)) ∨ (0 ≤ b ∧ a ≤ wrap64 (a + b) ∧ wrap64 (a + b) < 0) ∨
      (b < 0 ∧ wrap64 (a + b) ≤ a ∧ wrap64 (a + b) < 0) ∨ (b < 0 ∧ wrap64 (a + b) ≤ a ∧ 1024 < wrap64 (a + b)) := by omega
  have HW := Lib.hid hw
  have HN := Lib.hid h'
  clear hw h'
  rcases hs with ⟨h1, h2⟩ | ⟨h1, h2⟩ | ⟨h1, h2, h3⟩ | ⟨h1, h2, h3⟩ | ⟨h1, h2, h3⟩ | ⟨h1, h2, h3⟩
  all_goals
    go_enter Try.func16, Try.ntmps16
    go_wp2
    all_goals
      go_ret2
      refine ⟨⟨_, ret_ib rfl ?_⟩, rfl⟩
      have q1 := HW.out
      have q2 := HN.out
      first | rfl | (exfalso; omega) | (simp; omega)
def oV (b : ByteArray) (r x n k : Int) : Value :=
  .tuple #[.agg #[.string b, .int .i64 (if okF r n && okF x k then r + n else r), .int .i64 (if okF r n && okF x k then x + k else x)], .int .i64 (if okF r n && okF x k then 0 else 1)]
theorem okF_eq (a b : Int) (h : okF a b = true) : wrap64 (a + b) = a + b := by
  have := of_decide_eq_true (show decide (0 ≤ a + b ∧ a + b ≤ 1024) = true from h)
  unfold wrap64; omega
theorem c_ends_t (a b : Int) (ha : i64 a) (hb : i64 b) (h : okF a b = true) (w : World) :
    Calls Try.prog 15 #[.int .i64 a, .int .i64 b] w fun e w' => e = .returned (.tuple #[.int .i64 (a + b), .bool true]) ∧ w' = w := by
  have := c_ends a b ha hb w; rwa [okF_eq a b h, h] at this
theorem c_ends_f (a b : Int) (ha : i64 a) (hb : i64 b) (h : okF a b = false) (w : World) :
    Calls Try.prog 15 #[.int .i64 a, .int .i64 b] w fun e w' => e = .returned (.tuple #[.int .i64 (wrap64 (a + b)), .bool false]) ∧ w' = w := by
  have := c_ends a b ha hb w; rwa [h] at this
set_option maxHeartbeats 800000 in
theorem c_open (b : ByteArray) (r x n k : Int) (hr : i64 r) (hx : i64 x) (hn : i64 n) (hk : i64 k) (w : World) :
    Calls Try.prog 12 #[.agg #[.string b, .int .i64 r, .int .i64 x], .int .i64 n, .int .i64 k] w fun e w' => e = .returned (oV b r x n k) ∧ Gr w w' := by
  have HR := Lib.hid hr; have HX := Lib.hid hx; have HN := Lib.hid hn; have HK := Lib.hid hk
  clear hr hx hn hk
  by_cases h1 : okF r n = true <;> by_cases h2 : okF x k = true
  all_goals
    try replace h1 : okF r n = false := by simpa using h1
    try replace h2 : okF x k = false := by simpa using h2
    have H1 := Lib.hid h1
    have H2 := Lib.hid h2
    clear h1 h2
    go_enter Try.func12, Try.ntmps12
    go_wp2_with fail
    first
      | ((with_reducible refine (c_ends_t _ _ HR.out HN.out H1.out _).mono ?_); rintro e w1 ⟨rfl, rfl⟩)
      | ((with_reducible refine (c_ends_f _ _ HR.out HN.out H1.out _).mono ?_); rintro e w1 ⟨rfl, rfl⟩)
    go_wp2_with fail
    first
      | ((with_reducible refine (c_ends_t _ _ HX.out HK.out H2.out _).mono ?_); rintro e w1 ⟨rfl, rfl⟩)
      | ((with_reducible refine (c_ends_f _ _ HX.out HK.out H2.out _).mono ?_); rintro e w1 ⟨rfl, rfl⟩)
    go_wp2_with fail
    go_returns
    exact ⟨by unfold oV; rw [H1.out, H2.out]; rfl, by go_grown⟩
set_option maxHeartbeats 800000 in
theorem c_ropen (b : ByteArray) (r x n k : Int) (hr : i64 r) (hx : i64 x) (hn : i64 n) (hk : i64 k) (w : World) :
    Calls Try.prog 13 #[.agg #[.string b, .int .i64 r, .int .i64 x], .int .i64 n, .int .i64 k] w fun e w' => e = .returned (oV b r x n k) ∧ Gr w w' := by
  have HR := Lib.hid hr; have HX := Lib.hid hx; have HN := Lib.hid hn; have HK := Lib.hid hk
  clear hr hx hn hk
  by_cases h1 : okF r n = true <;> by_cases h2 : okF x k = true
  all_goals
    try replace h1 : okF r n = false := by simpa using h1
    try replace h2 : okF x k = false := by simpa using h2
    have H1 := Lib.hid h1
    have H2 := Lib.hid h2
    clear h1 h2
    go_enter Try.func13, Try.ntmps13
    go_wp2_with fail
    first
      | ((with_reducible refine (c_sum_t _ _ HR.out HN.out H1.out _).mono ?_); rintro e w1 ⟨rfl, rfl⟩)
      | ((with_reducible refine (c_sum_f _ _ HR.out HN.out H1.out _).mono ?_); rintro e w1 ⟨⟨v1, rfl⟩, rfl⟩)
    go_wp2_with fail
    first
      | ((with_reducible refine (c_sum_t _ _ HX.out HK.out H2.out _).mono ?_); rintro e w1 ⟨rfl, rfl⟩)
      | ((with_reducible refine (c_sum_f _ _ HX.out HK.out H2.out _).mono ?_); rintro e w1 ⟨⟨v2, rfl⟩, rfl⟩)
    go_wp2_with fail
    go_returns
    exact ⟨by unfold oV; rw [H1.out, H2.out]; rfl, by go_grown⟩
end Go.Proofs.Ytplkijpllibpfaa.P
