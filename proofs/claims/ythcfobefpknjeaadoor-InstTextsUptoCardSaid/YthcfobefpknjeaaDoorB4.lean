/- Stage 2: may it be an instruction? No condition. -/
import Derived.Test.YthcfobefpknjeaaDoorMB
import Derived.Deep.RegionHeld3
import Derived.Deep.RegionWith
set_option linter.unusedVariables false
set_option maxRecDepth 100000
namespace Go.Proofs.YthcfobefpknjeaaDoor.P
open Go.RowKit
theorem cell_drew6 {w : World} {p : Addr} {v : Value} (h : w.cell? p = some v) : w.drew.cell? p = some v := h
def resB (k : Nat) : Bool := decide ((k : Int) = 66) || decide ((k : Int) = 77)
def mayI (f : Int) (i : Int) : Bool :=
  if f = 85 then decide (i % 4096 = 0) && decide ((-2147483648 : Int) ≤ i) && decide (i < 2147483648) else
  if f = 74 then decide (i % 2 = 0) && decide ((-1048576 : Int) ≤ i) && decide (i < 1048576) else
  if f = 73 then decide ((-2048 : Int) ≤ i) && decide (i < 2048) else
  if f = 66 then decide (i % 2 = 0) && decide ((-4096 : Int) ≤ i) && decide (i < 4096) else
  if f = 83 then decide ((-2048 : Int) ≤ i) && decide (i < 2048) else
  if f = 72 then decide ((0 : Int) ≤ i) && decide (i < 64) else
  if f = 86 then decide ((0 : Int) ≤ i) && decide (i < 32) else
  if f = 82 then decide (i = 0) else
  if f = 65 then decide ((0 : Int) ≤ i) && decide (i < 4) else
  decide (i = 0)
def mayR (f : Int) (res : Bool) (rd a b : Int) : Bool :=
  if f = 85 then fitsB rd a b true false false else
  if f = 74 then fitsB rd a b true false false else
  if f = 73 then fitsB rd a b true true false else
  if f = 66 then fitsB rd a b false true true else
  if f = 83 then fitsB rd a b false true true else
  if f = 72 then fitsB rd a b true true false else
  if f = 86 then fitsB rd a b true true false else
  if f = 82 then fitsB rd a b true true true else
  if f = 65 then fitsB rd a b true true (!res) else
  fitsB rd a b false false false
def mayF (op rd a b i : Int) : Bool := decide (1 ≤ op) && decide (op ≤ 87) && mayR (fmT op.toNat) (resB op.toNat) rd a b && mayI (fmT op.toNat) i
theorem c_may_out (op rd a b i : Int) (h : op < 1 ∨ 87 < op) (w : World) : Calls Tryd.prog 11 #[iv op rd a b i] w fun e w' => e = .returned (.bool (mayF op rd a b i)) ∧ Gr w w' := by
  have e : mayF op rd a b i = false := by
    unfold mayF
    rcases h with h | h
    · rw [decide_eq_false (by omega : ¬ 1 ≤ op)]; rfl
    · rw [decide_eq_false (by omega : ¬ op ≤ 87), Bool.and_false]; rfl
  rw [e]
  rcases h with h | h
  · go_enter Tryd.func11, Tryd.ntmps11
    go_wp2
    go_ret
    exact ⟨rfl, by go_grown⟩
  · have h1 : ¬ op < 1 := by omega
    go_enter Tryd.func11, Tryd.ntmps11
    go_wp2
    go_ret
    exact ⟨rfl, by go_grown⟩
theorem may_in {k : Nat} {rd a b i : Int} (hk : k < 88) (h1 : 1 ≤ k) : mayF (k : Int) rd a b i = (mayR (fmT k) (resB k) rd a b && mayI (fmT k) i) := by
  unfold mayF
  rw [decide_eq_true (by omega : (1 : Int) ≤ k), decide_eq_true (by omega : (k : Int) ≤ 87), Int.toNat_natCast]; rfl
set_option maxHeartbeats 1600000 in
theorem c_may_85 (k : Nat) (hk : k < 88) (h1 : 1 ≤ k) (hv : fmT k = 85) (rd a b i : Int) (hi : i64 i) (w : World) (hF : FT w) : Calls Tryd.prog 11 #[iv (k : Int) rd a b i] w fun e w' => e = .returned (.bool (mayF (k : Int) rd a b i)) ∧ Gr w w' := by
  rw [may_in hk h1, hv, show mayR 85 (resB k) rd a b = fitsB rd a b true false false from rfl, show mayI 85 i = (decide (i % 4096 = 0) && decide ((-2147483648 : Int) ≤ i) && decide (i < 2147483648)) from rfl]
  have hc := hF k hk
  rw [hv] at hc
  have hl : 0 < w.heap.size := cell_lt hc
  clear hF hv
  obtain ⟨i0, i1⟩ := hi
  have k1 : ¬ (k : Int) < 1 := by omega
  have k2 : ¬ (87 : Int) < k := by omega
  have CF := Lib.hid (c_fits (k : Int) rd a b i true false false)
  generalize fitsB rd a b true false false = fb at *
  cases fb with
  | false =>
    go_enter Tryd.func11, Tryd.ntmps11
    go_wp2_with (go_at_call 23; refine (CF.out _).mono ?_; rintro e w1 ⟨rfl, g1⟩; have hz := g1.size; have d0 := kcell g1 (cnew w #[.int .i64 (k : Int), .int .i64 rd, .int .i64 a, .int .i64 b, .int .i64 i] 23 4 rfl))
    go_ret
    first | exact ⟨rfl, galloc _ g1⟩ | exact ⟨ret_b (by simp [*]), galloc _ g1⟩
  | true =>
    by_cases hcM : i % 4096 = 0
    rotate_left
    · rw [decide_eq_false hcM]
      have eM : (i.tmod 4096 == 0) = false := tmod_no (by decide) hcM
      go_enter Tryd.func11, Tryd.ntmps11
      go_wp2_with (go_at_call 23; refine (CF.out _).mono ?_; rintro e w1 ⟨rfl, g1⟩; have hz := g1.size; have d0 := kcell g1 (cnew w #[.int .i64 (k : Int), .int .i64 rd, .int .i64 a, .int .i64 b, .int .i64 i] 23 4 rfl))
      go_ret
      first | exact ⟨rfl, galloc _ g1⟩ | exact ⟨ret_b (by simp [*]), galloc _ g1⟩
    · rw [decide_eq_true hcM]
      have eM : (i.tmod 4096 == 0) = true := tmod_yes (by decide) hcM
      by_cases hcG : (-2147483648 : Int) ≤ i
      rotate_left
      · rw [decide_eq_false hcG]
        go_enter Tryd.func11, Tryd.ntmps11
        go_wp2_with (go_at_call 23; refine (CF.out _).mono ?_; rintro e w1 ⟨rfl, g1⟩; have hz := g1.size; have d0 := kcell g1 (cnew w #[.int .i64 (k : Int), .int .i64 rd, .int .i64 a, .int .i64 b, .int .i64 i] 23 4 rfl))
        go_ret
        first | exact ⟨rfl, galloc _ g1⟩ | exact ⟨ret_b (by simp [*]), galloc _ g1⟩
      · rw [decide_eq_true hcG]
        by_cases hcL : i < 2147483648
        rotate_left
        · rw [decide_eq_false hcL]
          have eL : decide (i < 2147483648) = false := decide_eq_false hcL
          go_enter Tryd.func11, Tryd.ntmps11
          go_wp2_with (go_at_call 23; refine (CF.out _).mono ?_; rintro e w1 ⟨rfl, g1⟩; have hz := g1.size; have d0 := kcell g1 (cnew w #[.int .i64 (k : Int), .int .i64 rd, .int .i64 a, .int .i64 b, .int .i64 i] 23 4 rfl))
          go_ret
          first | exact ⟨rfl, galloc _ g1⟩ | exact ⟨ret_b (by simp [*]), galloc _ g1⟩
        · rw [decide_eq_true hcL]
          have eL : decide (i < 2147483648) = true := decide_eq_true hcL
          go_enter Tryd.func11, Tryd.ntmps11
          go_wp2_with (go_at_call 23; refine (CF.out _).mono ?_; rintro e w1 ⟨rfl, g1⟩; have hz := g1.size; have d0 := kcell g1 (cnew w #[.int .i64 (k : Int), .int .i64 rd, .int .i64 a, .int .i64 b, .int .i64 i] 23 4 rfl))
          go_ret
          first | exact ⟨rfl, galloc _ g1⟩ | exact ⟨ret_b (by simp [*]), galloc _ g1⟩
set_option maxHeartbeats 1600000 in
theorem c_may_74 (k : Nat) (hk : k < 88) (h1 : 1 ≤ k) (hv : fmT k = 74) (rd a b i : Int) (hi : i64 i) (w : World) (hF : FT w) : Calls Tryd.prog 11 #[iv (k : Int) rd a b i] w fun e w' => e = .returned (.bool (mayF (k : Int) rd a b i)) ∧ Gr w w' := by
  rw [may_in hk h1, hv, show mayR 74 (resB k) rd a b = fitsB rd a b true false false from rfl, show mayI 74 i = (decide (i % 2 = 0) && decide ((-1048576 : Int) ≤ i) && decide (i < 1048576)) from rfl]
  have hc := hF k hk
  rw [hv] at hc
  have hl : 0 < w.heap.size := cell_lt hc
  clear hF hv
  obtain ⟨i0, i1⟩ := hi
  have k1 : ¬ (k : Int) < 1 := by omega
  have k2 : ¬ (87 : Int) < k := by omega
  have CF := Lib.hid (c_fits (k : Int) rd a b i true false false)
  generalize fitsB rd a b true false false = fb at *
  cases fb with
  | false =>
    go_enter Tryd.func11, Tryd.ntmps11
    go_wp2_with (go_at_call 23; refine (CF.out _).mono ?_; rintro e w1 ⟨rfl, g1⟩; have hz := g1.size; have d0 := kcell g1 (cnew w #[.int .i64 (k : Int), .int .i64 rd, .int .i64 a, .int .i64 b, .int .i64 i] 23 4 rfl))
    go_ret
    first | exact ⟨rfl, galloc _ g1⟩ | exact ⟨ret_b (by simp [*]), galloc _ g1⟩
  | true =>
    by_cases hcM : i % 2 = 0
    rotate_left
    · rw [decide_eq_false hcM]
      have eM : (i.tmod 2 == 0) = false := tmod_no (by decide) hcM
      go_enter Tryd.func11, Tryd.ntmps11
      go_wp2_with (go_at_call 23; refine (CF.out _).mono ?_; rintro e w1 ⟨rfl, g1⟩; have hz := g1.size; have d0 := kcell g1 (cnew w #[.int .i64 (k : Int), .int .i64 rd, .int .i64 a, .int .i64 b, .int .i64 i] 23 4 rfl))
      go_ret
      first | exact ⟨rfl, galloc _ g1⟩ | exact ⟨ret_b (by simp [*]), galloc _ g1⟩
    · rw [decide_eq_true hcM]
      have eM : (i.tmod 2 == 0) = true := tmod_yes (by decide) hcM
      by_cases hcG : (-1048576 : Int) ≤ i
      rotate_left
      · rw [decide_eq_false hcG]
        go_enter Tryd.func11, Tryd.ntmps11
        go_wp2_with (go_at_call 23; refine (CF.out _).mono ?_; rintro e w1 ⟨rfl, g1⟩; have hz := g1.size; have d0 := kcell g1 (cnew w #[.int .i64 (k : Int), .int .i64 rd, .int .i64 a, .int .i64 b, .int .i64 i] 23 4 rfl))
        go_ret
        first | exact ⟨rfl, galloc _ g1⟩ | exact ⟨ret_b (by simp [*]), galloc _ g1⟩
      · rw [decide_eq_true hcG]
        by_cases hcL : i < 1048576
        rotate_left
        · rw [decide_eq_false hcL]
          have eL : decide (i < 1048576) = false := decide_eq_false hcL
          go_enter Tryd.func11, Tryd.ntmps11
          go_wp2_with (go_at_call 23; refine (CF.out _).mono ?_; rintro e w1 ⟨rfl, g1⟩; have hz := g1.size; have d0 := kcell g1 (cnew w #[.int .i64 (k : Int), .int .i64 rd, .int .i64 a, .int .i64 b, .int .i64 i] 23 4 rfl))
          go_ret
          first | exact ⟨rfl, galloc _ g1⟩ | exact ⟨ret_b (by simp [*]), galloc _ g1⟩
        · rw [decide_eq_true hcL]
          have eL : decide (i < 1048576) = true := decide_eq_true hcL
          go_enter Tryd.func11, Tryd.ntmps11
          go_wp2_with (go_at_call 23; refine (CF.out _).mono ?_; rintro e w1 ⟨rfl, g1⟩; have hz := g1.size; have d0 := kcell g1 (cnew w #[.int .i64 (k : Int), .int .i64 rd, .int .i64 a, .int .i64 b, .int .i64 i] 23 4 rfl))
          go_ret
          first | exact ⟨rfl, galloc _ g1⟩ | exact ⟨ret_b (by simp [*]), galloc _ g1⟩
set_option maxHeartbeats 1600000 in
theorem c_may_73 (k : Nat) (hk : k < 88) (h1 : 1 ≤ k) (hv : fmT k = 73) (rd a b i : Int) (hi : i64 i) (w : World) (hF : FT w) : Calls Tryd.prog 11 #[iv (k : Int) rd a b i] w fun e w' => e = .returned (.bool (mayF (k : Int) rd a b i)) ∧ Gr w w' := by
  rw [may_in hk h1, hv, show mayR 73 (resB k) rd a b = fitsB rd a b true true false from rfl, show mayI 73 i = (decide ((-2048 : Int) ≤ i) && decide (i < 2048)) from rfl]
  have hc := hF k hk
  rw [hv] at hc
  have hl : 0 < w.heap.size := cell_lt hc
  clear hF hv
  obtain ⟨i0, i1⟩ := hi
  have k1 : ¬ (k : Int) < 1 := by omega
  have k2 : ¬ (87 : Int) < k := by omega
  have CF := Lib.hid (c_fits (k : Int) rd a b i true true false)
  generalize fitsB rd a b true true false = fb at *
  cases fb with
  | false =>
    go_enter Tryd.func11, Tryd.ntmps11
    go_wp2_with (go_at_call 23; refine (CF.out _).mono ?_; rintro e w1 ⟨rfl, g1⟩; have hz := g1.size; have d0 := kcell g1 (cnew w #[.int .i64 (k : Int), .int .i64 rd, .int .i64 a, .int .i64 b, .int .i64 i] 23 4 rfl))
    go_ret
    first | exact ⟨rfl, galloc _ g1⟩ | exact ⟨ret_b (by simp [*]), galloc _ g1⟩
  | true =>
    by_cases hcG : (-2048 : Int) ≤ i
    rotate_left
    · rw [decide_eq_false hcG]
      go_enter Tryd.func11, Tryd.ntmps11
      go_wp2_with (go_at_call 23; refine (CF.out _).mono ?_; rintro e w1 ⟨rfl, g1⟩; have hz := g1.size; have d0 := kcell g1 (cnew w #[.int .i64 (k : Int), .int .i64 rd, .int .i64 a, .int .i64 b, .int .i64 i] 23 4 rfl))
      go_ret
      first | exact ⟨rfl, galloc _ g1⟩ | exact ⟨ret_b (by simp [*]), galloc _ g1⟩
    · rw [decide_eq_true hcG]
      by_cases hcL : i < 2048
      rotate_left
      · rw [decide_eq_false hcL]
        have eL : decide (i < 2048) = false := decide_eq_false hcL
        go_enter Tryd.func11, Tryd.ntmps11
        go_wp2_with (go_at_call 23; refine (CF.out _).mono ?_; rintro e w1 ⟨rfl, g1⟩; have hz := g1.size; have d0 := kcell g1 (cnew w #[.int .i64 (k : Int), .int .i64 rd, .int .i64 a, .int .i64 b, .int .i64 i] 23 4 rfl))
        go_ret
        first | exact ⟨rfl, galloc _ g1⟩ | exact ⟨ret_b (by simp [*]), galloc _ g1⟩
      · rw [decide_eq_true hcL]
        have eL : decide (i < 2048) = true := decide_eq_true hcL
        go_enter Tryd.func11, Tryd.ntmps11
        go_wp2_with (go_at_call 23; refine (CF.out _).mono ?_; rintro e w1 ⟨rfl, g1⟩; have hz := g1.size; have d0 := kcell g1 (cnew w #[.int .i64 (k : Int), .int .i64 rd, .int .i64 a, .int .i64 b, .int .i64 i] 23 4 rfl))
        go_ret
        first | exact ⟨rfl, galloc _ g1⟩ | exact ⟨ret_b (by simp [*]), galloc _ g1⟩
set_option maxHeartbeats 1600000 in
theorem c_may_66 (k : Nat) (hk : k < 88) (h1 : 1 ≤ k) (hv : fmT k = 66) (rd a b i : Int) (hi : i64 i) (w : World) (hF : FT w) : Calls Tryd.prog 11 #[iv (k : Int) rd a b i] w fun e w' => e = .returned (.bool (mayF (k : Int) rd a b i)) ∧ Gr w w' := by
  rw [may_in hk h1, hv, show mayR 66 (resB k) rd a b = fitsB rd a b false true true from rfl, show mayI 66 i = (decide (i % 2 = 0) && decide ((-4096 : Int) ≤ i) && decide (i < 4096)) from rfl]
  have hc := hF k hk
  rw [hv] at hc
  have hl : 0 < w.heap.size := cell_lt hc
  clear hF hv
  obtain ⟨i0, i1⟩ := hi
  have k1 : ¬ (k : Int) < 1 := by omega
  have k2 : ¬ (87 : Int) < k := by omega
  have CF := Lib.hid (c_fits (k : Int) rd a b i false true true)
  generalize fitsB rd a b false true true = fb at *
  cases fb with
  | false =>
    go_enter Tryd.func11, Tryd.ntmps11
    go_wp2_with (go_at_call 23; refine (CF.out _).mono ?_; rintro e w1 ⟨rfl, g1⟩; have hz := g1.size; have d0 := kcell g1 (cnew w #[.int .i64 (k : Int), .int .i64 rd, .int .i64 a, .int .i64 b, .int .i64 i] 23 4 rfl))
    go_ret
    first | exact ⟨rfl, galloc _ g1⟩ | exact ⟨ret_b (by simp [*]), galloc _ g1⟩
  | true =>
    by_cases hcM : i % 2 = 0
    rotate_left
    · rw [decide_eq_false hcM]
      have eM : (i.tmod 2 == 0) = false := tmod_no (by decide) hcM
      go_enter Tryd.func11, Tryd.ntmps11
      go_wp2_with (go_at_call 23; refine (CF.out _).mono ?_; rintro e w1 ⟨rfl, g1⟩; have hz := g1.size; have d0 := kcell g1 (cnew w #[.int .i64 (k : Int), .int .i64 rd, .int .i64 a, .int .i64 b, .int .i64 i] 23 4 rfl))
      go_ret
      first | exact ⟨rfl, galloc _ g1⟩ | exact ⟨ret_b (by simp [*]), galloc _ g1⟩
    · rw [decide_eq_true hcM]
      have eM : (i.tmod 2 == 0) = true := tmod_yes (by decide) hcM
      by_cases hcG : (-4096 : Int) ≤ i
      rotate_left
      · rw [decide_eq_false hcG]
        go_enter Tryd.func11, Tryd.ntmps11
        go_wp2_with (go_at_call 23; refine (CF.out _).mono ?_; rintro e w1 ⟨rfl, g1⟩; have hz := g1.size; have d0 := kcell g1 (cnew w #[.int .i64 (k : Int), .int .i64 rd, .int .i64 a, .int .i64 b, .int .i64 i] 23 4 rfl))
        go_ret
        first | exact ⟨rfl, galloc _ g1⟩ | exact ⟨ret_b (by simp [*]), galloc _ g1⟩
      · rw [decide_eq_true hcG]
        by_cases hcL : i < 4096
        rotate_left
        · rw [decide_eq_false hcL]
          have eL : decide (i < 4096) = false := decide_eq_false hcL
          go_enter Tryd.func11, Tryd.ntmps11
          go_wp2_with (go_at_call 23; refine (CF.out _).mono ?_; rintro e w1 ⟨rfl, g1⟩; have hz := g1.size; have d0 := kcell g1 (cnew w #[.int .i64 (k : Int), .int .i64 rd, .int .i64 a, .int .i64 b, .int .i64 i] 23 4 rfl))
          go_ret
          first | exact ⟨rfl, galloc _ g1⟩ | exact ⟨ret_b (by simp [*]), galloc _ g1⟩
        · rw [decide_eq_true hcL]
          have eL : decide (i < 4096) = true := decide_eq_true hcL
          go_enter Tryd.func11, Tryd.ntmps11
          go_wp2_with (go_at_call 23; refine (CF.out _).mono ?_; rintro e w1 ⟨rfl, g1⟩; have hz := g1.size; have d0 := kcell g1 (cnew w #[.int .i64 (k : Int), .int .i64 rd, .int .i64 a, .int .i64 b, .int .i64 i] 23 4 rfl))
          go_ret
          first | exact ⟨rfl, galloc _ g1⟩ | exact ⟨ret_b (by simp [*]), galloc _ g1⟩
set_option maxHeartbeats 1600000 in
theorem c_may_83 (k : Nat) (hk : k < 88) (h1 : 1 ≤ k) (hv : fmT k = 83) (rd a b i : Int) (hi : i64 i) (w : World) (hF : FT w) : Calls Tryd.prog 11 #[iv (k : Int) rd a b i] w fun e w' => e = .returned (.bool (mayF (k : Int) rd a b i)) ∧ Gr w w' := by
  rw [may_in hk h1, hv, show mayR 83 (resB k) rd a b = fitsB rd a b false true true from rfl, show mayI 83 i = (decide ((-2048 : Int) ≤ i) && decide (i < 2048)) from rfl]
  have hc := hF k hk
  rw [hv] at hc
  have hl : 0 < w.heap.size := cell_lt hc
  clear hF hv
  obtain ⟨i0, i1⟩ := hi
  have k1 : ¬ (k : Int) < 1 := by omega
  have k2 : ¬ (87 : Int) < k := by omega
  have CF := Lib.hid (c_fits (k : Int) rd a b i false true true)
  generalize fitsB rd a b false true true = fb at *
  cases fb with
  | false =>
    go_enter Tryd.func11, Tryd.ntmps11
    go_wp2_with (go_at_call 23; refine (CF.out _).mono ?_; rintro e w1 ⟨rfl, g1⟩; have hz := g1.size; have d0 := kcell g1 (cnew w #[.int .i64 (k : Int), .int .i64 rd, .int .i64 a, .int .i64 b, .int .i64 i] 23 4 rfl))
    go_ret
    first | exact ⟨rfl, galloc _ g1⟩ | exact ⟨ret_b (by simp [*]), galloc _ g1⟩
  | true =>
    by_cases hcG : (-2048 : Int) ≤ i
    rotate_left
    · rw [decide_eq_false hcG]
      go_enter Tryd.func11, Tryd.ntmps11
      go_wp2_with (go_at_call 23; refine (CF.out _).mono ?_; rintro e w1 ⟨rfl, g1⟩; have hz := g1.size; have d0 := kcell g1 (cnew w #[.int .i64 (k : Int), .int .i64 rd, .int .i64 a, .int .i64 b, .int .i64 i] 23 4 rfl))
      go_ret
      first | exact ⟨rfl, galloc _ g1⟩ | exact ⟨ret_b (by simp [*]), galloc _ g1⟩
    · rw [decide_eq_true hcG]
      by_cases hcL : i < 2048
      rotate_left
      · rw [decide_eq_false hcL]
        have eL : decide (i < 2048) = false := decide_eq_false hcL
        go_enter Tryd.func11, Tryd.ntmps11
        go_wp2_with (go_at_call 23; refine (CF.out _).mono ?_; rintro e w1 ⟨rfl, g1⟩; have hz := g1.size; have d0 := kcell g1 (cnew w #[.int .i64 (k : Int), .int .i64 rd, .int .i64 a, .int .i64 b, .int .i64 i] 23 4 rfl))
        go_ret
        first | exact ⟨rfl, galloc _ g1⟩ | exact ⟨ret_b (by simp [*]), galloc _ g1⟩
      · rw [decide_eq_true hcL]
        have eL : decide (i < 2048) = true := decide_eq_true hcL
        go_enter Tryd.func11, Tryd.ntmps11
        go_wp2_with (go_at_call 23; refine (CF.out _).mono ?_; rintro e w1 ⟨rfl, g1⟩; have hz := g1.size; have d0 := kcell g1 (cnew w #[.int .i64 (k : Int), .int .i64 rd, .int .i64 a, .int .i64 b, .int .i64 i] 23 4 rfl))
        go_ret
        first | exact ⟨rfl, galloc _ g1⟩ | exact ⟨ret_b (by simp [*]), galloc _ g1⟩
set_option maxHeartbeats 1600000 in
theorem c_may_72 (k : Nat) (hk : k < 88) (h1 : 1 ≤ k) (hv : fmT k = 72) (rd a b i : Int) (hi : i64 i) (w : World) (hF : FT w) : Calls Tryd.prog 11 #[iv (k : Int) rd a b i] w fun e w' => e = .returned (.bool (mayF (k : Int) rd a b i)) ∧ Gr w w' := by
  rw [may_in hk h1, hv, show mayR 72 (resB k) rd a b = fitsB rd a b true true false from rfl, show mayI 72 i = (decide ((0 : Int) ≤ i) && decide (i < 64)) from rfl]
  have hc := hF k hk
  rw [hv] at hc
  have hl : 0 < w.heap.size := cell_lt hc
  clear hF hv
  obtain ⟨i0, i1⟩ := hi
  have k1 : ¬ (k : Int) < 1 := by omega
  have k2 : ¬ (87 : Int) < k := by omega
  have CF := Lib.hid (c_fits (k : Int) rd a b i true true false)
  generalize fitsB rd a b true true false = fb at *
  cases fb with
  | false =>
    go_enter Tryd.func11, Tryd.ntmps11
    go_wp2_with (go_at_call 23; refine (CF.out _).mono ?_; rintro e w1 ⟨rfl, g1⟩; have hz := g1.size; have d0 := kcell g1 (cnew w #[.int .i64 (k : Int), .int .i64 rd, .int .i64 a, .int .i64 b, .int .i64 i] 23 4 rfl))
    go_ret
    first | exact ⟨rfl, galloc _ g1⟩ | exact ⟨ret_b (by simp [*]), galloc _ g1⟩
  | true =>
    by_cases hcG : (0 : Int) ≤ i
    rotate_left
    · rw [decide_eq_false hcG]
      go_enter Tryd.func11, Tryd.ntmps11
      go_wp2_with (go_at_call 23; refine (CF.out _).mono ?_; rintro e w1 ⟨rfl, g1⟩; have hz := g1.size; have d0 := kcell g1 (cnew w #[.int .i64 (k : Int), .int .i64 rd, .int .i64 a, .int .i64 b, .int .i64 i] 23 4 rfl))
      go_ret
      first | exact ⟨rfl, galloc _ g1⟩ | exact ⟨ret_b (by simp [*]), galloc _ g1⟩
    · rw [decide_eq_true hcG]
      by_cases hcL : i < 64
      rotate_left
      · rw [decide_eq_false hcL]
        have eL : decide (i < 64) = false := decide_eq_false hcL
        go_enter Tryd.func11, Tryd.ntmps11
        go_wp2_with (go_at_call 23; refine (CF.out _).mono ?_; rintro e w1 ⟨rfl, g1⟩; have hz := g1.size; have d0 := kcell g1 (cnew w #[.int .i64 (k : Int), .int .i64 rd, .int .i64 a, .int .i64 b, .int .i64 i] 23 4 rfl))
        go_ret
        first | exact ⟨rfl, galloc _ g1⟩ | exact ⟨ret_b (by simp [*]), galloc _ g1⟩
      · rw [decide_eq_true hcL]
        have eL : decide (i < 64) = true := decide_eq_true hcL
        go_enter Tryd.func11, Tryd.ntmps11
        go_wp2_with (go_at_call 23; refine (CF.out _).mono ?_; rintro e w1 ⟨rfl, g1⟩; have hz := g1.size; have d0 := kcell g1 (cnew w #[.int .i64 (k : Int), .int .i64 rd, .int .i64 a, .int .i64 b, .int .i64 i] 23 4 rfl))
        go_ret
        first | exact ⟨rfl, galloc _ g1⟩ | exact ⟨ret_b (by simp [*]), galloc _ g1⟩
set_option maxHeartbeats 1600000 in
theorem c_may_86 (k : Nat) (hk : k < 88) (h1 : 1 ≤ k) (hv : fmT k = 86) (rd a b i : Int) (hi : i64 i) (w : World) (hF : FT w) : Calls Tryd.prog 11 #[iv (k : Int) rd a b i] w fun e w' => e = .returned (.bool (mayF (k : Int) rd a b i)) ∧ Gr w w' := by
  rw [may_in hk h1, hv, show mayR 86 (resB k) rd a b = fitsB rd a b true true false from rfl, show mayI 86 i = (decide ((0 : Int) ≤ i) && decide (i < 32)) from rfl]
  have hc := hF k hk
  rw [hv] at hc
  have hl : 0 < w.heap.size := cell_lt hc
  clear hF hv
  obtain ⟨i0, i1⟩ := hi
  have k1 : ¬ (k : Int) < 1 := by omega
  have k2 : ¬ (87 : Int) < k := by omega
  have CF := Lib.hid (c_fits (k : Int) rd a b i true true false)
  generalize fitsB rd a b true true false = fb at *
  cases fb with
  | false =>
    go_enter Tryd.func11, Tryd.ntmps11
    go_wp2_with (go_at_call 23; refine (CF.out _).mono ?_; rintro e w1 ⟨rfl, g1⟩; have hz := g1.size; have d0 := kcell g1 (cnew w #[.int .i64 (k : Int), .int .i64 rd, .int .i64 a, .int .i64 b, .int .i64 i] 23 4 rfl))
    go_ret
    first | exact ⟨rfl, galloc _ g1⟩ | exact ⟨ret_b (by simp [*]), galloc _ g1⟩
  | true =>
    by_cases hcG : (0 : Int) ≤ i
    rotate_left
    · rw [decide_eq_false hcG]
      go_enter Tryd.func11, Tryd.ntmps11
      go_wp2_with (go_at_call 23; refine (CF.out _).mono ?_; rintro e w1 ⟨rfl, g1⟩; have hz := g1.size; have d0 := kcell g1 (cnew w #[.int .i64 (k : Int), .int .i64 rd, .int .i64 a, .int .i64 b, .int .i64 i] 23 4 rfl))
      go_ret
      first | exact ⟨rfl, galloc _ g1⟩ | exact ⟨ret_b (by simp [*]), galloc _ g1⟩
    · rw [decide_eq_true hcG]
      by_cases hcL : i < 32
      rotate_left
      · rw [decide_eq_false hcL]
        have eL : decide (i < 32) = false := decide_eq_false hcL
        go_enter Tryd.func11, Tryd.ntmps11
        go_wp2_with (go_at_call 23; refine (CF.out _).mono ?_; rintro e w1 ⟨rfl, g1⟩; have hz := g1.size; have d0 := kcell g1 (cnew w #[.int .i64 (k : Int), .int .i64 rd, .int .i64 a, .int .i64 b, .int .i64 i] 23 4 rfl))
        go_ret
        first | exact ⟨rfl, galloc _ g1⟩ | exact ⟨ret_b (by simp [*]), galloc _ g1⟩
      · rw [decide_eq_true hcL]
        have eL : decide (i < 32) = true := decide_eq_true hcL
        go_enter Tryd.func11, Tryd.ntmps11
        go_wp2_with (go_at_call 23; refine (CF.out _).mono ?_; rintro e w1 ⟨rfl, g1⟩; have hz := g1.size; have d0 := kcell g1 (cnew w #[.int .i64 (k : Int), .int .i64 rd, .int .i64 a, .int .i64 b, .int .i64 i] 23 4 rfl))
        go_ret
        first | exact ⟨rfl, galloc _ g1⟩ | exact ⟨ret_b (by simp [*]), galloc _ g1⟩
set_option maxHeartbeats 1600000 in
theorem c_may_82 (k : Nat) (hk : k < 88) (h1 : 1 ≤ k) (hv : fmT k = 82) (rd a b i : Int) (hi : i64 i) (w : World) (hF : FT w) : Calls Tryd.prog 11 #[iv (k : Int) rd a b i] w fun e w' => e = .returned (.bool (mayF (k : Int) rd a b i)) ∧ Gr w w' := by
  rw [may_in hk h1, hv, show mayR 82 (resB k) rd a b = fitsB rd a b true true true from rfl, show mayI 82 i = (decide (i = 0)) from rfl]
  have hc := hF k hk
  rw [hv] at hc
  have hl : 0 < w.heap.size := cell_lt hc
  clear hF hv
  obtain ⟨i0, i1⟩ := hi
  have k1 : ¬ (k : Int) < 1 := by omega
  have k2 : ¬ (87 : Int) < k := by omega
  have CF := Lib.hid (c_fits (k : Int) rd a b i true true true)
  generalize fitsB rd a b true true true = fb at *
  cases fb with
  | false =>
    go_enter Tryd.func11, Tryd.ntmps11
    go_wp2_with (go_at_call 23; refine (CF.out _).mono ?_; rintro e w1 ⟨rfl, g1⟩; have hz := g1.size; have d0 := kcell g1 (cnew w #[.int .i64 (k : Int), .int .i64 rd, .int .i64 a, .int .i64 b, .int .i64 i] 23 4 rfl))
    go_ret
    first | exact ⟨rfl, galloc _ g1⟩ | exact ⟨ret_b (by simp [*]), galloc _ g1⟩
  | true =>
    by_cases hcZ : i = 0
    rotate_left
    · rw [decide_eq_false hcZ]
      have eZ : (i == 0) = false := by simp [hcZ]
      clear hcZ
      go_enter Tryd.func11, Tryd.ntmps11
      go_wp2_with (go_at_call 23; refine (CF.out _).mono ?_; rintro e w1 ⟨rfl, g1⟩; have hz := g1.size; have d0 := kcell g1 (cnew w #[.int .i64 (k : Int), .int .i64 rd, .int .i64 a, .int .i64 b, .int .i64 i] 23 4 rfl))
      go_ret
      first | exact ⟨rfl, galloc _ g1⟩ | exact ⟨ret_b (by simp [*]), galloc _ g1⟩
    · rw [decide_eq_true hcZ]
      have eZ : (i == 0) = true := by simp [hcZ]
      clear hcZ
      go_enter Tryd.func11, Tryd.ntmps11
      go_wp2_with (go_at_call 23; refine (CF.out _).mono ?_; rintro e w1 ⟨rfl, g1⟩; have hz := g1.size; have d0 := kcell g1 (cnew w #[.int .i64 (k : Int), .int .i64 rd, .int .i64 a, .int .i64 b, .int .i64 i] 23 4 rfl))
      go_ret
      first | exact ⟨rfl, galloc _ g1⟩ | exact ⟨ret_b (by simp [*]), galloc _ g1⟩
set_option maxHeartbeats 1600000 in
theorem c_may_65 (k : Nat) (hk : k < 88) (h1 : 1 ≤ k) (hv : fmT k = 65) (rd a b i : Int) (hi : i64 i) (w : World) (hF : FT w) : Calls Tryd.prog 11 #[iv (k : Int) rd a b i] w fun e w' => e = .returned (.bool (mayF (k : Int) rd a b i)) ∧ Gr w w' := by
  rw [may_in hk h1, hv, show mayR 65 (resB k) rd a b = fitsB rd a b true true (!resB k) from rfl, show mayI 65 i = (decide ((0 : Int) ≤ i) && decide (i < 4)) from rfl]
  have hc := hF k hk
  rw [hv] at hc
  have hl : 0 < w.heap.size := cell_lt hc
  clear hF hv
  obtain ⟨i0, i1⟩ := hi
  have k1 : ¬ (k : Int) < 1 := by omega
  have k2 : ¬ (87 : Int) < k := by omega
  have CR : Hid (∀ w, Calls Tryd.prog 24 #[.int .i64 (k : Int)] w fun e w' => e = .returned (.bool (resB k)) ∧ w' = w) := Lib.hid (fun w => c_reserves (k : Int) w)
  generalize resB k = rs at *
  have CF := Lib.hid (c_fits (k : Int) rd a b i true true (!rs))
  generalize fitsB rd a b true true (!rs) = fb at *
  obtain ⟨wb, hwb⟩ : ∃ wb, wb = w.alloc (.cells #[.int .i64 (k : Int), .int .i64 rd, .int .i64 a, .int .i64 b, .int .i64 i] 23) := ⟨_, rfl⟩
  have gb : Gr w wb := by rw [hwb]; exact (Gr.refl w).alloc (Nat.le_refl _) _
  have hb : wb.heap[w.heap.size]? = some (.cells #[.int .i64 (k : Int), .int .i64 rd, .int .i64 a, .int .i64 b, .int .i64 i] 23) := by rw [hwb]; exact blk_new _ _
  have GB := Lib.hid gb
  have GR := Lib.hid (Gr.refl wb)
  have c0 := blk_cell hb 0 (v := .int .i64 (k : Int)) rfl
  have c1 := blk_cell hb 1 (v := .int .i64 rd) rfl
  have c2 := blk_cell hb 2 (v := .int .i64 a) rfl
  have c3 := blk_cell hb 3 (v := .int .i64 b) rfl
  have c4 := blk_cell hb 4 (v := .int .i64 i) rfl
  have HB := Lib.hid hb
  clear gb hb
  cases fb with
  | false =>
    go_enter Tryd.func11, Tryd.ntmps11
    go_wp2_with fail
    rw [← hwb]
    generalize w.heap.size = B at *
    clear hwb hc hl
    have g0 : Gr wb wb := GR.out
    have g0d : Gr wb wb.drew := Gr.drewN g0 1
    have d0 := cell_drew6 c0
    have d1 := cell_drew6 c1
    have d2 := cell_drew6 c2
    have d3 := cell_drew6 c3
    have d4 := cell_drew6 c4
    first
      | (go_region_with (first
          | (go_at_call 24; refine (CR.out _).mono ?_; rintro e w5 ⟨rfl, rfl⟩)
          | (go_at_call 23; refine (CF.out _).mono ?_; rintro e w6 ⟨rfl, g6⟩; have g7 : Gr wb w6 := (by first | exact g6 | exact undrew g6 | exact gtrans (by assumption) g6); have c06 := blk_cell (blk_gr g7 HB.out) 0 (v := .int .i64 (k : Int)) rfl; have c16 := blk_cell (blk_gr g7 HB.out) 1 (v := .int .i64 rd) rfl; have c26 := blk_cell (blk_gr g7 HB.out) 2 (v := .int .i64 a) rfl; have c36 := blk_cell (blk_gr g7 HB.out) 3 (v := .int .i64 b) rfl; have c46 := blk_cell (blk_gr g7 HB.out) 4 (v := .int .i64 i) rfl)))
      | fail
    all_goals
      go_wp2_with fail
      go_ret
      exact ⟨ret_b (by simp [*]), gtrans GB.out (by assumption)⟩
  | true =>
    by_cases hG : 0 ≤ i
    · rw [decide_eq_true hG]
      by_cases hL : i < 4
      · rw [decide_eq_true hL]
        go_enter Tryd.func11, Tryd.ntmps11
        go_wp2_with fail
        rw [← hwb]
        generalize w.heap.size = B at *
        clear hwb hc hl
        have g0 : Gr wb wb := GR.out
        have g0d : Gr wb wb.drew := Gr.drewN g0 1
        first
          | (go_region_held3 (fun w' => (w'.cell? ⟨B, 0, none⟩ = some (.int .i64 (k : Int)) ∧ w'.cell? ⟨B, 1, none⟩ = some (.int .i64 rd) ∧ w'.cell? ⟨B, 2, none⟩ = some (.int .i64 a) ∧ w'.cell? ⟨B, 3, none⟩ = some (.int .i64 b) ∧ w'.cell? ⟨B, 4, none⟩ = some (.int .i64 i)) ∧ Gr wb w')
              ((refine ⟨⟨?_, ?_, ?_, ?_, ?_⟩, ?_⟩ <;> first | (with_reducible assumption) | (with_reducible exact cell_drew6 (by assumption)) | (with_reducible exact Gr.drewN (by assumption) 1)))
              (first
                | (go_at_call 24; refine (CR.out _).mono ?_; rintro e w5 ⟨rfl, rfl⟩)
                | (go_at_call 23; refine (CF.out _).mono ?_; rintro e w6 ⟨rfl, g6⟩; have g7 : Gr wb w6 := (by first | exact g6 | exact undrew g6 | exact gtrans (by assumption) g6); have c06 := blk_cell (blk_gr g7 HB.out) 0 (v := .int .i64 (k : Int)) rfl; have c16 := blk_cell (blk_gr g7 HB.out) 1 (v := .int .i64 rd) rfl; have c26 := blk_cell (blk_gr g7 HB.out) 2 (v := .int .i64 a) rfl; have c36 := blk_cell (blk_gr g7 HB.out) 3 (v := .int .i64 b) rfl; have c46 := blk_cell (blk_gr g7 HB.out) 4 (v := .int .i64 i) rfl)))
          | fail
        all_goals
          go_wp2_with fail
          go_ret
          exact ⟨ret_b (by simp [*]), gtrans GB.out (by assumption)⟩
      · rw [decide_eq_false hL]
        have eL : decide (i < 4) = false := decide_eq_false hL
        go_enter Tryd.func11, Tryd.ntmps11
        go_wp2_with fail
        rw [← hwb]
        generalize w.heap.size = B at *
        clear hwb hc hl
        have g0 : Gr wb wb := GR.out
        have g0d : Gr wb wb.drew := Gr.drewN g0 1
        first
          | (go_region_held3 (fun w' => (w'.cell? ⟨B, 0, none⟩ = some (.int .i64 (k : Int)) ∧ w'.cell? ⟨B, 1, none⟩ = some (.int .i64 rd) ∧ w'.cell? ⟨B, 2, none⟩ = some (.int .i64 a) ∧ w'.cell? ⟨B, 3, none⟩ = some (.int .i64 b) ∧ w'.cell? ⟨B, 4, none⟩ = some (.int .i64 i)) ∧ Gr wb w')
              ((refine ⟨⟨?_, ?_, ?_, ?_, ?_⟩, ?_⟩ <;> first | (with_reducible assumption) | (with_reducible exact cell_drew6 (by assumption)) | (with_reducible exact Gr.drewN (by assumption) 1)))
              (first
                | (go_at_call 24; refine (CR.out _).mono ?_; rintro e w5 ⟨rfl, rfl⟩)
                | (go_at_call 23; refine (CF.out _).mono ?_; rintro e w6 ⟨rfl, g6⟩; have g7 : Gr wb w6 := (by first | exact g6 | exact undrew g6 | exact gtrans (by assumption) g6); have c06 := blk_cell (blk_gr g7 HB.out) 0 (v := .int .i64 (k : Int)) rfl; have c16 := blk_cell (blk_gr g7 HB.out) 1 (v := .int .i64 rd) rfl; have c26 := blk_cell (blk_gr g7 HB.out) 2 (v := .int .i64 a) rfl; have c36 := blk_cell (blk_gr g7 HB.out) 3 (v := .int .i64 b) rfl; have c46 := blk_cell (blk_gr g7 HB.out) 4 (v := .int .i64 i) rfl)))
          | fail
        all_goals
          go_wp2_with fail
          go_ret
          exact ⟨ret_b (by simp [*]), gtrans GB.out (by assumption)⟩
    · rw [decide_eq_false hG]
      have eG : decide (0 ≤ i) = false := decide_eq_false hG
      go_enter Tryd.func11, Tryd.ntmps11
      go_wp2_with fail
      rw [← hwb]
      generalize w.heap.size = B at *
      clear hwb hc hl
      have g0 : Gr wb wb := GR.out
      have g0d : Gr wb wb.drew := Gr.drewN g0 1
      have d0 := cell_drew6 c0
      have d1 := cell_drew6 c1
      have d2 := cell_drew6 c2
      have d3 := cell_drew6 c3
      have d4 := cell_drew6 c4
      first
        | (go_region_with (first
            | (go_at_call 24; refine (CR.out _).mono ?_; rintro e w5 ⟨rfl, rfl⟩)
            | (go_at_call 23; refine (CF.out _).mono ?_; rintro e w6 ⟨rfl, g6⟩; have g7 : Gr wb w6 := (by first | exact g6 | exact undrew g6 | exact gtrans (by assumption) g6); have c06 := blk_cell (blk_gr g7 HB.out) 0 (v := .int .i64 (k : Int)) rfl; have c16 := blk_cell (blk_gr g7 HB.out) 1 (v := .int .i64 rd) rfl; have c26 := blk_cell (blk_gr g7 HB.out) 2 (v := .int .i64 a) rfl; have c36 := blk_cell (blk_gr g7 HB.out) 3 (v := .int .i64 b) rfl; have c46 := blk_cell (blk_gr g7 HB.out) 4 (v := .int .i64 i) rfl)))
        | fail
      all_goals
        go_wp2_with fail
        go_ret
        exact ⟨ret_b (by simp [*]), gtrans GB.out (by assumption)⟩
set_option maxHeartbeats 1600000 in
theorem c_may_78 (k : Nat) (hk : k < 88) (h1 : 1 ≤ k) (hv : fmT k = 78) (rd a b i : Int) (hi : i64 i) (w : World) (hF : FT w) : Calls Tryd.prog 11 #[iv (k : Int) rd a b i] w fun e w' => e = .returned (.bool (mayF (k : Int) rd a b i)) ∧ Gr w w' := by
  rw [may_in hk h1, hv, show mayR 78 (resB k) rd a b = fitsB rd a b false false false from rfl, show mayI 78 i = (decide (i = 0)) from rfl]
  have hc := hF k hk
  rw [hv] at hc
  have hl : 0 < w.heap.size := cell_lt hc
  clear hF hv
  obtain ⟨i0, i1⟩ := hi
  have k1 : ¬ (k : Int) < 1 := by omega
  have k2 : ¬ (87 : Int) < k := by omega
  have CF := Lib.hid (c_fits (k : Int) rd a b i false false false)
  generalize fitsB rd a b false false false = fb at *
  cases fb with
  | false =>
    go_enter Tryd.func11, Tryd.ntmps11
    go_wp2_with (go_at_call 23; refine (CF.out _).mono ?_; rintro e w1 ⟨rfl, g1⟩; have hz := g1.size; have d0 := kcell g1 (cnew w #[.int .i64 (k : Int), .int .i64 rd, .int .i64 a, .int .i64 b, .int .i64 i] 23 4 rfl))
    go_ret
    first | exact ⟨rfl, galloc _ g1⟩ | exact ⟨ret_b (by simp [*]), galloc _ g1⟩
  | true =>
    by_cases hcZ : i = 0
    rotate_left
    · rw [decide_eq_false hcZ]
      have eZ : (i == 0) = false := by simp [hcZ]
      clear hcZ
      go_enter Tryd.func11, Tryd.ntmps11
      go_wp2_with (go_at_call 23; refine (CF.out _).mono ?_; rintro e w1 ⟨rfl, g1⟩; have hz := g1.size; have d0 := kcell g1 (cnew w #[.int .i64 (k : Int), .int .i64 rd, .int .i64 a, .int .i64 b, .int .i64 i] 23 4 rfl))
      go_ret
      first | exact ⟨rfl, galloc _ g1⟩ | exact ⟨ret_b (by simp [*]), galloc _ g1⟩
    · rw [decide_eq_true hcZ]
      have eZ : (i == 0) = true := by simp [hcZ]
      clear hcZ
      go_enter Tryd.func11, Tryd.ntmps11
      go_wp2_with (go_at_call 23; refine (CF.out _).mono ?_; rintro e w1 ⟨rfl, g1⟩; have hz := g1.size; have d0 := kcell g1 (cnew w #[.int .i64 (k : Int), .int .i64 rd, .int .i64 a, .int .i64 b, .int .i64 i] 23 4 rfl))
      go_ret
      first | exact ⟨rfl, galloc _ g1⟩ | exact ⟨ret_b (by simp [*]), galloc _ g1⟩
theorem c_may (op rd a b i : Int) (hi : i64 i) (w : World) (hF : FT w) : Calls Tryd.prog 11 #[iv op rd a b i] w fun e w' => e = .returned (.bool (mayF op rd a b i)) ∧ Gr w w' := by
  by_cases h : op < 1 ∨ 87 < op
  · exact c_may_out op rd a b i h w
  · obtain ⟨k, rfl⟩ : ∃ k : Nat, op = (k : Int) := ⟨op.toNat, by omega⟩
    have hk : k < 88 := by omega
    have h1 : 1 ≤ k := by omega
    rcases fm_cases k hk h1 with hv | hv | hv | hv | hv | hv | hv | hv | hv | hv
    · exact c_may_85 k hk h1 hv rd a b i hi w hF
    · exact c_may_74 k hk h1 hv rd a b i hi w hF
    · exact c_may_73 k hk h1 hv rd a b i hi w hF
    · exact c_may_66 k hk h1 hv rd a b i hi w hF
    · exact c_may_83 k hk h1 hv rd a b i hi w hF
    · exact c_may_72 k hk h1 hv rd a b i hi w hF
    · exact c_may_86 k hk h1 hv rd a b i hi w hF
    · exact c_may_82 k hk h1 hv rd a b i hi w hF
    · exact c_may_65 k hk h1 hv rd a b i hi w hF
    · exact c_may_78 k hk h1 hv rd a b i hi w hF
end Go.Proofs.YthcfobefpknjeaaDoor.P
