/- Stage 5: the document's step: accesses, loads, branches. No condition. -/
import Derived.Test.YtngeabphjdfdgaaGreatDoorOP
import Derived.Test.YtngeabphjdfdgaaGreatDoorVA
import Derived.Deep.QuietTactic
set_option linter.unusedVariables false
set_option linter.unusedSimpArgs false
set_option maxRecDepth 100000
namespace Go.Proofs.YtngeabphjdfdgaaGreatDoor.P
open Go.RowKit Go.MuLone Go.Proofs.YtngeabphjdfdgaaGreatDoor.W
theorem o_access {w0 w : World} {b fr : Nat} {s : List UInt8} {R : Asn} (h : Own w0 w (Star (rmA b fr s) R)) (hR : Stable R) (r a n acc : Int) (ha : Go.Proofs.YtngeabphjdfdgaaGreatDoor.P.u64 a) (hr : i64 r) (hn : n = 1 ∨ n = 2 ∨ n = 4 ∨ n = 8) (V : Int) (B : Bool) (hV : walkV fr s r a acc = V) (hB : rchB fr s r a n acc = B) :
    Calls Tryz.prog 22 #[.pointer (some ⟨b, 0, none⟩), .int .i64 r, .int .u64 a, .int .i64 n, .int .i64 acc] w fun e w' => e = .returned (.tuple #[.int .u64 V, .bool B]) ∧ Own w0 w' (Star (rmA b fr s) R) := by
  subst hB
  have C := o_rwalk h hR r a acc _ _ ha hr hV rfl
  unfold rchB
  clear h hV
  obtain ⟨x, hx⟩ : ∃ x, walkR fr s r a acc = x := ⟨_, rfl⟩
  rw [hx] at C ⊢
  clear hx
  obtain ⟨a0, a1⟩ := ha
  by_cases h0 : x = 0
  · subst h0
    rw [decide_eq_true (rfl : (0 : Int) = 0), Bool.and_true]
    rcases hn with rfl | rfl | rfl | rfl
    all_goals
      go_enter Tryz.func22, Tryz.ntmps22
      go_wp2_with (go_at_call 47; refine C.mono ?_; rintro e w' ⟨rfl, hO⟩)
      go_quiet (fail)
      go_wp2_with fail
      go_ret2
      exact ⟨by first | rfl | simp, hO.gr (stable_star (stable_rm b fr s) hR) (gr_dN2 _ _)⟩
  · rw [decide_eq_false h0, Bool.and_false]
    have d0 : (x == 0) = false := by simpa using h0
    clear h0
    rcases hn with rfl | rfl | rfl | rfl
    all_goals
      go_enter Tryz.func22, Tryz.ntmps22
      go_wp2_with (go_at_call 47; refine C.mono ?_; rintro e w' ⟨rfl, hO⟩)
      go_quiet (fail)
      go_wp2_with fail
      go_ret2
      exact ⟨rfl, hO.gr (stable_star (stable_rm b fr s) hR) (gr_dN2 _ _)⟩
theorem o_load5 {w0 w : World} {b fr : Nat} {s : List UInt8} {R : Asn} (h : Own w0 w (Star (rmA b fr s) R)) (hR : Stable R) (p n : Int) (hp : Go.Proofs.YtngeabphjdfdgaaGreatDoor.P.u64 p) :
    Calls Tryz.prog 24 #[.pointer (some ⟨b, 0, none⟩), .int .u64 p, .int .i64 n] w fun e w' => e = .returned (.int .u64 (loadV s p n)) ∧ Own w0 w' (Star (rmA b fr s) R) := by
  have C := o_rload h hR p n _ _ hp rfl rfl
  clear h
  go_enter Tryz.func24, Tryz.ntmps24
  go_wp2_with (go_at_call 50; refine C.mono ?_; rintro e w' ⟨rfl, hO⟩)
  go_ret
  exact ⟨rfl, hO⟩
theorem r_neg5 (a : Int) (w : World) : Calls Tryz.prog 95 #[.int .u64 a] w fun e w' => e = .returned (.bool (decide (9223372036854775808 ≤ a))) ∧ w' = w := by
  go_enter Tryz.func95, Tryz.ntmps95
  go_wp2
  go_ret
  exact ⟨rfl, rfl⟩
theorem s64_lo {a : Int} (h : ¬ 9223372036854775808 ≤ a) : s64 a = a := by unfold s64; first | rw [if_pos (by omega)] | (split <;> omega)
theorem s64_hi {a : Int} (h : 9223372036854775808 ≤ a) : s64 a = a - 18446744073709551616 := by unfold s64; first | rw [if_neg (by omega)] | (split <;> omega)
theorem r_less5 (a b : Int) (ha : word a) (hb : word b) (w : World) : Calls Tryz.prog 80 #[.int .u64 a, .int .u64 b] w fun e w' => e = .returned (.bool (decide (s64 a < s64 b))) ∧ w' = w := by
  obtain ⟨a0, a1⟩ := ha
  obtain ⟨b0, b1⟩ := hb
  by_cases h1 : 9223372036854775808 ≤ a
  all_goals by_cases h2 : 9223372036854775808 ≤ b
  · have e : decide (s64 a < s64 b) = decide (a < b) := by rw [s64_hi h1, s64_hi h2]; exact decide_eq_decide.2 (by omega)
    rw [e]
    have CA := r_neg5 a; rw [decide_eq_true h1] at CA
    have CB := r_neg5 b; rw [decide_eq_true h2] at CB
    clear h1 h2 e
    go_enter Tryz.func80, Tryz.ntmps80
    go_wp2_with (first | (go_at_call 95; refine (CA _).mono ?_; rintro e w' ⟨rfl, rfl⟩) | (go_at_call 95; refine (CB _).mono ?_; rintro e w' ⟨rfl, rfl⟩))
    go_ret
    exact ⟨rfl, rfl⟩
  · have e : decide (s64 a < s64 b) = true := by rw [s64_hi h1, s64_lo h2]; exact decide_eq_true (by omega)
    rw [e]
    have CA := r_neg5 a; rw [decide_eq_true h1] at CA
    have CB := r_neg5 b; rw [decide_eq_false h2] at CB
    clear h1 h2 e
    go_enter Tryz.func80, Tryz.ntmps80
    go_wp2_with (first | (go_at_call 95; refine (CA _).mono ?_; rintro e w' ⟨rfl, rfl⟩) | (go_at_call 95; refine (CB _).mono ?_; rintro e w' ⟨rfl, rfl⟩))
    go_ret
    exact ⟨rfl, rfl⟩
  · have e : decide (s64 a < s64 b) = false := by rw [s64_lo h1, s64_hi h2]; exact decide_eq_false (by omega)
    rw [e]
    have CA := r_neg5 a; rw [decide_eq_false h1] at CA
    have CB := r_neg5 b; rw [decide_eq_true h2] at CB
    clear h1 h2 e
    go_enter Tryz.func80, Tryz.ntmps80
    go_wp2_with (first | (go_at_call 95; refine (CA _).mono ?_; rintro e w' ⟨rfl, rfl⟩) | (go_at_call 95; refine (CB _).mono ?_; rintro e w' ⟨rfl, rfl⟩))
    go_ret
    exact ⟨rfl, rfl⟩
  · have e : decide (s64 a < s64 b) = decide (a < b) := by rw [s64_lo h1, s64_lo h2]
    rw [e]
    have CA := r_neg5 a; rw [decide_eq_false h1] at CA
    have CB := r_neg5 b; rw [decide_eq_false h2] at CB
    clear h1 h2 e
    go_enter Tryz.func80, Tryz.ntmps80
    go_wp2_with (first | (go_at_call 95; refine (CA _).mono ?_; rintro e w' ⟨rfl, rfl⟩) | (go_at_call 95; refine (CB _).mono ?_; rintro e w' ⟨rfl, rfl⟩))
    go_ret
    exact ⟨rfl, rfl⟩
theorem nlt_dec (a b : Int) : decide (b ≤ a) = !decide (a < b) := by
  by_cases h : a < b
  · rw [decide_eq_true h, decide_eq_false (by omega)]; rfl
  · rw [decide_eq_false h, decide_eq_true (by omega)]; rfl
theorem r_taken (op a b : Int) (ha : word a) (hb : word b) (hop : 5 ≤ op ∧ op ≤ 10) (w : World) : Calls Tryz.prog 51 #[.int .i64 op, .int .u64 a, .int .u64 b] w fun e w' => e = .returned (.bool (holdF op a b)) ∧ w' = w := by
  have C := r_less5 a b ha hb
  obtain ⟨t, ht⟩ : ∃ t, decide (s64 a < s64 b) = t := ⟨_, rfl⟩
  rw [ht] at C
  obtain ⟨a0, a1⟩ := ha
  obtain ⟨b0, b1⟩ := hb
  rcases (by omega : op = 5 ∨ op = 6 ∨ op = 7 ∨ op = 8 ∨ op = 9 ∨ op = 10) with rfl | rfl | rfl | rfl | rfl | rfl
  all_goals
    unfold holdF
    simp only [Int.reduceEq, if_true, if_false, reduceIte, ht]
    clear ht
    go_enter Tryz.func51, Tryz.ntmps51
    go_wp2_with (go_at_call 80; refine (C _).mono ?_; rintro e w' ⟨rfl, rfl⟩)
    try rw [Exit.noGoto_ret]
    go_ret
    exact ⟨by first | rfl | (rw [nlt_dec]; done) | (rw [nlt_dec]; rfl) | (congr 2; simp <;> omega) | simp, rfl⟩
end Go.Proofs.YtngeabphjdfdgaaGreatDoor.P
