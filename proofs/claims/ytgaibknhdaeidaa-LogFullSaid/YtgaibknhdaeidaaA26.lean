/- Stage 7: LogFull. No condition. -/
import Derived.Test.YtgaibknhdaeidaaA25
set_option linter.unusedVariables false
set_option maxRecDepth 50000
namespace Go.Proofs.Ytgaibknhdaeidaa.P
open Go.RowKit
theorem e_setk {w0 w : World} {d l mb : Nat} (x : ByteArray) (hx : x.size = 64) (k : Nat) (hk : k < 60) (h : Own w0 w (DL d zF l mb (fullS x (min k 30)) false emp)) :
    Calls Try.prog 24 #[ptr l, .int .i64 (k : Int), .string x] w fun e w' => e = .returned (.int .i64 (bif decide (k < 30) then 0 else 4)) ∧ Own w0 w' (DL d zF l mb (fullS x (min (k + 1) 30)) false emp) :=
  (o_set h stable_emp (k : Int) x (by rw [fullS_len]; omega)).mono (by
    rintro e w' ⟨rfl, q⟩
    rw [zF_len, (full_set x hx k hk).2] at q
    rw [zF_len, (full_set x hx k hk).1]
    exact ⟨rfl, q⟩)
theorem e_again {w0 w : World} {d l mb : Nat} (x y : ByteArray) (hy : y.size = 64) (k : Nat) (hk : k ≤ 30) (h : Own w0 w (DL d zF l mb (fullS x k) false emp)) :
    Calls Try.prog 24 #[ptr l, .int .i64 0, .string y] w fun e w' => e = .returned (.int .i64 0) ∧ Own w0 w' (DL d zF l mb (putS 0 y (fullS x k)) false emp) :=
  (o_set h stable_emp 0 y (by rw [fullS_len]; omega)).mono (by
    rintro e w' ⟨rfl, q⟩
    rw [zF_len, (full_again x y hy k hk).1] at q ⊢
    exact ⟨rfl, q⟩)
theorem e_getx {w0 w : World} {d l mb : Nat} (x y : ByteArray) (hy : y.size = 64) (k : Nat) (hk : k ≤ 30) (h : Own w0 w (DL d zF l mb (putS 0 y (fullS x k)) false emp)) :
    Calls Try.prog 20 #[ptr l, .int .i64 0] w fun e w' => (∃ r, e = .returned (.tuple #[.string y, .int .i64 r])) ∧ Own w0 w' (DL d zF l mb (putS 0 y (fullS x k)) false emp) :=
  (o_get h stable_emp 0 (by show 0 ≤ _; omega)).mono (by
    rintro e w' ⟨rfl, q⟩
    have e1 : getB false zF (putS 0 y (fullS x k)) 0 = y := by
      have hr : refF false zF.safe.length 0 = 0 := by rw [zF_len]; rfl
      unfold getB
      rw [hr, (full_again x y hy k hk).2.2]; rfl
    rw [e1]
    exact ⟨⟨_, rfl⟩, q⟩)
theorem e_stg {w0 w : World} {d l mb : Nat} (x y : ByteArray) (hy : y.size = 64) (k : Nat) (hk : k ≤ 30) (h : Own w0 w (DL d zF l mb (putS 0 y (fullS x k)) false emp)) :
    Calls Try.prog 23 #[ptr l] w fun e w' => e = .returned (.int .i64 ((max k 1 : Nat) : Int)) ∧ w' = w := by
  have := o_staged h
  rw [(full_again x y hy k hk).2.1] at this
  exact this
def again : ByteArray := ⟨#[97, 103, 97, 105, 110]⟩
theorem s_again (w : World) : Calls Try.prog 26 #[.string ⟨#[97, 103, 97, 105, 110]⟩] w fun e w' => e = .returned (.string (secF again)) ∧ Gr w w' := c_sector again (by show 5 ≤ _; omega) w
set_option maxHeartbeats 3200000 in
theorem l_full7 (n : Int) (s : ByteArray) (hs : s.size ≤ 140737488351232) (w : World) : Calls Try.prog 9 #[.int .i64 n, .string s] w fun e w' => e = .returned (.bool true) ∧ Gr w w' := by
  have CS := Lib.hid (c_shown7 w)
  have CN : Hid (∀ w1, Gr w w1 → Calls Try.prog 11 #[.int .i64 100] w1 fun e w' => ∃ d, e = .returned (.tuple #[ptr d, .int .i64 0]) ∧ Own w w' (Star (dsk d zF) emp)) := Lib.hid (fun w1 g => o_new (Own.start g) stable_emp 100 (by omega) (by omega))
  by_cases hn : 0 ≤ n ∧ n ≤ 60
  · obtain ⟨m, rfl⟩ : ∃ m : Nat, n = (m : Int) := ⟨n.toNat, by omega⟩
    have hm60 : m ≤ 60 := by omega
    have hx : (secF s).size = 64 := secF_size s
    have CX : Hid (∀ w1, Calls Try.prog 26 #[.string s] w1 fun e w' => e = .returned (.string (secF s)) ∧ Gr w1 w') := Lib.hid (fun w1 => c_sector s (by omega) w1)
    have hy : (secF again).size = 64 := secF_size _
    generalize secF s = x at *
    have CK : Hid (∀ d l mb k w1, k < 60 → Own w w1 (DL d zF l mb (fullS x (min k 30)) false emp) → Calls Try.prog 24 #[ptr l, .int .i64 ((k : Nat) : Int), .string x] w1 fun e w' => e = .returned (.int .i64 (bif decide (k < 30) then 0 else 4)) ∧ Own w w' (DL d zF l mb (fullS x (min (k + 1) 30)) false emp)) := Lib.hid (fun d l mb k w1 hk h => e_setk x hx k hk h)
    have CA : Hid (∀ d l mb w1, Own w w1 (DL d zF l mb (fullS x (min m 30)) false emp) → Calls Try.prog 24 #[ptr l, .int .i64 0, .string (secF again)] w1 fun e w' => e = .returned (.int .i64 0) ∧ Own w w' (DL d zF l mb (putS 0 (secF again) (fullS x (min m 30))) false emp)) := Lib.hid (fun d l mb w1 h => e_again x _ hy _ (by omega) h)
    have CG : Hid (∀ d l mb w1, Own w w1 (DL d zF l mb (putS 0 (secF again) (fullS x (min m 30))) false emp) → Calls Try.prog 20 #[ptr l, .int .i64 0] w1 fun e w' => (∃ r, e = .returned (.tuple #[.string (secF again), .int .i64 r])) ∧ Own w w' (DL d zF l mb (putS 0 (secF again) (fullS x (min m 30))) false emp)) := Lib.hid (fun d l mb w1 h => e_getx x _ hy _ (by omega) h)
    have CT : Hid (∀ d l mb w1, Own w w1 (DL d zF l mb (putS 0 (secF again) (fullS x (min m 30))) false emp) → Calls Try.prog 23 #[ptr l] w1 fun e w' => e = .returned (.int .i64 ((max (min m 30) 1 : Nat) : Int)) ∧ w' = w1) := Lib.hid (fun d l mb w1 h => e_stg x _ hy _ (by omega) h)
    have hbq : ∀ b : ByteArray, (b.toList == b.toList) = true := fun b => beq_self_eq_true _
    have CY : Hid (∀ w1, Calls Try.prog 26 #[.string ⟨#[97, 103, 97, 105, 110]⟩] w1 fun e w' => e = .returned (.string (secF again)) ∧ Gr w1 w') := Lib.hid s_again
    generalize secF again = y at *
    clear hs hn hx hy
    go_enter Try.func9, Try.ntmps9
    go_upto_region 3 with (first
      | (go_at_call 10; refine CS.out.mono ?_; rintro e w1 ⟨rfl, h1⟩; have H1 := Lib.hid h1; clear h1)
      | (go_at_call 11; refine (CN.out _ H1.out).mono ?_; rintro e w2 ⟨d, rfl, h2⟩; have H2 := Lib.hid h2; clear h2))
    clear CS CN
    go_upto_region 6 with (go_at_call 12; refine (o_open_ok H2.out stable_emp (sz_new 100) (by show 0 ≤ _; omega) zF (ex_new 100 (by omega))).mono ?_; rintro e w3 ⟨l, mb, rfl, h3⟩; have H3 := Lib.hid h3; clear h3)
    go_wp2_with fail
    go_loopw [10] (fun v wr => ∃ k : Nat, k ≤ m ∧ v = .int .i64 k ∧ Own w wr (DL d zF l mb (fullS x (min k 30)) false emp)) (fun v _ => m - (intOf v).toNat)
    case atStart => exact ⟨0, Nat.zero_le _, rfl, H3.out⟩
    case round =>
      obtain ⟨k, hk, rfl, hh⟩ := hrel
      have HH := Lib.hid hh
      clear hh
      by_cases hlt : k < m
      · have dl : decide (k < m) = true := decide_eq_true hlt
        have CK2 := Lib.hid (CK.out d l mb k)
        by_cases h30 : k < 30
        · rw [decide_eq_true h30] at CK2
          have CK3 : Hid (∀ w1, k < 60 → Own w w1 (DL d zF l mb (fullS x (min k 30)) false emp) → Calls Try.prog 24 #[ptr l, .int .i64 (k : Int), .string x] w1 fun e w' => e = .returned (.int .i64 0) ∧ Own w w' (DL d zF l mb (fullS x (min (k + 1) 30)) false emp)) := CK2
          go_wp2_with (first
            | (go_at_call 26; refine (CX.out _).mono ?_; rintro e w4 ⟨rfl, g4⟩; have H4 := Lib.hid (HH.out.gr (stable_dl _ _ _ _ _ _ stable_emp) g4); clear g4)
            | (go_at_call 24; refine (CK3.out _ (by omega) H4.out).mono ?_; rintro e w5 ⟨rfl, h5⟩; have H5 := Lib.hid h5; clear h5))
          go_roundw
          case rel => exact ⟨k + 1, by omega, by go_num, H5.out⟩
          case measure => simp [intOf]; omega
        · rw [decide_eq_false h30] at CK2
          have CK3 : Hid (∀ w1, k < 60 → Own w w1 (DL d zF l mb (fullS x (min k 30)) false emp) → Calls Try.prog 24 #[ptr l, .int .i64 (k : Int), .string x] w1 fun e w' => e = .returned (.int .i64 4) ∧ Own w w' (DL d zF l mb (fullS x (min (k + 1) 30)) false emp)) := CK2
          go_wp2_with (first
            | (go_at_call 26; refine (CX.out _).mono ?_; rintro e w4 ⟨rfl, g4⟩; have H4 := Lib.hid (HH.out.gr (stable_dl _ _ _ _ _ _ stable_emp) g4); clear g4)
            | (go_at_call 24; refine (CK3.out _ (by omega) H4.out).mono ?_; rintro e w5 ⟨rfl, h5⟩; have H5 := Lib.hid h5; clear h5))
          go_roundw
          case rel => exact ⟨k + 1, by omega, by go_num, H5.out⟩
          case measure => simp [intOf]; omega
      · obtain rfl : k = m := by omega
        go_upto_region 13 with (first
          | (go_at_call 26; refine (CY.out _).mono ?_; rintro e w4 ⟨rfl, g4⟩; have H4 := Lib.hid (HH.out.gr (stable_dl _ _ _ _ _ _ stable_emp) g4); clear g4)
          | (go_at_call 24; refine (CA.out _ _ _ _ H4.out).mono ?_; rintro e w5 ⟨rfl, h5⟩; have H5 := Lib.hid h5; clear h5))
        go_upto_region 14 with (go_at_call 20; refine (CG.out _ _ _ _ H5.out).mono ?_; rintro e w6 ⟨⟨r6, rfl⟩, h6⟩; have H6 := Lib.hid h6; clear h6)
        have CT2 := Lib.hid (CT.out d l mb)
        have hcase : (30 < k ∧ max (min k 30) 1 = 30) ∨ (k = 0 ∧ max (min k 30) 1 = 1) ∨ (0 < k ∧ k ≤ 30 ∧ max (min k 30) 1 = k) := by omega
        rcases hcase with ⟨c1, c2⟩ | ⟨c1, c2⟩ | ⟨c0, c1, c2⟩
        all_goals
          rw [c2] at CT2
          have CT3 := Lib.hid CT2.out
          clear CT2 CT c2
          go_wp2_with (first
            | (go_at_call 26; refine (CY.out _).mono ?_; rintro e w7 ⟨rfl, g7⟩; have H7 := Lib.hid (H6.out.gr (stable_dl _ _ _ _ _ _ stable_emp) g7); clear g7)
            | (go_at_call 23; refine (CT3.out _ H7.out).mono ?_; rintro e w8 ⟨rfl, rfl⟩))
          go_ret
          exact ⟨by simp, H7.out.sub⟩
  · have hn2 : n < 0 ∨ (0 ≤ n ∧ 60 < n) := by omega
    clear hs hn
    rcases hn2 with hn2 | ⟨hn1, hn2⟩
    all_goals
      go_enter Try.func9, Try.ntmps9
      go_upto_region 3 with (first
        | (go_at_call 10; refine CS.out.mono ?_; rintro e w1 ⟨rfl, h1⟩; have H1 := Lib.hid h1; clear h1)
        | (go_at_call 11; refine (CN.out _ H1.out).mono ?_; rintro e w2 ⟨d, rfl, h2⟩; have H2 := Lib.hid h2; clear h2))
      clear CS CN
      go_wp2_with (go_at_call 12; refine (o_open_ok H2.out stable_emp (sz_new 100) (by show 0 ≤ _; omega) zF (ex_new 100 (by omega))).mono ?_; rintro e w3 ⟨l, mb, rfl, h3⟩; have H3 := Lib.hid h3; clear h3)
      go_ret
      exact ⟨rfl, H3.out.sub⟩
end Go.Proofs.Ytgaibknhdaeidaa.P
