/- The contract of stage 1's reference: Amo. -/
import Derived.Test.YtempdcbgbaglaaaW10
set_option linter.unusedVariables false
namespace Go.Proofs.Ytempdcbgbaglaaa.W
open Go.RowKit
theorem wrap_word (x : Int) : word (IntKind.u64.wrap x) := by rw [wrap_mod]; exact mod_word _
theorem bxor_word (x y : Int) (hx : word x) (hy : word y) : word (bits .xor .u64 x y) := by rw [u64_xor x y hx.1 hx.2 hy.1 hy.2]; exact xor_word x y hx hy
theorem bor_word (x y : Int) (hx : word x) (hy : word y) : word (bits .or .u64 x y) := by rw [u64_or x y hx.1 hx.2 hy.1 hy.2]; exact or_word x y hx hy
theorem band_word (x y : Int) (hx : word x) (hy : word y) : word (bits .and .u64 x y) := by rw [u64_and x y hx.1 hx.2 hy.1 hy.2]; exact and_word x y hx hy
theorem ite_low (c : Prop) [Decidable c] (x y : Int) (k : Int) : lowF (if c then x else y) k = if c then lowF x k else lowF y k := by split <;> rfl
set_option maxRecDepth 100000 in
set_option maxHeartbeats 1600000 in
theorem c_ramo_t (op a b : Int) (ha : word a) (hb : word b) (w : World) (h : amoB op = true) :
    Calls Try.prog 21 #[.int .i64 op, .int .u64 a, .int .u64 b] w fun e w' => e = .returned (.tuple #[.int .u64 (amoV op a b), .bool true]) ∧ w' = w := by
  have hs : op = 68 ∨ op = 69 ∨ op = 70 ∨ op = 71 ∨ op = 72 ∨ op = 73 ∨ op = 74 ∨ op = 75 ∨ op = 76 ∨ op = 79 ∨ op = 80 ∨ op = 81 ∨ op = 82 ∨ op = 83 ∨ op = 84 ∨ op = 85 ∨ op = 86 ∨ op = 87 := by
    unfold amoB at h; have := of_decide_eq_true h; omega
  clear h
  have Ha := Lib.hid ha
  have Hb := Lib.hid hb
  have Hsb := Lib.hid (sgn_word b 32 hb)
  have Hlb := Lib.hid (low_word b 32 hb)
  have Hsa := Lib.hid (sgn_word a 32 ha)
  have Hla := Lib.hid (low_word a 32 ha)
  have Hsb6 := Lib.hid (sgn64_word b hb)
  have Hsa6 := Lib.hid (sgn64_word a ha)
  have Hlb6 := Lib.hid (low_word b 64 hb)
  have Hla6 := Lib.hid (low_word a 64 ha)
  clear ha hb
  rcases hs with rfl | rfl | rfl | rfl | rfl | rfl | rfl | rfl | rfl | rfl | rfl | rfl | rfl | rfl | rfl | rfl | rfl | rfl
  all_goals
    go_enter Try.func21, Try.ntmps21
    go_wp2_with (first
      | (go_at_call 17; refine (c_rlow _ _ (by with_reducible first | exact Ha.out | exact Hb.out | exact Hsa.out | exact Hla.out | exact Hsb.out | exact Hlb.out | exact Hsa6.out | exact Hsb6.out | exact Hla6.out | exact Hlb6.out | exact wrap_word _ | exact bxor_word _ _ (by first | exact Hsa.out | exact Hsa6.out) (by first | exact Hsb.out | exact Hsb6.out) | exact bor_word _ _ (by first | exact Hsa.out | exact Hsa6.out) (by first | exact Hsb.out | exact Hsb6.out) | exact band_word _ _ (by first | exact Hsa.out | exact Hsa6.out) (by first | exact Hsb.out | exact Hsb6.out)) _).mono ?_; rintro e w1 ⟨rfl, rfl⟩)
      | (go_at_call 32; refine (c_less _ _ (by with_reducible first | exact Hsa.out | exact Hla.out | exact Hsa6.out) (by with_reducible first | exact Hsb.out | exact Hlb.out | exact Hsb6.out) _).mono ?_; rintro e w1 ⟨rfl, rfl⟩)
      | (go_at_call 15; refine (c_rsign _ _ (by with_reducible first | exact Ha.out | exact Hb.out) _).mono ?_; rintro e w1 ⟨rfl, rfl⟩))
    all_goals
      go_ret2
      refine ⟨ret_2 ?_ rfl, rfl⟩
      try simp only [low64, sgn64] at *
      try simp only [Bool.not_eq_eq_eq_not, Bool.not_false, Bool.not_true, decide_eq_true_eq, decide_eq_false_iff_not] at *
      have a1 := Ha.out.1; have a2 := Ha.out.2; have b1 := Hb.out.1; have b2 := Hb.out.2
      have c1 := Hsa.out.1; have c2 := Hsa.out.2; have d1 := Hsb.out.1; have d2 := Hsb.out.2
      first
        | rfl
        | (rw [wrap_mod]; rfl)
        | (rw [u64_xor _ _ (by assumption) (by assumption) (by assumption) (by assumption)]; rfl)
        | (rw [u64_or _ _ (by assumption) (by assumption) (by assumption) (by assumption)]; rfl)
        | (rw [u64_and _ _ (by assumption) (by assumption) (by assumption) (by assumption)]; rfl)
        | (show _ = lowF (minsF (sgnF a 32) (sgnF b 32)) 32; unfold minsF; split <;> first | rfl | (exfalso; omega))
        | (show _ = lowF (maxsF (sgnF a 32) (sgnF b 32)) 32; unfold maxsF; split <;> first | rfl | (exfalso; omega))
        | (show _ = lowF (minuF (lowF a 32) (lowF b 32)) 32; unfold minuF; split <;> first | rfl | (exfalso; omega))
        | (show _ = lowF (maxuF (lowF a 32) (lowF b 32)) 32; unfold maxuF; split <;> first | rfl | (exfalso; omega))
        | (show _ = minsF a b; unfold minsF; split <;> first | rfl | (exfalso; omega))
        | (show _ = maxsF a b; unfold maxsF; split <;> first | rfl | (exfalso; omega))
        | (show _ = minuF a b; unfold minuF; split <;> first | rfl | (exfalso; omega))
        | (show _ = maxuF a b; unfold maxuF; split <;> first | rfl | (exfalso; omega))
        | skip
theorem c_ramo_f (op a b : Int) (w : World) (h : amoB op = false) :
    Calls Try.prog 21 #[.int .i64 op, .int .u64 a, .int .u64 b] w fun e w' => e = .returned (.tuple #[.int .u64 0, .bool false]) ∧ w' = w := by
  unfold amoB at h
  have h' := of_decide_eq_false h
  clear h
  by_cases h1 : op < 68
  · have e1 : decide (op < 68) = true := by simpa using h1
    go_enter Try.func21, Try.ntmps21
    go_wp2
    go_ret2
    exact ⟨rfl, rfl⟩
  · have e1 : decide (op < 68) = false := by simpa using h1
    by_cases h2 : 87 < op
    · have e2 : decide (87 < op) = true := by simpa using h2
      go_enter Try.func21, Try.ntmps21
      go_wp2
      go_ret2
      exact ⟨rfl, rfl⟩
    · have e2 : decide (87 < op) = false := by simpa using h2
      have e3 : decide (76 < op) = true := by simp; omega
      have e4 : decide (op < 79) = true := by simp; omega
      go_enter Try.func21, Try.ntmps21
      go_wp2
      go_ret2
      exact ⟨rfl, rfl⟩
theorem c_ramo (op a b : Int) (ha : word a) (hb : word b) (w : World) :
    Calls Try.prog 21 #[.int .i64 op, .int .u64 a, .int .u64 b] w fun e w' => e = .returned (.tuple #[.int .u64 (amoV op a b), .bool (amoB op)]) ∧ w' = w := by
  by_cases h : amoB op = true
  · rw [h]; exact c_ramo_t op a b ha hb w h
  · have h' : amoB op = false := by simpa using h
    have e : amoV op a b = 0 := by
      unfold amoB at h'; have := of_decide_eq_false h'
      unfold amoV; rw [if_neg (by omega), if_neg (by omega)]
    rw [h', e]; exact c_ramo_f op a b w h'
end Go.Proofs.Ytempdcbgbaglaaa.W
