/- The contracts of stage 1: Amo, of the code and of the reference. -/
import Derived.Test.YtngeabphjdfdgaaGreatDoorW9
import Derived.Test.YtngeabphjdfdgaaGreatDoorW5
set_option linter.unusedVariables false
namespace Go.Proofs.YtngeabphjdfdgaaGreatDoor.W
open Go.RowKit
def minsF (x y : Int) : Int := if s64 x < s64 y then x else y
def maxsF (x y : Int) : Int := if s64 x < s64 y then y else x
def minuF (x y : Int) : Int := if x < y then x else y
def maxuF (x y : Int) : Int := if x < y then y else x
def amoW (k x y : Int) : Int := if k = 1 then (x + y) % 18446744073709551616 else if k = 2 then xorF x y else if k = 3 then andF x y else if k = 4 then orF x y
  else if k = 5 then minsF x y else if k = 6 then maxsF x y else if k = 7 then minuF x y else if k = 8 then maxuF x y else y
def amoB (op : Int) : Bool := decide ((68 ≤ op ∧ op ≤ 76) ∨ (79 ≤ op ∧ op ≤ 87))
def amoT (op v : Int) : Int := if op = 75 ∨ op = 76 then lowF v 32 else if op ≤ 76 then sgnF v 32 else v
def amoV (op a b : Int) : Int := if 68 ≤ op ∧ op ≤ 76 then lowF (amoW (op - 68) (amoT op a) (amoT op b)) 32 else if 79 ≤ op ∧ op ≤ 87 then amoW (op - 79) a b else 0
theorem amoW_word (k x y : Int) (hx : word x) (hy : word y) : word (amoW k x y) := by
  unfold amoW
  repeat' (with_reducible refine ite_word _ _ _ ?_ ?_)
  all_goals first
    | exact mod_word _ | exact xor_word _ _ hx hy | exact or_word _ _ hx hy | exact and_word _ _ hx hy | exact hy
    | exact ite_word _ _ _ hx hy | exact ite_word _ _ _ hy hx
theorem wrap_s64 (y : Int) (h : word y) : IntKind.u64.wrap (s64 y) = y := by
  obtain ⟨h1, h2⟩ := h; rw [wrap_mod]; unfold s64; split <;> omega
theorem s64_inj (x y : Int) (hx : word x) (hy : word y) (h : s64 x = s64 y) : x = y := by
  rw [← wrap_s64 x hx, h, wrap_s64 y hy]
set_option maxHeartbeats 1600000 in
theorem c_swap (op x y : Int) (hx : word x) (hy : word y) (w : World) (hs : op = 79 ∨ op = 80 ∨ op = 81 ∨ op = 82 ∨ op = 83 ∨ op = 84 ∨ op = 85 ∨ op = 86 ∨ op = 87) :
    Calls Tryz.prog 91 #[.int .i64 op, .int .u64 x, .int .u64 y] w fun e w' => e = .returned (.int .u64 (amoW (op - 79) x y)) ∧ w' = w := by
  have Hx := Lib.hid hx
  have Hy := Lib.hid hy
  have Hsx := Lib.hid (wrap64_s x hx)
  have Hsy := Lib.hid (wrap64_s y hy)
  obtain ⟨hx1, hx2⟩ := hx
  obtain ⟨hy1, hy2⟩ := hy
  rcases hs with rfl | rfl | rfl | rfl | rfl | rfl | rfl | rfl | rfl
  all_goals
    go_enter Tryz.func91, Tryz.ntmps91
    go_wp2
    all_goals
      go_ret
      refine ⟨ret_u64 ?_, rfl⟩
      first
        | rfl | (rw [wrap_mod]; rfl) | exact u64_xor _ _ hx1 hx2 hy1 hy2 | exact u64_or _ _ hx1 hx2 hy1 hy2 | exact u64_and _ _ hx1 hx2 hy1 hy2
        | (have i := s64_inj x y Hx.out Hy.out; simp only [Hsx.out, Hsy.out, wrap_s64 x Hx.out, wrap_s64 y Hy.out] at *; show _ = minsF x y; unfold minsF; split <;> first | rfl | (exfalso; omega) | (apply i; omega) | (symm; apply i; omega))
        | (have i := s64_inj x y Hx.out Hy.out; simp only [Hsx.out, Hsy.out, wrap_s64 x Hx.out, wrap_s64 y Hy.out] at *; show _ = maxsF x y; unfold maxsF; split <;> first | rfl | (exfalso; omega) | (apply i; omega) | (symm; apply i; omega))
        | (show _ = minuF x y; unfold minuF; split <;> omega)
        | (show _ = maxuF x y; unfold maxuF; split <;> omega)
theorem sgn64 (v : Int) : sgnF v 64 = v := by unfold sgnF; rw [if_neg (by decide), if_pos (by decide)]
theorem low64 (v : Int) : lowF v 64 = v := by unfold lowF; rw [if_neg (by decide), if_pos (by decide)]
theorem sgn64_word (v : Int) (h : word v) : word (sgnF v 64) := by rw [sgn64]; exact h
set_option maxHeartbeats 1600000 in
theorem c_amo_t (op a b : Int) (ha : word a) (hb : word b) (w : World) (h : amoB op = true) :
    Calls Tryz.prog 69 #[.int .i64 op, .int .u64 a, .int .u64 b] w fun e w' => e = .returned (.tuple #[.int .u64 (amoV op a b), .bool true]) ∧ w' = w := by
  have hs : op = 68 ∨ op = 69 ∨ op = 70 ∨ op = 71 ∨ op = 72 ∨ op = 73 ∨ op = 74 ∨ op = 75 ∨ op = 76 ∨ op = 79 ∨ op = 80 ∨ op = 81 ∨ op = 82 ∨ op = 83 ∨ op = 84 ∨ op = 85 ∨ op = 86 ∨ op = 87 := by
    unfold amoB at h; have := of_decide_eq_true h; omega
  clear h
  have Ha := Lib.hid ha
  have Hb := Lib.hid hb
  have Hsb := Lib.hid (sgn_word b 32 hb)
  have Hlb := Lib.hid (low_word b 32 hb)
  have Hsa := Lib.hid (sgn_word a 32 ha)
  have Hla := Lib.hid (low_word a 32 ha)
  have Hsb6 := Lib.hid (sgn64_word b hb)
  have Hsa6 := Lib.hid (sgn64_word a ha)
  clear ha hb
  rcases hs with rfl | rfl | rfl | rfl | rfl | rfl | rfl | rfl | rfl | rfl | rfl | rfl | rfl | rfl | rfl | rfl | rfl | rfl
  all_goals
    go_enter Tryz.func69, Tryz.ntmps69
    go_wp2_with (first
      | (go_at_call 91; refine (c_swap _ _ _ (by with_reducible first | exact Hsa.out | exact Hla.out | exact Hsa6.out) (by with_reducible first | exact Hsb.out | exact Hlb.out | exact Hsb6.out) _ (by decide)).mono ?_; rintro e w1 ⟨rfl, rfl⟩)
      | (go_at_call 64; refine (c_low _ _ (by with_reducible first | exact Ha.out | exact Hb.out | exact amoW_word _ _ _ (by first | exact Hsa.out | exact Hla.out | exact Hsa6.out) (by first | exact Hsb.out | exact Hlb.out | exact Hsb6.out)) _).mono ?_; rintro e w1 ⟨rfl, rfl⟩)
      | (go_at_call 63; refine (c_sign _ _ (by with_reducible first | exact Ha.out | exact Hb.out) _).mono ?_; rintro e w1 ⟨rfl, rfl⟩))
    go_ret2
    refine ⟨ret_2 ?_ rfl, rfl⟩
    first | rfl | (rw [low64, sgn64, sgn64]; rfl)
theorem c_amo_f (op a b : Int) (w : World) (h : amoB op = false) :
    Calls Tryz.prog 69 #[.int .i64 op, .int .u64 a, .int .u64 b] w fun e w' => e = .returned (.tuple #[.int .u64 0, .bool false]) ∧ w' = w := by
  unfold amoB at h
  have h' := of_decide_eq_false h
  clear h
  have e0 : (op == 68) = false := by simp; omega
  have e1 : (op == 69) = false := by simp; omega
  have e2 : (op == 70) = false := by simp; omega
  have e3 : (op == 71) = false := by simp; omega
  have e4 : (op == 72) = false := by simp; omega
  have e5 : (op == 73) = false := by simp; omega
  have e6 : (op == 74) = false := by simp; omega
  have e7 : (op == 75) = false := by simp; omega
  have e8 : (op == 76) = false := by simp; omega
  have f0 : (op == 79) = false := by simp; omega
  have f1 : (op == 80) = false := by simp; omega
  have f2 : (op == 81) = false := by simp; omega
  have f3 : (op == 82) = false := by simp; omega
  have f4 : (op == 83) = false := by simp; omega
  have f5 : (op == 84) = false := by simp; omega
  have f6 : (op == 85) = false := by simp; omega
  have f7 : (op == 86) = false := by simp; omega
  have f8 : (op == 87) = false := by simp; omega
  clear h'
  go_enter Tryz.func69, Tryz.ntmps69
  go_wp2
  go_ret2
  exact ⟨rfl, rfl⟩
theorem c_amo (op a b : Int) (ha : word a) (hb : word b) (w : World) :
    Calls Tryz.prog 69 #[.int .i64 op, .int .u64 a, .int .u64 b] w fun e w' => e = .returned (.tuple #[.int .u64 (amoV op a b), .bool (amoB op)]) ∧ w' = w := by
  by_cases h : amoB op = true
  · rw [h]; exact c_amo_t op a b ha hb w h
  · have h' : amoB op = false := by simpa using h
    have e : amoV op a b = 0 := by
      unfold amoB at h'; have := of_decide_eq_false h'
      unfold amoV; rw [if_neg (by omega), if_neg (by omega)]
    rw [h', e]; exact c_amo_f op a b w h'
end Go.Proofs.YtngeabphjdfdgaaGreatDoor.W
namespace Go.Proofs.YtngeabphjdfdgaaGreatDoor.W
open Go.RowKit
theorem wrap_word (x : Int) : word (IntKind.u64.wrap x) := by rw [wrap_mod]; exact mod_word _
theorem bxor_word (x y : Int) (hx : word x) (hy : word y) : word (bits .xor .u64 x y) := by rw [u64_xor x y hx.1 hx.2 hy.1 hy.2]; exact xor_word x y hx hy
theorem bor_word (x y : Int) (hx : word x) (hy : word y) : word (bits .or .u64 x y) := by rw [u64_or x y hx.1 hx.2 hy.1 hy.2]; exact or_word x y hx hy
theorem band_word (x y : Int) (hx : word x) (hy : word y) : word (bits .and .u64 x y) := by rw [u64_and x y hx.1 hx.2 hy.1 hy.2]; exact and_word x y hx hy
theorem ite_low (c : Prop) [Decidable c] (x y : Int) (k : Int) : lowF (if c then x else y) k = if c then lowF x k else lowF y k := by split <;> rfl
set_option maxRecDepth 100000 in
set_option maxHeartbeats 1600000 in
theorem c_ramo_t (op a b : Int) (ha : word a) (hb : word b) (w : World) (h : amoB op = true) :
    Calls Tryz.prog 84 #[.int .i64 op, .int .u64 a, .int .u64 b] w fun e w' => e = .returned (.tuple #[.int .u64 (amoV op a b), .bool true]) ∧ w' = w := by
  have hs : op = 68 ∨ op = 69 ∨ op = 70 ∨ op = 71 ∨ op = 72 ∨ op = 73 ∨ op = 74 ∨ op = 75 ∨ op = 76 ∨ op = 79 ∨ op = 80 ∨ op = 81 ∨ op = 82 ∨ op = 83 ∨ op = 84 ∨ op = 85 ∨ op = 86 ∨ op = 87 := by
    unfold amoB at h; have := of_decide_eq_true h; omega
  clear h
  have Ha := Lib.hid ha
  have Hb := Lib.hid hb
  have Hsb := Lib.hid (sgn_word b 32 hb)
  have Hlb := Lib.hid (low_word b 32 hb)
  have Hsa := Lib.hid (sgn_word a 32 ha)
  have Hla := Lib.hid (low_word a 32 ha)
  have Hsb6 := Lib.hid (sgn64_word b hb)
  have Hsa6 := Lib.hid (sgn64_word a ha)
  have Hlb6 := Lib.hid (low_word b 64 hb)
  have Hla6 := Lib.hid (low_word a 64 ha)
  clear ha hb
  rcases hs with rfl | rfl | rfl | rfl | rfl | rfl | rfl | rfl | rfl | rfl | rfl | rfl | rfl | rfl | rfl | rfl | rfl | rfl
  all_goals
    go_enter Tryz.func84, Tryz.ntmps84
    go_wp2_with (first
      | (go_at_call 83; refine (c_rlow _ _ (by with_reducible first | exact Ha.out | exact Hb.out | exact Hsa.out | exact Hla.out | exact Hsb.out | exact Hlb.out | exact Hsa6.out | exact Hsb6.out | exact Hla6.out | exact Hlb6.out | exact wrap_word _ | exact bxor_word _ _ (by first | exact Hsa.out | exact Hsa6.out) (by first | exact Hsb.out | exact Hsb6.out) | exact bor_word _ _ (by first | exact Hsa.out | exact Hsa6.out) (by first | exact Hsb.out | exact Hsb6.out) | exact band_word _ _ (by first | exact Hsa.out | exact Hsa6.out) (by first | exact Hsb.out | exact Hsb6.out)) _).mono ?_; rintro e w1 ⟨rfl, rfl⟩)
      | (go_at_call 99; refine (c_less _ _ (by with_reducible first | exact Hsa.out | exact Hla.out | exact Hsa6.out) (by with_reducible first | exact Hsb.out | exact Hlb.out | exact Hsb6.out) _).mono ?_; rintro e w1 ⟨rfl, rfl⟩)
      | (go_at_call 81; refine (c_rsign _ _ (by with_reducible first | exact Ha.out | exact Hb.out) _).mono ?_; rintro e w1 ⟨rfl, rfl⟩))
    all_goals
      go_ret2
      refine ⟨ret_2 ?_ rfl, rfl⟩
      try simp only [low64, sgn64] at *
      try simp only [Bool.not_eq_eq_eq_not, Bool.not_false, Bool.not_true, decide_eq_true_eq, decide_eq_false_iff_not] at *
      have a1 := Ha.out.1; have a2 := Ha.out.2; have b1 := Hb.out.1; have b2 := Hb.out.2
      have c1 := Hsa.out.1; have c2 := Hsa.out.2; have d1 := Hsb.out.1; have d2 := Hsb.out.2
      first
        | rfl
        | (rw [wrap_mod]; rfl)
        | (rw [u64_xor _ _ (by assumption) (by assumption) (by assumption) (by assumption)]; rfl)
        | (rw [u64_or _ _ (by assumption) (by assumption) (by assumption) (by assumption)]; rfl)
        | (rw [u64_and _ _ (by assumption) (by assumption) (by assumption) (by assumption)]; rfl)
        | (show _ = lowF (minsF (sgnF a 32) (sgnF b 32)) 32; unfold minsF; split <;> first | rfl | (exfalso; omega))
        | (show _ = lowF (maxsF (sgnF a 32) (sgnF b 32)) 32; unfold maxsF; split <;> first | rfl | (exfalso; omega))
        | (show _ = lowF (minuF (lowF a 32) (lowF b 32)) 32; unfold minuF; split <;> first | rfl | (exfalso; omega))
        | (show _ = lowF (maxuF (lowF a 32) (lowF b 32)) 32; unfold maxuF; split <;> first | rfl | (exfalso; omega))
        | (show _ = minsF a b; unfold minsF; split <;> first | rfl | (exfalso; omega))
        | (show _ = maxsF a b; unfold maxsF; split <;> first | rfl | (exfalso; omega))
        | (show _ = minuF a b; unfold minuF; split <;> first | rfl | (exfalso; omega))
        | (show _ = maxuF a b; unfold maxuF; split <;> first | rfl | (exfalso; omega))
        | skip
theorem c_ramo_f (op a b : Int) (w : World) (h : amoB op = false) :
    Calls Tryz.prog 84 #[.int .i64 op, .int .u64 a, .int .u64 b] w fun e w' => e = .returned (.tuple #[.int .u64 0, .bool false]) ∧ w' = w := by
  unfold amoB at h
  have h' := of_decide_eq_false h
  clear h
  by_cases h1 : op < 68
  · have e1 : decide (op < 68) = true := by simpa using h1
    go_enter Tryz.func84, Tryz.ntmps84
    go_wp2
    go_ret2
    exact ⟨rfl, rfl⟩
  · have e1 : decide (op < 68) = false := by simpa using h1
    by_cases h2 : 87 < op
    · have e2 : decide (87 < op) = true := by simpa using h2
      go_enter Tryz.func84, Tryz.ntmps84
      go_wp2
      go_ret2
      exact ⟨rfl, rfl⟩
    · have e2 : decide (87 < op) = false := by simpa using h2
      have e3 : decide (76 < op) = true := by simp; omega
      have e4 : decide (op < 79) = true := by simp; omega
      go_enter Tryz.func84, Tryz.ntmps84
      go_wp2
      go_ret2
      exact ⟨rfl, rfl⟩
theorem c_ramo (op a b : Int) (ha : word a) (hb : word b) (w : World) :
    Calls Tryz.prog 84 #[.int .i64 op, .int .u64 a, .int .u64 b] w fun e w' => e = .returned (.tuple #[.int .u64 (amoV op a b), .bool (amoB op)]) ∧ w' = w := by
  by_cases h : amoB op = true
  · rw [h]; exact c_ramo_t op a b ha hb w h
  · have h' : amoB op = false := by simpa using h
    have e : amoV op a b = 0 := by
      unfold amoB at h'; have := of_decide_eq_false h'
      unfold amoV; rw [if_neg (by omega), if_neg (by omega)]
    rw [h', e]; exact c_ramo_f op a b w h'
end Go.Proofs.YtngeabphjdfdgaaGreatDoor.W
