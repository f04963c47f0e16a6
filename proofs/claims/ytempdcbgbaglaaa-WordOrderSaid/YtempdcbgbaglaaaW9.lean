/- The contract of stage 1's reference: Reckon. -/
import Derived.Test.YtempdcbgbaglaaaW8
set_option linter.unusedVariables false
namespace Go.Proofs.Ytempdcbgbaglaaa.W
open Go.RowKit
theorem r32_word (b : Int) : word (b % 32) := ⟨by omega, by omega⟩
theorem sg32 (b : Int) : sgnF (b % 32) 32 = b % 32 := by
  unfold sgnF; rw [if_neg (by decide), if_neg (by decide), show (2 : Int) ^ (32 : Int).toNat = 4294967296 from rfl, show (2 : Int) ^ ((32 : Int).toNat - 1) = 2147483648 from rfl]
  rw [if_pos (by omega)]; omega
theorem lw32 (b : Int) : lowF (b % 32) 32 = b % 32 := by
  unfold lowF; rw [if_neg (by decide), if_neg (by decide), show (2 : Int) ^ (32 : Int).toNat = 4294967296 from rfl]; omega
set_option maxRecDepth 100000 in
set_option maxHeartbeats 1600000 in
theorem c_rreckon_t (op a b : Int) (ha : word a) (hb : word b) (w : World) (h : 35 ≤ op ∧ op ≤ 62) :
    Calls Try.prog 19 #[.int .i64 op, .int .u64 a, .int .u64 b] w fun e w' => e = .returned (.tuple #[.int .u64 (reckV op a b), .bool true]) ∧ Gr w w' := by
  have hs : op = 35 ∨ op = 36 ∨ op = 37 ∨ op = 38 ∨ op = 39 ∨ op = 40 ∨ op = 41 ∨ op = 42 ∨ op = 43 ∨ op = 44 ∨ op = 45 ∨ op = 46 ∨ op = 47 ∨ op = 48 ∨ op = 49 ∨ op = 50 ∨ op = 51 ∨ op = 52 ∨ op = 53 ∨ op = 54 ∨ op = 55 ∨ op = 56 ∨ op = 57 ∨ op = 58 ∨ op = 59 ∨ op = 60 ∨ op = 61 ∨ op = 62 := by omega
  clear h
  have Ha := Lib.hid ha
  have Hb := Lib.hid hb
  have Hsb := Lib.hid (sgn_word b 32 hb)
  have Hlb := Lib.hid (low_word b 32 hb)
  have Hsa := Lib.hid (sgn_word a 32 ha)
  have Hla := Lib.hid (low_word a 32 ha)
  have H5 := Lib.hid (r32_word b)
  have H5s := Lib.hid (sgn_word _ 32 (r32_word b))
  have H5l := Lib.hid (low_word _ 32 (r32_word b))
  obtain ⟨hb1, hb2⟩ := hb
  rcases hs with rfl | rfl | rfl | rfl | rfl | rfl | rfl | rfl | rfl | rfl | rfl | rfl | rfl | rfl | rfl | rfl | rfl | rfl | rfl | rfl | rfl | rfl | rfl | rfl | rfl | rfl | rfl | rfl
  all_goals
    go_enter Try.func19, Try.ntmps19
    go_wp2_with (first
      | (go_at_call 30; refine (c_Wide _ _ _ (by with_reducible first | exact Ha.out | exact Hsa.out | exact Hla.out) (by with_reducible first | exact Hb.out | exact Hsb.out | exact Hlb.out | exact H5s.out | exact H5l.out) _ (by decide)).mono ?_; rintro e w1 ⟨rfl, rfl⟩)
      | (go_at_call 17; refine (c_rlow _ _ (by with_reducible first | exact Ha.out | exact Hb.out | exact H5.out) _).mono ?_; rintro e w1 ⟨rfl, rfl⟩)
      | (go_at_call 15; refine (c_rsign _ _ (by with_reducible first | exact Ha.out | exact Hb.out | exact H5.out | exact wide_word _ _ _ (by first | exact Ha.out | exact Hsa.out | exact Hla.out) (by first | exact Hb.out | exact Hsb.out | exact Hlb.out | exact H5s.out | exact H5l.out)) _).mono ?_; rintro e w1 ⟨rfl, rfl⟩))
    go_ret2
    refine ⟨ret_2 ?_ rfl, by go_grown⟩
    first | rfl | (rw [sg32]; rfl) | (rw [lw32]; rfl)
theorem c_rreckon_f (op a b : Int) (w : World) (h : ¬ (35 ≤ op ∧ op ≤ 62)) :
    Calls Try.prog 19 #[.int .i64 op, .int .u64 a, .int .u64 b] w fun e w' => e = .returned (.tuple #[.int .u64 0, .bool false]) ∧ Gr w w' := by
  by_cases h1 : op < 35
  · have e1 : decide (op < 35) = true := by simpa using h1
    go_enter Try.func19, Try.ntmps19
    go_wp2
    go_ret2
    exact ⟨rfl, Gr.refl _⟩
  · have e1 : decide (op < 35) = false := by simpa using h1
    have e2 : decide (62 < op) = true := by simp; omega
    go_enter Try.func19, Try.ntmps19
    go_wp2
    go_ret2
    exact ⟨rfl, Gr.refl _⟩
theorem reckB_t (op : Int) (h : 35 ≤ op ∧ op ≤ 62) : reckB op = true := by
  unfold reckB isWide isNarrow; simp; omega
theorem reckB_f (op a b : Int) (h : ¬ (35 ≤ op ∧ op ≤ 62)) : reckB op = false ∧ reckV op a b = 0 := by
  have h1 : isWide op = false := by unfold isWide; simp; omega
  have h2 : isNarrow op = false := by unfold isNarrow; simp; omega
  exact ⟨by unfold reckB; rw [h1, h2]; rfl, by unfold reckV; rw [if_neg (by simp [h1]), if_neg (by simp [h2])]⟩
theorem c_rreckon (op a b : Int) (ha : word a) (hb : word b) (w : World) :
    Calls Try.prog 19 #[.int .i64 op, .int .u64 a, .int .u64 b] w fun e w' => e = .returned (.tuple #[.int .u64 (reckV op a b), .bool (reckB op)]) ∧ Gr w w' := by
  by_cases h : 35 ≤ op ∧ op ≤ 62
  · rw [reckB_t op h]; exact c_rreckon_t op a b ha hb w h
  · obtain ⟨e1, e2⟩ := reckB_f op a b h
    rw [e1, e2]; exact c_rreckon_f op a b w h
end Go.Proofs.Ytempdcbgbaglaaa.W
