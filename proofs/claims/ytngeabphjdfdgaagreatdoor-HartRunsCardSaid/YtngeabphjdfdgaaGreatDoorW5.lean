import Derived.Test.YtngeabphjdfdgaaGreatDoorW4
set_option linter.unusedVariables false
namespace Go.Proofs.YtngeabphjdfdgaaGreatDoor.W
open Go.RowKit
theorem low5 (v : Int) : lowF v 5 = v % 32 := by unfold lowF; rfl
theorem sgn_low5 (v : Int) (h : word v) : lowF (sgnF v 32) 5 = v % 32 := by
  rw [low5]; obtain ⟨h1, h2⟩ := h; unfold sgnF
  rw [if_neg (by decide), if_neg (by decide), show (2 : Int) ^ (32 : Int).toNat = 4294967296 from rfl]
  split <;> omega
theorem low_low5 (v : Int) (h : word v) : lowF (lowF v 32) 5 = v % 32 := by
  rw [low5, low32]; omega
theorem take_word (op v : Int) (h : word v) : word (takeF op v) := by unfold takeF; exact ite_word _ _ _ (low_word _ _ h) (sgn_word _ _ h)
theorem takeB_word (op v : Int) (h : word v) : word (takeB op v) := by
  unfold takeB; refine ite_word _ _ _ ?_ (take_word _ _ h); obtain ⟨h1, h2⟩ := h; exact ⟨by omega, by omega⟩
set_option maxHeartbeats 800000 in
theorem c_reckon_n (op a b : Int) (ha : word a) (hb : word b) (w : World) (h : isNarrow op = true) :
    Calls Tryz.prog 45 #[.int .i64 op, .int .u64 a, .int .u64 b] w fun e w' => e = .returned (.tuple #[.int .u64 (reckV op a b), .bool true]) ∧ Gr w w' := by
  have hs : op = 45 ∨ op = 46 ∨ op = 47 ∨ op = 48 ∨ op = 49 ∨ op = 58 ∨ op = 59 ∨ op = 60 ∨ op = 61 ∨ op = 62 := by
    unfold isNarrow at h; have := of_decide_eq_true h; omega
  clear h
  have Ha := Lib.hid ha
  have Hb := Lib.hid hb
  have Hls := Lib.hid (sgn_low5 b hb)
  have Hll := Lib.hid (low_low5 b hb)
  have Hsb := Lib.hid (sgn_word b 32 hb)
  have Hlb := Lib.hid (low_word b 32 hb)
  have Hsa := Lib.hid (sgn_word a 32 ha)
  have Hla := Lib.hid (low_word a 32 ha)
  have Hb5 := Lib.hid (show word (b % 32) from by obtain ⟨h1, h2⟩ := hb; exact ⟨by omega, by omega⟩)
  have Hlow := Lib.hid (low_word _ 5 Hsb.out)
  have Hlow2 := Lib.hid (low_word _ 5 Hlb.out)
  clear ha hb
  rcases hs with rfl | rfl | rfl | rfl | rfl | rfl | rfl | rfl | rfl | rfl
  all_goals
    go_enter Tryz.func45, Tryz.ntmps45
    go_wp2_with (first
      | (go_at_call 63; refine (c_sign _ _ (by with_reducible first | exact Ha.out | exact Hb.out | exact wide_word _ _ _ (by with_reducible first | exact Hsa.out | exact Hla.out) (by with_reducible first | exact Hsb.out | exact Hlb.out | exact Hlow.out | exact Hlow2.out)) _).mono ?_; rintro e w1 ⟨rfl, rfl⟩)
      | (go_at_call 64; refine (c_low _ _ (by with_reducible first | exact Ha.out | exact Hb.out | exact Hsb.out | exact Hlb.out) _).mono ?_; rintro e w1 ⟨rfl, rfl⟩)
      | (go_at_call 65; refine (c_shiftq _ _).mono ?_; rintro e w1 ⟨rfl, rfl⟩)
      | (go_at_call 67; refine (c_wide _ (by decide) _).mono ?_; rintro e w1 ⟨rfl, rfl⟩)
      | (go_at_call 66; refine (c_whole _ _ _ (by with_reducible first | exact Hsa.out | exact Hla.out) (by with_reducible first | exact Hsb.out | exact Hlb.out | exact Hlow.out | exact Hlow2.out) _ (by decide)).mono ?_; rintro e w1 ⟨rfl, hg⟩))
    go_ret2
    refine ⟨ret_2 ?_ rfl, hg⟩
    first | rfl | (rw [Hls.out]; rfl) | (rw [Hll.out]; rfl)
set_option maxHeartbeats 800000 in
/-- all opcodes but those of 32 bits go to whole -/
theorem c_reckon_w (op a b : Int) (w : World) (h : isNarrow op = false) (v : Int) (t : Bool)
    (hc : ∀ w, Calls Tryz.prog 66 #[.int .i64 op, .int .u64 a, .int .u64 b] w fun e w' => e = .returned (.tuple #[.int .u64 v, .bool t]) ∧ Gr w w') :
    Calls Tryz.prog 45 #[.int .i64 op, .int .u64 a, .int .u64 b] w fun e w' => e = .returned (.tuple #[.int .u64 v, .bool t]) ∧ Gr w w' := by
  unfold isNarrow at h
  have h' := of_decide_eq_false h
  have e0 : (op == 45) = false := by simp; omega
  have e1 : (op == 46) = false := by simp; omega
  have e2 : (op == 47) = false := by simp; omega
  have e3 : (op == 48) = false := by simp; omega
  have e4 : (op == 49) = false := by simp; omega
  have e5 : (op == 58) = false := by simp; omega
  have e6 : (op == 59) = false := by simp; omega
  have e7 : (op == 60) = false := by simp; omega
  have e8 : (op == 61) = false := by simp; omega
  have e9 : (op == 62) = false := by simp; omega
  have Hc := Lib.hid hc
  clear h h' hc
  go_enter Tryz.func45, Tryz.ntmps45
  go_wp2_with (go_at_call 66; refine (Hc.out _).mono ?_; rintro e w1 ⟨rfl, hg⟩)
  go_ret2
  exact ⟨rfl, hg⟩
theorem c_reckon (op a b : Int) (ha : word a) (hb : word b) (w : World) :
    Calls Tryz.prog 45 #[.int .i64 op, .int .u64 a, .int .u64 b] w fun e w' => e = .returned (.tuple #[.int .u64 (reckV op a b), .bool (reckB op)]) ∧ Gr w w' := by
  by_cases hn : isNarrow op = true
  · have e : reckB op = true := by unfold reckB; rw [hn, Bool.or_true]
    rw [e]; exact c_reckon_n op a b ha hb w hn
  · have hn' : isNarrow op = false := by simpa using hn
    by_cases hw : isWide op = true
    · have e : reckB op = true := by unfold reckB; rw [hw, Bool.true_or]
      have e2 : reckV op a b = wideF op a b := by unfold reckV; rw [if_pos hw]
      rw [e, e2]; exact c_reckon_w op a b w hn' _ _ (fun w => c_whole op a b ha hb w hw)
    · have hw' : isWide op = false := by simpa using hw
      have e : reckB op = false := by unfold reckB; rw [hw', hn']; rfl
      have e2 : reckV op a b = 0 := by unfold reckV; rw [if_neg hw, if_neg hn]
      rw [e, e2]; exact c_reckon_w op a b w hn' _ _ (fun w => c_whole_no op a b hw' w)
theorem reck_word (op a b : Int) (ha : word a) (hb : word b) : word (reckV op a b) := by
  unfold reckV
  refine ite_word _ _ _ (wide_word _ _ _ ha hb) (ite_word _ _ _ (sgn_word _ _ (wide_word _ _ _ (take_word _ _ ha) (takeB_word _ _ hb))) w0)
end Go.Proofs.YtngeabphjdfdgaaGreatDoor.W
