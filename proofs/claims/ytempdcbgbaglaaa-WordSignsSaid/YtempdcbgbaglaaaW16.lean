import Derived.Test.YtempdcbgbaglaaaW15
set_option linter.unusedVariables false
namespace Go.Proofs.Ytempdcbgbaglaaa.W
open Go.RowKit
theorem l_bits (v b : Int) (hv : word v) (w : World) :
    Calls Try.prog 3 #[.int .u64 v, .int .i64 b] w fun e w' => e = .returned (.bool true) ∧ Gr w w' := by
  have H := Lib.hid hv
  clear hv
  go_enter Try.func3, Try.ntmps3
  go_wp2_with (first
    | (go_at_call 13; refine (c_shown _).mono ?_; rintro e w1 ⟨rfl, hg⟩)
    | (go_at_call 14; refine (c_sign _ _ H.out _).mono ?_; rintro e w' ⟨rfl, rfl⟩)
    | (go_at_call 16; refine (c_low _ _ H.out _).mono ?_; rintro e w' ⟨rfl, rfl⟩)
    | (go_at_call 15; refine (c_rsign _ _ H.out _).mono ?_; rintro e w' ⟨rfl, rfl⟩)
    | (go_at_call 17; refine (c_rlow _ _ H.out _).mono ?_; rintro e w' ⟨rfl, rfl⟩))
  go_ret
  exact ⟨rfl, by assumption⟩
set_option maxHeartbeats 800000 in
theorem l_reckons (op a b : Int) (ha : word a) (hb : word b) (w : World) :
    Calls Try.prog 4 #[.int .i64 op, .int .u64 a, .int .u64 b] w fun e w' => e = .returned (.bool true) ∧ Gr w w' := by
  have HA := Lib.hid ha
  have HB := Lib.hid hb
  clear ha hb
  go_enter Try.func4, Try.ntmps4
  go_wp2_with (first
    | (go_at_call 13; refine (c_shown _).mono ?_; rintro e w1 ⟨rfl, hg1⟩)
    | (go_at_call 18; refine (c_reckon _ _ _ HA.out HB.out _).mono ?_; rintro e w2 ⟨rfl, hg2⟩)
    | (go_at_call 19; refine (c_rreckon _ _ _ HA.out HB.out _).mono ?_; rintro e w3 ⟨rfl, hg3⟩))
  go_ret
  refine ⟨ret_b (by simp), gtrans (gtrans hg1 hg2) hg3⟩
set_option maxHeartbeats 800000 in
theorem l_amo (op a b : Int) (ha : word a) (hb : word b) (w : World) :
    Calls Try.prog 5 #[.int .i64 op, .int .u64 a, .int .u64 b] w fun e w' => e = .returned (.bool true) ∧ Gr w w' := by
  have HA := Lib.hid ha
  have HB := Lib.hid hb
  clear ha hb
  go_enter Try.func5, Try.ntmps5
  go_wp2_with (first
    | (go_at_call 13; refine (c_shown _).mono ?_; rintro e w1 ⟨rfl, hg1⟩)
    | (go_at_call 20; refine (c_amo _ _ _ HA.out HB.out _).mono ?_; rintro e w2 ⟨rfl, rfl⟩)
    | (go_at_call 21; refine (c_ramo _ _ _ HA.out HB.out _).mono ?_; rintro e w3 ⟨rfl, rfl⟩))
  go_ret
  refine ⟨ret_b (by simp), hg1⟩
end Go.Proofs.Ytempdcbgbaglaaa.W
