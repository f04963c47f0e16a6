/- Stage 7: LogNil. No condition. -/
import Derived.Test.YtgaibknhdaeidaaA23
set_option linter.unusedVariables false
set_option maxRecDepth 50000
namespace Go.Proofs.Ytgaibknhdaeidaa.P
open Go.RowKit
set_option maxHeartbeats 1600000 in
theorem l_nil7 (i : Int) (s : ByteArray) (w : World) : Calls Try.prog 5 #[.int .i64 i, .string s] w fun e w' => e = .returned (.bool true) ∧ Gr w w' := by
  have CS := Lib.hid (c_shown7 w)
  go_enter Try.func5, Try.ntmps5
  go_upto_region 2 with (go_at_call 10; refine CS.out.mono ?_; rintro e w1 ⟨rfl, h1⟩; have H1 := Lib.hid h1; clear h1)
  clear CS
  go_wp2_with (first
    | (go_at_call 20; refine (n_get _ _).mono ?_; rintro e w2 ⟨rfl, rfl⟩)
    | (go_at_call 24; refine (n_set _ _ _).mono ?_; rintro e w2 ⟨rfl, rfl⟩)
    | (go_at_call 14; refine (n_commit _).mono ?_; rintro e w2 ⟨rfl, rfl⟩)
    | (go_at_call 22; refine (n_abort _).mono ?_; rintro e w2 ⟨rfl, rfl⟩)
    | (go_at_call 23; refine (n_staged _).mono ?_; rintro e w2 ⟨rfl, rfl⟩)
    | (go_at_call 25; refine (n_home _).mono ?_; rintro e w2 ⟨rfl, rfl⟩)
    | (go_at_call 12; refine (n_open _).mono ?_; rintro e w2 ⟨rfl, rfl⟩))
  go_ret
  exact ⟨rfl, H1.out⟩
end Go.Proofs.Ytgaibknhdaeidaa.P
