/- Stage 2: the document's examples. No condition. -/
import Derived.Test.YtngeabphjdfdgaaGreatDoorD5
import Derived.Test.YtngeabphjdfdgaaGreatDoorB7
import Derived.Test.YtngeabphjdfdgaaGreatDoorN8
set_option linter.unusedVariables false
set_option linter.unusedSimpArgs false
set_option maxRecDepth 100000
namespace Go.Proofs.YtngeabphjdfdgaaGreatDoor.P
open Go.RowKit
theorem ex_dec (w : World) (hF : FT w) : Calls Tryz.prog 18 #[.int .u32 4263546595] w fun e w' => e = .returned (.tuple #[iv 5 0 1 2 (-4), .int .i64 0]) ∧ Gr w w' := by
  refine c_decode_yes 4263546595 ⟨by decide, by decide⟩ 5 (by decide) (by decide +kernel) (by decide +kernel) (by decide +kernel) (fun j j1 j2 j3 => ?_) 0 1 2 (-4) w hF (fun w1 g => ?_)
  · exfalso
    have : fromF (4263546595 % 128) = 5 := by decide +kernel
    omega
  · have := c_fld_66 5 (by decide) (by decide) (by decide +kernel) 4263546595 ⟨by decide, by decide⟩ w1 (hF.gr g)
    rw [show (4263546595 / 32768 % 32 : Int) = 1 by decide +kernel, show (4263546595 / 1048576 % 32 : Int) = 2 by decide +kernel, show fldR (fmT 5) 4263546595 = -4 by decide +kernel] at this
    exact this
def sdS : ByteArray := ⟨#[115, 100, 32, 120, 49, 44, 32, 49, 54, 40, 120, 50, 41]⟩
def sdL (k : Nat) : ByteArray := [(⟨#[120, 49, 44, 32, 49, 54, 40, 120, 50, 41]⟩ : ByteArray), ⟨#[44, 32, 49, 54, 40, 120, 50, 41]⟩, ⟨#[40, 120, 50, 41]⟩, ⟨#[41]⟩].getD k ⟨#[]⟩
def sdT (k : Nat) : ByteArray := [(⟨#[49, 44, 32, 49, 54, 40, 120, 50, 41]⟩ : ByteArray), ⟨#[49, 54, 40, 120, 50, 41]⟩, ⟨#[50, 41]⟩].getD k ⟨#[]⟩
def sdU (k : Nat) : ByteArray := [(⟨#[49]⟩ : ByteArray), ⟨#[49, 54]⟩, ⟨#[50]⟩].getD k ⟨#[]⟩
def sdA (k : Nat) : Nat := [1, 2, 2].getD k 0
def sdB (k : Nat) : Nat := [1, 2, 1].getD k 0
def sdV (k : Nat) : Int := [1, 16, 2].getD k 0
theorem sd_num (k : Nat) (hk : k < 3) : NumS (sdL k) (sdT k) (sdU k) (sdL (k + 1)) (sdA k) (sdB k) (sdB k : Int) (sdV k) := by
  have : k = 0 ∨ k = 1 ∨ k = 2 := by omega
  rcases this with rfl | rfl | rfl
  all_goals exact ⟨by decide +kernel, by decide +kernel, by decide +kernel, by decide +kernel, by decide +kernel, .inl rfl, by decide +kernel, by decide +kernel, by decide +kernel, by decide +kernel, by decide +kernel, by decide +kernel⟩
end Go.Proofs.YtngeabphjdfdgaaGreatDoor.P
namespace Go.Proofs.YtngeabphjdfdgaaGreatDoor.P
open Go.RowKit
end Go.Proofs.YtngeabphjdfdgaaGreatDoor.P
