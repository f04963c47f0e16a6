/- Stage 2: the forms' table; the fixed bits and the mask of an opcode. No condition. -/
import Derived.Test.YthcfobefpknjeaaDoorB1
set_option linter.unusedVariables false
set_option maxRecDepth 50000
namespace Go.Proofs.YthcfobefpknjeaaDoor.P
open Go.RowKit
def fmL : List Int := [45, 85, 85, 74, 73, 66, 66, 66, 66, 66, 66, 73, 73, 73, 73, 73, 73, 73, 83, 83, 83, 83, 73, 73, 73, 73, 73, 73, 72, 72, 72, 73, 86, 86, 86, 82, 82, 82, 82, 82, 82, 82, 82, 82, 82, 82, 82, 82, 82, 82, 82, 82, 82, 82, 82, 82, 82, 82, 82, 82, 82, 82, 82, 78, 78, 78, 65, 65, 65, 65, 65, 65, 65, 65, 65, 65, 65, 65, 65, 65, 65, 65, 65, 65, 65, 65, 65, 65]
def fmT (k : Nat) : Int := fmL.getD k 0
def fixL : List Int := [0, 55, 23, 111, 103, 99, 4195, 16483, 20579, 24675, 28771, 3, 4099, 8195, 12291, 16387, 20483, 24579, 35, 4131, 8227, 12323, 19, 8211, 12307, 16403, 24595, 28691, 4115, 20499, 1073762323, 27, 4123, 20507, 1073762331, 51, 1073741875, 4147, 8243, 12339, 16435, 20531, 1073762355, 24627, 28723, 59, 1073741883, 4155, 20539, 1073762363, 33554483, 33558579, 33562675, 33566771, 33570867, 33574963, 33579059, 33583155, 33554491, 33570875, 33574971, 33579067, 33583163, 15, 115, 1048691, 268443695, 402661423, 134225967, 8239, 536879151, 1610620975, 1073750063, 2147491887, 2684362799, 3221233711, 3758104623, 268447791, 402665519, 134230063, 12335, 536883247, 1610625071, 1073754159, 2147495983, 2684366895, 3221237807, 3758108719]
def fixT (k : Nat) : Int := fixL.getD k 0
def FT (w : World) : Prop := ∀ k : Nat, k < 88 → w.cell? ⟨0, k, none⟩ = some (.int .u8 (fmT k))
theorem FT.gr {w w' : World} (h : FT w) (g : Gr w w') : FT w' := fun k hk => kcell g (h k hk)
/-- An opcode's form is one of ten. -/
theorem fm_cases : ∀ k : Nat, k < 88 → 1 ≤ k → (fmT k = 85 ∨ fmT k = 74 ∨ fmT k = 73 ∨ fmT k = 66 ∨ fmT k = 83 ∨ fmT k = 72 ∨ fmT k = 86 ∨ fmT k = 82 ∨ fmT k = 65 ∨ fmT k = 78) := by decide +kernel
theorem fix_u32 : ∀ k : Nat, k < 88 → 0 ≤ fixT k ∧ fixT k < 4294967296 := by decide +kernel
def codeL : List Int := [0, 55, 23, 111, 103, 99, 99, 99, 99, 99, 99, 3, 3, 3, 3, 3, 3, 3, 35, 35, 35, 35, 19, 19, 19, 19, 19, 19, 19, 19, 19, 27, 27, 27, 27, 51, 51, 51, 51, 51, 51, 51, 51, 51, 51, 59, 59, 59, 59, 59, 51, 51, 51, 51, 51, 51, 51, 51, 59, 59, 59, 59, 59, 15, 115, 115, 47, 47, 47, 47, 47, 47, 47, 47, 47, 47, 47, 47, 47, 47, 47, 47, 47, 47, 47, 47, 47, 47]
def codeT (k : Nat) : Int := codeL.getD k 0
def codeS : ByteArray := { data := #[0, 55, 23, 111, 103, 99, 99, 99, 99, 99, 99, 3, 3, 3, 3, 3, 3, 3, 35, 35, 35, 35, 19, 19, 19, 19, 19, 19, 19, 19, 19, 27, 27, 27, 27, 51, 51, 51, 51, 51, 51, 51, 51, 51, 51, 59, 59, 59, 59, 59, 51, 51, 51, 51, 51, 51, 51, 51, 59, 59, 59, 59, 59, 15, 115, 115, 47, 47, 47, 47, 47, 47, 47, 47, 47, 47, 47, 47, 47, 47, 47, 47, 47, 47, 47, 47, 47, 47] }
theorem code_at : ∀ k : Nat, k < 88 → codeS[k]?.map (fun b : UInt8 => (b.toNat : Int)) = some (codeT k) := by decide +kernel
theorem code_size : codeS.size = 88 := by decide +kernel
theorem code_idx (k : Nat) (hk : k < 88) (w : World) : (Instr.index 9 (.string { data := #[0, 55, 23, 111, 103, 99, 99, 99, 99, 99, 99, 3, 3, 3, 3, 3, 3, 3, 35, 35, 35, 35, 19, 19, 19, 19, 19, 19, 19, 19, 19, 27, 27, 27, 27, 51, 51, 51, 51, 51, 51, 51, 51, 51, 51, 59, 59, 59, 59, 59, 51, 51, 51, 51, 51, 51, 51, 51, 59, 59, 59, 59, 59, 15, 115, 115, 47, 47, 47, 47, 47, 47, 47, 47, 47, 47, 47, 47, 47, 47, 47, 47, 47, 47, 47, 47, 47, 47] }) (.int .i64 (k : Int))).run Tryd.prog w = .ok (.int .u8 (codeT k)) w := by
  have hs : (k : Int) < (codeS.size : Int) := by rw [code_size]; omega
  have h2 : k < codeS.size := by rw [code_size]; exact hk
  have := code_at k hk
  rw [ByteArray.getElem?_lt' _ _ h2] at this
  have e : ((codeS[k]).toNat : Int) = codeT k := by simpa using this
  show (Instr.index 9 (.string codeS) (.int .i64 (k : Int))).run Tryd.prog w = _
  rw [run_index_string w _ _ _ _ Tryd.underlying9, dif_pos ⟨by omega, hs⟩]
  rw [← e]; rfl
def threeL : List Int := [0, 0, 0, 0, 0, 0, 1, 4, 5, 6, 7, 0, 1, 2, 3, 4, 5, 6, 0, 1, 2, 3, 0, 2, 3, 4, 6, 7, 1, 5, 5, 0, 1, 5, 5, 0, 0, 1, 2, 3, 4, 5, 5, 6, 7, 0, 0, 1, 5, 5, 0, 1, 2, 3, 4, 5, 6, 7, 0, 4, 5, 6, 7, 0, 0, 0, 2, 2, 2, 2, 2, 2, 2, 2, 2, 2, 2, 3, 3, 3, 3, 3, 3, 3, 3, 3, 3, 3]
def threeT (k : Nat) : Int := threeL.getD k 0
def threeS : ByteArray := { data := #[0, 0, 0, 0, 0, 0, 1, 4, 5, 6, 7, 0, 1, 2, 3, 4, 5, 6, 0, 1, 2, 3, 0, 2, 3, 4, 6, 7, 1, 5, 5, 0, 1, 5, 5, 0, 0, 1, 2, 3, 4, 5, 5, 6, 7, 0, 0, 1, 5, 5, 0, 1, 2, 3, 4, 5, 6, 7, 0, 4, 5, 6, 7, 0, 0, 0, 2, 2, 2, 2, 2, 2, 2, 2, 2, 2, 2, 3, 3, 3, 3, 3, 3, 3, 3, 3, 3, 3] }
theorem three_at : ∀ k : Nat, k < 88 → threeS[k]?.map (fun b : UInt8 => (b.toNat : Int)) = some (threeT k) := by decide +kernel
theorem three_size : threeS.size = 88 := by decide +kernel
theorem three_idx (k : Nat) (hk : k < 88) (w : World) : (Instr.index 9 (.string { data := #[0, 0, 0, 0, 0, 0, 1, 4, 5, 6, 7, 0, 1, 2, 3, 4, 5, 6, 0, 1, 2, 3, 0, 2, 3, 4, 6, 7, 1, 5, 5, 0, 1, 5, 5, 0, 0, 1, 2, 3, 4, 5, 5, 6, 7, 0, 0, 1, 5, 5, 0, 1, 2, 3, 4, 5, 6, 7, 0, 4, 5, 6, 7, 0, 0, 0, 2, 2, 2, 2, 2, 2, 2, 2, 2, 2, 2, 3, 3, 3, 3, 3, 3, 3, 3, 3, 3, 3] }) (.int .i64 (k : Int))).run Tryd.prog w = .ok (.int .u8 (threeT k)) w := by
  have hs : (k : Int) < (threeS.size : Int) := by rw [three_size]; omega
  have h2 : k < threeS.size := by rw [three_size]; exact hk
  have := three_at k hk
  rw [ByteArray.getElem?_lt' _ _ h2] at this
  have e : ((threeS[k]).toNat : Int) = threeT k := by simpa using this
  show (Instr.index 9 (.string threeS) (.int .i64 (k : Int))).run Tryd.prog w = _
  rw [run_index_string w _ _ _ _ Tryd.underlying9, dif_pos ⟨by omega, hs⟩]
  rw [← e]; rfl
def sevenL : List Int := [0, 0, 0, 0, 0, 0, 0, 0, 0, 0, 0, 0, 0, 0, 0, 0, 0, 0, 0, 0, 0, 0, 0, 0, 0, 0, 0, 0, 0, 0, 32, 0, 0, 0, 32, 0, 32, 0, 0, 0, 0, 0, 32, 0, 0, 0, 32, 0, 0, 32, 1, 1, 1, 1, 1, 1, 1, 1, 1, 1, 1, 1, 1, 0, 0, 0, 2, 3, 1, 0, 4, 12, 8, 16, 20, 24, 28, 2, 3, 1, 0, 4, 12, 8, 16, 20, 24, 28]
def sevenT (k : Nat) : Int := sevenL.getD k 0
def sevenS : ByteArray := { data := #[0, 0, 0, 0, 0, 0, 0, 0, 0, 0, 0, 0, 0, 0, 0, 0, 0, 0, 0, 0, 0, 0, 0, 0, 0, 0, 0, 0, 0, 0, 32, 0, 0, 0, 32, 0, 32, 0, 0, 0, 0, 0, 32, 0, 0, 0, 32, 0, 0, 32, 1, 1, 1, 1, 1, 1, 1, 1, 1, 1, 1, 1, 1, 0, 0, 0, 2, 3, 1, 0, 4, 12, 8, 16, 20, 24, 28, 2, 3, 1, 0, 4, 12, 8, 16, 20, 24, 28] }
theorem seven_at : ∀ k : Nat, k < 88 → sevenS[k]?.map (fun b : UInt8 => (b.toNat : Int)) = some (sevenT k) := by decide +kernel
theorem seven_size : sevenS.size = 88 := by decide +kernel
theorem seven_idx (k : Nat) (hk : k < 88) (w : World) : (Instr.index 9 (.string { data := #[0, 0, 0, 0, 0, 0, 0, 0, 0, 0, 0, 0, 0, 0, 0, 0, 0, 0, 0, 0, 0, 0, 0, 0, 0, 0, 0, 0, 0, 0, 32, 0, 0, 0, 32, 0, 32, 0, 0, 0, 0, 0, 32, 0, 0, 0, 32, 0, 0, 32, 1, 1, 1, 1, 1, 1, 1, 1, 1, 1, 1, 1, 1, 0, 0, 0, 2, 3, 1, 0, 4, 12, 8, 16, 20, 24, 28, 2, 3, 1, 0, 4, 12, 8, 16, 20, 24, 28] }) (.int .i64 (k : Int))).run Tryd.prog w = .ok (.int .u8 (sevenT k)) w := by
  have hs : (k : Int) < (sevenS.size : Int) := by rw [seven_size]; omega
  have h2 : k < sevenS.size := by rw [seven_size]; exact hk
  have := seven_at k hk
  rw [ByteArray.getElem?_lt' _ _ h2] at this
  have e : ((sevenS[k]).toNat : Int) = sevenT k := by simpa using this
  show (Instr.index 9 (.string sevenS) (.int .i64 (k : Int))).run Tryd.prog w = _
  rw [run_index_string w _ _ _ _ Tryd.underlying9, dif_pos ⟨by omega, hs⟩]
  rw [← e]; rfl
theorem fix_A : ∀ k : Nat, k < 88 → fmT k = 65 → bits BinOp.or IntKind.u32 (bits BinOp.or IntKind.u32 (codeT k % 4294967296) (threeT k % 4294967296 * 4096 % 4294967296)) (sevenT k % 4294967296 * 134217728 % 4294967296) = fixT k := by decide +kernel
theorem fix_O : ∀ k : Nat, k < 88 → k ≠ 65 → fmT k ≠ 65 → bits BinOp.or IntKind.u32 (bits BinOp.or IntKind.u32 (codeT k % 4294967296) (threeT k % 4294967296 * 4096 % 4294967296)) (sevenT k % 4294967296 * 33554432 % 4294967296) = fixT k := by decide +kernel
set_option maxHeartbeats 800000 in
theorem c_fixed (k : Nat) (hk : k < 88) (w : World) (hF : FT w) : Calls Tryd.prog 27 #[.int .i64 (k : Int)] w fun e w' => e = .returned (.int .u32 (fixT k)) ∧ Gr w w' := by
  have hc := hF k hk
  have dk : decide (k < 88) = true := decide_eq_true hk
  have hi1 := code_idx k hk
  have hi2 := three_idx k hk
  have hi3 := seven_idx k hk
  clear hF
  by_cases h65 : k = 65
  · have e65 : ((k : Int) == 65) = true := by simp; omega
    go_enter Tryd.func27, Tryd.ntmps27
    go_wp2
    go_quiet (fail)
    go_wp2
    go_ret
    refine ⟨ret_u32 ?_, by (first | exact Gr.drewN (Gr.refl _) _ | exact Gr.refl _ | go_grown)⟩
    subst h65
    decide +kernel
  · have e65 : ((k : Int) == 65) = false := by simp; omega
    by_cases hA : fmT k = 65
    · have eA : (fmT k == 65) = true := by simp [hA]
      have HA := Lib.hid hA
      clear hA
      go_enter Tryd.func27, Tryd.ntmps27
      go_wp2
      go_quiet (fail)
      go_wp2
      go_ret
      refine ⟨ret_u32 ?_, by (first | exact Gr.drewN (Gr.refl _) _ | exact Gr.refl _ | go_grown)⟩
      exact fix_A k hk HA.out
    · have eA : (fmT k == 65) = false := by simp [hA]
      have HA := Lib.hid hA
      clear hA
      go_enter Tryd.func27, Tryd.ntmps27
      go_wp2
      go_quiet (fail)
      go_wp2
      go_ret
      refine ⟨ret_u32 ?_, by (first | exact Gr.drewN (Gr.refl _) _ | exact Gr.refl _ | go_grown)⟩
      exact fix_O k hk h65 HA.out
end Go.Proofs.YthcfobefpknjeaaDoor.P
