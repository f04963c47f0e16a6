/- Stage 2: small calls: bits of a word, the registers that may be. No condition. -/
import Derived.Test.YtngeabphjdfdgaaGreatDoorO
import Derived.WalkKit
import Derived.Deep.QuietTactic
import Derived.Laws.BitsAllLaws
set_option linter.unusedVariables false
set_option maxRecDepth 50000
set_option linter.unusedSimpArgs false
set_option maxRecDepth 100000
namespace Go.Proofs.YtngeabphjdfdgaaGreatDoor.P
open Go.RowKit
def u32 (a : Int) : Prop := 0 ≤ a ∧ a < 4294967296
theorem ret_u32 {a b : Int} (h : a = b) : Ending.returned (.int .u32 a) = .returned (.int .u32 b) := by rw [h]
theorem c_bits_31_12 (x : Int) (hx : u32 x) (w : World) : Calls Tryz.prog 37 #[.int .u32 x, .int .i64 31, .int .i64 12] w fun e w' => e = .returned (.int .u32 (x / 4096 % 1048576)) ∧ w' = w := by
  obtain ⟨x0, x1⟩ := hx
  go_enter Tryz.func37, Tryz.ntmps37
  go_wp2
  go_ret
  exact ⟨ret_u32 (by omega), rfl⟩
theorem c_bits_20_20 (x : Int) (hx : u32 x) (w : World) : Calls Tryz.prog 37 #[.int .u32 x, .int .i64 20, .int .i64 20] w fun e w' => e = .returned (.int .u32 (x / 1048576 % 2)) ∧ w' = w := by
  obtain ⟨x0, x1⟩ := hx
  go_enter Tryz.func37, Tryz.ntmps37
  go_wp2
  go_ret
  exact ⟨ret_u32 (by omega), rfl⟩
theorem c_bits_10_1 (x : Int) (hx : u32 x) (w : World) : Calls Tryz.prog 37 #[.int .u32 x, .int .i64 10, .int .i64 1] w fun e w' => e = .returned (.int .u32 (x / 2 % 1024)) ∧ w' = w := by
  obtain ⟨x0, x1⟩ := hx
  go_enter Tryz.func37, Tryz.ntmps37
  go_wp2
  go_ret
  exact ⟨ret_u32 (by omega), rfl⟩
theorem c_bits_11_11 (x : Int) (hx : u32 x) (w : World) : Calls Tryz.prog 37 #[.int .u32 x, .int .i64 11, .int .i64 11] w fun e w' => e = .returned (.int .u32 (x / 2048 % 2)) ∧ w' = w := by
  obtain ⟨x0, x1⟩ := hx
  go_enter Tryz.func37, Tryz.ntmps37
  go_wp2
  go_ret
  exact ⟨ret_u32 (by omega), rfl⟩
theorem c_bits_19_12 (x : Int) (hx : u32 x) (w : World) : Calls Tryz.prog 37 #[.int .u32 x, .int .i64 19, .int .i64 12] w fun e w' => e = .returned (.int .u32 (x / 4096 % 256)) ∧ w' = w := by
  obtain ⟨x0, x1⟩ := hx
  go_enter Tryz.func37, Tryz.ntmps37
  go_wp2
  go_ret
  exact ⟨ret_u32 (by omega), rfl⟩
theorem c_bits_11_0 (x : Int) (hx : u32 x) (w : World) : Calls Tryz.prog 37 #[.int .u32 x, .int .i64 11, .int .i64 0] w fun e w' => e = .returned (.int .u32 (x / 1 % 4096)) ∧ w' = w := by
  obtain ⟨x0, x1⟩ := hx
  go_enter Tryz.func37, Tryz.ntmps37
  go_wp2
  go_ret
  exact ⟨ret_u32 (by omega), rfl⟩
theorem c_bits_12_12 (x : Int) (hx : u32 x) (w : World) : Calls Tryz.prog 37 #[.int .u32 x, .int .i64 12, .int .i64 12] w fun e w' => e = .returned (.int .u32 (x / 4096 % 2)) ∧ w' = w := by
  obtain ⟨x0, x1⟩ := hx
  go_enter Tryz.func37, Tryz.ntmps37
  go_wp2
  go_ret
  exact ⟨ret_u32 (by omega), rfl⟩
theorem c_bits_10_5 (x : Int) (hx : u32 x) (w : World) : Calls Tryz.prog 37 #[.int .u32 x, .int .i64 10, .int .i64 5] w fun e w' => e = .returned (.int .u32 (x / 32 % 64)) ∧ w' = w := by
  obtain ⟨x0, x1⟩ := hx
  go_enter Tryz.func37, Tryz.ntmps37
  go_wp2
  go_ret
  exact ⟨ret_u32 (by omega), rfl⟩
theorem c_bits_4_1 (x : Int) (hx : u32 x) (w : World) : Calls Tryz.prog 37 #[.int .u32 x, .int .i64 4, .int .i64 1] w fun e w' => e = .returned (.int .u32 (x / 2 % 16)) ∧ w' = w := by
  obtain ⟨x0, x1⟩ := hx
  go_enter Tryz.func37, Tryz.ntmps37
  go_wp2
  go_ret
  exact ⟨ret_u32 (by omega), rfl⟩
theorem c_bits_11_5 (x : Int) (hx : u32 x) (w : World) : Calls Tryz.prog 37 #[.int .u32 x, .int .i64 11, .int .i64 5] w fun e w' => e = .returned (.int .u32 (x / 32 % 128)) ∧ w' = w := by
  obtain ⟨x0, x1⟩ := hx
  go_enter Tryz.func37, Tryz.ntmps37
  go_wp2
  go_ret
  exact ⟨ret_u32 (by omega), rfl⟩
theorem c_bits_4_0 (x : Int) (hx : u32 x) (w : World) : Calls Tryz.prog 37 #[.int .u32 x, .int .i64 4, .int .i64 0] w fun e w' => e = .returned (.int .u32 (x / 1 % 32)) ∧ w' = w := by
  obtain ⟨x0, x1⟩ := hx
  go_enter Tryz.func37, Tryz.ntmps37
  go_wp2
  go_ret
  exact ⟨ret_u32 (by omega), rfl⟩
theorem c_bits_6_0 (x : Int) (hx : u32 x) (w : World) : Calls Tryz.prog 37 #[.int .u32 x, .int .i64 6, .int .i64 0] w fun e w' => e = .returned (.int .u32 (x / 1 % 128)) ∧ w' = w := by
  obtain ⟨x0, x1⟩ := hx
  go_enter Tryz.func37, Tryz.ntmps37
  go_wp2
  go_ret
  exact ⟨ret_u32 (by omega), rfl⟩
theorem c_bits_11_7 (x : Int) (hx : u32 x) (w : World) : Calls Tryz.prog 37 #[.int .u32 x, .int .i64 11, .int .i64 7] w fun e w' => e = .returned (.int .u32 (x / 128 % 32)) ∧ w' = w := by
  obtain ⟨x0, x1⟩ := hx
  go_enter Tryz.func37, Tryz.ntmps37
  go_wp2
  go_ret
  exact ⟨ret_u32 (by omega), rfl⟩
theorem c_bits_19_15 (x : Int) (hx : u32 x) (w : World) : Calls Tryz.prog 37 #[.int .u32 x, .int .i64 19, .int .i64 15] w fun e w' => e = .returned (.int .u32 (x / 32768 % 32)) ∧ w' = w := by
  obtain ⟨x0, x1⟩ := hx
  go_enter Tryz.func37, Tryz.ntmps37
  go_wp2
  go_ret
  exact ⟨ret_u32 (by omega), rfl⟩
theorem c_bits_24_20 (x : Int) (hx : u32 x) (w : World) : Calls Tryz.prog 37 #[.int .u32 x, .int .i64 24, .int .i64 20] w fun e w' => e = .returned (.int .u32 (x / 1048576 % 32)) ∧ w' = w := by
  obtain ⟨x0, x1⟩ := hx
  go_enter Tryz.func37, Tryz.ntmps37
  go_wp2
  go_ret
  exact ⟨ret_u32 (by omega), rfl⟩
theorem c_bits_31_31 (x : Int) (hx : u32 x) (w : World) : Calls Tryz.prog 37 #[.int .u32 x, .int .i64 31, .int .i64 31] w fun e w' => e = .returned (.int .u32 (x / 2147483648 % 2)) ∧ w' = w := by
  obtain ⟨x0, x1⟩ := hx
  go_enter Tryz.func37, Tryz.ntmps37
  go_wp2
  go_ret
  exact ⟨ret_u32 (by omega), rfl⟩
theorem c_bits_30_12 (x : Int) (hx : u32 x) (w : World) : Calls Tryz.prog 37 #[.int .u32 x, .int .i64 30, .int .i64 12] w fun e w' => e = .returned (.int .u32 (x / 4096 % 524288)) ∧ w' = w := by
  obtain ⟨x0, x1⟩ := hx
  go_enter Tryz.func37, Tryz.ntmps37
  go_wp2
  go_ret
  exact ⟨ret_u32 (by omega), rfl⟩
theorem c_bits_30_21 (x : Int) (hx : u32 x) (w : World) : Calls Tryz.prog 37 #[.int .u32 x, .int .i64 30, .int .i64 21] w fun e w' => e = .returned (.int .u32 (x / 2097152 % 1024)) ∧ w' = w := by
  obtain ⟨x0, x1⟩ := hx
  go_enter Tryz.func37, Tryz.ntmps37
  go_wp2
  go_ret
  exact ⟨ret_u32 (by omega), rfl⟩
theorem c_bits_30_20 (x : Int) (hx : u32 x) (w : World) : Calls Tryz.prog 37 #[.int .u32 x, .int .i64 30, .int .i64 20] w fun e w' => e = .returned (.int .u32 (x / 1048576 % 2048)) ∧ w' = w := by
  obtain ⟨x0, x1⟩ := hx
  go_enter Tryz.func37, Tryz.ntmps37
  go_wp2
  go_ret
  exact ⟨ret_u32 (by omega), rfl⟩
theorem c_bits_30_25 (x : Int) (hx : u32 x) (w : World) : Calls Tryz.prog 37 #[.int .u32 x, .int .i64 30, .int .i64 25] w fun e w' => e = .returned (.int .u32 (x / 33554432 % 64)) ∧ w' = w := by
  obtain ⟨x0, x1⟩ := hx
  go_enter Tryz.func37, Tryz.ntmps37
  go_wp2
  go_ret
  exact ⟨ret_u32 (by omega), rfl⟩
theorem c_bits_11_8 (x : Int) (hx : u32 x) (w : World) : Calls Tryz.prog 37 #[.int .u32 x, .int .i64 11, .int .i64 8] w fun e w' => e = .returned (.int .u32 (x / 256 % 16)) ∧ w' = w := by
  obtain ⟨x0, x1⟩ := hx
  go_enter Tryz.func37, Tryz.ntmps37
  go_wp2
  go_ret
  exact ⟨ret_u32 (by omega), rfl⟩
theorem c_bits_7_7 (x : Int) (hx : u32 x) (w : World) : Calls Tryz.prog 37 #[.int .u32 x, .int .i64 7, .int .i64 7] w fun e w' => e = .returned (.int .u32 (x / 128 % 2)) ∧ w' = w := by
  obtain ⟨x0, x1⟩ := hx
  go_enter Tryz.func37, Tryz.ntmps37
  go_wp2
  go_ret
  exact ⟨ret_u32 (by omega), rfl⟩
theorem c_bits_25_20 (x : Int) (hx : u32 x) (w : World) : Calls Tryz.prog 37 #[.int .u32 x, .int .i64 25, .int .i64 20] w fun e w' => e = .returned (.int .u32 (x / 1048576 % 64)) ∧ w' = w := by
  obtain ⟨x0, x1⟩ := hx
  go_enter Tryz.func37, Tryz.ntmps37
  go_wp2
  go_ret
  exact ⟨ret_u32 (by omega), rfl⟩
theorem c_bits_26_25 (x : Int) (hx : u32 x) (w : World) : Calls Tryz.prog 37 #[.int .u32 x, .int .i64 26, .int .i64 25] w fun e w' => e = .returned (.int .u32 (x / 33554432 % 4)) ∧ w' = w := by
  obtain ⟨x0, x1⟩ := hx
  go_enter Tryz.func37, Tryz.ntmps37
  go_wp2
  go_ret
  exact ⟨ret_u32 (by omega), rfl⟩
theorem c_reserves (op : Int) (w : World) : Calls Tryz.prog 61 #[.int .i64 op] w fun e w' => e = .returned (.bool (decide (op = 66) || decide (op = 77))) ∧ w' = w := by
  have h : op = 66 ∨ op = 77 ∨ (op ≠ 66 ∧ op ≠ 77) := by omega
  rcases h with rfl | rfl | ⟨h1, h2⟩
  · go_enter Tryz.func61, Tryz.ntmps61
    go_wp2
    go_ret
    exact ⟨rfl, rfl⟩
  · go_enter Tryz.func61, Tryz.ntmps61
    go_wp2
    go_ret
    exact ⟨rfl, rfl⟩
  · have e1 : (op == 66) = false := by simp [h1]
    have e2 : (op == 77) = false := by simp [h2]
    go_enter Tryz.func61, Tryz.ntmps61
    go_wp2
    go_ret
    exact ⟨ret_b (by rw [decide_eq_false h1, decide_eq_false h2]; rfl), rfl⟩
def oneB (n : Int) (b : Bool) : Bool := decide (n = 0) || (b && decide (0 < n) && decide (n < 32))
abbrev iv (op rd a b i : Int) : Value := .agg #[.int .i64 op, .int .i64 rd, .int .i64 a, .int .i64 b, .int .i64 i]
def fitsB (rd a b : Int) (p q r : Bool) : Bool := oneB rd p && oneB a q && oneB b r
end Go.Proofs.YtngeabphjdfdgaaGreatDoor.P
namespace Go.Proofs.YtngeabphjdfdgaaGreatDoor.P
open Go.RowKit
def fmL : List Int := [45, 85, 85, 74, 73, 66, 66, 66, 66, 66, 66, 73, 73, 73, 73, 73, 73, 73, 83, 83, 83, 83, 73, 73, 73, 73, 73, 73, 72, 72, 72, 73, 86, 86, 86, 82, 82, 82, 82, 82, 82, 82, 82, 82, 82, 82, 82, 82, 82, 82, 82, 82, 82, 82, 82, 82, 82, 82, 82, 82, 82, 82, 82, 78, 78, 78, 65, 65, 65, 65, 65, 65, 65, 65, 65, 65, 65, 65, 65, 65, 65, 65, 65, 65, 65, 65, 65, 65]
def fmT (k : Nat) : Int := fmL.getD k 0
def fixL : List Int := [0, 55, 23, 111, 103, 99, 4195, 16483, 20579, 24675, 28771, 3, 4099, 8195, 12291, 16387, 20483, 24579, 35, 4131, 8227, 12323, 19, 8211, 12307, 16403, 24595, 28691, 4115, 20499, 1073762323, 27, 4123, 20507, 1073762331, 51, 1073741875, 4147, 8243, 12339, 16435, 20531, 1073762355, 24627, 28723, 59, 1073741883, 4155, 20539, 1073762363, 33554483, 33558579, 33562675, 33566771, 33570867, 33574963, 33579059, 33583155, 33554491, 33570875, 33574971, 33579067, 33583163, 15, 115, 1048691, 268443695, 402661423, 134225967, 8239, 536879151, 1610620975, 1073750063, 2147491887, 2684362799, 3221233711, 3758104623, 268447791, 402665519, 134230063, 12335, 536883247, 1610625071, 1073754159, 2147495983, 2684366895, 3221237807, 3758108719]
def fixT (k : Nat) : Int := fixL.getD k 0
def FT (w : World) : Prop := ∀ k : Nat, k < 88 → w.cell? ⟨1, k, none⟩ = some (.int .u8 (fmT k))
theorem FT.gr {w w' : World} (h : FT w) (g : Gr w w') : FT w' := fun k hk => kcell g (h k hk)
/-- An opcode's form is one of ten. -/
theorem fm_cases : ∀ k : Nat, k < 88 → 1 ≤ k → (fmT k = 85 ∨ fmT k = 74 ∨ fmT k = 73 ∨ fmT k = 66 ∨ fmT k = 83 ∨ fmT k = 72 ∨ fmT k = 86 ∨ fmT k = 82 ∨ fmT k = 65 ∨ fmT k = 78) := by decide +kernel
theorem fix_u32 : ∀ k : Nat, k < 88 → 0 ≤ fixT k ∧ fixT k < 4294967296 := by decide +kernel
def codeL : List Int := [0, 55, 23, 111, 103, 99, 99, 99, 99, 99, 99, 3, 3, 3, 3, 3, 3, 3, 35, 35, 35, 35, 19, 19, 19, 19, 19, 19, 19, 19, 19, 27, 27, 27, 27, 51, 51, 51, 51, 51, 51, 51, 51, 51, 51, 59, 59, 59, 59, 59, 51, 51, 51, 51, 51, 51, 51, 51, 59, 59, 59, 59, 59, 15, 115, 115, 47, 47, 47, 47, 47, 47, 47, 47, 47, 47, 47, 47, 47, 47, 47, 47, 47, 47, 47, 47, 47, 47]
def codeT (k : Nat) : Int := codeL.getD k 0
def codeS : ByteArray := { data := #[0, 55, 23, 111, 103, 99, 99, 99, 99, 99, 99, 3, 3, 3, 3, 3, 3, 3, 35, 35, 35, 35, 19, 19, 19, 19, 19, 19, 19, 19, 19, 27, 27, 27, 27, 51, 51, 51, 51, 51, 51, 51, 51, 51, 51, 59, 59, 59, 59, 59, 51, 51, 51, 51, 51, 51, 51, 51, 59, 59, 59, 59, 59, 15, 115, 115, 47, 47, 47, 47, 47, 47, 47, 47, 47, 47, 47, 47, 47, 47, 47, 47, 47, 47, 47, 47, 47, 47] }
theorem code_at : ∀ k : Nat, k < 88 → codeS[k]?.map (fun b : UInt8 => (b.toNat : Int)) = some (codeT k) := by decide +kernel
theorem code_size : codeS.size = 88 := by decide +kernel
theorem code_idx (k : Nat) (hk : k < 88) (w : World) : (Instr.index 9 (.string { data := #[0, 55, 23, 111, 103, 99, 99, 99, 99, 99, 99, 3, 3, 3, 3, 3, 3, 3, 35, 35, 35, 35, 19, 19, 19, 19, 19, 19, 19, 19, 19, 27, 27, 27, 27, 51, 51, 51, 51, 51, 51, 51, 51, 51, 51, 59, 59, 59, 59, 59, 51, 51, 51, 51, 51, 51, 51, 51, 59, 59, 59, 59, 59, 15, 115, 115, 47, 47, 47, 47, 47, 47, 47, 47, 47, 47, 47, 47, 47, 47, 47, 47, 47, 47, 47, 47, 47, 47] }) (.int .i64 (k : Int))).run Tryz.prog w = .ok (.int .u8 (codeT k)) w := by
  have hs : (k : Int) < (codeS.size : Int) := by rw [code_size]; omega
  have h2 : k < codeS.size := by rw [code_size]; exact hk
  have := code_at k hk
  rw [ByteArray.getElem?_lt' _ _ h2] at this
  have e : ((codeS[k]).toNat : Int) = codeT k := by simpa using this
  show (Instr.index 9 (.string codeS) (.int .i64 (k : Int))).run Tryz.prog w = _
  rw [run_index_string w _ _ _ _ Tryz.underlying9, dif_pos ⟨by omega, hs⟩]
  rw [← e]; rfl
def threeL : List Int := [0, 0, 0, 0, 0, 0, 1, 4, 5, 6, 7, 0, 1, 2, 3, 4, 5, 6, 0, 1, 2, 3, 0, 2, 3, 4, 6, 7, 1, 5, 5, 0, 1, 5, 5, 0, 0, 1, 2, 3, 4, 5, 5, 6, 7, 0, 0, 1, 5, 5, 0, 1, 2, 3, 4, 5, 6, 7, 0, 4, 5, 6, 7, 0, 0, 0, 2, 2, 2, 2, 2, 2, 2, 2, 2, 2, 2, 3, 3, 3, 3, 3, 3, 3, 3, 3, 3, 3]
def threeT (k : Nat) : Int := threeL.getD k 0
def threeS : ByteArray := { data := #[0, 0, 0, 0, 0, 0, 1, 4, 5, 6, 7, 0, 1, 2, 3, 4, 5, 6, 0, 1, 2, 3, 0, 2, 3, 4, 6, 7, 1, 5, 5, 0, 1, 5, 5, 0, 0, 1, 2, 3, 4, 5, 5, 6, 7, 0, 0, 1, 5, 5, 0, 1, 2, 3, 4, 5, 6, 7, 0, 4, 5, 6, 7, 0, 0, 0, 2, 2, 2, 2, 2, 2, 2, 2, 2, 2, 2, 3, 3, 3, 3, 3, 3, 3, 3, 3, 3, 3] }
theorem three_at : ∀ k : Nat, k < 88 → threeS[k]?.map (fun b : UInt8 => (b.toNat : Int)) = some (threeT k) := by decide +kernel
theorem three_size : threeS.size = 88 := by decide +kernel
theorem three_idx (k : Nat) (hk : k < 88) (w : World) : (Instr.index 9 (.string { data := #[0, 0, 0, 0, 0, 0, 1, 4, 5, 6, 7, 0, 1, 2, 3, 4, 5, 6, 0, 1, 2, 3, 0, 2, 3, 4, 6, 7, 1, 5, 5, 0, 1, 5, 5, 0, 0, 1, 2, 3, 4, 5, 5, 6, 7, 0, 0, 1, 5, 5, 0, 1, 2, 3, 4, 5, 6, 7, 0, 4, 5, 6, 7, 0, 0, 0, 2, 2, 2, 2, 2, 2, 2, 2, 2, 2, 2, 3, 3, 3, 3, 3, 3, 3, 3, 3, 3, 3] }) (.int .i64 (k : Int))).run Tryz.prog w = .ok (.int .u8 (threeT k)) w := by
  have hs : (k : Int) < (threeS.size : Int) := by rw [three_size]; omega
  have h2 : k < threeS.size := by rw [three_size]; exact hk
  have := three_at k hk
  rw [ByteArray.getElem?_lt' _ _ h2] at this
  have e : ((threeS[k]).toNat : Int) = threeT k := by simpa using this
  show (Instr.index 9 (.string threeS) (.int .i64 (k : Int))).run Tryz.prog w = _
  rw [run_index_string w _ _ _ _ Tryz.underlying9, dif_pos ⟨by omega, hs⟩]
  rw [← e]; rfl
def sevenL : List Int := [0, 0, 0, 0, 0, 0, 0, 0, 0, 0, 0, 0, 0, 0, 0, 0, 0, 0, 0, 0, 0, 0, 0, 0, 0, 0, 0, 0, 0, 0, 32, 0, 0, 0, 32, 0, 32, 0, 0, 0, 0, 0, 32, 0, 0, 0, 32, 0, 0, 32, 1, 1, 1, 1, 1, 1, 1, 1, 1, 1, 1, 1, 1, 0, 0, 0, 2, 3, 1, 0, 4, 12, 8, 16, 20, 24, 28, 2, 3, 1, 0, 4, 12, 8, 16, 20, 24, 28]
def sevenT (k : Nat) : Int := sevenL.getD k 0
def sevenS : ByteArray := { data := #[0, 0, 0, 0, 0, 0, 0, 0, 0, 0, 0, 0, 0, 0, 0, 0, 0, 0, 0, 0, 0, 0, 0, 0, 0, 0, 0, 0, 0, 0, 32, 0, 0, 0, 32, 0, 32, 0, 0, 0, 0, 0, 32, 0, 0, 0, 32, 0, 0, 32, 1, 1, 1, 1, 1, 1, 1, 1, 1, 1, 1, 1, 1, 0, 0, 0, 2, 3, 1, 0, 4, 12, 8, 16, 20, 24, 28, 2, 3, 1, 0, 4, 12, 8, 16, 20, 24, 28] }
theorem seven_at : ∀ k : Nat, k < 88 → sevenS[k]?.map (fun b : UInt8 => (b.toNat : Int)) = some (sevenT k) := by decide +kernel
theorem seven_size : sevenS.size = 88 := by decide +kernel
theorem seven_idx (k : Nat) (hk : k < 88) (w : World) : (Instr.index 9 (.string { data := #[0, 0, 0, 0, 0, 0, 0, 0, 0, 0, 0, 0, 0, 0, 0, 0, 0, 0, 0, 0, 0, 0, 0, 0, 0, 0, 0, 0, 0, 0, 32, 0, 0, 0, 32, 0, 32, 0, 0, 0, 0, 0, 32, 0, 0, 0, 32, 0, 0, 32, 1, 1, 1, 1, 1, 1, 1, 1, 1, 1, 1, 1, 1, 0, 0, 0, 2, 3, 1, 0, 4, 12, 8, 16, 20, 24, 28, 2, 3, 1, 0, 4, 12, 8, 16, 20, 24, 28] }) (.int .i64 (k : Int))).run Tryz.prog w = .ok (.int .u8 (sevenT k)) w := by
  have hs : (k : Int) < (sevenS.size : Int) := by rw [seven_size]; omega
  have h2 : k < sevenS.size := by rw [seven_size]; exact hk
  have := seven_at k hk
  rw [ByteArray.getElem?_lt' _ _ h2] at this
  have e : ((sevenS[k]).toNat : Int) = sevenT k := by simpa using this
  show (Instr.index 9 (.string sevenS) (.int .i64 (k : Int))).run Tryz.prog w = _
  rw [run_index_string w _ _ _ _ Tryz.underlying9, dif_pos ⟨by omega, hs⟩]
  rw [← e]; rfl
theorem fix_A : ∀ k : Nat, k < 88 → fmT k = 65 → bits BinOp.or IntKind.u32 (bits BinOp.or IntKind.u32 (codeT k % 4294967296) (threeT k % 4294967296 * 4096 % 4294967296)) (sevenT k % 4294967296 * 134217728 % 4294967296) = fixT k := by decide +kernel
theorem fix_O : ∀ k : Nat, k < 88 → k ≠ 65 → fmT k ≠ 65 → bits BinOp.or IntKind.u32 (bits BinOp.or IntKind.u32 (codeT k % 4294967296) (threeT k % 4294967296 * 4096 % 4294967296)) (sevenT k % 4294967296 * 33554432 % 4294967296) = fixT k := by decide +kernel
set_option maxHeartbeats 800000 in
theorem c_fixed (k : Nat) (hk : k < 88) (w : World) (hF : FT w) : Calls Tryz.prog 39 #[.int .i64 (k : Int)] w fun e w' => e = .returned (.int .u32 (fixT k)) ∧ Gr w w' := by
  have hc := hF k hk
  have dk : decide (k < 88) = true := decide_eq_true hk
  have hi1 := code_idx k hk
  have hi2 := three_idx k hk
  have hi3 := seven_idx k hk
  clear hF
  by_cases h65 : k = 65
  · have e65 : ((k : Int) == 65) = true := by simp; omega
    go_enter Tryz.func39, Tryz.ntmps39
    go_wp2
    go_quiet (fail)
    go_wp2
    go_ret
    refine ⟨ret_u32 ?_, by (first | exact Gr.drewN (Gr.refl _) _ | exact Gr.refl _ | go_grown)⟩
    subst h65
    decide +kernel
  · have e65 : ((k : Int) == 65) = false := by simp; omega
    by_cases hA : fmT k = 65
    · have eA : (fmT k == 65) = true := by simp [hA]
      have HA := Lib.hid hA
      clear hA
      go_enter Tryz.func39, Tryz.ntmps39
      go_wp2
      go_quiet (fail)
      go_wp2
      go_ret
      refine ⟨ret_u32 ?_, by (first | exact Gr.drewN (Gr.refl _) _ | exact Gr.refl _ | go_grown)⟩
      exact fix_A k hk HA.out
    · have eA : (fmT k == 65) = false := by simp [hA]
      have HA := Lib.hid hA
      clear hA
      go_enter Tryz.func39, Tryz.ntmps39
      go_wp2
      go_quiet (fail)
      go_wp2
      go_ret
      refine ⟨ret_u32 ?_, by (first | exact Gr.drewN (Gr.refl _) _ | exact Gr.refl _ | go_grown)⟩
      exact fix_O k hk h65 HA.out
end Go.Proofs.YtngeabphjdfdgaaGreatDoor.P
namespace Go.Proofs.YtngeabphjdfdgaaGreatDoor.P
open Go.RowKit
def maskL : List Int := [4294967295, 127, 127, 127, 28799, 28799, 28799, 28799, 28799, 28799, 28799, 28799, 28799, 28799, 28799, 28799, 28799, 28799, 28799, 28799, 28799, 28799, 28799, 28799, 28799, 28799, 28799, 28799, 4227887231, 4227887231, 4227887231, 28799, 4261441663, 4261441663, 4261441663, 4261441663, 4261441663, 4261441663, 4261441663, 4261441663, 4261441663, 4261441663, 4261441663, 4261441663, 4261441663, 4261441663, 4261441663, 4261441663, 4261441663, 4261441663, 4261441663, 4261441663, 4261441663, 4261441663, 4261441663, 4261441663, 4261441663, 4261441663, 4261441663, 4261441663, 4261441663, 4261441663, 4261441663, 4294967295, 4294967295, 4294967295, 4193284223, 4160778367, 4160778367, 4160778367, 4160778367, 4160778367, 4160778367, 4160778367, 4160778367, 4160778367, 4160778367, 4193284223, 4160778367, 4160778367, 4160778367, 4160778367, 4160778367, 4160778367, 4160778367, 4160778367, 4160778367, 4160778367]
def maskT (k : Nat) : Int := maskL.getD k 0
theorem mask_u32 : ∀ k : Nat, k < 88 → 0 ≤ maskT k ∧ maskT k < 4294967296 := by decide +kernel
theorem tmod_no {i m : Int} (hm : 0 < m) (h : ¬ i % m = 0) : (i.tmod m == 0) = false := by
  apply beq_eq_false_iff_ne.2
  intro e
  exact h (Int.emod_eq_zero_of_dvd (Int.dvd_of_tmod_eq_zero e))
theorem tmod_yes {i m : Int} (hm : 0 < m) (h : i % m = 0) : (i.tmod m == 0) = true := by
  have : i.tmod m = 0 := Int.tmod_eq_zero_of_dvd (Int.dvd_of_emod_eq_zero h)
  rw [this]; rfl
set_option maxHeartbeats 800000 in
theorem c_mask (k : Nat) (hk : k < 88) (h1 : 1 ≤ k) (w : World) (hF : FT w) : Calls Tryz.prog 38 #[.int .i64 (k : Int)] w fun e w' => e = .returned (.int .u32 (maskT k)) ∧ Gr w w' := by
  have hc := hF k hk
  clear hF
  have hm := fm_cases k hk h1
  rcases hm with hv | hv | hv | hv | hv | hv | hv | hv | hv | hv
  all_goals
    have HV := Lib.hid hv
    rw [hv] at hc
    clear hv
  rotate_left 8
  · have CR := Lib.hid (c_reserves (k : Int))
    by_cases hr : k = 66 ∨ k = 77
    · have er : (decide ((k : Int) = 66) || decide ((k : Int) = 77)) = true := by
        rcases hr with rfl | rfl <;> rfl
      rw [er] at CR
      have HR := Lib.hid hr
      clear hr er
      go_enter Tryz.func38, Tryz.ntmps38
      go_wp2_with (go_at_call 61; refine (CR.out _).mono ?_; rintro e w1 ⟨rfl, rfl⟩)
      go_ret
      refine ⟨ret_u32 ?_, by go_grown⟩
      have hr := HR.out
      rcases hr with rfl | rfl <;> decide +kernel
    · have er : (decide ((k : Int) = 66) || decide ((k : Int) = 77)) = false := by
        rw [decide_eq_false (by omega), decide_eq_false (by omega)]; rfl
      rw [er] at CR
      have HR := Lib.hid hr
      clear hr er
      go_enter Tryz.func38, Tryz.ntmps38
      go_wp2_with (go_at_call 61; refine (CR.out _).mono ?_; rintro e w1 ⟨rfl, rfl⟩)
      go_ret
      refine ⟨ret_u32 ?_, by go_grown⟩
      exact (by decide +kernel : ∀ k : Nat, k < 88 → fmT k = 65 → ¬ (k = 66 ∨ k = 77) → (4160778367 : Int) = maskT k) k hk HV.out HR.out
  all_goals
    go_enter Tryz.func38, Tryz.ntmps38
    go_wp2
    go_ret
    refine ⟨ret_u32 ?_, by go_grown⟩
    first
      | exact (by decide +kernel : ∀ k : Nat, k < 88 → fmT k = 78 → (4294967295 : Int) = maskT k) k hk HV.out
      | exact (by decide +kernel : ∀ k : Nat, k < 88 → fmT k = 85 → (127 : Int) = maskT k) k hk HV.out
      | exact (by decide +kernel : ∀ k : Nat, k < 88 → fmT k = 74 → (127 : Int) = maskT k) k hk HV.out
      | exact (by decide +kernel : ∀ k : Nat, k < 88 → fmT k = 73 → (28799 : Int) = maskT k) k hk HV.out
      | exact (by decide +kernel : ∀ k : Nat, k < 88 → fmT k = 66 → (28799 : Int) = maskT k) k hk HV.out
      | exact (by decide +kernel : ∀ k : Nat, k < 88 → fmT k = 83 → (28799 : Int) = maskT k) k hk HV.out
      | exact (by decide +kernel : ∀ k : Nat, k < 88 → fmT k = 72 → (4227887231 : Int) = maskT k) k hk HV.out
      | exact (by decide +kernel : ∀ k : Nat, k < 88 → fmT k = 86 → (4261441663 : Int) = maskT k) k hk HV.out
      | exact (by decide +kernel : ∀ k : Nat, k < 88 → fmT k = 82 → (4261441663 : Int) = maskT k) k hk HV.out
end Go.Proofs.YtngeabphjdfdgaaGreatDoor.P
namespace Go.Proofs.YtngeabphjdfdgaaGreatDoor.P
open Go.RowKit
def pk : List Nat → List Nat → Nat
  | [], _ => 0
  | _ :: _, [] => 0
  | n :: ws, v :: vs => v + 2 ^ n * pk ws vs
def okk : List Nat → List Nat → Prop
  | [], [] => True
  | [], _ :: _ => False
  | _ :: _, [] => False
  | n :: ws, v :: vs => v < 2 ^ n ∧ okk ws vs
def dj : List Nat → List Nat → Prop
  | [], _ => True
  | _ :: _, [] => True
  | u :: us, v :: vs => (u = 0 ∨ v = 0) ∧ dj us vs
theorem or_parts (n u v x y : Nat) (hu : u < 2 ^ n) (hv : v < 2 ^ n) (hd : u = 0 ∨ v = 0) (ih : x ||| y = x + y) : (u + 2 ^ n * x) ||| (v + 2 ^ n * y) = (u + 2 ^ n * x) + (v + 2 ^ n * y) := by
  rw [Nat.add_comm u, Nat.add_comm v, Nat.two_pow_add_eq_or_of_lt hu, Nat.two_pow_add_eq_or_of_lt hv]
  have e : (2 ^ n * x ||| u) ||| (2 ^ n * y ||| v) = (2 ^ n * x ||| 2 ^ n * y) ||| (u ||| v) := by
    apply Nat.eq_of_testBit_eq
    intro i
    simp only [Nat.testBit_or]
    cases (2 ^ n * x).testBit i <;> cases u.testBit i <;> cases (2 ^ n * y).testBit i <;> cases v.testBit i <;> rfl
  have e2 : 2 ^ n * x ||| 2 ^ n * y = 2 ^ n * (x ||| y) := by
    apply Nat.eq_of_testBit_eq
    intro i
    simp only [Nat.testBit_or, Nat.testBit_two_pow_mul]
    cases decide (i ≥ n) <;> simp
  have e3 : u ||| v = u + v := by
    rcases hd with h | h
    · rw [h, Nat.zero_or, Nat.zero_add]
    · rw [h, Nat.or_zero, Nat.add_zero]
  have hlt : u + v < 2 ^ n := by
    rcases hd with h | h
    · rw [h, Nat.zero_add]; exact hv
    · rw [h, Nat.add_zero]; exact hu
  rw [e, e2, e3, ih, ← Nat.two_pow_add_eq_or_of_lt hlt, Nat.mul_add]
  rw [← Nat.two_pow_add_eq_or_of_lt hu, ← Nat.two_pow_add_eq_or_of_lt hv]
  omega
theorem pk_or : ∀ (ws us vs : List Nat), okk ws us → okk ws vs → dj us vs → pk ws us ||| pk ws vs = pk ws us + pk ws vs
  | [], [], [], _, _, _ => rfl
  | n :: ws, u :: us, v :: vs, hu, hv, hd => or_parts n u v _ _ hu.1 hv.1 hd.1 (pk_or ws us vs hu.2 hv.2 hd.2)
  | [], _ :: _, _, h, _, _ => h.elim
  | [], [], _ :: _, _, h, _ => h.elim
  | _ :: _, [], _, h, _, _ => h.elim
  | _ :: _, _ :: _, [], _, h, _ => h.elim
theorem pk_lt : ∀ (ws us : List Nat), okk ws us → pk ws us < 2 ^ ws.sum
  | [], [], _ => by decide
  | n :: ws, u :: us, h => by
    have ih := pk_lt ws us h.2
    have h1 := h.1
    show u + 2 ^ n * pk ws us < 2 ^ (n + ws.sum)
    rw [Nat.pow_add]
    have : 2 ^ n * (pk ws us + 1) ≤ 2 ^ n * 2 ^ ws.sum := Nat.mul_le_mul_left _ ih
    rw [Nat.mul_add] at this
    omega
  | [], _ :: _, h => h.elim
  | _ :: _, [], h => h.elim
theorem orS (ws us vs : List Nat) {x y : Int} (hu : okk ws us) (hv : okk ws vs) (hd : dj us vs) (hs : ws.sum = 32) (ex : x = ((pk ws us : Nat) : Int)) (ey : y = ((pk ws vs : Nat) : Int)) : bits .or .u32 x y = x + y := by
  have a := pk_lt ws us hu
  have b := pk_lt ws vs hv
  rw [hs] at a b
  rw [ex, ey, u32_or_nat _ _ (by simpa using a) (by simpa using b), pk_or ws us vs hu hv hd]
  omega
theorem or0 {x : Int} (h0 : 0 ≤ x) (h1 : x < 4294967296) : bits .or .u32 x 0 = x := by
  obtain ⟨n, rfl⟩ : ∃ n : Nat, x = (n : Int) := ⟨x.toNat, by omega⟩
  have := u32_or_nat n 0 (by omega) (by decide)
  rw [Nat.or_zero] at this
  exact this
theorem or00 {x : Int} (h0 : 0 ≤ x) (h1 : x < 4294967296) : bits .or .u32 0 x = x := by
  obtain ⟨n, rfl⟩ : ∃ n : Nat, x = (n : Int) := ⟨x.toNat, by omega⟩
  have := u32_or_nat 0 n (by decide) (by omega)
  rw [Nat.zero_or] at this
  exact this
def encI (f y : Int) : Int :=
  if f = 85 then y / 4096 % 1048576 * 4096 else
  if f = 74 then y / 1048576 % 2 * 2147483648 + y / 2 % 1024 * 2097152 + y / 2048 % 2 * 1048576 + y / 4096 % 256 * 4096 else
  if f = 73 then y % 4096 * 1048576 else
  if f = 66 then y / 4096 % 2 * 2147483648 + y / 32 % 64 * 33554432 + y / 2 % 16 * 256 + y / 2048 % 2 * 128 else
  if f = 83 then y / 32 % 128 * 33554432 + y % 32 * 128 else
  if f = 72 then y * 1048576 else
  if f = 86 then y * 1048576 else
  if f = 65 then y * 33554432 else 0
def encF (k : Nat) (rd a b i : Int) : Int := fixT k + rd * 128 + a * 32768 + b * 1048576 + encI (fmT k) (i % 4294967296)
/-- What an opcode's fixed bits are made of. -/
theorem fix_u : ∀ k : Nat, k < 88 → (fmT k = 85 ∨ fmT k = 74) → fixT k < 128 := by decide +kernel
theorem fix_i : ∀ k : Nat, k < 88 → (fmT k = 73 ∨ fmT k = 66 ∨ fmT k = 83) → fixT k / 32768 = 0 ∧ fixT k % 4096 < 128 := by decide +kernel
theorem fix_h : ∀ k : Nat, k < 88 → fmT k = 72 → fixT k % 4096 < 128 ∧ fixT k / 32768 % 2048 = 0 := by decide +kernel
theorem fix_v : ∀ k : Nat, k < 88 → (fmT k = 86 ∨ fmT k = 82) → fixT k % 4096 < 128 ∧ fixT k / 32768 % 1024 = 0 := by decide +kernel
theorem fix_a : ∀ k : Nat, k < 88 → fmT k = 65 → fixT k % 4096 < 128 ∧ fixT k / 32768 % 4096 = 0 := by decide +kernel
set_option maxHeartbeats 800000 in
theorem enc_or_85 (k : Nat) (hk : k < 88) (hv : fmT k = 85) (rd i : Int) (hrd : 0 ≤ rd ∧ rd < 32) :
    bits BinOp.or IntKind.u32 (bits BinOp.or IntKind.u32 (fixT k) (bits BinOp.or IntKind.u32 (bits BinOp.or IntKind.u32 (rd * 128) 0) 0)) (i % 4294967296 / 4096 % 1048576 * 4096) = encF k rd 0 0 i := by
  have hp := fix_u k hk (.inl hv)
  have hx := fix_u32 k hk
  unfold encF encI
  rw [hv]
  simp only [Int.reduceEq, if_false, if_true]
  clear hv hk
  generalize fixT k = f at *
  obtain ⟨c, hc⟩ : ∃ n : Nat, f = (n : Int) := ⟨(f).toNat, by omega⟩
  obtain ⟨r, hr⟩ : ∃ n : Nat, rd = (n : Int) := ⟨(rd).toNat, by omega⟩
  obtain ⟨m, hm⟩ : ∃ n : Nat, i % 4294967296 / 4096 % 1048576 = (n : Int) := ⟨(i % 4294967296 / 4096 % 1048576).toNat, by omega⟩
  rw [or0 (x := rd * 128) (by omega) (by omega)]
  rw [or0 (x := rd * 128) (by omega) (by omega)]
  rw [orS [7, 5, 20] [c, 0, 0] [0, r, 0] (x := f) (y := rd * 128) (by simp only [okk, Nat.reducePow, and_true]; omega) (by simp only [okk, Nat.reducePow, and_true]; omega) (by simp [dj]) (by decide) (by simp only [pk, Nat.reducePow]; omega) (by simp only [pk, Nat.reducePow]; omega)]
  rw [orS [7, 5, 20] [c, r, 0] [0, 0, m] (x := f + rd * 128) (y := i % 4294967296 / 4096 % 1048576 * 4096) (by simp only [okk, Nat.reducePow, and_true]; omega) (by simp only [okk, Nat.reducePow, and_true]; omega) (by simp [dj]) (by decide) (by simp only [pk, Nat.reducePow]; omega) (by simp only [pk, Nat.reducePow]; omega)]
  omega
set_option maxHeartbeats 800000 in
theorem enc_or_74 (k : Nat) (hk : k < 88) (hv : fmT k = 74) (rd i : Int) (hrd : 0 ≤ rd ∧ rd < 32) :
    bits BinOp.or IntKind.u32 (bits BinOp.or IntKind.u32 (fixT k) (bits BinOp.or IntKind.u32 (bits BinOp.or IntKind.u32 (rd * 128) 0) 0)) (bits BinOp.or IntKind.u32 (bits BinOp.or IntKind.u32 (bits BinOp.or IntKind.u32 (i % 4294967296 / 1048576 % 2 * 2147483648) (i % 4294967296 / 2 % 1024 * 2097152)) (i % 4294967296 / 2048 % 2 * 1048576)) (i % 4294967296 / 4096 % 256 * 4096)) = encF k rd 0 0 i := by
  have hp := fix_u k hk (.inr hv)
  have hx := fix_u32 k hk
  unfold encF encI
  rw [hv]
  simp only [Int.reduceEq, if_false, if_true]
  clear hv hk
  generalize fixT k = f at *
  obtain ⟨c, hc⟩ : ∃ n : Nat, f = (n : Int) := ⟨(f).toNat, by omega⟩
  obtain ⟨r, hr⟩ : ∃ n : Nat, rd = (n : Int) := ⟨(rd).toNat, by omega⟩
  obtain ⟨m0, hm0⟩ : ∃ n : Nat, i % 4294967296 / 1048576 % 2 = (n : Int) := ⟨(i % 4294967296 / 1048576 % 2).toNat, by omega⟩
  obtain ⟨m1, hm1⟩ : ∃ n : Nat, i % 4294967296 / 2 % 1024 = (n : Int) := ⟨(i % 4294967296 / 2 % 1024).toNat, by omega⟩
  obtain ⟨m2, hm2⟩ : ∃ n : Nat, i % 4294967296 / 2048 % 2 = (n : Int) := ⟨(i % 4294967296 / 2048 % 2).toNat, by omega⟩
  obtain ⟨m3, hm3⟩ : ∃ n : Nat, i % 4294967296 / 4096 % 256 = (n : Int) := ⟨(i % 4294967296 / 4096 % 256).toNat, by omega⟩
  rw [or0 (x := rd * 128) (by omega) (by omega)]
  rw [or0 (x := rd * 128) (by omega) (by omega)]
  rw [orS [7, 5, 8, 1, 10, 1] [c, 0, 0, 0, 0, 0] [0, r, 0, 0, 0, 0] (x := f) (y := rd * 128) (by simp only [okk, Nat.reducePow, and_true]; omega) (by simp only [okk, Nat.reducePow, and_true]; omega) (by simp [dj]) (by decide) (by simp only [pk, Nat.reducePow]; omega) (by simp only [pk, Nat.reducePow]; omega)]
  rw [orS [7, 5, 8, 1, 10, 1] [0, 0, 0, 0, 0, m0] [0, 0, 0, 0, m1, 0] (x := i % 4294967296 / 1048576 % 2 * 2147483648) (y := i % 4294967296 / 2 % 1024 * 2097152) (by simp only [okk, Nat.reducePow, and_true]; omega) (by simp only [okk, Nat.reducePow, and_true]; omega) (by simp [dj]) (by decide) (by simp only [pk, Nat.reducePow]; omega) (by simp only [pk, Nat.reducePow]; omega)]
  rw [orS [7, 5, 8, 1, 10, 1] [0, 0, 0, 0, m1, m0] [0, 0, 0, m2, 0, 0] (x := i % 4294967296 / 1048576 % 2 * 2147483648 + i % 4294967296 / 2 % 1024 * 2097152) (y := i % 4294967296 / 2048 % 2 * 1048576) (by simp only [okk, Nat.reducePow, and_true]; omega) (by simp only [okk, Nat.reducePow, and_true]; omega) (by simp [dj]) (by decide) (by simp only [pk, Nat.reducePow]; omega) (by simp only [pk, Nat.reducePow]; omega)]
  rw [orS [7, 5, 8, 1, 10, 1] [0, 0, 0, m2, m1, m0] [0, 0, m3, 0, 0, 0] (x := i % 4294967296 / 1048576 % 2 * 2147483648 + i % 4294967296 / 2 % 1024 * 2097152 + i % 4294967296 / 2048 % 2 * 1048576) (y := i % 4294967296 / 4096 % 256 * 4096) (by simp only [okk, Nat.reducePow, and_true]; omega) (by simp only [okk, Nat.reducePow, and_true]; omega) (by simp [dj]) (by decide) (by simp only [pk, Nat.reducePow]; omega) (by simp only [pk, Nat.reducePow]; omega)]
  rw [orS [7, 5, 8, 1, 10, 1] [c, r, 0, 0, 0, 0] [0, 0, m3, m2, m1, m0] (x := f + rd * 128) (y := i % 4294967296 / 1048576 % 2 * 2147483648 + i % 4294967296 / 2 % 1024 * 2097152 + i % 4294967296 / 2048 % 2 * 1048576 + i % 4294967296 / 4096 % 256 * 4096) (by simp only [okk, Nat.reducePow, and_true]; omega) (by simp only [okk, Nat.reducePow, and_true]; omega) (by simp [dj]) (by decide) (by simp only [pk, Nat.reducePow]; omega) (by simp only [pk, Nat.reducePow]; omega)]
  omega
set_option maxHeartbeats 800000 in
theorem enc_or_73 (k : Nat) (hk : k < 88) (hv : fmT k = 73) (rd a i : Int) (hrd : 0 ≤ rd ∧ rd < 32) (ha : 0 ≤ a ∧ a < 32) :
    bits BinOp.or IntKind.u32 (bits BinOp.or IntKind.u32 (fixT k) (bits BinOp.or IntKind.u32 (bits BinOp.or IntKind.u32 (rd * 128) (a * 32768)) 0)) (i % 4096 * 1048576) = encF k rd a 0 i := by
  have hp := fix_i k hk (.inl hv)
  have hx := fix_u32 k hk
  unfold encF encI
  rw [hv]
  simp only [Int.reduceEq, if_false, if_true]
  clear hv hk
  generalize fixT k = f at *
  obtain ⟨c, hc⟩ : ∃ n : Nat, f % 4096 = (n : Int) := ⟨(f % 4096).toNat, by omega⟩
  obtain ⟨g, hg⟩ : ∃ n : Nat, f / 4096 % 8 = (n : Int) := ⟨(f / 4096 % 8).toNat, by omega⟩
  obtain ⟨r, hr⟩ : ∃ n : Nat, rd = (n : Int) := ⟨(rd).toNat, by omega⟩
  obtain ⟨u, hu⟩ : ∃ n : Nat, a = (n : Int) := ⟨(a).toNat, by omega⟩
  obtain ⟨m, hm⟩ : ∃ n : Nat, i % 4096 = (n : Int) := ⟨(i % 4096).toNat, by omega⟩
  rw [orS [7, 5, 3, 5, 12] [0, r, 0, 0, 0] [0, 0, 0, u, 0] (x := rd * 128) (y := a * 32768) (by simp only [okk, Nat.reducePow, and_true]; omega) (by simp only [okk, Nat.reducePow, and_true]; omega) (by simp [dj]) (by decide) (by simp only [pk, Nat.reducePow]; omega) (by simp only [pk, Nat.reducePow]; omega)]
  rw [or0 (x := rd * 128 + a * 32768) (by omega) (by omega)]
  rw [orS [7, 5, 3, 5, 12] [c, 0, g, 0, 0] [0, r, 0, u, 0] (x := f) (y := rd * 128 + a * 32768) (by simp only [okk, Nat.reducePow, and_true]; omega) (by simp only [okk, Nat.reducePow, and_true]; omega) (by simp [dj]) (by decide) (by simp only [pk, Nat.reducePow]; omega) (by simp only [pk, Nat.reducePow]; omega)]
  rw [orS [7, 5, 3, 5, 12] [c, r, g, u, 0] [0, 0, 0, 0, m] (x := f + (rd * 128 + a * 32768)) (y := i % 4096 * 1048576) (by simp only [okk, Nat.reducePow, and_true]; omega) (by simp only [okk, Nat.reducePow, and_true]; omega) (by simp [dj]) (by decide) (by simp only [pk, Nat.reducePow]; omega) (by simp only [pk, Nat.reducePow]; omega)]
  omega
set_option maxHeartbeats 800000 in
theorem enc_or_66 (k : Nat) (hk : k < 88) (hv : fmT k = 66) (a b i : Int) (ha : 0 ≤ a ∧ a < 32) (hb : 0 ≤ b ∧ b < 32) :
    bits BinOp.or IntKind.u32 (bits BinOp.or IntKind.u32 (fixT k) (bits BinOp.or IntKind.u32 (bits BinOp.or IntKind.u32 0 (a * 32768)) (b * 1048576))) (bits BinOp.or IntKind.u32 (bits BinOp.or IntKind.u32 (bits BinOp.or IntKind.u32 (i % 4294967296 / 4096 % 2 * 2147483648) (i % 4294967296 / 32 % 64 * 33554432)) (i % 4294967296 / 2 % 16 * 256)) (i % 4294967296 / 2048 % 2 * 128)) = encF k 0 a b i := by
  have hp := fix_i k hk (.inr (.inl hv))
  have hx := fix_u32 k hk
  unfold encF encI
  rw [hv]
  simp only [Int.reduceEq, if_false, if_true]
  clear hv hk
  generalize fixT k = f at *
  obtain ⟨c, hc⟩ : ∃ n : Nat, f % 4096 = (n : Int) := ⟨(f % 4096).toNat, by omega⟩
  obtain ⟨g, hg⟩ : ∃ n : Nat, f / 4096 % 8 = (n : Int) := ⟨(f / 4096 % 8).toNat, by omega⟩
  obtain ⟨u, hu⟩ : ∃ n : Nat, a = (n : Int) := ⟨(a).toNat, by omega⟩
  obtain ⟨v, hv2⟩ : ∃ n : Nat, b = (n : Int) := ⟨(b).toNat, by omega⟩
  obtain ⟨m0, hm0⟩ : ∃ n : Nat, i % 4294967296 / 4096 % 2 = (n : Int) := ⟨(i % 4294967296 / 4096 % 2).toNat, by omega⟩
  obtain ⟨m1, hm1⟩ : ∃ n : Nat, i % 4294967296 / 32 % 64 = (n : Int) := ⟨(i % 4294967296 / 32 % 64).toNat, by omega⟩
  obtain ⟨m2, hm2⟩ : ∃ n : Nat, i % 4294967296 / 2 % 16 = (n : Int) := ⟨(i % 4294967296 / 2 % 16).toNat, by omega⟩
  obtain ⟨m3, hm3⟩ : ∃ n : Nat, i % 4294967296 / 2048 % 2 = (n : Int) := ⟨(i % 4294967296 / 2048 % 2).toNat, by omega⟩
  rw [or00 (x := a * 32768) (by omega) (by omega)]
  rw [orS [7, 1, 4, 3, 5, 5, 6, 1] [0, 0, 0, 0, u, 0, 0, 0] [0, 0, 0, 0, 0, v, 0, 0] (x := a * 32768) (y := b * 1048576) (by simp only [okk, Nat.reducePow, and_true]; omega) (by simp only [okk, Nat.reducePow, and_true]; omega) (by simp [dj]) (by decide) (by simp only [pk, Nat.reducePow]; omega) (by simp only [pk, Nat.reducePow]; omega)]
  rw [orS [7, 1, 4, 3, 5, 5, 6, 1] [c, 0, 0, g, 0, 0, 0, 0] [0, 0, 0, 0, u, v, 0, 0] (x := f) (y := a * 32768 + b * 1048576) (by simp only [okk, Nat.reducePow, and_true]; omega) (by simp only [okk, Nat.reducePow, and_true]; omega) (by simp [dj]) (by decide) (by simp only [pk, Nat.reducePow]; omega) (by simp only [pk, Nat.reducePow]; omega)]
  rw [orS [7, 1, 4, 3, 5, 5, 6, 1] [0, 0, 0, 0, 0, 0, 0, m0] [0, 0, 0, 0, 0, 0, m1, 0] (x := i % 4294967296 / 4096 % 2 * 2147483648) (y := i % 4294967296 / 32 % 64 * 33554432) (by simp only [okk, Nat.reducePow, and_true]; omega) (by simp only [okk, Nat.reducePow, and_true]; omega) (by simp [dj]) (by decide) (by simp only [pk, Nat.reducePow]; omega) (by simp only [pk, Nat.reducePow]; omega)]
  rw [orS [7, 1, 4, 3, 5, 5, 6, 1] [0, 0, 0, 0, 0, 0, m1, m0] [0, 0, m2, 0, 0, 0, 0, 0] (x := i % 4294967296 / 4096 % 2 * 2147483648 + i % 4294967296 / 32 % 64 * 33554432) (y := i % 4294967296 / 2 % 16 * 256) (by simp only [okk, Nat.reducePow, and_true]; omega) (by simp only [okk, Nat.reducePow, and_true]; omega) (by simp [dj]) (by decide) (by simp only [pk, Nat.reducePow]; omega) (by simp only [pk, Nat.reducePow]; omega)]
  rw [orS [7, 1, 4, 3, 5, 5, 6, 1] [0, 0, m2, 0, 0, 0, m1, m0] [0, m3, 0, 0, 0, 0, 0, 0] (x := i % 4294967296 / 4096 % 2 * 2147483648 + i % 4294967296 / 32 % 64 * 33554432 + i % 4294967296 / 2 % 16 * 256) (y := i % 4294967296 / 2048 % 2 * 128) (by simp only [okk, Nat.reducePow, and_true]; omega) (by simp only [okk, Nat.reducePow, and_true]; omega) (by simp [dj]) (by decide) (by simp only [pk, Nat.reducePow]; omega) (by simp only [pk, Nat.reducePow]; omega)]
  rw [orS [7, 1, 4, 3, 5, 5, 6, 1] [c, 0, 0, g, u, v, 0, 0] [0, m3, m2, 0, 0, 0, m1, m0] (x := f + (a * 32768 + b * 1048576)) (y := i % 4294967296 / 4096 % 2 * 2147483648 + i % 4294967296 / 32 % 64 * 33554432 + i % 4294967296 / 2 % 16 * 256 + i % 4294967296 / 2048 % 2 * 128) (by simp only [okk, Nat.reducePow, and_true]; omega) (by simp only [okk, Nat.reducePow, and_true]; omega) (by simp [dj]) (by decide) (by simp only [pk, Nat.reducePow]; omega) (by simp only [pk, Nat.reducePow]; omega)]
  omega
set_option maxHeartbeats 800000 in
theorem enc_or_83 (k : Nat) (hk : k < 88) (hv : fmT k = 83) (a b i : Int) (ha : 0 ≤ a ∧ a < 32) (hb : 0 ≤ b ∧ b < 32) :
    bits BinOp.or IntKind.u32 (bits BinOp.or IntKind.u32 (fixT k) (bits BinOp.or IntKind.u32 (bits BinOp.or IntKind.u32 0 (a * 32768)) (b * 1048576))) (bits BinOp.or IntKind.u32 (i % 4294967296 / 32 % 128 * 33554432) (i % 32 * 128)) = encF k 0 a b i := by
  have hp := fix_i k hk (.inr (.inr hv))
  have hx := fix_u32 k hk
  unfold encF encI
  rw [hv]
  simp only [Int.reduceEq, if_false, if_true]
  clear hv hk
  generalize fixT k = f at *
  obtain ⟨c, hc⟩ : ∃ n : Nat, f % 4096 = (n : Int) := ⟨(f % 4096).toNat, by omega⟩
  obtain ⟨g, hg⟩ : ∃ n : Nat, f / 4096 % 8 = (n : Int) := ⟨(f / 4096 % 8).toNat, by omega⟩
  obtain ⟨u, hu⟩ : ∃ n : Nat, a = (n : Int) := ⟨(a).toNat, by omega⟩
  obtain ⟨v, hv2⟩ : ∃ n : Nat, b = (n : Int) := ⟨(b).toNat, by omega⟩
  obtain ⟨m0, hm0⟩ : ∃ n : Nat, i % 4294967296 / 32 % 128 = (n : Int) := ⟨(i % 4294967296 / 32 % 128).toNat, by omega⟩
  obtain ⟨m1, hm1⟩ : ∃ n : Nat, i % 32 = (n : Int) := ⟨(i % 32).toNat, by omega⟩
  rw [or00 (x := a * 32768) (by omega) (by omega)]
  rw [orS [7, 5, 3, 5, 5, 7] [0, 0, 0, u, 0, 0] [0, 0, 0, 0, v, 0] (x := a * 32768) (y := b * 1048576) (by simp only [okk, Nat.reducePow, and_true]; omega) (by simp only [okk, Nat.reducePow, and_true]; omega) (by simp [dj]) (by decide) (by simp only [pk, Nat.reducePow]; omega) (by simp only [pk, Nat.reducePow]; omega)]
  rw [orS [7, 5, 3, 5, 5, 7] [c, 0, g, 0, 0, 0] [0, 0, 0, u, v, 0] (x := f) (y := a * 32768 + b * 1048576) (by simp only [okk, Nat.reducePow, and_true]; omega) (by simp only [okk, Nat.reducePow, and_true]; omega) (by simp [dj]) (by decide) (by simp only [pk, Nat.reducePow]; omega) (by simp only [pk, Nat.reducePow]; omega)]
  rw [orS [7, 5, 3, 5, 5, 7] [0, 0, 0, 0, 0, m0] [0, m1, 0, 0, 0, 0] (x := i % 4294967296 / 32 % 128 * 33554432) (y := i % 32 * 128) (by simp only [okk, Nat.reducePow, and_true]; omega) (by simp only [okk, Nat.reducePow, and_true]; omega) (by simp [dj]) (by decide) (by simp only [pk, Nat.reducePow]; omega) (by simp only [pk, Nat.reducePow]; omega)]
  rw [orS [7, 5, 3, 5, 5, 7] [c, 0, g, u, v, 0] [0, m1, 0, 0, 0, m0] (x := f + (a * 32768 + b * 1048576)) (y := i % 4294967296 / 32 % 128 * 33554432 + i % 32 * 128) (by simp only [okk, Nat.reducePow, and_true]; omega) (by simp only [okk, Nat.reducePow, and_true]; omega) (by simp [dj]) (by decide) (by simp only [pk, Nat.reducePow]; omega) (by simp only [pk, Nat.reducePow]; omega)]
  omega
set_option maxHeartbeats 800000 in
theorem enc_or_72 (k : Nat) (hk : k < 88) (hv : fmT k = 72) (rd a i : Int) (hrd : 0 ≤ rd ∧ rd < 32) (ha : 0 ≤ a ∧ a < 32) (hi : 0 ≤ i ∧ i < 64) :
    bits BinOp.or IntKind.u32 (bits BinOp.or IntKind.u32 (fixT k) (bits BinOp.or IntKind.u32 (bits BinOp.or IntKind.u32 (rd * 128) (a * 32768)) 0)) (i % 4294967296 * 1048576 % 4294967296) = encF k rd a 0 i := by
  have hp := fix_h k hk hv
  have hx := fix_u32 k hk
  unfold encF encI
  rw [hv]
  simp only [Int.reduceEq, if_false, if_true]
  clear hv hk
  generalize fixT k = f at *
  rw [show i % 4294967296 * 1048576 % 4294967296 = i * 1048576 by omega]
  obtain ⟨c, hc⟩ : ∃ n : Nat, f % 4096 = (n : Int) := ⟨(f % 4096).toNat, by omega⟩
  obtain ⟨g, hg⟩ : ∃ n : Nat, f / 4096 % 8 = (n : Int) := ⟨(f / 4096 % 8).toNat, by omega⟩
  obtain ⟨s, hs⟩ : ∃ n : Nat, f / 67108864 = (n : Int) := ⟨(f / 67108864).toNat, by omega⟩
  obtain ⟨r, hr⟩ : ∃ n : Nat, rd = (n : Int) := ⟨(rd).toNat, by omega⟩
  obtain ⟨u, hu⟩ : ∃ n : Nat, a = (n : Int) := ⟨(a).toNat, by omega⟩
  obtain ⟨m, hm⟩ : ∃ n : Nat, i = (n : Int) := ⟨(i).toNat, by omega⟩
  rw [orS [7, 5, 3, 5, 6, 6] [0, r, 0, 0, 0, 0] [0, 0, 0, u, 0, 0] (x := rd * 128) (y := a * 32768) (by simp only [okk, Nat.reducePow, and_true]; omega) (by simp only [okk, Nat.reducePow, and_true]; omega) (by simp [dj]) (by decide) (by simp only [pk, Nat.reducePow]; omega) (by simp only [pk, Nat.reducePow]; omega)]
  rw [or0 (x := rd * 128 + a * 32768) (by omega) (by omega)]
  rw [orS [7, 5, 3, 5, 6, 6] [c, 0, g, 0, 0, s] [0, r, 0, u, 0, 0] (x := f) (y := rd * 128 + a * 32768) (by simp only [okk, Nat.reducePow, and_true]; omega) (by simp only [okk, Nat.reducePow, and_true]; omega) (by simp [dj]) (by decide) (by simp only [pk, Nat.reducePow]; omega) (by simp only [pk, Nat.reducePow]; omega)]
  rw [orS [7, 5, 3, 5, 6, 6] [c, r, g, u, 0, s] [0, 0, 0, 0, m, 0] (x := f + (rd * 128 + a * 32768)) (y := i * 1048576) (by simp only [okk, Nat.reducePow, and_true]; omega) (by simp only [okk, Nat.reducePow, and_true]; omega) (by simp [dj]) (by decide) (by simp only [pk, Nat.reducePow]; omega) (by simp only [pk, Nat.reducePow]; omega)]
  omega
set_option maxHeartbeats 800000 in
theorem enc_or_86 (k : Nat) (hk : k < 88) (hv : fmT k = 86) (rd a i : Int) (hrd : 0 ≤ rd ∧ rd < 32) (ha : 0 ≤ a ∧ a < 32) (hi : 0 ≤ i ∧ i < 32) :
    bits BinOp.or IntKind.u32 (bits BinOp.or IntKind.u32 (fixT k) (bits BinOp.or IntKind.u32 (bits BinOp.or IntKind.u32 (rd * 128) (a * 32768)) 0)) (i % 4294967296 * 1048576 % 4294967296) = encF k rd a 0 i := by
  have hp := fix_v k hk (.inl hv)
  have hx := fix_u32 k hk
  unfold encF encI
  rw [hv]
  simp only [Int.reduceEq, if_false, if_true]
  clear hv hk
  generalize fixT k = f at *
  rw [show i % 4294967296 * 1048576 % 4294967296 = i * 1048576 by omega]
  obtain ⟨c, hc⟩ : ∃ n : Nat, f % 4096 = (n : Int) := ⟨(f % 4096).toNat, by omega⟩
  obtain ⟨g, hg⟩ : ∃ n : Nat, f / 4096 % 8 = (n : Int) := ⟨(f / 4096 % 8).toNat, by omega⟩
  obtain ⟨s, hs⟩ : ∃ n : Nat, f / 33554432 = (n : Int) := ⟨(f / 33554432).toNat, by omega⟩
  obtain ⟨r, hr⟩ : ∃ n : Nat, rd = (n : Int) := ⟨(rd).toNat, by omega⟩
  obtain ⟨u, hu⟩ : ∃ n : Nat, a = (n : Int) := ⟨(a).toNat, by omega⟩
  obtain ⟨m, hm⟩ : ∃ n : Nat, i = (n : Int) := ⟨(i).toNat, by omega⟩
  rw [orS [7, 5, 3, 5, 5, 7] [0, r, 0, 0, 0, 0] [0, 0, 0, u, 0, 0] (x := rd * 128) (y := a * 32768) (by simp only [okk, Nat.reducePow, and_true]; omega) (by simp only [okk, Nat.reducePow, and_true]; omega) (by simp [dj]) (by decide) (by simp only [pk, Nat.reducePow]; omega) (by simp only [pk, Nat.reducePow]; omega)]
  rw [or0 (x := rd * 128 + a * 32768) (by omega) (by omega)]
  rw [orS [7, 5, 3, 5, 5, 7] [c, 0, g, 0, 0, s] [0, r, 0, u, 0, 0] (x := f) (y := rd * 128 + a * 32768) (by simp only [okk, Nat.reducePow, and_true]; omega) (by simp only [okk, Nat.reducePow, and_true]; omega) (by simp [dj]) (by decide) (by simp only [pk, Nat.reducePow]; omega) (by simp only [pk, Nat.reducePow]; omega)]
  rw [orS [7, 5, 3, 5, 5, 7] [c, r, g, u, 0, s] [0, 0, 0, 0, m, 0] (x := f + (rd * 128 + a * 32768)) (y := i * 1048576) (by simp only [okk, Nat.reducePow, and_true]; omega) (by simp only [okk, Nat.reducePow, and_true]; omega) (by simp [dj]) (by decide) (by simp only [pk, Nat.reducePow]; omega) (by simp only [pk, Nat.reducePow]; omega)]
  omega
set_option maxHeartbeats 800000 in
theorem enc_or_82 (k : Nat) (hk : k < 88) (hv : fmT k = 82) (rd a b i : Int) (hrd : 0 ≤ rd ∧ rd < 32) (ha : 0 ≤ a ∧ a < 32) (hb : 0 ≤ b ∧ b < 32) :
    bits BinOp.or IntKind.u32 (fixT k) (bits BinOp.or IntKind.u32 (bits BinOp.or IntKind.u32 (rd * 128) (a * 32768)) (b * 1048576)) = encF k rd a b i := by
  have hp := fix_v k hk (.inr hv)
  have hx := fix_u32 k hk
  unfold encF encI
  rw [hv]
  simp only [Int.reduceEq, if_false, if_true]
  clear hv hk
  generalize fixT k = f at *
  obtain ⟨c, hc⟩ : ∃ n : Nat, f % 4096 = (n : Int) := ⟨(f % 4096).toNat, by omega⟩
  obtain ⟨g, hg⟩ : ∃ n : Nat, f / 4096 % 8 = (n : Int) := ⟨(f / 4096 % 8).toNat, by omega⟩
  obtain ⟨s, hs⟩ : ∃ n : Nat, f / 33554432 = (n : Int) := ⟨(f / 33554432).toNat, by omega⟩
  obtain ⟨r, hr⟩ : ∃ n : Nat, rd = (n : Int) := ⟨(rd).toNat, by omega⟩
  obtain ⟨u, hu⟩ : ∃ n : Nat, a = (n : Int) := ⟨(a).toNat, by omega⟩
  obtain ⟨v, hv2⟩ : ∃ n : Nat, b = (n : Int) := ⟨(b).toNat, by omega⟩
  rw [orS [7, 5, 3, 5, 5, 7] [0, r, 0, 0, 0, 0] [0, 0, 0, u, 0, 0] (x := rd * 128) (y := a * 32768) (by simp only [okk, Nat.reducePow, and_true]; omega) (by simp only [okk, Nat.reducePow, and_true]; omega) (by simp [dj]) (by decide) (by simp only [pk, Nat.reducePow]; omega) (by simp only [pk, Nat.reducePow]; omega)]
  rw [orS [7, 5, 3, 5, 5, 7] [0, r, 0, u, 0, 0] [0, 0, 0, 0, v, 0] (x := rd * 128 + a * 32768) (y := b * 1048576) (by simp only [okk, Nat.reducePow, and_true]; omega) (by simp only [okk, Nat.reducePow, and_true]; omega) (by simp [dj]) (by decide) (by simp only [pk, Nat.reducePow]; omega) (by simp only [pk, Nat.reducePow]; omega)]
  rw [orS [7, 5, 3, 5, 5, 7] [c, 0, g, 0, 0, s] [0, r, 0, u, v, 0] (x := f) (y := rd * 128 + a * 32768 + b * 1048576) (by simp only [okk, Nat.reducePow, and_true]; omega) (by simp only [okk, Nat.reducePow, and_true]; omega) (by simp [dj]) (by decide) (by simp only [pk, Nat.reducePow]; omega) (by simp only [pk, Nat.reducePow]; omega)]
  omega
set_option maxHeartbeats 800000 in
theorem enc_or_65 (k : Nat) (hk : k < 88) (hv : fmT k = 65) (rd a b i : Int) (hrd : 0 ≤ rd ∧ rd < 32) (ha : 0 ≤ a ∧ a < 32) (hb : 0 ≤ b ∧ b < 32) (hi : 0 ≤ i ∧ i < 4) :
    bits BinOp.or IntKind.u32 (bits BinOp.or IntKind.u32 (fixT k) (bits BinOp.or IntKind.u32 (bits BinOp.or IntKind.u32 (rd * 128) (a * 32768)) (b * 1048576))) (i % 4294967296 * 33554432 % 4294967296) = encF k rd a b i := by
  have hp := fix_a k hk hv
  have hx := fix_u32 k hk
  unfold encF encI
  rw [hv]
  simp only [Int.reduceEq, if_false, if_true]
  clear hv hk
  generalize fixT k = f at *
  rw [show i % 4294967296 * 33554432 % 4294967296 = i * 33554432 by omega]
  obtain ⟨c, hc⟩ : ∃ n : Nat, f % 4096 = (n : Int) := ⟨(f % 4096).toNat, by omega⟩
  obtain ⟨g, hg⟩ : ∃ n : Nat, f / 4096 % 8 = (n : Int) := ⟨(f / 4096 % 8).toNat, by omega⟩
  obtain ⟨s, hs⟩ : ∃ n : Nat, f / 134217728 = (n : Int) := ⟨(f / 134217728).toNat, by omega⟩
  obtain ⟨r, hr⟩ : ∃ n : Nat, rd = (n : Int) := ⟨(rd).toNat, by omega⟩
  obtain ⟨u, hu⟩ : ∃ n : Nat, a = (n : Int) := ⟨(a).toNat, by omega⟩
  obtain ⟨v, hv2⟩ : ∃ n : Nat, b = (n : Int) := ⟨(b).toNat, by omega⟩
  obtain ⟨m, hm⟩ : ∃ n : Nat, i = (n : Int) := ⟨(i).toNat, by omega⟩
  rw [orS [7, 5, 3, 5, 5, 2, 5] [0, r, 0, 0, 0, 0, 0] [0, 0, 0, u, 0, 0, 0] (x := rd * 128) (y := a * 32768) (by simp only [okk, Nat.reducePow, and_true]; omega) (by simp only [okk, Nat.reducePow, and_true]; omega) (by simp [dj]) (by decide) (by simp only [pk, Nat.reducePow]; omega) (by simp only [pk, Nat.reducePow]; omega)]
  rw [orS [7, 5, 3, 5, 5, 2, 5] [0, r, 0, u, 0, 0, 0] [0, 0, 0, 0, v, 0, 0] (x := rd * 128 + a * 32768) (y := b * 1048576) (by simp only [okk, Nat.reducePow, and_true]; omega) (by simp only [okk, Nat.reducePow, and_true]; omega) (by simp [dj]) (by decide) (by simp only [pk, Nat.reducePow]; omega) (by simp only [pk, Nat.reducePow]; omega)]
  rw [orS [7, 5, 3, 5, 5, 2, 5] [c, 0, g, 0, 0, 0, s] [0, r, 0, u, v, 0, 0] (x := f) (y := rd * 128 + a * 32768 + b * 1048576) (by simp only [okk, Nat.reducePow, and_true]; omega) (by simp only [okk, Nat.reducePow, and_true]; omega) (by simp [dj]) (by decide) (by simp only [pk, Nat.reducePow]; omega) (by simp only [pk, Nat.reducePow]; omega)]
  rw [orS [7, 5, 3, 5, 5, 2, 5] [c, r, g, u, v, 0, s] [0, 0, 0, 0, 0, m, 0] (x := f + (rd * 128 + a * 32768 + b * 1048576)) (y := i * 33554432) (by simp only [okk, Nat.reducePow, and_true]; omega) (by simp only [okk, Nat.reducePow, and_true]; omega) (by simp [dj]) (by decide) (by simp only [pk, Nat.reducePow]; omega) (by simp only [pk, Nat.reducePow]; omega)]
  omega
theorem enc_or_78 (k : Nat) (hk : k < 88) (hv : fmT k = 78) (i : Int) : bits BinOp.or IntKind.u32 (fixT k) (bits BinOp.or IntKind.u32 (bits BinOp.or IntKind.u32 0 0) 0) = encF k 0 0 0 i := by
  have hx := fix_u32 k hk
  unfold encF encI
  rw [hv]
  simp only [Int.reduceEq, if_false]
  rw [or0 (x := 0) (by omega) (by omega), or0 (x := 0) (by omega) (by omega), or0 (x := fixT k) (by omega) (by omega)]
  omega
end Go.Proofs.YtngeabphjdfdgaaGreatDoor.P
namespace Go.Proofs.YtngeabphjdfdgaaGreatDoor.P
open Go.RowKit
def hv64 (v : Int) (n : Nat) : Int := v % 18446744073709551616 / 2 ^ n
def fldN (v : Int) (n m t : Nat) : Int := hv64 v n % 2 ^ m * 2 ^ t
theorem hv_in (v : Int) (n : Nat) : 0 ≤ hv64 v n ∧ hv64 v n < 18446744073709551616 := by
  unfold hv64
  have h0 : 0 ≤ v % 18446744073709551616 := by omega
  have h1 : v % 18446744073709551616 < 18446744073709551616 := by omega
  generalize v % 18446744073709551616 = x at *
  obtain ⟨y, rfl⟩ : ∃ y : Nat, x = (y : Int) := ⟨x.toNat, by omega⟩
  rw [show ((2 : Int) ^ n) = ((2 ^ n : Nat) : Int) by simp, ← Int.natCast_ediv]
  have h2 : y / 2 ^ n ≤ y := Nat.div_le_self _ _
  generalize y / 2 ^ n = z at *
  omega
theorem hv_next (v : Int) (n : Nat) : (hv64 v n).tdiv 2 = hv64 v (n + 1) := by
  have h := (hv_in v n).1
  rw [Int.tdiv_eq_ediv_of_nonneg h]
  unfold hv64
  rw [Int.pow_succ, Int.ediv_ediv_of_nonneg (by exact Int.pow_nonneg (by decide))]
theorem hv_next2 (v : Int) (n : Nat) : hv64 v n / 2 = hv64 v (n + 1) := by
  rw [← hv_next, Int.tdiv_eq_ediv_of_nonneg (hv_in v n).1]
theorem hv_rem (v : Int) (n : Nat) : (hv64 v n).tmod 2 = hv64 v n % 2 := Int.tmod_eq_emod_of_nonneg (hv_in v n).1
theorem fld_zero (v : Int) (n t : Nat) : fldN v n 0 t = 0 := by unfold fldN; simp [Int.emod_one]
theorem mod_succ (x : Int) (j : Nat) : x % 2 ^ (j + 1) = x % 2 ^ j + x / 2 ^ j % 2 * 2 ^ j := by
  rw [Int.pow_succ]
  have hp : (0 : Int) < 2 ^ j := Int.pow_pos (by decide)
  have a := Int.mul_ediv_add_emod x (2 ^ j)
  have b := Int.mul_ediv_add_emod (x / 2 ^ j) 2
  have c := Int.emod_nonneg x (Int.ne_of_gt hp)
  have d := Int.emod_lt_of_pos x hp
  have e := Int.emod_nonneg (x / 2 ^ j) (by decide : (2 : Int) ≠ 0)
  have f := Int.emod_lt_of_pos (x / 2 ^ j) (by decide : (0 : Int) < 2)
  generalize hq : x / 2 ^ j = q at *
  generalize hr : x % 2 ^ j = r at *
  generalize hs : q / 2 = s at *
  generalize hu : q % 2 = u at *
  generalize (2 : Int) ^ j = p at *
  have hx : x = r + u * p + (p * 2) * s := by
    rw [← a, ← b, Int.mul_add, Int.mul_comm u p, ← Int.mul_assoc]
    omega
  rw [hx, Int.add_mul_emod_self_left]
  apply Int.emod_eq_of_lt
  · have : 0 ≤ u * p := Int.mul_nonneg e (Int.le_of_lt hp)
    omega
  · have hu2 : u = 0 ∨ u = 1 := by omega
    rcases hu2 with rfl | rfl <;> omega
theorem hv_add (v : Int) (n j : Nat) : hv64 v n / 2 ^ j = hv64 v (n + j) := by
  unfold hv64
  rw [Int.ediv_ediv_of_nonneg (by exact Int.pow_nonneg (by decide)), ← Int.pow_add]
theorem fld_succ (v : Int) (n j t : Nat) : fldN v n (j + 1) t = fldN v n j t + hv64 v (n + j) % 2 * 2 ^ (t + j) := by
  unfold fldN
  rw [mod_succ, hv_add, Int.add_mul, Int.mul_assoc, ← Int.pow_add, Nat.add_comm j t]
theorem fld_in (v : Int) (n j t : Nat) : 0 ≤ fldN v n j t ∧ fldN v n j t < 2 ^ (t + j) := by
  unfold fldN
  have hp : (0 : Int) < 2 ^ j := Int.pow_pos (by decide)
  have hq : (0 : Int) < 2 ^ t := Int.pow_pos (by decide)
  refine ⟨Int.mul_nonneg (Int.emod_nonneg _ (Int.ne_of_gt hp)) (Int.le_of_lt hq), ?_⟩
  rw [Int.pow_add, Int.mul_comm (2 ^ t)]
  exact Int.mul_lt_mul_of_pos_right (Int.emod_lt_of_pos _ hp) hq
theorem fld_or (v : Int) (n j t : Nat) (h : t + j < 32) : bits .or .u32 (fldN v n j t) (2 ^ (t + j)) = fldN v n j t + 2 ^ (t + j) := by
  obtain ⟨a, b⟩ := fld_in v n j t
  generalize fldN v n j t = x at *
  obtain ⟨y, rfl⟩ : ∃ y : Nat, x = (y : Int) := ⟨x.toNat, by omega⟩
  have hb : y < 2 ^ (t + j) := by
    have : ((y : Nat) : Int) < ((2 ^ (t + j) : Nat) : Int) := by simpa using b
    exact Int.ofNat_lt.1 this
  have h32 : 2 ^ (t + j) < 2 ^ 32 := Nat.pow_lt_pow_right (by decide) h
  have e := u32_or_nat y (2 ^ (t + j)) (by omega) (by simpa using h32)
  have e2 : y ||| 2 ^ (t + j) = 2 ^ (t + j) + y := by
    rw [Nat.or_comm]
    have := Nat.two_pow_add_eq_or_of_lt hb 1
    rw [Nat.mul_one] at this
    exact this.symm
  rw [e2] at e
  rw [show ((2 : Int) ^ (t + j)) = ((2 ^ (t + j) : Nat) : Int) by simp, e]
  omega
theorem shl1 (k : Nat) (h : k < 32) : IntKind.u32.wrap (1 * 2 ^ k) = 2 ^ k := by
  have h32 : 2 ^ k < 2 ^ 32 := Nat.pow_lt_pow_right (by decide) h
  have : ((2 ^ k : Nat) : Int) < 4294967296 := by omega
  rw [Int.one_mul, show ((2 : Int) ^ k) = ((2 ^ k : Nat) : Int) by simp]
  generalize 2 ^ k = z at *
  rw [show IntKind.u32.wrap ((z : Nat) : Int) = ((z : Nat) : Int) % 4294967296 from rfl]
  omega
theorem ku (v : Int) : Value.int .u64 (IntKind.u64.wrap v) = .int .u64 (v % 18446744073709551616) := by
  congr 1
set_option maxHeartbeats 1600000 in
theorem r_fieldN (v : Int) (hv : i64 v) (n m t : Nat) (hn : n ≤ 63) (hmt : m + t ≤ 32) (w : World) : Calls Tryz.prog 78 #[.int .i64 v, .int .i64 n, .int .i64 m, .int .i64 t] w fun e w' => e = .returned (.int .u32 (fldN v n m t)) ∧ w' = w := by
  go_enter Tryz.func78, Tryz.ntmps78
  go_wp2_with fail
  go_loopw [9, 10] (fun u i wr => ∃ j : Nat, j ≤ n ∧ u = .int .u64 (hv64 v j) ∧ i = .int .i64 (j : Int) ∧ w = wr) (fun _ i _ => n - (intOf i).toNat)
  case atStart => exact ⟨0, Nat.zero_le _, by unfold hv64; rw [Int.pow_zero, Int.ediv_one]; exact ku v, rfl, rfl⟩
  case round =>
    obtain ⟨j, hj, rfl, rfl, rfl⟩ := hrel
    have hu := hv_in v j
    by_cases hlt : j < n
    · have dl : decide (j < n) = true := decide_eq_true hlt
      go_wp2_with fail
      go_roundw
      case rel => exact ⟨j + 1, by omega, by rw [hv_next2], by go_num, by first | rfl | trivial⟩
      case measure => simp [intOf]; omega
    · have dl : decide (j < n) = false := decide_eq_false hlt
      obtain rfl : j = n := by omega
      go_wp2_with fail
      go_loopw [9, 11, 12] (fun u x i wr => ∃ k : Nat, k ≤ m ∧ u = .int .u64 (hv64 v (j + k)) ∧ x = .int .u32 (fldN v j k t) ∧ i = .int .i64 (k : Int) ∧ w = wr) (fun _ _ i _ => m - (intOf i).toNat)
      case atStart => exact ⟨0, Nat.zero_le _, rfl, by rw [fld_zero], rfl, by first | rfl | trivial⟩
      case round =>
        obtain ⟨k, hk, rfl, rfl, rfl, rfl⟩ := hrel
        have hu2 := hv_in v (j + k)
        by_cases hlt2 : k < m
        · have dl2 : decide (k < m) = true := decide_eq_true hlt2
          have e1 := hv_rem v (j + k)
          have hs := fld_succ v j k t
          by_cases hpar : hv64 v (j + k) % 2 = 1
          · have e2 : ((hv64 v (j + k)).tmod 2 == 1) = true := by rw [e1, hpar]; rfl
            rw [hpar, Int.one_mul] at hs
            have ho := fld_or v j k t (by omega)
            have hw := shl1 (t + k) (by omega)
            go_wp2_with fail
            go_roundw
            case rel => exact ⟨k + 1, by omega, by rw [hv_next2]; rfl, by rw [show (2 : Int) ^ (t + k) % 4294967296 = 2 ^ (t + k) by have := shl1 (t + k) (by omega); rw [Int.one_mul] at this; exact this, ho, hs], by go_num, by first | rfl | trivial⟩
            case measure => simp [intOf]; omega
          · have e2 : ((hv64 v (j + k)).tmod 2 == 1) = false := by rw [e1]; exact beq_eq_false_iff_ne.2 hpar
            go_wp2_with fail
            go_roundw
            case rel => exact ⟨k + 1, by omega, by rw [hv_next2]; rfl, by rw [hs, show hv64 v (j + k) % 2 = 0 by omega, Int.zero_mul, Int.add_zero], by go_num, by first | rfl | trivial⟩
            case measure => simp [intOf]; omega
        · have dl2 : decide (k < m) = false := decide_eq_false hlt2
          obtain rfl : k = m := by omega
          go_wp2_with fail
          go_ret
          exact ⟨rfl, rfl⟩
end Go.Proofs.YtngeabphjdfdgaaGreatDoor.P
