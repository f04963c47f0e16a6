/- Stage 2: the instruction of a word, its fields. No condition. -/
import Derived.Test.YtngeabphjdfdgaaDoorN6
import Derived.Test.YtngeabphjdfdgaaDoorMB
set_option linter.unusedVariables false
set_option linter.unusedSimpArgs false
set_option maxRecDepth 100000
namespace Go.Proofs.YtngeabphjdfdgaaDoor.P
open Go.RowKit
def fldR (f x : Int) : Int :=
  if f = 85 then bits .or .i64 (-(x / 2147483648 % 2) * 2147483648) (x / 4096 % 524288 * 4096) else
  if f = 74 then bits .or .i64 (bits .or .i64 (bits .or .i64 (-(x / 2147483648 % 2) * 1048576) (x / 2097152 % 1024 * 2)) (x / 1048576 % 2 * 2048)) (x / 4096 % 256 * 4096) else
  if f = 73 then bits .or .i64 (-(x / 2147483648 % 2) * 2048) (x / 1048576 % 2048) else
  if f = 66 then bits .or .i64 (bits .or .i64 (bits .or .i64 (-(x / 2147483648 % 2) * 4096) (x / 33554432 % 64 * 32)) (x / 256 % 16 * 2)) (x / 128 % 2 * 2048) else
  if f = 83 then bits .or .i64 (bits .or .i64 (-(x / 2147483648 % 2) * 2048) (x / 33554432 % 64 * 32)) (x / 128 % 32) else
  if f = 72 then x / 1048576 % 64 else
  if f = 86 then x / 1048576 % 32 else
  if f = 65 then x / 33554432 % 4 else
  0
theorem set5g {w w1 : World} {B : Nat} {T : TypeId} (hB : w.heap.size ≤ B) {x0 x1 x2 x3 x4 : Value} (hb : w1.heap[B]? = some (.cells #[x0, x1, x2, x3, x4] T)) (g : Gr w w1) (v0 v1 v2 v3 v4 : Value) :
    (((((w1.setCell ⟨B, 0, none⟩ v0).setCell ⟨B, 1, none⟩ v1).setCell ⟨B, 2, none⟩ v2).setCell ⟨B, 3, none⟩ v3).setCell ⟨B, 4, none⟩ v4).heap[B]? = some (.cells #[v0, v1, v2, v3, v4] T) ∧ Gr w (((((w1.setCell ⟨B, 0, none⟩ v0).setCell ⟨B, 1, none⟩ v1).setCell ⟨B, 2, none⟩ v2).setCell ⟨B, 3, none⟩ v3).setCell ⟨B, 4, none⟩ v4) := by
  have hle : ∀ i : Nat, w.heap.size ≤ (⟨B, i, none⟩ : Addr).block := fun i => hB
  exact ⟨blk_set (blk_set (blk_set (blk_set (blk_set hb 0 _) 1 _) 2 _) 3 _) 4 _, gset (gset (gset (gset (gset g (hle 0) _) (hle 1) _) (hle 2) _) (hle 3) _) (hle 4) _⟩
theorem gr_dN (w : World) (n : Nat) : Gr w (w.drewN n) := Gr.drewN (Gr.refl _) n
def bG (x h l : Int) : Int := if h = 11 then x / 128 % 32 else if h = 19 then x / 32768 % 32 else x / 1048576 % 32
theorem c_bits_gen (x : Int) (hx : u32 x) (h l : Int) (hin : (h = 11 ∧ l = 7) ∨ (h = 19 ∧ l = 15) ∨ (h = 24 ∧ l = 20)) (w : World) : Calls Tryd.prog 36 #[.int .u32 x, .int .i64 h, .int .i64 l] w fun e w' => e = .returned (.int .u32 (bG x h l)) ∧ w' = w := by
  rcases hin with ⟨rfl, rfl⟩ | ⟨rfl, rfl⟩ | ⟨rfl, rfl⟩
  · exact c_bits_11_7 x hx w
  · exact c_bits_19_15 x hx w
  · exact c_bits_24_20 x hx w
theorem bG_in (x h l : Int) : 0 ≤ bG x h l ∧ bG x h l < 32 := by
  unfold bG
  split
  · omega
  · split <;> omega
theorem c_put_7_7_11 (x : Int) (hx : u32 x) (B : Nat) (w : World) (hc : w.cell? ⟨B, 0, none⟩ = some (.int .u32 x)) : Calls Tryd.prog 54 #[.int .i64 7, .int .i64 7, .int .i64 11, .pointer (some ⟨B, 0, none⟩)] w fun e w' => e = .returned (.int .i64 (x / 128 % 2 * 2048)) ∧ w' = w := by
  have CB := Lib.hid (c_bits_7_7 x hx)
  obtain ⟨x0, x1⟩ := hx
  go_enter Tryd.func54, Tryd.ntmps54
  go_wp2_with (go_at_call 36; refine (CB.out _).mono ?_; rintro e w3 ⟨rfl, rfl⟩)
  go_ret
  exact ⟨ret_i (by omega), rfl⟩
theorem c_put_11_7_0 (x : Int) (hx : u32 x) (B : Nat) (w : World) (hc : w.cell? ⟨B, 0, none⟩ = some (.int .u32 x)) : Calls Tryd.prog 54 #[.int .i64 11, .int .i64 7, .int .i64 0, .pointer (some ⟨B, 0, none⟩)] w fun e w' => e = .returned (.int .i64 (x / 128 % 32)) ∧ w' = w := by
  have CB := Lib.hid (c_bits_11_7 x hx)
  obtain ⟨x0, x1⟩ := hx
  go_enter Tryd.func54, Tryd.ntmps54
  go_wp2_with (go_at_call 36; refine (CB.out _).mono ?_; rintro e w3 ⟨rfl, rfl⟩)
  go_ret
  exact ⟨ret_i (by omega), rfl⟩
theorem c_put_11_8_1 (x : Int) (hx : u32 x) (B : Nat) (w : World) (hc : w.cell? ⟨B, 0, none⟩ = some (.int .u32 x)) : Calls Tryd.prog 54 #[.int .i64 11, .int .i64 8, .int .i64 1, .pointer (some ⟨B, 0, none⟩)] w fun e w' => e = .returned (.int .i64 (x / 256 % 16 * 2)) ∧ w' = w := by
  have CB := Lib.hid (c_bits_11_8 x hx)
  obtain ⟨x0, x1⟩ := hx
  go_enter Tryd.func54, Tryd.ntmps54
  go_wp2_with (go_at_call 36; refine (CB.out _).mono ?_; rintro e w3 ⟨rfl, rfl⟩)
  go_ret
  exact ⟨ret_i (by omega), rfl⟩
theorem c_put_19_12_12 (x : Int) (hx : u32 x) (B : Nat) (w : World) (hc : w.cell? ⟨B, 0, none⟩ = some (.int .u32 x)) : Calls Tryd.prog 54 #[.int .i64 19, .int .i64 12, .int .i64 12, .pointer (some ⟨B, 0, none⟩)] w fun e w' => e = .returned (.int .i64 (x / 4096 % 256 * 4096)) ∧ w' = w := by
  have CB := Lib.hid (c_bits_19_12 x hx)
  obtain ⟨x0, x1⟩ := hx
  go_enter Tryd.func54, Tryd.ntmps54
  go_wp2_with (go_at_call 36; refine (CB.out _).mono ?_; rintro e w3 ⟨rfl, rfl⟩)
  go_ret
  exact ⟨ret_i (by omega), rfl⟩
theorem c_put_20_20_11 (x : Int) (hx : u32 x) (B : Nat) (w : World) (hc : w.cell? ⟨B, 0, none⟩ = some (.int .u32 x)) : Calls Tryd.prog 54 #[.int .i64 20, .int .i64 20, .int .i64 11, .pointer (some ⟨B, 0, none⟩)] w fun e w' => e = .returned (.int .i64 (x / 1048576 % 2 * 2048)) ∧ w' = w := by
  have CB := Lib.hid (c_bits_20_20 x hx)
  obtain ⟨x0, x1⟩ := hx
  go_enter Tryd.func54, Tryd.ntmps54
  go_wp2_with (go_at_call 36; refine (CB.out _).mono ?_; rintro e w3 ⟨rfl, rfl⟩)
  go_ret
  exact ⟨ret_i (by omega), rfl⟩
theorem c_put_24_20_0 (x : Int) (hx : u32 x) (B : Nat) (w : World) (hc : w.cell? ⟨B, 0, none⟩ = some (.int .u32 x)) : Calls Tryd.prog 54 #[.int .i64 24, .int .i64 20, .int .i64 0, .pointer (some ⟨B, 0, none⟩)] w fun e w' => e = .returned (.int .i64 (x / 1048576 % 32)) ∧ w' = w := by
  have CB := Lib.hid (c_bits_24_20 x hx)
  obtain ⟨x0, x1⟩ := hx
  go_enter Tryd.func54, Tryd.ntmps54
  go_wp2_with (go_at_call 36; refine (CB.out _).mono ?_; rintro e w3 ⟨rfl, rfl⟩)
  go_ret
  exact ⟨ret_i (by omega), rfl⟩
theorem c_put_25_20_0 (x : Int) (hx : u32 x) (B : Nat) (w : World) (hc : w.cell? ⟨B, 0, none⟩ = some (.int .u32 x)) : Calls Tryd.prog 54 #[.int .i64 25, .int .i64 20, .int .i64 0, .pointer (some ⟨B, 0, none⟩)] w fun e w' => e = .returned (.int .i64 (x / 1048576 % 64)) ∧ w' = w := by
  have CB := Lib.hid (c_bits_25_20 x hx)
  obtain ⟨x0, x1⟩ := hx
  go_enter Tryd.func54, Tryd.ntmps54
  go_wp2_with (go_at_call 36; refine (CB.out _).mono ?_; rintro e w3 ⟨rfl, rfl⟩)
  go_ret
  exact ⟨ret_i (by omega), rfl⟩
theorem c_put_26_25_0 (x : Int) (hx : u32 x) (B : Nat) (w : World) (hc : w.cell? ⟨B, 0, none⟩ = some (.int .u32 x)) : Calls Tryd.prog 54 #[.int .i64 26, .int .i64 25, .int .i64 0, .pointer (some ⟨B, 0, none⟩)] w fun e w' => e = .returned (.int .i64 (x / 33554432 % 4)) ∧ w' = w := by
  have CB := Lib.hid (c_bits_26_25 x hx)
  obtain ⟨x0, x1⟩ := hx
  go_enter Tryd.func54, Tryd.ntmps54
  go_wp2_with (go_at_call 36; refine (CB.out _).mono ?_; rintro e w3 ⟨rfl, rfl⟩)
  go_ret
  exact ⟨ret_i (by omega), rfl⟩
theorem c_put_30_12_12 (x : Int) (hx : u32 x) (B : Nat) (w : World) (hc : w.cell? ⟨B, 0, none⟩ = some (.int .u32 x)) : Calls Tryd.prog 54 #[.int .i64 30, .int .i64 12, .int .i64 12, .pointer (some ⟨B, 0, none⟩)] w fun e w' => e = .returned (.int .i64 (x / 4096 % 524288 * 4096)) ∧ w' = w := by
  have CB := Lib.hid (c_bits_30_12 x hx)
  obtain ⟨x0, x1⟩ := hx
  go_enter Tryd.func54, Tryd.ntmps54
  go_wp2_with (go_at_call 36; refine (CB.out _).mono ?_; rintro e w3 ⟨rfl, rfl⟩)
  go_ret
  exact ⟨ret_i (by omega), rfl⟩
theorem c_put_30_20_0 (x : Int) (hx : u32 x) (B : Nat) (w : World) (hc : w.cell? ⟨B, 0, none⟩ = some (.int .u32 x)) : Calls Tryd.prog 54 #[.int .i64 30, .int .i64 20, .int .i64 0, .pointer (some ⟨B, 0, none⟩)] w fun e w' => e = .returned (.int .i64 (x / 1048576 % 2048)) ∧ w' = w := by
  have CB := Lib.hid (c_bits_30_20 x hx)
  obtain ⟨x0, x1⟩ := hx
  go_enter Tryd.func54, Tryd.ntmps54
  go_wp2_with (go_at_call 36; refine (CB.out _).mono ?_; rintro e w3 ⟨rfl, rfl⟩)
  go_ret
  exact ⟨ret_i (by omega), rfl⟩
theorem c_put_30_21_1 (x : Int) (hx : u32 x) (B : Nat) (w : World) (hc : w.cell? ⟨B, 0, none⟩ = some (.int .u32 x)) : Calls Tryd.prog 54 #[.int .i64 30, .int .i64 21, .int .i64 1, .pointer (some ⟨B, 0, none⟩)] w fun e w' => e = .returned (.int .i64 (x / 2097152 % 1024 * 2)) ∧ w' = w := by
  have CB := Lib.hid (c_bits_30_21 x hx)
  obtain ⟨x0, x1⟩ := hx
  go_enter Tryd.func54, Tryd.ntmps54
  go_wp2_with (go_at_call 36; refine (CB.out _).mono ?_; rintro e w3 ⟨rfl, rfl⟩)
  go_ret
  exact ⟨ret_i (by omega), rfl⟩
theorem c_put_30_25_5 (x : Int) (hx : u32 x) (B : Nat) (w : World) (hc : w.cell? ⟨B, 0, none⟩ = some (.int .u32 x)) : Calls Tryd.prog 54 #[.int .i64 30, .int .i64 25, .int .i64 5, .pointer (some ⟨B, 0, none⟩)] w fun e w' => e = .returned (.int .i64 (x / 33554432 % 64 * 32)) ∧ w' = w := by
  have CB := Lib.hid (c_bits_30_25 x hx)
  obtain ⟨x0, x1⟩ := hx
  go_enter Tryd.func54, Tryd.ntmps54
  go_wp2_with (go_at_call 36; refine (CB.out _).mono ?_; rintro e w3 ⟨rfl, rfl⟩)
  go_ret
  exact ⟨ret_i (by omega), rfl⟩
set_option maxHeartbeats 3200000 in
theorem c_fld_66 (k : Nat) (hk : k < 88) (h1 : 1 ≤ k) (hv : fmT k = 66) (x : Int) (hx : u32 x) (w : World) (hF : FT w) : Calls Tryd.prog 39 #[.int .i64 (k : Int), .int .u32 x] w fun e w' => e = .returned (iv (k : Int) 0 (x / 32768 % 32) (x / 1048576 % 32) (fldR (fmT k) x)) ∧ Gr w w' := by
  have HX := Lib.hid hx
  have HFT := Lib.hid (fun w1 (g : Gr w w1) => FT.gr hF g)
  have hl : 1 < w.heap.size := cell_lt (hF 0 (by omega))
  have hk88 : (k : Int) < 88 := by omega
  have HV := Lib.hid hv
  have C1 := Lib.hid (c_bits_11_7 x hx)
  have C2 := Lib.hid (c_bits_19_15 x hx)
  have C3 := Lib.hid (c_bits_24_20 x hx)
  have C4 := Lib.hid (c_bits_31_31 x hx)
  obtain ⟨x0, x1⟩ := hx
  have k2 := blk_alloc (.cells #[.int .i64 0, .int .i64 0, .int .i64 0, .int .i64 0, .int .i64 0] 63) (blk_new w (.cells #[.int .u32 x] 47))
  have k3 := blk_new1 w (.cells #[.int .u32 x] 47) (.cells #[.int .i64 0, .int .i64 0, .int .i64 0, .int .i64 0, .int .i64 0] 63)
  have gb := gr_al (gr_al (Gr.refl w) (.cells #[.int .u32 x] 47)) (.cells #[.int .i64 0, .int .i64 0, .int .i64 0, .int .i64 0, .int .i64 0] 63)
  clear hF hv
  go_enter Tryd.func39, Tryd.ntmps39
  go_upto_region 1 with fail
  generalize ((w.alloc (.cells #[.int .u32 x] 47)).alloc (.cells #[.int .i64 0, .int .i64 0, .int .i64 0, .int .i64 0, .int .i64 0] 63)) = wA at *
  obtain ⟨B, hB⟩ : ∃ B, B = w.heap.size := ⟨_, rfl⟩
  rw [← hB] at k2 k3 ⊢
  have hlA : 1 < wA.heap.size := Nat.lt_of_lt_of_le hl gb.size
  have c0 := blk_cell k2 0 (v := .int .u32 x) rfl
  have hcx := HFT.out _ gb k hk
  rw [HV.out] at hcx
  have K3 := Lib.hid k3
  have GB := Lib.hid gb
  have EB := Lib.hid hB
  clear k2 k3 gb hB
  have bb1 := bG_in x 11 7
  have bb2 := bG_in x 19 15
  have bb3 := bG_in x 24 20
  go_quiet ((go_at_call 36; exact Calls.quiet_of_same (c_bits_gen x HX.out _ _ (by decide) _)))
  have K4 := Lib.hid (blk_gr (gr_dN wA nq) K3.out)
  have G4 := Lib.hid (gtrans GB.out (gr_dN wA nq))
  have q0 : (wA.drewN nq).cell? ⟨B, 0, none⟩ = some (.int .u32 x) := kcell (gr_dN wA nq) c0
  have q1 : (wA.drewN nq).cell? ⟨1, k, none⟩ = some (.int .u8 66) := kcell (gr_dN wA nq) hcx
  have hlB : 1 < (wA.drewN nq).heap.size := hlA
  generalize wA.drewN nq = wB at *
  have d0 := blk_cell K4.out 0 (v := .int .i64 0) rfl
  have d1 := blk_cell K4.out 1 (v := .int .i64 0) rfl
  have d2 := blk_cell K4.out 2 (v := .int .i64 0) rfl
  have d3 := blk_cell K4.out 3 (v := .int .i64 0) rfl
  have d4 := blk_cell K4.out 4 (v := .int .i64 0) rfl
  have z0 := blk_frozen K4.out 0
  have z1 := blk_frozen K4.out 1
  have z2 := blk_frozen K4.out 2
  have z3 := blk_frozen K4.out 3
  have z4 := blk_frozen K4.out 4
  go_upto_region 3 with (go_at_call 36; refine (C4.out _).mono ?_; rintro e w3 ⟨rfl, rfl⟩)
  go_wp2_with (first | (go_at_call 54; (with_reducible refine (c_put_30_25_5 _ HX.out _ _ (by assumption)).mono ?_); rintro e w3 ⟨rfl, rfl⟩) | (go_at_call 54; (with_reducible refine (c_put_11_8_1 _ HX.out _ _ (by assumption)).mono ?_); rintro e w3 ⟨rfl, rfl⟩) | (go_at_call 54; (with_reducible refine (c_put_7_7_11 _ HX.out _ _ (by assumption)).mono ?_); rintro e w3 ⟨rfl, rfl⟩)| fail)
  obtain ⟨hz, gz⟩ := set5g (B := B + 1) (by rw [EB.out]; omega) K4.out G4.out (.int .i64 (k : Int)) (.int .i64 0) (.int .i64 (bG x 19 15)) (.int .i64 (bG x 24 20)) (.int .i64 (bits .or .i64 (bits .or .i64 (bits .or .i64 (-(x / 2147483648 % 2) * 4096) (x / 33554432 % 64 * 32)) (x / 256 % 16 * 2)) (x / 128 % 2 * 2048)))
  refine bodyPost_ret (v := iv (k : Int) 0 (bG x 19 15) (bG x 24 20) (bits .or .i64 (bits .or .i64 (bits .or .i64 (-(x / 2147483648 % 2) * 4096) (x / 33554432 % 64 * 32)) (x / 256 % 16 * 2)) (x / 128 % 2 * 2048))) ?_ rfl ?_
  · have y0 := blk_cell hz 0 (v := .int .i64 (k : Int)) rfl
    have y1 := blk_cell hz 1 (v := .int .i64 0) rfl
    have y2 := blk_cell hz 2 (v := .int .i64 (bG x 19 15)) rfl
    have y3 := blk_cell hz 3 (v := .int .i64 (bG x 24 20)) rfl
    have y4 := blk_cell hz 4 (v := .int .i64 (bits .or .i64 (bits .or .i64 (bits .or .i64 (-(x / 2147483648 % 2) * 4096) (x / 33554432 % 64 * 32)) (x / 256 % 16 * 2)) (x / 128 % 2 * 2048))) rfl
    generalize (World.setCell _ ⟨B + 1, 4, none⟩ _) = wz at *
    simp [results, Tryd.results39, go_sem, y0, y1, y2, y3, y4]
  · exact ⟨by rw [HV.out]; rfl, gz⟩
end Go.Proofs.YtngeabphjdfdgaaDoor.P
