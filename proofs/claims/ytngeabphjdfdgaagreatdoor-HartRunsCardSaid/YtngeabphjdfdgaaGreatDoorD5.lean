/- Stage 2: the instruction of a word, its fields. No condition. -/
import Derived.Test.YtngeabphjdfdgaaGreatDoorN6
import Derived.Test.YtngeabphjdfdgaaGreatDoorMB
set_option linter.unusedVariables false
set_option linter.unusedSimpArgs false
set_option maxRecDepth 100000
namespace Go.Proofs.YtngeabphjdfdgaaGreatDoor.P
open Go.RowKit
def fldR (f x : Int) : Int :=
  if f = 85 then bits .or .i64 (-(x / 2147483648 % 2) * 2147483648) (x / 4096 % 524288 * 4096) else
  if f = 74 then bits .or .i64 (bits .or .i64 (bits .or .i64 (-(x / 2147483648 % 2) * 1048576) (x / 2097152 % 1024 * 2)) (x / 1048576 % 2 * 2048)) (x / 4096 % 256 * 4096) else
  if f = 73 then bits .or .i64 (-(x / 2147483648 % 2) * 2048) (x / 1048576 % 2048) else
  if f = 66 then bits .or .i64 (bits .or .i64 (bits .or .i64 (-(x / 2147483648 % 2) * 4096) (x / 33554432 % 64 * 32)) (x / 256 % 16 * 2)) (x / 128 % 2 * 2048) else
  if f = 83 then bits .or .i64 (bits .or .i64 (-(x / 2147483648 % 2) * 2048) (x / 33554432 % 64 * 32)) (x / 128 % 32) else
  if f = 72 then x / 1048576 % 64 else
  if f = 86 then x / 1048576 % 32 else
  if f = 65 then x / 33554432 % 4 else
  0
theorem set5g {w w1 : World} {B : Nat} {T : TypeId} (hB : w.heap.size ≤ B) {x0 x1 x2 x3 x4 : Value} (hb : w1.heap[B]? = some (.cells #[x0, x1, x2, x3, x4] T)) (g : Gr w w1) (v0 v1 v2 v3 v4 : Value) :
    (((((w1.setCell ⟨B, 0, none⟩ v0).setCell ⟨B, 1, none⟩ v1).setCell ⟨B, 2, none⟩ v2).setCell ⟨B, 3, none⟩ v3).setCell ⟨B, 4, none⟩ v4).heap[B]? = some (.cells #[v0, v1, v2, v3, v4] T) ∧ Gr w (((((w1.setCell ⟨B, 0, none⟩ v0).setCell ⟨B, 1, none⟩ v1).setCell ⟨B, 2, none⟩ v2).setCell ⟨B, 3, none⟩ v3).setCell ⟨B, 4, none⟩ v4) := by
  have hle : ∀ i : Nat, w.heap.size ≤ (⟨B, i, none⟩ : Addr).block := fun i => hB
  exact ⟨blk_set (blk_set (blk_set (blk_set (blk_set hb 0 _) 1 _) 2 _) 3 _) 4 _, gset (gset (gset (gset (gset g (hle 0) _) (hle 1) _) (hle 2) _) (hle 3) _) (hle 4) _⟩
theorem gr_dN (w : World) (n : Nat) : Gr w (w.drewN n) := Gr.drewN (Gr.refl _) n
def bG (x h l : Int) : Int := if h = 11 then x / 128 % 32 else if h = 19 then x / 32768 % 32 else x / 1048576 % 32
theorem c_bits_gen (x : Int) (hx : u32 x) (h l : Int) (hin : (h = 11 ∧ l = 7) ∨ (h = 19 ∧ l = 15) ∨ (h = 24 ∧ l = 20)) (w : World) : Calls Tryz.prog 37 #[.int .u32 x, .int .i64 h, .int .i64 l] w fun e w' => e = .returned (.int .u32 (bG x h l)) ∧ w' = w := by
  rcases hin with ⟨rfl, rfl⟩ | ⟨rfl, rfl⟩ | ⟨rfl, rfl⟩
  · exact c_bits_11_7 x hx w
  · exact c_bits_19_15 x hx w
  · exact c_bits_24_20 x hx w
theorem bG_in (x h l : Int) : 0 ≤ bG x h l ∧ bG x h l < 32 := by
  unfold bG
  split
  · omega
  · split <;> omega
theorem c_put_7_7_11 (x : Int) (hx : u32 x) (B : Nat) (w : World) (hc : w.cell? ⟨B, 0, none⟩ = some (.int .u32 x)) : Calls Tryz.prog 62 #[.int .i64 7, .int .i64 7, .int .i64 11, .pointer (some ⟨B, 0, none⟩)] w fun e w' => e = .returned (.int .i64 (x / 128 % 2 * 2048)) ∧ w' = w := by
  have CB := Lib.hid (c_bits_7_7 x hx)
  obtain ⟨x0, x1⟩ := hx
  go_enter Tryz.func62, Tryz.ntmps62
  go_wp2_with (go_at_call 37; refine (CB.out _).mono ?_; rintro e w3 ⟨rfl, rfl⟩)
  go_ret
  exact ⟨ret_i (by omega), rfl⟩
theorem c_put_11_7_0 (x : Int) (hx : u32 x) (B : Nat) (w : World) (hc : w.cell? ⟨B, 0, none⟩ = some (.int .u32 x)) : Calls Tryz.prog 62 #[.int .i64 11, .int .i64 7, .int .i64 0, .pointer (some ⟨B, 0, none⟩)] w fun e w' => e = .returned (.int .i64 (x / 128 % 32)) ∧ w' = w := by
  have CB := Lib.hid (c_bits_11_7 x hx)
  obtain ⟨x0, x1⟩ := hx
  go_enter Tryz.func62, Tryz.ntmps62
  go_wp2_with (go_at_call 37; refine (CB.out _).mono ?_; rintro e w3 ⟨rfl, rfl⟩)
  go_ret
  exact ⟨ret_i (by omega), rfl⟩
theorem c_put_11_8_1 (x : Int) (hx : u32 x) (B : Nat) (w : World) (hc : w.cell? ⟨B, 0, none⟩ = some (.int .u32 x)) : Calls Tryz.prog 62 #[.int .i64 11, .int .i64 8, .int .i64 1, .pointer (some ⟨B, 0, none⟩)] w fun e w' => e = .returned (.int .i64 (x / 256 % 16 * 2)) ∧ w' = w := by
  have CB := Lib.hid (c_bits_11_8 x hx)
  obtain ⟨x0, x1⟩ := hx
  go_enter Tryz.func62, Tryz.ntmps62
  go_wp2_with (go_at_call 37; refine (CB.out _).mono ?_; rintro e w3 ⟨rfl, rfl⟩)
  go_ret
  exact ⟨ret_i (by omega), rfl⟩
theorem c_put_19_12_12 (x : Int) (hx : u32 x) (B : Nat) (w : World) (hc : w.cell? ⟨B, 0, none⟩ = some (.int .u32 x)) : Calls Tryz.prog 62 #[.int .i64 19, .int .i64 12, .int .i64 12, .pointer (some ⟨B, 0, none⟩)] w fun e w' => e = .returned (.int .i64 (x / 4096 % 256 * 4096)) ∧ w' = w := by
  have CB := Lib.hid (c_bits_19_12 x hx)
  obtain ⟨x0, x1⟩ := hx
  go_enter Tryz.func62, Tryz.ntmps62
  go_wp2_with (go_at_call 37; refine (CB.out _).mono ?_; rintro e w3 ⟨rfl, rfl⟩)
  go_ret
  exact ⟨ret_i (by omega), rfl⟩
theorem c_put_20_20_11 (x : Int) (hx : u32 x) (B : Nat) (w : World) (hc : w.cell? ⟨B, 0, none⟩ = some (.int .u32 x)) : Calls Tryz.prog 62 #[.int .i64 20, .int .i64 20, .int .i64 11, .pointer (some ⟨B, 0, none⟩)] w fun e w' => e = .returned (.int .i64 (x / 1048576 % 2 * 2048)) ∧ w' = w := by
  have CB := Lib.hid (c_bits_20_20 x hx)
  obtain ⟨x0, x1⟩ := hx
  go_enter Tryz.func62, Tryz.ntmps62
  go_wp2_with (go_at_call 37; refine (CB.out _).mono ?_; rintro e w3 ⟨rfl, rfl⟩)
  go_ret
  exact ⟨ret_i (by omega), rfl⟩
theorem c_put_24_20_0 (x : Int) (hx : u32 x) (B : Nat) (w : World) (hc : w.cell? ⟨B, 0, none⟩ = some (.int .u32 x)) : Calls Tryz.prog 62 #[.int .i64 24, .int .i64 20, .int .i64 0, .pointer (some ⟨B, 0, none⟩)] w fun e w' => e = .returned (.int .i64 (x / 1048576 % 32)) ∧ w' = w := by
  have CB := Lib.hid (c_bits_24_20 x hx)
  obtain ⟨x0, x1⟩ := hx
  go_enter Tryz.func62, Tryz.ntmps62
  go_wp2_with (go_at_call 37; refine (CB.out _).mono ?_; rintro e w3 ⟨rfl, rfl⟩)
  go_ret
  exact ⟨ret_i (by omega), rfl⟩
theorem c_put_25_20_0 (x : Int) (hx : u32 x) (B : Nat) (w : World) (hc : w.cell? ⟨B, 0, none⟩ = some (.int .u32 x)) : Calls Tryz.prog 62 #[.int .i64 25, .int .i64 20, .int .i64 0, .pointer (some ⟨B, 0, none⟩)] w fun e w' => e = .returned (.int .i64 (x / 1048576 % 64)) ∧ w' = w := by
  have CB := Lib.hid (c_bits_25_20 x hx)
  obtain ⟨x0, x1⟩ := hx
  go_enter Tryz.func62, Tryz.ntmps62
  go_wp2_with (go_at_call 37; refine (CB.out _).mono ?_; rintro e w3 ⟨rfl, rfl⟩)
  go_ret
  exact ⟨ret_i (by omega), rfl⟩
theorem c_put_26_25_0 (x : Int) (hx : u32 x) (B : Nat) (w : World) (hc : w.cell? ⟨B, 0, none⟩ = some (.int .u32 x)) : Calls Tryz.prog 62 #[.int .i64 26, .int .i64 25, .int .i64 0, .pointer (some ⟨B, 0, none⟩)] w fun e w' => e = .returned (.int .i64 (x / 33554432 % 4)) ∧ w' = w := by
  have CB := Lib.hid (c_bits_26_25 x hx)
  obtain ⟨x0, x1⟩ := hx
  go_enter Tryz.func62, Tryz.ntmps62
  go_wp2_with (go_at_call 37; refine (CB.out _).mono ?_; rintro e w3 ⟨rfl, rfl⟩)
  go_ret
  exact ⟨ret_i (by omega), rfl⟩
theorem c_put_30_12_12 (x : Int) (hx : u32 x) (B : Nat) (w : World) (hc : w.cell? ⟨B, 0, none⟩ = some (.int .u32 x)) : Calls Tryz.prog 62 #[.int .i64 30, .int .i64 12, .int .i64 12, .pointer (some ⟨B, 0, none⟩)] w fun e w' => e = .returned (.int .i64 (x / 4096 % 524288 * 4096)) ∧ w' = w := by
  have CB := Lib.hid (c_bits_30_12 x hx)
  obtain ⟨x0, x1⟩ := hx
  go_enter Tryz.func62, Tryz.ntmps62
  go_wp2_with (go_at_call 37; refine (CB.out _).mono ?_; rintro e w3 ⟨rfl, rfl⟩)
  go_ret
  exact ⟨ret_i (by omega), rfl⟩
theorem c_put_30_20_0 (x : Int) (hx : u32 x) (B : Nat) (w : World) (hc : w.cell? ⟨B, 0, none⟩ = some (.int .u32 x)) : Calls Tryz.prog 62 #[.int .i64 30, .int .i64 20, .int .i64 0, .pointer (some ⟨B, 0, none⟩)] w fun e w' => e = .returned (.int .i64 (x / 1048576 % 2048)) ∧ w' = w := by
  have CB := Lib.hid (c_bits_30_20 x hx)
  obtain ⟨x0, x1⟩ := hx
  go_enter Tryz.func62, Tryz.ntmps62
  go_wp2_with (go_at_call 37; refine (CB.out _).mono ?_; rintro e w3 ⟨rfl, rfl⟩)
  go_ret
  exact ⟨ret_i (by omega), rfl⟩
theorem c_put_30_21_1 (x : Int) (hx : u32 x) (B : Nat) (w : World) (hc : w.cell? ⟨B, 0, none⟩ = some (.int .u32 x)) : Calls Tryz.prog 62 #[.int .i64 30, .int .i64 21, .int .i64 1, .pointer (some ⟨B, 0, none⟩)] w fun e w' => e = .returned (.int .i64 (x / 2097152 % 1024 * 2)) ∧ w' = w := by
  have CB := Lib.hid (c_bits_30_21 x hx)
  obtain ⟨x0, x1⟩ := hx
  go_enter Tryz.func62, Tryz.ntmps62
  go_wp2_with (go_at_call 37; refine (CB.out _).mono ?_; rintro e w3 ⟨rfl, rfl⟩)
  go_ret
  exact ⟨ret_i (by omega), rfl⟩
theorem c_put_30_25_5 (x : Int) (hx : u32 x) (B : Nat) (w : World) (hc : w.cell? ⟨B, 0, none⟩ = some (.int .u32 x)) : Calls Tryz.prog 62 #[.int .i64 30, .int .i64 25, .int .i64 5, .pointer (some ⟨B, 0, none⟩)] w fun e w' => e = .returned (.int .i64 (x / 33554432 % 64 * 32)) ∧ w' = w := by
  have CB := Lib.hid (c_bits_30_25 x hx)
  obtain ⟨x0, x1⟩ := hx
  go_enter Tryz.func62, Tryz.ntmps62
  go_wp2_with (go_at_call 37; refine (CB.out _).mono ?_; rintro e w3 ⟨rfl, rfl⟩)
  go_ret
  exact ⟨ret_i (by omega), rfl⟩
set_option maxHeartbeats 3200000 in
theorem c_fld_66 (k : Nat) (hk : k < 88) (h1 : 1 ≤ k) (hv : fmT k = 66) (x : Int) (hx : u32 x) (w : World) (hF : FT w) : Calls Tryz.prog 40 #[.int .i64 (k : Int), .int .u32 x] w fun e w' => e = .returned (iv (k : Int) 0 (x / 32768 % 32) (x / 1048576 % 32) (fldR (fmT k) x)) ∧ Gr w w' := by
  have HX := Lib.hid hx
  have HFT := Lib.hid (fun w1 (g : Gr w w1) => FT.gr hF g)
  have hl : 1 < w.heap.size := cell_lt (hF 0 (by omega))
  have hk88 : (k : Int) < 88 := by omega
  have HV := Lib.hid hv
  have C1 := Lib.hid (c_bits_11_7 x hx)
  have C2 := Lib.hid (c_bits_19_15 x hx)
  have C3 := Lib.hid (c_bits_24_20 x hx)
  have C4 := Lib.hid (c_bits_31_31 x hx)
  obtain ⟨x0, x1⟩ := hx
  have k2 := blk_alloc (.cells #[.int .i64 0, .int .i64 0, .int .i64 0, .int .i64 0, .int .i64 0] 61) (blk_new w (.cells #[.int .u32 x] 49))
  have k3 := blk_new1 w (.cells #[.int .u32 x] 49) (.cells #[.int .i64 0, .int .i64 0, .int .i64 0, .int .i64 0, .int .i64 0] 61)
  have gb := gr_al (gr_al (Gr.refl w) (.cells #[.int .u32 x] 49)) (.cells #[.int .i64 0, .int .i64 0, .int .i64 0, .int .i64 0, .int .i64 0] 61)
  clear hF hv
  go_enter Tryz.func40, Tryz.ntmps40
  go_upto_region 1 with fail
  generalize ((w.alloc (.cells #[.int .u32 x] 49)).alloc (.cells #[.int .i64 0, .int .i64 0, .int .i64 0, .int .i64 0, .int .i64 0] 61)) = wA at *
  obtain ⟨B, hB⟩ : ∃ B, B = w.heap.size := ⟨_, rfl⟩
  rw [← hB] at k2 k3 ⊢
  have hlA : 1 < wA.heap.size := Nat.lt_of_lt_of_le hl gb.size
  have c0 := blk_cell k2 0 (v := .int .u32 x) rfl
  have hcx := HFT.out _ gb k hk
  rw [HV.out] at hcx
  have K3 := Lib.hid k3
  have GB := Lib.hid gb
  have EB := Lib.hid hB
  clear k2 k3 gb hB
  have bb1 := bG_in x 11 7
  have bb2 := bG_in x 19 15
  have bb3 := bG_in x 24 20
  go_quiet ((go_at_call 37; exact Calls.quiet_of_same (c_bits_gen x HX.out _ _ (by decide) _)))
  have K4 := Lib.hid (blk_gr (gr_dN wA nq) K3.out)
  have G4 := Lib.hid (gtrans GB.out (gr_dN wA nq))
  have q0 : (wA.drewN nq).cell? ⟨B, 0, none⟩ = some (.int .u32 x) := kcell (gr_dN wA nq) c0
  have q1 : (wA.drewN nq).cell? ⟨1, k, none⟩ = some (.int .u8 66) := kcell (gr_dN wA nq) hcx
  have hlB : 1 < (wA.drewN nq).heap.size := hlA
  generalize wA.drewN nq = wB at *
  have d0 := blk_cell K4.out 0 (v := .int .i64 0) rfl
  have d1 := blk_cell K4.out 1 (v := .int .i64 0) rfl
  have d2 := blk_cell K4.out 2 (v := .int .i64 0) rfl
  have d3 := blk_cell K4.out 3 (v := .int .i64 0) rfl
  have d4 := blk_cell K4.out 4 (v := .int .i64 0) rfl
  have z0 := blk_frozen K4.out 0
  have z1 := blk_frozen K4.out 1
  have z2 := blk_frozen K4.out 2
  have z3 := blk_frozen K4.out 3
  have z4 := blk_frozen K4.out 4
  go_upto_region 3 with (go_at_call 37; refine (C4.out _).mono ?_; rintro e w3 ⟨rfl, rfl⟩)
  go_wp2_with (first | (go_at_call 62; (with_reducible refine (c_put_30_25_5 _ HX.out _ _ (by assumption)).mono ?_); rintro e w3 ⟨rfl, rfl⟩) | (go_at_call 62; (with_reducible refine (c_put_11_8_1 _ HX.out _ _ (by assumption)).mono ?_); rintro e w3 ⟨rfl, rfl⟩) | (go_at_call 62; (with_reducible refine (c_put_7_7_11 _ HX.out _ _ (by assumption)).mono ?_); rintro e w3 ⟨rfl, rfl⟩)| fail)
  obtain ⟨hz, gz⟩ := set5g (B := B + 1) (by rw [EB.out]; omega) K4.out G4.out (.int .i64 (k : Int)) (.int .i64 0) (.int .i64 (bG x 19 15)) (.int .i64 (bG x 24 20)) (.int .i64 (bits .or .i64 (bits .or .i64 (bits .or .i64 (-(x / 2147483648 % 2) * 4096) (x / 33554432 % 64 * 32)) (x / 256 % 16 * 2)) (x / 128 % 2 * 2048)))
  refine bodyPost_ret (v := iv (k : Int) 0 (bG x 19 15) (bG x 24 20) (bits .or .i64 (bits .or .i64 (bits .or .i64 (-(x / 2147483648 % 2) * 4096) (x / 33554432 % 64 * 32)) (x / 256 % 16 * 2)) (x / 128 % 2 * 2048))) ?_ rfl ?_
  · have y0 := blk_cell hz 0 (v := .int .i64 (k : Int)) rfl
    have y1 := blk_cell hz 1 (v := .int .i64 0) rfl
    have y2 := blk_cell hz 2 (v := .int .i64 (bG x 19 15)) rfl
    have y3 := blk_cell hz 3 (v := .int .i64 (bG x 24 20)) rfl
    have y4 := blk_cell hz 4 (v := .int .i64 (bits .or .i64 (bits .or .i64 (bits .or .i64 (-(x / 2147483648 % 2) * 4096) (x / 33554432 % 64 * 32)) (x / 256 % 16 * 2)) (x / 128 % 2 * 2048))) rfl
    generalize (World.setCell _ ⟨B + 1, 4, none⟩ _) = wz at *
    simp [results, Tryz.results40, go_sem, y0, y1, y2, y3, y4]
  · exact ⟨by rw [HV.out]; rfl, gz⟩
end Go.Proofs.YtngeabphjdfdgaaGreatDoor.P
namespace Go.Proofs.YtngeabphjdfdgaaGreatDoor.P
open Go.RowKit
def fromF (c : Int) : Nat := if c = 55 then 1 else if c = 23 then 2 else if c = 111 then 3 else if c = 103 then 4 else if c = 99 then 5 else if c = 3 then 11 else if c = 35 then 18 else if c = 19 then 22 else if c = 27 then 31 else if c = 51 then 35 else if c = 59 then 35 else if c = 15 then 63 else if c = 115 then 63 else if c = 47 then 66 else 0
def toF (c : Int) : Nat := if c = 55 then 1 else if c = 23 then 2 else if c = 111 then 3 else if c = 103 then 4 else if c = 99 then 10 else if c = 3 then 17 else if c = 35 then 21 else if c = 19 then 30 else if c = 27 then 34 else if c = 51 then 62 else if c = 59 then 62 else if c = 15 then 65 else if c = 115 then 65 else if c = 47 then 87 else 0
theorem ret_ii {a b c d : Int} (h : a = b) (h2 : c = d) : Ending.returned (.tuple #[.int .i64 a, .int .i64 c]) = .returned (.tuple #[.int .i64 b, .int .i64 d]) := by rw [h, h2]
set_option maxHeartbeats 1600000 in
theorem c_span (c : Int) (w : World) : Calls Tryz.prog 36 #[.int .u32 c] w fun e w' => e = .returned (.tuple #[.int .i64 (fromF c), .int .i64 (toF c)]) ∧ w' = w := by
  by_cases h : c = 55 ∨ c = 23 ∨ c = 111 ∨ c = 103 ∨ c = 99 ∨ c = 3 ∨ c = 35 ∨ c = 19 ∨ c = 27 ∨ c = 51 ∨ c = 59 ∨ c = 15 ∨ c = 115 ∨ c = 47
  · rcases h with rfl | rfl | rfl | rfl | rfl | rfl | rfl | rfl | rfl | rfl | rfl | rfl | rfl | rfl
    all_goals
      go_enter Tryz.func36, Tryz.ntmps36
      go_wp2
      go_ret2
      exact ⟨rfl, rfl⟩
  · have hf : fromF c = 0 := by
      unfold fromF
      repeat rw [if_neg (by omega)]
    have ht : toF c = 0 := by
      unfold toF
      repeat rw [if_neg (by omega)]
    rw [hf, ht]
    have e55 : (c == 55) = false := beq_eq_false_iff_ne.2 (by omega)
    have e23 : (c == 23) = false := beq_eq_false_iff_ne.2 (by omega)
    have e111 : (c == 111) = false := beq_eq_false_iff_ne.2 (by omega)
    have e103 : (c == 103) = false := beq_eq_false_iff_ne.2 (by omega)
    have e99 : (c == 99) = false := beq_eq_false_iff_ne.2 (by omega)
    have e3 : (c == 3) = false := beq_eq_false_iff_ne.2 (by omega)
    have e35 : (c == 35) = false := beq_eq_false_iff_ne.2 (by omega)
    have e19 : (c == 19) = false := beq_eq_false_iff_ne.2 (by omega)
    have e27 : (c == 27) = false := beq_eq_false_iff_ne.2 (by omega)
    have e51 : (c == 51) = false := beq_eq_false_iff_ne.2 (by omega)
    have e59 : (c == 59) = false := beq_eq_false_iff_ne.2 (by omega)
    have e15 : (c == 15) = false := beq_eq_false_iff_ne.2 (by omega)
    have e115 : (c == 115) = false := beq_eq_false_iff_ne.2 (by omega)
    have e47 : (c == 47) = false := beq_eq_false_iff_ne.2 (by omega)
    clear h hf ht
    go_enter Tryz.func36, Tryz.ntmps36
    go_wp2
    go_ret2
    exact ⟨rfl, rfl⟩
def matB (x : Int) (k : Nat) : Bool := bits .and .u32 x (maskT k) == fixT k
theorem from_to (c : Int) : 1 ≤ fromF c ∧ toF c ≤ 87 ∨ (fromF c = 0 ∧ toF c = 0) := by
  by_cases h : c = 55 ∨ c = 23 ∨ c = 111 ∨ c = 103 ∨ c = 99 ∨ c = 3 ∨ c = 35 ∨ c = 19 ∨ c = 27 ∨ c = 51 ∨ c = 59 ∨ c = 15 ∨ c = 115 ∨ c = 47
  · rcases h with rfl | rfl | rfl | rfl | rfl | rfl | rfl | rfl | rfl | rfl | rfl | rfl | rfl | rfl
    all_goals exact .inl ⟨by decide, by decide⟩
  · refine .inr ⟨?_, ?_⟩
    · unfold fromF
      repeat rw [if_neg (by omega)]
    · unfold toF
      repeat rw [if_neg (by omega)]
set_option maxHeartbeats 6400000 in
theorem c_decode_yes (x : Int) (hx : u32 x) (k : Nat) (h1 : 1 ≤ k) (hf : fromF (x % 128) ≤ k) (ht : k ≤ toF (x % 128)) (hm : matB x k = true) (hno : ∀ j, 1 ≤ j → fromF (x % 128) ≤ j → j < k → matB x j = false) (rd a b i : Int) (w : World) (hF : FT w)
    (CFL : ∀ w1, Gr w w1 → Calls Tryz.prog 40 #[.int .i64 (k : Int), .int .u32 x] w1 fun e w' => e = .returned (iv (k : Int) rd a b i) ∧ Gr w1 w') :
    Calls Tryz.prog 18 #[.int .u32 x] w fun e w' => e = .returned (.tuple #[iv (k : Int) rd a b i, .int .i64 0]) ∧ Gr w w' := by
  have hk : k < 88 := by rcases from_to (x % 128) with h | h <;> omega
  have hfl : 1 ≤ fromF (x % 128) := by rcases from_to (x % 128) with h | h <;> omega
  have htl : toF (x % 128) ≤ 87 := by rcases from_to (x % 128) with h | h <;> omega
  have CB := Lib.hid (c_bits_6_0 x hx)
  have CS := Lib.hid (c_span (x % 128))
  have HNO := Lib.hid hno
  have HM := Lib.hid hm
  have CM : Hid (∀ (j : Nat), 1 ≤ j → j < 88 → ∀ w1, Gr w w1 → Calls Tryz.prog 38 #[.int .i64 (j : Int)] w1 fun e w' => e = .returned (.int .u32 (maskT j)) ∧ Gr w1 w') := Lib.hid (fun j j1 j2 w1 g => c_mask j j2 j1 w1 (hF.gr g))
  have CX : Hid (∀ (j : Nat), j < 88 → ∀ w1, Gr w w1 → Calls Tryz.prog 39 #[.int .i64 (j : Int)] w1 fun e w' => e = .returned (.int .u32 (fixT j)) ∧ Gr w1 w') := Lib.hid (fun j j2 w1 g => c_fixed j j2 w1 (hF.gr g))
  have CF := Lib.hid CFL
  have hb := blk_new w (.cells #[.int .i64 0, .int .i64 0, .int .i64 0, .int .i64 0, .int .i64 0] 61)
  have gb := gr_al (Gr.refl w) (.cells #[.int .i64 0, .int .i64 0, .int .i64 0, .int .i64 0, .int .i64 0] 61)
  obtain ⟨x0, x1⟩ := hx
  clear hF hno hm CFL
  rw [show x / 1 % 128 = x % 128 by omega] at CB
  generalize hfr : fromF (x % 128) = fr at *
  generalize hto : toF (x % 128) = tt at *
  clear hfr hto
  have hmx : max (fr : Int) 1 = (fr : Int) := by omega
  go_enter Tryz.func18, Tryz.ntmps18
  go_upto_region 1 with fail
  generalize w.alloc (.cells #[.int .i64 0, .int .i64 0, .int .i64 0, .int .i64 0, .int .i64 0] 61) = wA at *
  obtain ⟨B, hB⟩ : ∃ B, B = w.heap.size := ⟨_, rfl⟩
  rw [← hB] at hb ⊢
  have HB := Lib.hid hb
  have GB := Lib.hid gb
  have EB := Lib.hid hB
  clear hb gb hB
  go_upto_region 2 with (first | (go_at_call 37; refine (CB.out _).mono ?_; rintro e w1 ⟨rfl, rfl⟩) | (go_at_call 36; refine (CS.out _).mono ?_; rintro e w1 ⟨rfl, rfl⟩))
  go_wp2_with fail
  go_loopw [6] (fun v wr => ∃ j : Nat, fr ≤ j ∧ j ≤ k ∧ v = .int .i64 (j : Int) ∧ wr.heap[B]? = some (.cells #[.int .i64 0, .int .i64 0, .int .i64 0, .int .i64 0, .int .i64 0] 61) ∧ Gr w wr) (fun v _ => k - (intOf v).toNat)
  case atStart => exact ⟨fr, Nat.le_refl _, hf, congrArg (Value.int .i64) (by first | rfl | exact hmx), HB.out, GB.out⟩
  case round =>
    obtain ⟨j, hj1, hj2, rfl, hbb, hgg⟩ := hrel
    have HBB := Lib.hid hbb
    have HGG := Lib.hid hgg
    clear hbb hgg
    have C1 := Lib.hid (CM.out j (by omega) (by omega))
    have C2 := Lib.hid (CX.out j (by omega))
    have ett : decide (j ≤ tt) = true := decide_eq_true (by omega)
    by_cases hlt : j < k
    · have em : (bits .and .u32 x (maskT j) == fixT j) = false := HNO.out j (by omega) (by omega) hlt
      go_wp2_with (first
        | (go_at_call 38; refine (C1.out _ HGG.out).mono ?_; rintro e w3 ⟨rfl, g3⟩; have HG3 := Lib.hid (gtrans HGG.out g3); have HB3 := Lib.hid (blk_gr g3 HBB.out); clear g3)
        | (go_at_call 39; refine (C2.out _ HG3.out).mono ?_; rintro e w4 ⟨rfl, g4⟩; have HG4 := Lib.hid (gtrans HG3.out g4); have HB4 := Lib.hid (blk_gr g4 HB3.out); clear g4))
      go_roundw
      case rel => exact ⟨j + 1, by omega, by omega, by go_num, HB4.out, HG4.out⟩
      case measure => simp [intOf]; omega
    · have ej : j = k := by omega
      subst ej
      have em : (bits .and .u32 x (maskT j) == fixT j) = true := HM.out
      go_wp2_with (first
        | (go_at_call 38; refine (C1.out _ HGG.out).mono ?_; rintro e w3 ⟨rfl, g3⟩; have HG3 := Lib.hid (gtrans HGG.out g3); have HB3 := Lib.hid (blk_gr g3 HBB.out); clear g3)
        | (go_at_call 39; refine (C2.out _ HG3.out).mono ?_; rintro e w4 ⟨rfl, g4⟩; have HG4 := Lib.hid (gtrans HG3.out g4); have HB4 := Lib.hid (blk_gr g4 HB3.out); clear g4)
        | (go_at_call 40; refine (CF.out _ HG4.out).mono ?_; rintro e w5 ⟨rfl, g5⟩; have HG5 := Lib.hid (gtrans HG4.out g5); have hb5 := blk_gr g5 HB4.out; have HB5 := Lib.hid hb5; have d0 := blk_cell hb5 0 (v := .int .i64 0) rfl; have d1 := blk_cell hb5 1 (v := .int .i64 0) rfl; have d2 := blk_cell hb5 2 (v := .int .i64 0) rfl; have d3 := blk_cell hb5 3 (v := .int .i64 0) rfl; have d4 := blk_cell hb5 4 (v := .int .i64 0) rfl; have z0 := blk_frozen hb5 0; have z1 := blk_frozen hb5 1; have z2 := blk_frozen hb5 2; have z3 := blk_frozen hb5 3; have z4 := blk_frozen hb5 4; clear g5 hb5))
      obtain ⟨hz, gz⟩ := set5g (B := B) (by rw [EB.out]; exact Nat.le_refl _) HB5.out HG5.out (.int .i64 (j : Int)) (.int .i64 rd) (.int .i64 a) (.int .i64 b) (.int .i64 i)
      refine bodyPost_ret (v := .tuple #[iv (j : Int) rd a b i, .int .i64 0]) ?_ rfl ⟨rfl, gz⟩
      have y0 := blk_cell hz 0 (v := .int .i64 (j : Int)) rfl
      have y1 := blk_cell hz 1 (v := .int .i64 rd) rfl
      have y2 := blk_cell hz 2 (v := .int .i64 a) rfl
      have y3 := blk_cell hz 3 (v := .int .i64 b) rfl
      have y4 := blk_cell hz 4 (v := .int .i64 i) rfl
      generalize (World.setCell _ ⟨B, 4, none⟩ _) = wz at *
      simp [results, Tryz.results18, go_sem, y0, y1, y2, y3, y4]
end Go.Proofs.YtngeabphjdfdgaaGreatDoor.P
namespace Go.Proofs.YtngeabphjdfdgaaGreatDoor.P
open Go.RowKit
set_option maxHeartbeats 3200000 in
theorem c_fld_85 (k : Nat) (hk : k < 88) (h1 : 1 ≤ k) (hv : fmT k = 85) (x : Int) (hx : u32 x) (w : World) (hF : FT w) : Calls Tryz.prog 40 #[.int .i64 (k : Int), .int .u32 x] w fun e w' => e = .returned (iv (k : Int) (x / 128 % 32) 0 0 (fldR (fmT k) x)) ∧ Gr w w' := by
  have HX := Lib.hid hx
  have HFT := Lib.hid (fun w1 (g : Gr w w1) => FT.gr hF g)
  have hl : 1 < w.heap.size := cell_lt (hF 0 (by omega))
  have hk88 : (k : Int) < 88 := by omega
  have HV := Lib.hid hv
  have C1 := Lib.hid (c_bits_11_7 x hx)
  have C2 := Lib.hid (c_bits_19_15 x hx)
  have C3 := Lib.hid (c_bits_24_20 x hx)
  have C4 := Lib.hid (c_bits_31_31 x hx)
  obtain ⟨x0, x1⟩ := hx
  have k2 := blk_alloc (.cells #[.int .i64 0, .int .i64 0, .int .i64 0, .int .i64 0, .int .i64 0] 61) (blk_new w (.cells #[.int .u32 x] 49))
  have k3 := blk_new1 w (.cells #[.int .u32 x] 49) (.cells #[.int .i64 0, .int .i64 0, .int .i64 0, .int .i64 0, .int .i64 0] 61)
  have gb := gr_al (gr_al (Gr.refl w) (.cells #[.int .u32 x] 49)) (.cells #[.int .i64 0, .int .i64 0, .int .i64 0, .int .i64 0, .int .i64 0] 61)
  clear hF hv
  go_enter Tryz.func40, Tryz.ntmps40
  go_upto_region 1 with fail
  generalize ((w.alloc (.cells #[.int .u32 x] 49)).alloc (.cells #[.int .i64 0, .int .i64 0, .int .i64 0, .int .i64 0, .int .i64 0] 61)) = wA at *
  obtain ⟨B, hB⟩ : ∃ B, B = w.heap.size := ⟨_, rfl⟩
  rw [← hB] at k2 k3 ⊢
  have hlA : 1 < wA.heap.size := Nat.lt_of_lt_of_le hl gb.size
  have c0 := blk_cell k2 0 (v := .int .u32 x) rfl
  have hcx := HFT.out _ gb k hk
  rw [HV.out] at hcx
  have K3 := Lib.hid k3
  have GB := Lib.hid gb
  have EB := Lib.hid hB
  clear k2 k3 gb hB
  have bb1 := bG_in x 11 7
  have bb2 := bG_in x 19 15
  have bb3 := bG_in x 24 20
  go_quiet ((go_at_call 37; exact Calls.quiet_of_same (c_bits_gen x HX.out _ _ (by decide) _)))
  have K4 := Lib.hid (blk_gr (gr_dN wA nq) K3.out)
  have G4 := Lib.hid (gtrans GB.out (gr_dN wA nq))
  have q0 : (wA.drewN nq).cell? ⟨B, 0, none⟩ = some (.int .u32 x) := kcell (gr_dN wA nq) c0
  have q1 : (wA.drewN nq).cell? ⟨1, k, none⟩ = some (.int .u8 85) := kcell (gr_dN wA nq) hcx
  have hlB : 1 < (wA.drewN nq).heap.size := hlA
  generalize wA.drewN nq = wB at *
  have d0 := blk_cell K4.out 0 (v := .int .i64 0) rfl
  have d1 := blk_cell K4.out 1 (v := .int .i64 0) rfl
  have d2 := blk_cell K4.out 2 (v := .int .i64 0) rfl
  have d3 := blk_cell K4.out 3 (v := .int .i64 0) rfl
  have d4 := blk_cell K4.out 4 (v := .int .i64 0) rfl
  have z0 := blk_frozen K4.out 0
  have z1 := blk_frozen K4.out 1
  have z2 := blk_frozen K4.out 2
  have z3 := blk_frozen K4.out 3
  have z4 := blk_frozen K4.out 4
  go_upto_region 3 with (go_at_call 37; refine (C4.out _).mono ?_; rintro e w3 ⟨rfl, rfl⟩)
  go_wp2_with (first | (go_at_call 62; (with_reducible refine (c_put_30_12_12 _ HX.out _ _ (by assumption)).mono ?_); rintro e w3 ⟨rfl, rfl⟩)| fail)
  obtain ⟨hz, gz⟩ := set5g (B := B + 1) (by rw [EB.out]; omega) K4.out G4.out (.int .i64 (k : Int)) (.int .i64 (bG x 11 7)) (.int .i64 0) (.int .i64 0) (.int .i64 (bits .or .i64 (-(x / 2147483648 % 2) * 2147483648) (x / 4096 % 524288 * 4096)))
  refine bodyPost_ret (v := iv (k : Int) (bG x 11 7) 0 0 (bits .or .i64 (-(x / 2147483648 % 2) * 2147483648) (x / 4096 % 524288 * 4096))) ?_ rfl ?_
  · have y0 := blk_cell hz 0 (v := .int .i64 (k : Int)) rfl
    have y1 := blk_cell hz 1 (v := .int .i64 (bG x 11 7)) rfl
    have y2 := blk_cell hz 2 (v := .int .i64 0) rfl
    have y3 := blk_cell hz 3 (v := .int .i64 0) rfl
    have y4 := blk_cell hz 4 (v := .int .i64 (bits .or .i64 (-(x / 2147483648 % 2) * 2147483648) (x / 4096 % 524288 * 4096))) rfl
    generalize (World.setCell _ ⟨B + 1, 4, none⟩ _) = wz at *
    simp [results, Tryz.results40, go_sem, y0, y1, y2, y3, y4]
  · exact ⟨by rw [HV.out]; rfl, gz⟩
set_option maxHeartbeats 3200000 in
theorem c_fld_74 (k : Nat) (hk : k < 88) (h1 : 1 ≤ k) (hv : fmT k = 74) (x : Int) (hx : u32 x) (w : World) (hF : FT w) : Calls Tryz.prog 40 #[.int .i64 (k : Int), .int .u32 x] w fun e w' => e = .returned (iv (k : Int) (x / 128 % 32) 0 0 (fldR (fmT k) x)) ∧ Gr w w' := by
  have HX := Lib.hid hx
  have HFT := Lib.hid (fun w1 (g : Gr w w1) => FT.gr hF g)
  have hl : 1 < w.heap.size := cell_lt (hF 0 (by omega))
  have hk88 : (k : Int) < 88 := by omega
  have HV := Lib.hid hv
  have C1 := Lib.hid (c_bits_11_7 x hx)
  have C2 := Lib.hid (c_bits_19_15 x hx)
  have C3 := Lib.hid (c_bits_24_20 x hx)
  have C4 := Lib.hid (c_bits_31_31 x hx)
  obtain ⟨x0, x1⟩ := hx
  have k2 := blk_alloc (.cells #[.int .i64 0, .int .i64 0, .int .i64 0, .int .i64 0, .int .i64 0] 61) (blk_new w (.cells #[.int .u32 x] 49))
  have k3 := blk_new1 w (.cells #[.int .u32 x] 49) (.cells #[.int .i64 0, .int .i64 0, .int .i64 0, .int .i64 0, .int .i64 0] 61)
  have gb := gr_al (gr_al (Gr.refl w) (.cells #[.int .u32 x] 49)) (.cells #[.int .i64 0, .int .i64 0, .int .i64 0, .int .i64 0, .int .i64 0] 61)
  clear hF hv
  go_enter Tryz.func40, Tryz.ntmps40
  go_upto_region 1 with fail
  generalize ((w.alloc (.cells #[.int .u32 x] 49)).alloc (.cells #[.int .i64 0, .int .i64 0, .int .i64 0, .int .i64 0, .int .i64 0] 61)) = wA at *
  obtain ⟨B, hB⟩ : ∃ B, B = w.heap.size := ⟨_, rfl⟩
  rw [← hB] at k2 k3 ⊢
  have hlA : 1 < wA.heap.size := Nat.lt_of_lt_of_le hl gb.size
  have c0 := blk_cell k2 0 (v := .int .u32 x) rfl
  have hcx := HFT.out _ gb k hk
  rw [HV.out] at hcx
  have K3 := Lib.hid k3
  have GB := Lib.hid gb
  have EB := Lib.hid hB
  clear k2 k3 gb hB
  have bb1 := bG_in x 11 7
  have bb2 := bG_in x 19 15
  have bb3 := bG_in x 24 20
  go_quiet ((go_at_call 37; exact Calls.quiet_of_same (c_bits_gen x HX.out _ _ (by decide) _)))
  have K4 := Lib.hid (blk_gr (gr_dN wA nq) K3.out)
  have G4 := Lib.hid (gtrans GB.out (gr_dN wA nq))
  have q0 : (wA.drewN nq).cell? ⟨B, 0, none⟩ = some (.int .u32 x) := kcell (gr_dN wA nq) c0
  have q1 : (wA.drewN nq).cell? ⟨1, k, none⟩ = some (.int .u8 74) := kcell (gr_dN wA nq) hcx
  have hlB : 1 < (wA.drewN nq).heap.size := hlA
  generalize wA.drewN nq = wB at *
  have d0 := blk_cell K4.out 0 (v := .int .i64 0) rfl
  have d1 := blk_cell K4.out 1 (v := .int .i64 0) rfl
  have d2 := blk_cell K4.out 2 (v := .int .i64 0) rfl
  have d3 := blk_cell K4.out 3 (v := .int .i64 0) rfl
  have d4 := blk_cell K4.out 4 (v := .int .i64 0) rfl
  have z0 := blk_frozen K4.out 0
  have z1 := blk_frozen K4.out 1
  have z2 := blk_frozen K4.out 2
  have z3 := blk_frozen K4.out 3
  have z4 := blk_frozen K4.out 4
  go_upto_region 3 with (go_at_call 37; refine (C4.out _).mono ?_; rintro e w3 ⟨rfl, rfl⟩)
  go_wp2_with (first | (go_at_call 62; (with_reducible refine (c_put_30_21_1 _ HX.out _ _ (by assumption)).mono ?_); rintro e w3 ⟨rfl, rfl⟩) | (go_at_call 62; (with_reducible refine (c_put_20_20_11 _ HX.out _ _ (by assumption)).mono ?_); rintro e w3 ⟨rfl, rfl⟩) | (go_at_call 62; (with_reducible refine (c_put_19_12_12 _ HX.out _ _ (by assumption)).mono ?_); rintro e w3 ⟨rfl, rfl⟩)| fail)
  obtain ⟨hz, gz⟩ := set5g (B := B + 1) (by rw [EB.out]; omega) K4.out G4.out (.int .i64 (k : Int)) (.int .i64 (bG x 11 7)) (.int .i64 0) (.int .i64 0) (.int .i64 (bits .or .i64 (bits .or .i64 (bits .or .i64 (-(x / 2147483648 % 2) * 1048576) (x / 2097152 % 1024 * 2)) (x / 1048576 % 2 * 2048)) (x / 4096 % 256 * 4096)))
  refine bodyPost_ret (v := iv (k : Int) (bG x 11 7) 0 0 (bits .or .i64 (bits .or .i64 (bits .or .i64 (-(x / 2147483648 % 2) * 1048576) (x / 2097152 % 1024 * 2)) (x / 1048576 % 2 * 2048)) (x / 4096 % 256 * 4096))) ?_ rfl ?_
  · have y0 := blk_cell hz 0 (v := .int .i64 (k : Int)) rfl
    have y1 := blk_cell hz 1 (v := .int .i64 (bG x 11 7)) rfl
    have y2 := blk_cell hz 2 (v := .int .i64 0) rfl
    have y3 := blk_cell hz 3 (v := .int .i64 0) rfl
    have y4 := blk_cell hz 4 (v := .int .i64 (bits .or .i64 (bits .or .i64 (bits .or .i64 (-(x / 2147483648 % 2) * 1048576) (x / 2097152 % 1024 * 2)) (x / 1048576 % 2 * 2048)) (x / 4096 % 256 * 4096))) rfl
    generalize (World.setCell _ ⟨B + 1, 4, none⟩ _) = wz at *
    simp [results, Tryz.results40, go_sem, y0, y1, y2, y3, y4]
  · exact ⟨by rw [HV.out]; rfl, gz⟩
set_option maxHeartbeats 3200000 in
theorem c_fld_73 (k : Nat) (hk : k < 88) (h1 : 1 ≤ k) (hv : fmT k = 73) (x : Int) (hx : u32 x) (w : World) (hF : FT w) : Calls Tryz.prog 40 #[.int .i64 (k : Int), .int .u32 x] w fun e w' => e = .returned (iv (k : Int) (x / 128 % 32) (x / 32768 % 32) 0 (fldR (fmT k) x)) ∧ Gr w w' := by
  have HX := Lib.hid hx
  have HFT := Lib.hid (fun w1 (g : Gr w w1) => FT.gr hF g)
  have hl : 1 < w.heap.size := cell_lt (hF 0 (by omega))
  have hk88 : (k : Int) < 88 := by omega
  have HV := Lib.hid hv
  have C1 := Lib.hid (c_bits_11_7 x hx)
  have C2 := Lib.hid (c_bits_19_15 x hx)
  have C3 := Lib.hid (c_bits_24_20 x hx)
  have C4 := Lib.hid (c_bits_31_31 x hx)
  obtain ⟨x0, x1⟩ := hx
  have k2 := blk_alloc (.cells #[.int .i64 0, .int .i64 0, .int .i64 0, .int .i64 0, .int .i64 0] 61) (blk_new w (.cells #[.int .u32 x] 49))
  have k3 := blk_new1 w (.cells #[.int .u32 x] 49) (.cells #[.int .i64 0, .int .i64 0, .int .i64 0, .int .i64 0, .int .i64 0] 61)
  have gb := gr_al (gr_al (Gr.refl w) (.cells #[.int .u32 x] 49)) (.cells #[.int .i64 0, .int .i64 0, .int .i64 0, .int .i64 0, .int .i64 0] 61)
  clear hF hv
  go_enter Tryz.func40, Tryz.ntmps40
  go_upto_region 1 with fail
  generalize ((w.alloc (.cells #[.int .u32 x] 49)).alloc (.cells #[.int .i64 0, .int .i64 0, .int .i64 0, .int .i64 0, .int .i64 0] 61)) = wA at *
  obtain ⟨B, hB⟩ : ∃ B, B = w.heap.size := ⟨_, rfl⟩
  rw [← hB] at k2 k3 ⊢
  have hlA : 1 < wA.heap.size := Nat.lt_of_lt_of_le hl gb.size
  have c0 := blk_cell k2 0 (v := .int .u32 x) rfl
  have hcx := HFT.out _ gb k hk
  rw [HV.out] at hcx
  have K3 := Lib.hid k3
  have GB := Lib.hid gb
  have EB := Lib.hid hB
  clear k2 k3 gb hB
  have bb1 := bG_in x 11 7
  have bb2 := bG_in x 19 15
  have bb3 := bG_in x 24 20
  go_quiet ((go_at_call 37; exact Calls.quiet_of_same (c_bits_gen x HX.out _ _ (by decide) _)))
  have K4 := Lib.hid (blk_gr (gr_dN wA nq) K3.out)
  have G4 := Lib.hid (gtrans GB.out (gr_dN wA nq))
  have q0 : (wA.drewN nq).cell? ⟨B, 0, none⟩ = some (.int .u32 x) := kcell (gr_dN wA nq) c0
  have q1 : (wA.drewN nq).cell? ⟨1, k, none⟩ = some (.int .u8 73) := kcell (gr_dN wA nq) hcx
  have hlB : 1 < (wA.drewN nq).heap.size := hlA
  generalize wA.drewN nq = wB at *
  have d0 := blk_cell K4.out 0 (v := .int .i64 0) rfl
  have d1 := blk_cell K4.out 1 (v := .int .i64 0) rfl
  have d2 := blk_cell K4.out 2 (v := .int .i64 0) rfl
  have d3 := blk_cell K4.out 3 (v := .int .i64 0) rfl
  have d4 := blk_cell K4.out 4 (v := .int .i64 0) rfl
  have z0 := blk_frozen K4.out 0
  have z1 := blk_frozen K4.out 1
  have z2 := blk_frozen K4.out 2
  have z3 := blk_frozen K4.out 3
  have z4 := blk_frozen K4.out 4
  go_upto_region 3 with (go_at_call 37; refine (C4.out _).mono ?_; rintro e w3 ⟨rfl, rfl⟩)
  go_wp2_with (first | (go_at_call 62; (with_reducible refine (c_put_30_20_0 _ HX.out _ _ (by assumption)).mono ?_); rintro e w3 ⟨rfl, rfl⟩)| fail)
  obtain ⟨hz, gz⟩ := set5g (B := B + 1) (by rw [EB.out]; omega) K4.out G4.out (.int .i64 (k : Int)) (.int .i64 (bG x 11 7)) (.int .i64 (bG x 19 15)) (.int .i64 0) (.int .i64 (bits .or .i64 (-(x / 2147483648 % 2) * 2048) (x / 1048576 % 2048)))
  refine bodyPost_ret (v := iv (k : Int) (bG x 11 7) (bG x 19 15) 0 (bits .or .i64 (-(x / 2147483648 % 2) * 2048) (x / 1048576 % 2048))) ?_ rfl ?_
  · have y0 := blk_cell hz 0 (v := .int .i64 (k : Int)) rfl
    have y1 := blk_cell hz 1 (v := .int .i64 (bG x 11 7)) rfl
    have y2 := blk_cell hz 2 (v := .int .i64 (bG x 19 15)) rfl
    have y3 := blk_cell hz 3 (v := .int .i64 0) rfl
    have y4 := blk_cell hz 4 (v := .int .i64 (bits .or .i64 (-(x / 2147483648 % 2) * 2048) (x / 1048576 % 2048))) rfl
    generalize (World.setCell _ ⟨B + 1, 4, none⟩ _) = wz at *
    simp [results, Tryz.results40, go_sem, y0, y1, y2, y3, y4]
  · exact ⟨by rw [HV.out]; rfl, gz⟩
end Go.Proofs.YtngeabphjdfdgaaGreatDoor.P
namespace Go.Proofs.YtngeabphjdfdgaaGreatDoor.P
open Go.RowKit
set_option maxHeartbeats 3200000 in
theorem c_fld_83 (k : Nat) (hk : k < 88) (h1 : 1 ≤ k) (hv : fmT k = 83) (x : Int) (hx : u32 x) (w : World) (hF : FT w) : Calls Tryz.prog 40 #[.int .i64 (k : Int), .int .u32 x] w fun e w' => e = .returned (iv (k : Int) 0 (x / 32768 % 32) (x / 1048576 % 32) (fldR (fmT k) x)) ∧ Gr w w' := by
  have HX := Lib.hid hx
  have HFT := Lib.hid (fun w1 (g : Gr w w1) => FT.gr hF g)
  have hl : 1 < w.heap.size := cell_lt (hF 0 (by omega))
  have hk88 : (k : Int) < 88 := by omega
  have HV := Lib.hid hv
  have C1 := Lib.hid (c_bits_11_7 x hx)
  have C2 := Lib.hid (c_bits_19_15 x hx)
  have C3 := Lib.hid (c_bits_24_20 x hx)
  have C4 := Lib.hid (c_bits_31_31 x hx)
  obtain ⟨x0, x1⟩ := hx
  have k2 := blk_alloc (.cells #[.int .i64 0, .int .i64 0, .int .i64 0, .int .i64 0, .int .i64 0] 61) (blk_new w (.cells #[.int .u32 x] 49))
  have k3 := blk_new1 w (.cells #[.int .u32 x] 49) (.cells #[.int .i64 0, .int .i64 0, .int .i64 0, .int .i64 0, .int .i64 0] 61)
  have gb := gr_al (gr_al (Gr.refl w) (.cells #[.int .u32 x] 49)) (.cells #[.int .i64 0, .int .i64 0, .int .i64 0, .int .i64 0, .int .i64 0] 61)
  clear hF hv
  go_enter Tryz.func40, Tryz.ntmps40
  go_upto_region 1 with fail
  generalize ((w.alloc (.cells #[.int .u32 x] 49)).alloc (.cells #[.int .i64 0, .int .i64 0, .int .i64 0, .int .i64 0, .int .i64 0] 61)) = wA at *
  obtain ⟨B, hB⟩ : ∃ B, B = w.heap.size := ⟨_, rfl⟩
  rw [← hB] at k2 k3 ⊢
  have hlA : 1 < wA.heap.size := Nat.lt_of_lt_of_le hl gb.size
  have c0 := blk_cell k2 0 (v := .int .u32 x) rfl
  have hcx := HFT.out _ gb k hk
  rw [HV.out] at hcx
  have K3 := Lib.hid k3
  have GB := Lib.hid gb
  have EB := Lib.hid hB
  clear k2 k3 gb hB
  have bb1 := bG_in x 11 7
  have bb2 := bG_in x 19 15
  have bb3 := bG_in x 24 20
  go_quiet ((go_at_call 37; exact Calls.quiet_of_same (c_bits_gen x HX.out _ _ (by decide) _)))
  have K4 := Lib.hid (blk_gr (gr_dN wA nq) K3.out)
  have G4 := Lib.hid (gtrans GB.out (gr_dN wA nq))
  have q0 : (wA.drewN nq).cell? ⟨B, 0, none⟩ = some (.int .u32 x) := kcell (gr_dN wA nq) c0
  have q1 : (wA.drewN nq).cell? ⟨1, k, none⟩ = some (.int .u8 83) := kcell (gr_dN wA nq) hcx
  have hlB : 1 < (wA.drewN nq).heap.size := hlA
  generalize wA.drewN nq = wB at *
  have d0 := blk_cell K4.out 0 (v := .int .i64 0) rfl
  have d1 := blk_cell K4.out 1 (v := .int .i64 0) rfl
  have d2 := blk_cell K4.out 2 (v := .int .i64 0) rfl
  have d3 := blk_cell K4.out 3 (v := .int .i64 0) rfl
  have d4 := blk_cell K4.out 4 (v := .int .i64 0) rfl
  have z0 := blk_frozen K4.out 0
  have z1 := blk_frozen K4.out 1
  have z2 := blk_frozen K4.out 2
  have z3 := blk_frozen K4.out 3
  have z4 := blk_frozen K4.out 4
  go_upto_region 3 with (go_at_call 37; refine (C4.out _).mono ?_; rintro e w3 ⟨rfl, rfl⟩)
  go_wp2_with (first | (go_at_call 62; (with_reducible refine (c_put_30_25_5 _ HX.out _ _ (by assumption)).mono ?_); rintro e w3 ⟨rfl, rfl⟩) | (go_at_call 62; (with_reducible refine (c_put_11_7_0 _ HX.out _ _ (by assumption)).mono ?_); rintro e w3 ⟨rfl, rfl⟩)| fail)
  obtain ⟨hz, gz⟩ := set5g (B := B + 1) (by rw [EB.out]; omega) K4.out G4.out (.int .i64 (k : Int)) (.int .i64 0) (.int .i64 (bG x 19 15)) (.int .i64 (bG x 24 20)) (.int .i64 (bits .or .i64 (bits .or .i64 (-(x / 2147483648 % 2) * 2048) (x / 33554432 % 64 * 32)) (x / 128 % 32)))
  refine bodyPost_ret (v := iv (k : Int) 0 (bG x 19 15) (bG x 24 20) (bits .or .i64 (bits .or .i64 (-(x / 2147483648 % 2) * 2048) (x / 33554432 % 64 * 32)) (x / 128 % 32))) ?_ rfl ?_
  · have y0 := blk_cell hz 0 (v := .int .i64 (k : Int)) rfl
    have y1 := blk_cell hz 1 (v := .int .i64 0) rfl
    have y2 := blk_cell hz 2 (v := .int .i64 (bG x 19 15)) rfl
    have y3 := blk_cell hz 3 (v := .int .i64 (bG x 24 20)) rfl
    have y4 := blk_cell hz 4 (v := .int .i64 (bits .or .i64 (bits .or .i64 (-(x / 2147483648 % 2) * 2048) (x / 33554432 % 64 * 32)) (x / 128 % 32))) rfl
    generalize (World.setCell _ ⟨B + 1, 4, none⟩ _) = wz at *
    simp [results, Tryz.results40, go_sem, y0, y1, y2, y3, y4]
  · exact ⟨by rw [HV.out]; rfl, gz⟩
set_option maxHeartbeats 3200000 in
theorem c_fld_72 (k : Nat) (hk : k < 88) (h1 : 1 ≤ k) (hv : fmT k = 72) (x : Int) (hx : u32 x) (w : World) (hF : FT w) : Calls Tryz.prog 40 #[.int .i64 (k : Int), .int .u32 x] w fun e w' => e = .returned (iv (k : Int) (x / 128 % 32) (x / 32768 % 32) 0 (fldR (fmT k) x)) ∧ Gr w w' := by
  have HX := Lib.hid hx
  have HFT := Lib.hid (fun w1 (g : Gr w w1) => FT.gr hF g)
  have hl : 1 < w.heap.size := cell_lt (hF 0 (by omega))
  have hk88 : (k : Int) < 88 := by omega
  have HV := Lib.hid hv
  have C1 := Lib.hid (c_bits_11_7 x hx)
  have C2 := Lib.hid (c_bits_19_15 x hx)
  have C3 := Lib.hid (c_bits_24_20 x hx)
  have C4 := Lib.hid (c_bits_31_31 x hx)
  obtain ⟨x0, x1⟩ := hx
  have k2 := blk_alloc (.cells #[.int .i64 0, .int .i64 0, .int .i64 0, .int .i64 0, .int .i64 0] 61) (blk_new w (.cells #[.int .u32 x] 49))
  have k3 := blk_new1 w (.cells #[.int .u32 x] 49) (.cells #[.int .i64 0, .int .i64 0, .int .i64 0, .int .i64 0, .int .i64 0] 61)
  have gb := gr_al (gr_al (Gr.refl w) (.cells #[.int .u32 x] 49)) (.cells #[.int .i64 0, .int .i64 0, .int .i64 0, .int .i64 0, .int .i64 0] 61)
  clear hF hv
  go_enter Tryz.func40, Tryz.ntmps40
  go_upto_region 1 with fail
  generalize ((w.alloc (.cells #[.int .u32 x] 49)).alloc (.cells #[.int .i64 0, .int .i64 0, .int .i64 0, .int .i64 0, .int .i64 0] 61)) = wA at *
  obtain ⟨B, hB⟩ : ∃ B, B = w.heap.size := ⟨_, rfl⟩
  rw [← hB] at k2 k3 ⊢
  have hlA : 1 < wA.heap.size := Nat.lt_of_lt_of_le hl gb.size
  have c0 := blk_cell k2 0 (v := .int .u32 x) rfl
  have hcx := HFT.out _ gb k hk
  rw [HV.out] at hcx
  have K3 := Lib.hid k3
  have GB := Lib.hid gb
  have EB := Lib.hid hB
  clear k2 k3 gb hB
  have bb1 := bG_in x 11 7
  have bb2 := bG_in x 19 15
  have bb3 := bG_in x 24 20
  go_quiet ((go_at_call 37; exact Calls.quiet_of_same (c_bits_gen x HX.out _ _ (by decide) _)))
  have K4 := Lib.hid (blk_gr (gr_dN wA nq) K3.out)
  have G4 := Lib.hid (gtrans GB.out (gr_dN wA nq))
  have q0 : (wA.drewN nq).cell? ⟨B, 0, none⟩ = some (.int .u32 x) := kcell (gr_dN wA nq) c0
  have q1 : (wA.drewN nq).cell? ⟨1, k, none⟩ = some (.int .u8 72) := kcell (gr_dN wA nq) hcx
  have hlB : 1 < (wA.drewN nq).heap.size := hlA
  generalize wA.drewN nq = wB at *
  have d0 := blk_cell K4.out 0 (v := .int .i64 0) rfl
  have d1 := blk_cell K4.out 1 (v := .int .i64 0) rfl
  have d2 := blk_cell K4.out 2 (v := .int .i64 0) rfl
  have d3 := blk_cell K4.out 3 (v := .int .i64 0) rfl
  have d4 := blk_cell K4.out 4 (v := .int .i64 0) rfl
  have z0 := blk_frozen K4.out 0
  have z1 := blk_frozen K4.out 1
  have z2 := blk_frozen K4.out 2
  have z3 := blk_frozen K4.out 3
  have z4 := blk_frozen K4.out 4
  go_upto_region 3 with (go_at_call 37; refine (C4.out _).mono ?_; rintro e w3 ⟨rfl, rfl⟩)
  go_wp2_with (first | (go_at_call 62; (with_reducible refine (c_put_25_20_0 _ HX.out _ _ (by assumption)).mono ?_); rintro e w3 ⟨rfl, rfl⟩)| fail)
  obtain ⟨hz, gz⟩ := set5g (B := B + 1) (by rw [EB.out]; omega) K4.out G4.out (.int .i64 (k : Int)) (.int .i64 (bG x 11 7)) (.int .i64 (bG x 19 15)) (.int .i64 0) (.int .i64 (x / 1048576 % 64))
  refine bodyPost_ret (v := iv (k : Int) (bG x 11 7) (bG x 19 15) 0 (x / 1048576 % 64)) ?_ rfl ?_
  · have y0 := blk_cell hz 0 (v := .int .i64 (k : Int)) rfl
    have y1 := blk_cell hz 1 (v := .int .i64 (bG x 11 7)) rfl
    have y2 := blk_cell hz 2 (v := .int .i64 (bG x 19 15)) rfl
    have y3 := blk_cell hz 3 (v := .int .i64 0) rfl
    have y4 := blk_cell hz 4 (v := .int .i64 (x / 1048576 % 64)) rfl
    generalize (World.setCell _ ⟨B + 1, 4, none⟩ _) = wz at *
    simp [results, Tryz.results40, go_sem, y0, y1, y2, y3, y4]
  · exact ⟨by rw [HV.out]; rfl, gz⟩
set_option maxHeartbeats 3200000 in
theorem c_fld_86 (k : Nat) (hk : k < 88) (h1 : 1 ≤ k) (hv : fmT k = 86) (x : Int) (hx : u32 x) (w : World) (hF : FT w) : Calls Tryz.prog 40 #[.int .i64 (k : Int), .int .u32 x] w fun e w' => e = .returned (iv (k : Int) (x / 128 % 32) (x / 32768 % 32) 0 (fldR (fmT k) x)) ∧ Gr w w' := by
  have HX := Lib.hid hx
  have HFT := Lib.hid (fun w1 (g : Gr w w1) => FT.gr hF g)
  have hl : 1 < w.heap.size := cell_lt (hF 0 (by omega))
  have hk88 : (k : Int) < 88 := by omega
  have HV := Lib.hid hv
  have C1 := Lib.hid (c_bits_11_7 x hx)
  have C2 := Lib.hid (c_bits_19_15 x hx)
  have C3 := Lib.hid (c_bits_24_20 x hx)
  have C4 := Lib.hid (c_bits_31_31 x hx)
  obtain ⟨x0, x1⟩ := hx
  have k2 := blk_alloc (.cells #[.int .i64 0, .int .i64 0, .int .i64 0, .int .i64 0, .int .i64 0] 61) (blk_new w (.cells #[.int .u32 x] 49))
  have k3 := blk_new1 w (.cells #[.int .u32 x] 49) (.cells #[.int .i64 0, .int .i64 0, .int .i64 0, .int .i64 0, .int .i64 0] 61)
  have gb := gr_al (gr_al (Gr.refl w) (.cells #[.int .u32 x] 49)) (.cells #[.int .i64 0, .int .i64 0, .int .i64 0, .int .i64 0, .int .i64 0] 61)
  clear hF hv
  go_enter Tryz.func40, Tryz.ntmps40
  go_upto_region 1 with fail
  generalize ((w.alloc (.cells #[.int .u32 x] 49)).alloc (.cells #[.int .i64 0, .int .i64 0, .int .i64 0, .int .i64 0, .int .i64 0] 61)) = wA at *
  obtain ⟨B, hB⟩ : ∃ B, B = w.heap.size := ⟨_, rfl⟩
  rw [← hB] at k2 k3 ⊢
  have hlA : 1 < wA.heap.size := Nat.lt_of_lt_of_le hl gb.size
  have c0 := blk_cell k2 0 (v := .int .u32 x) rfl
  have hcx := HFT.out _ gb k hk
  rw [HV.out] at hcx
  have K3 := Lib.hid k3
  have GB := Lib.hid gb
  have EB := Lib.hid hB
  clear k2 k3 gb hB
  have bb1 := bG_in x 11 7
  have bb2 := bG_in x 19 15
  have bb3 := bG_in x 24 20
  go_quiet ((go_at_call 37; exact Calls.quiet_of_same (c_bits_gen x HX.out _ _ (by decide) _)))
  have K4 := Lib.hid (blk_gr (gr_dN wA nq) K3.out)
  have G4 := Lib.hid (gtrans GB.out (gr_dN wA nq))
  have q0 : (wA.drewN nq).cell? ⟨B, 0, none⟩ = some (.int .u32 x) := kcell (gr_dN wA nq) c0
  have q1 : (wA.drewN nq).cell? ⟨1, k, none⟩ = some (.int .u8 86) := kcell (gr_dN wA nq) hcx
  have hlB : 1 < (wA.drewN nq).heap.size := hlA
  generalize wA.drewN nq = wB at *
  have d0 := blk_cell K4.out 0 (v := .int .i64 0) rfl
  have d1 := blk_cell K4.out 1 (v := .int .i64 0) rfl
  have d2 := blk_cell K4.out 2 (v := .int .i64 0) rfl
  have d3 := blk_cell K4.out 3 (v := .int .i64 0) rfl
  have d4 := blk_cell K4.out 4 (v := .int .i64 0) rfl
  have z0 := blk_frozen K4.out 0
  have z1 := blk_frozen K4.out 1
  have z2 := blk_frozen K4.out 2
  have z3 := blk_frozen K4.out 3
  have z4 := blk_frozen K4.out 4
  go_upto_region 3 with (go_at_call 37; refine (C4.out _).mono ?_; rintro e w3 ⟨rfl, rfl⟩)
  go_wp2_with (first | (go_at_call 62; (with_reducible refine (c_put_24_20_0 _ HX.out _ _ (by assumption)).mono ?_); rintro e w3 ⟨rfl, rfl⟩)| fail)
  obtain ⟨hz, gz⟩ := set5g (B := B + 1) (by rw [EB.out]; omega) K4.out G4.out (.int .i64 (k : Int)) (.int .i64 (bG x 11 7)) (.int .i64 (bG x 19 15)) (.int .i64 0) (.int .i64 (x / 1048576 % 32))
  refine bodyPost_ret (v := iv (k : Int) (bG x 11 7) (bG x 19 15) 0 (x / 1048576 % 32)) ?_ rfl ?_
  · have y0 := blk_cell hz 0 (v := .int .i64 (k : Int)) rfl
    have y1 := blk_cell hz 1 (v := .int .i64 (bG x 11 7)) rfl
    have y2 := blk_cell hz 2 (v := .int .i64 (bG x 19 15)) rfl
    have y3 := blk_cell hz 3 (v := .int .i64 0) rfl
    have y4 := blk_cell hz 4 (v := .int .i64 (x / 1048576 % 32)) rfl
    generalize (World.setCell _ ⟨B + 1, 4, none⟩ _) = wz at *
    simp [results, Tryz.results40, go_sem, y0, y1, y2, y3, y4]
  · exact ⟨by rw [HV.out]; rfl, gz⟩
end Go.Proofs.YtngeabphjdfdgaaGreatDoor.P
namespace Go.Proofs.YtngeabphjdfdgaaGreatDoor.P
open Go.RowKit
set_option maxHeartbeats 3200000 in
theorem c_fld_82 (k : Nat) (hk : k < 88) (h1 : 1 ≤ k) (hv : fmT k = 82) (x : Int) (hx : u32 x) (w : World) (hF : FT w) : Calls Tryz.prog 40 #[.int .i64 (k : Int), .int .u32 x] w fun e w' => e = .returned (iv (k : Int) (x / 128 % 32) (x / 32768 % 32) (x / 1048576 % 32) (fldR (fmT k) x)) ∧ Gr w w' := by
  have HX := Lib.hid hx
  have HFT := Lib.hid (fun w1 (g : Gr w w1) => FT.gr hF g)
  have hl : 1 < w.heap.size := cell_lt (hF 0 (by omega))
  have hk88 : (k : Int) < 88 := by omega
  have HV := Lib.hid hv
  have C1 := Lib.hid (c_bits_11_7 x hx)
  have C2 := Lib.hid (c_bits_19_15 x hx)
  have C3 := Lib.hid (c_bits_24_20 x hx)
  have C4 := Lib.hid (c_bits_31_31 x hx)
  obtain ⟨x0, x1⟩ := hx
  have k2 := blk_alloc (.cells #[.int .i64 0, .int .i64 0, .int .i64 0, .int .i64 0, .int .i64 0] 61) (blk_new w (.cells #[.int .u32 x] 49))
  have k3 := blk_new1 w (.cells #[.int .u32 x] 49) (.cells #[.int .i64 0, .int .i64 0, .int .i64 0, .int .i64 0, .int .i64 0] 61)
  have gb := gr_al (gr_al (Gr.refl w) (.cells #[.int .u32 x] 49)) (.cells #[.int .i64 0, .int .i64 0, .int .i64 0, .int .i64 0, .int .i64 0] 61)
  clear hF hv
  go_enter Tryz.func40, Tryz.ntmps40
  go_upto_region 1 with fail
  generalize ((w.alloc (.cells #[.int .u32 x] 49)).alloc (.cells #[.int .i64 0, .int .i64 0, .int .i64 0, .int .i64 0, .int .i64 0] 61)) = wA at *
  obtain ⟨B, hB⟩ : ∃ B, B = w.heap.size := ⟨_, rfl⟩
  rw [← hB] at k2 k3 ⊢
  have hlA : 1 < wA.heap.size := Nat.lt_of_lt_of_le hl gb.size
  have c0 := blk_cell k2 0 (v := .int .u32 x) rfl
  have hcx := HFT.out _ gb k hk
  rw [HV.out] at hcx
  have K3 := Lib.hid k3
  have GB := Lib.hid gb
  have EB := Lib.hid hB
  clear k2 k3 gb hB
  have bb1 := bG_in x 11 7
  have bb2 := bG_in x 19 15
  have bb3 := bG_in x 24 20
  go_quiet ((go_at_call 37; exact Calls.quiet_of_same (c_bits_gen x HX.out _ _ (by decide) _)))
  have K4 := Lib.hid (blk_gr (gr_dN wA nq) K3.out)
  have G4 := Lib.hid (gtrans GB.out (gr_dN wA nq))
  have q0 : (wA.drewN nq).cell? ⟨B, 0, none⟩ = some (.int .u32 x) := kcell (gr_dN wA nq) c0
  have q1 : (wA.drewN nq).cell? ⟨1, k, none⟩ = some (.int .u8 82) := kcell (gr_dN wA nq) hcx
  have hlB : 1 < (wA.drewN nq).heap.size := hlA
  generalize wA.drewN nq = wB at *
  have d0 := blk_cell K4.out 0 (v := .int .i64 0) rfl
  have d1 := blk_cell K4.out 1 (v := .int .i64 0) rfl
  have d2 := blk_cell K4.out 2 (v := .int .i64 0) rfl
  have d3 := blk_cell K4.out 3 (v := .int .i64 0) rfl
  have d4 := blk_cell K4.out 4 (v := .int .i64 0) rfl
  have z0 := blk_frozen K4.out 0
  have z1 := blk_frozen K4.out 1
  have z2 := blk_frozen K4.out 2
  have z3 := blk_frozen K4.out 3
  have z4 := blk_frozen K4.out 4
  go_upto_region 3 with (go_at_call 37; refine (C4.out _).mono ?_; rintro e w3 ⟨rfl, rfl⟩)
  go_wp2_with (first | fail)
  obtain ⟨hz, gz⟩ := set5g (B := B + 1) (by rw [EB.out]; omega) K4.out G4.out (.int .i64 (k : Int)) (.int .i64 (bG x 11 7)) (.int .i64 (bG x 19 15)) (.int .i64 (bG x 24 20)) (.int .i64 (0))
  refine bodyPost_ret (v := iv (k : Int) (bG x 11 7) (bG x 19 15) (bG x 24 20) (0)) ?_ rfl ?_
  · have y0 := blk_cell hz 0 (v := .int .i64 (k : Int)) rfl
    have y1 := blk_cell hz 1 (v := .int .i64 (bG x 11 7)) rfl
    have y2 := blk_cell hz 2 (v := .int .i64 (bG x 19 15)) rfl
    have y3 := blk_cell hz 3 (v := .int .i64 (bG x 24 20)) rfl
    have y4 := blk_cell hz 4 (v := .int .i64 (0)) rfl
    generalize (World.setCell _ ⟨B + 1, 4, none⟩ _) = wz at *
    simp [results, Tryz.results40, go_sem, y0, y1, y2, y3, y4]
  · exact ⟨by rw [HV.out]; rfl, gz⟩
set_option maxHeartbeats 3200000 in
theorem c_fld_65 (k : Nat) (hk : k < 88) (h1 : 1 ≤ k) (hv : fmT k = 65) (x : Int) (hx : u32 x) (w : World) (hF : FT w) : Calls Tryz.prog 40 #[.int .i64 (k : Int), .int .u32 x] w fun e w' => e = .returned (iv (k : Int) (x / 128 % 32) (x / 32768 % 32) (x / 1048576 % 32) (fldR (fmT k) x)) ∧ Gr w w' := by
  have HX := Lib.hid hx
  have HFT := Lib.hid (fun w1 (g : Gr w w1) => FT.gr hF g)
  have hl : 1 < w.heap.size := cell_lt (hF 0 (by omega))
  have hk88 : (k : Int) < 88 := by omega
  have HV := Lib.hid hv
  have C1 := Lib.hid (c_bits_11_7 x hx)
  have C2 := Lib.hid (c_bits_19_15 x hx)
  have C3 := Lib.hid (c_bits_24_20 x hx)
  have C4 := Lib.hid (c_bits_31_31 x hx)
  obtain ⟨x0, x1⟩ := hx
  have k2 := blk_alloc (.cells #[.int .i64 0, .int .i64 0, .int .i64 0, .int .i64 0, .int .i64 0] 61) (blk_new w (.cells #[.int .u32 x] 49))
  have k3 := blk_new1 w (.cells #[.int .u32 x] 49) (.cells #[.int .i64 0, .int .i64 0, .int .i64 0, .int .i64 0, .int .i64 0] 61)
  have gb := gr_al (gr_al (Gr.refl w) (.cells #[.int .u32 x] 49)) (.cells #[.int .i64 0, .int .i64 0, .int .i64 0, .int .i64 0, .int .i64 0] 61)
  clear hF hv
  go_enter Tryz.func40, Tryz.ntmps40
  go_upto_region 1 with fail
  generalize ((w.alloc (.cells #[.int .u32 x] 49)).alloc (.cells #[.int .i64 0, .int .i64 0, .int .i64 0, .int .i64 0, .int .i64 0] 61)) = wA at *
  obtain ⟨B, hB⟩ : ∃ B, B = w.heap.size := ⟨_, rfl⟩
  rw [← hB] at k2 k3 ⊢
  have hlA : 1 < wA.heap.size := Nat.lt_of_lt_of_le hl gb.size
  have c0 := blk_cell k2 0 (v := .int .u32 x) rfl
  have hcx := HFT.out _ gb k hk
  rw [HV.out] at hcx
  have K3 := Lib.hid k3
  have GB := Lib.hid gb
  have EB := Lib.hid hB
  clear k2 k3 gb hB
  have bb1 := bG_in x 11 7
  have bb2 := bG_in x 19 15
  have bb3 := bG_in x 24 20
  go_quiet ((go_at_call 37; exact Calls.quiet_of_same (c_bits_gen x HX.out _ _ (by decide) _)))
  have K4 := Lib.hid (blk_gr (gr_dN wA nq) K3.out)
  have G4 := Lib.hid (gtrans GB.out (gr_dN wA nq))
  have q0 : (wA.drewN nq).cell? ⟨B, 0, none⟩ = some (.int .u32 x) := kcell (gr_dN wA nq) c0
  have q1 : (wA.drewN nq).cell? ⟨1, k, none⟩ = some (.int .u8 65) := kcell (gr_dN wA nq) hcx
  have hlB : 1 < (wA.drewN nq).heap.size := hlA
  generalize wA.drewN nq = wB at *
  have d0 := blk_cell K4.out 0 (v := .int .i64 0) rfl
  have d1 := blk_cell K4.out 1 (v := .int .i64 0) rfl
  have d2 := blk_cell K4.out 2 (v := .int .i64 0) rfl
  have d3 := blk_cell K4.out 3 (v := .int .i64 0) rfl
  have d4 := blk_cell K4.out 4 (v := .int .i64 0) rfl
  have z0 := blk_frozen K4.out 0
  have z1 := blk_frozen K4.out 1
  have z2 := blk_frozen K4.out 2
  have z3 := blk_frozen K4.out 3
  have z4 := blk_frozen K4.out 4
  go_upto_region 3 with (go_at_call 37; refine (C4.out _).mono ?_; rintro e w3 ⟨rfl, rfl⟩)
  go_wp2_with (first | (go_at_call 62; (with_reducible refine (c_put_26_25_0 _ HX.out _ _ (by assumption)).mono ?_); rintro e w3 ⟨rfl, rfl⟩)| fail)
  obtain ⟨hz, gz⟩ := set5g (B := B + 1) (by rw [EB.out]; omega) K4.out G4.out (.int .i64 (k : Int)) (.int .i64 (bG x 11 7)) (.int .i64 (bG x 19 15)) (.int .i64 (bG x 24 20)) (.int .i64 (x / 33554432 % 4))
  refine bodyPost_ret (v := iv (k : Int) (bG x 11 7) (bG x 19 15) (bG x 24 20) (x / 33554432 % 4)) ?_ rfl ?_
  · have y0 := blk_cell hz 0 (v := .int .i64 (k : Int)) rfl
    have y1 := blk_cell hz 1 (v := .int .i64 (bG x 11 7)) rfl
    have y2 := blk_cell hz 2 (v := .int .i64 (bG x 19 15)) rfl
    have y3 := blk_cell hz 3 (v := .int .i64 (bG x 24 20)) rfl
    have y4 := blk_cell hz 4 (v := .int .i64 (x / 33554432 % 4)) rfl
    generalize (World.setCell _ ⟨B + 1, 4, none⟩ _) = wz at *
    simp [results, Tryz.results40, go_sem, y0, y1, y2, y3, y4]
  · exact ⟨by rw [HV.out]; rfl, gz⟩
set_option maxHeartbeats 3200000 in
theorem c_fld_78 (k : Nat) (hk : k < 88) (h1 : 1 ≤ k) (hv : fmT k = 78) (x : Int) (hx : u32 x) (w : World) (hF : FT w) : Calls Tryz.prog 40 #[.int .i64 (k : Int), .int .u32 x] w fun e w' => e = .returned (iv (k : Int) 0 0 0 (fldR (fmT k) x)) ∧ Gr w w' := by
  have HX := Lib.hid hx
  have HFT := Lib.hid (fun w1 (g : Gr w w1) => FT.gr hF g)
  have hl : 1 < w.heap.size := cell_lt (hF 0 (by omega))
  have hk88 : (k : Int) < 88 := by omega
  have HV := Lib.hid hv
  have C1 := Lib.hid (c_bits_11_7 x hx)
  have C2 := Lib.hid (c_bits_19_15 x hx)
  have C3 := Lib.hid (c_bits_24_20 x hx)
  have C4 := Lib.hid (c_bits_31_31 x hx)
  obtain ⟨x0, x1⟩ := hx
  have k2 := blk_alloc (.cells #[.int .i64 0, .int .i64 0, .int .i64 0, .int .i64 0, .int .i64 0] 61) (blk_new w (.cells #[.int .u32 x] 49))
  have k3 := blk_new1 w (.cells #[.int .u32 x] 49) (.cells #[.int .i64 0, .int .i64 0, .int .i64 0, .int .i64 0, .int .i64 0] 61)
  have gb := gr_al (gr_al (Gr.refl w) (.cells #[.int .u32 x] 49)) (.cells #[.int .i64 0, .int .i64 0, .int .i64 0, .int .i64 0, .int .i64 0] 61)
  clear hF hv
  go_enter Tryz.func40, Tryz.ntmps40
  go_upto_region 1 with fail
  generalize ((w.alloc (.cells #[.int .u32 x] 49)).alloc (.cells #[.int .i64 0, .int .i64 0, .int .i64 0, .int .i64 0, .int .i64 0] 61)) = wA at *
  obtain ⟨B, hB⟩ : ∃ B, B = w.heap.size := ⟨_, rfl⟩
  rw [← hB] at k2 k3 ⊢
  have hlA : 1 < wA.heap.size := Nat.lt_of_lt_of_le hl gb.size
  have c0 := blk_cell k2 0 (v := .int .u32 x) rfl
  have hcx := HFT.out _ gb k hk
  rw [HV.out] at hcx
  have K3 := Lib.hid k3
  have GB := Lib.hid gb
  have EB := Lib.hid hB
  clear k2 k3 gb hB
  have bb1 := bG_in x 11 7
  have bb2 := bG_in x 19 15
  have bb3 := bG_in x 24 20
  go_quiet ((go_at_call 37; exact Calls.quiet_of_same (c_bits_gen x HX.out _ _ (by decide) _)))
  have K4 := Lib.hid (blk_gr (gr_dN wA nq) K3.out)
  have G4 := Lib.hid (gtrans GB.out (gr_dN wA nq))
  have q0 : (wA.drewN nq).cell? ⟨B, 0, none⟩ = some (.int .u32 x) := kcell (gr_dN wA nq) c0
  have q1 : (wA.drewN nq).cell? ⟨1, k, none⟩ = some (.int .u8 78) := kcell (gr_dN wA nq) hcx
  have hlB : 1 < (wA.drewN nq).heap.size := hlA
  generalize wA.drewN nq = wB at *
  have d0 := blk_cell K4.out 0 (v := .int .i64 0) rfl
  have d1 := blk_cell K4.out 1 (v := .int .i64 0) rfl
  have d2 := blk_cell K4.out 2 (v := .int .i64 0) rfl
  have d3 := blk_cell K4.out 3 (v := .int .i64 0) rfl
  have d4 := blk_cell K4.out 4 (v := .int .i64 0) rfl
  have z0 := blk_frozen K4.out 0
  have z1 := blk_frozen K4.out 1
  have z2 := blk_frozen K4.out 2
  have z3 := blk_frozen K4.out 3
  have z4 := blk_frozen K4.out 4
  go_upto_region 3 with (go_at_call 37; refine (C4.out _).mono ?_; rintro e w3 ⟨rfl, rfl⟩)
  go_wp2_with (first | fail)
  obtain ⟨hz, gz⟩ := set5g (B := B + 1) (by rw [EB.out]; omega) K4.out G4.out (.int .i64 (k : Int)) (.int .i64 0) (.int .i64 0) (.int .i64 0) (.int .i64 (0))
  refine bodyPost_ret (v := iv (k : Int) 0 0 0 (0)) ?_ rfl ?_
  · have y0 := blk_cell hz 0 (v := .int .i64 (k : Int)) rfl
    have y1 := blk_cell hz 1 (v := .int .i64 0) rfl
    have y2 := blk_cell hz 2 (v := .int .i64 0) rfl
    have y3 := blk_cell hz 3 (v := .int .i64 0) rfl
    have y4 := blk_cell hz 4 (v := .int .i64 (0)) rfl
    generalize (World.setCell _ ⟨B + 1, 4, none⟩ _) = wz at *
    simp [results, Tryz.results40, go_sem, y0, y1, y2, y3, y4]
  · exact ⟨by rw [HV.out]; rfl, gz⟩
end Go.Proofs.YtngeabphjdfdgaaGreatDoor.P
