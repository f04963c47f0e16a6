/- Stage 2: an instruction's word. No condition. -/
import Derived.Test.YthcfobefpknjeaaDoorB4
import Derived.Test.YthcfobefpknjeaaDoorMB
import Derived.Deep.CutBlock
import Derived.Deep.DeepCutAuto
set_option linter.unusedVariables false
set_option linter.unusedSimpArgs false
set_option maxRecDepth 100000
namespace Go.Proofs.YthcfobefpknjeaaDoor.P
open Go.RowKit
theorem gr_alloc {a b : World} (h : Gr a b) (o : Obj) : Gr a (b.alloc o) := h.alloc h.size o
theorem gr_set0 {a b : World} (h : Gr a b) (v : Value) : Gr a (b.setCell ⟨a.heap.size, 0, none⟩ v) := Below.setCell h (Nat.le_refl _) v
theorem ret_ue {a b c d : Int} (h : a = b) (h2 : c = d) : Ending.returned (.tuple #[.int .u32 a, .int .i64 c]) = .returned (.tuple #[.int .u32 b, .int .i64 d]) := by rw [h, h2]
theorem c_cut_4_0_7 (x : Int) (hx : u32 x) (B : Nat) (w : World) (hc : w.cell? ⟨B, 0, none⟩ = some (.int .u32 x)) : Calls Tryd.prog 28 #[.int .i64 4, .int .i64 0, .int .i64 7, .pointer (some ⟨B, 0, none⟩)] w fun e w' => e = .returned (.int .u32 (x / 1 % 32 * 128)) ∧ w' = w := by
  have CB := Lib.hid (c_bits_4_0 x hx)
  obtain ⟨x0, x1⟩ := hx
  go_enter Tryd.func28, Tryd.ntmps28
  go_wp2_with (go_at_call 29; refine (CB.out _).mono ?_; rintro e w3 ⟨rfl, rfl⟩)
  go_ret
  exact ⟨ret_u32 (by omega), rfl⟩
theorem c_cut_4_1_8 (x : Int) (hx : u32 x) (B : Nat) (w : World) (hc : w.cell? ⟨B, 0, none⟩ = some (.int .u32 x)) : Calls Tryd.prog 28 #[.int .i64 4, .int .i64 1, .int .i64 8, .pointer (some ⟨B, 0, none⟩)] w fun e w' => e = .returned (.int .u32 (x / 2 % 16 * 256)) ∧ w' = w := by
  have CB := Lib.hid (c_bits_4_1 x hx)
  obtain ⟨x0, x1⟩ := hx
  go_enter Tryd.func28, Tryd.ntmps28
  go_wp2_with (go_at_call 29; refine (CB.out _).mono ?_; rintro e w3 ⟨rfl, rfl⟩)
  go_ret
  exact ⟨ret_u32 (by omega), rfl⟩
theorem c_cut_10_1_21 (x : Int) (hx : u32 x) (B : Nat) (w : World) (hc : w.cell? ⟨B, 0, none⟩ = some (.int .u32 x)) : Calls Tryd.prog 28 #[.int .i64 10, .int .i64 1, .int .i64 21, .pointer (some ⟨B, 0, none⟩)] w fun e w' => e = .returned (.int .u32 (x / 2 % 1024 * 2097152)) ∧ w' = w := by
  have CB := Lib.hid (c_bits_10_1 x hx)
  obtain ⟨x0, x1⟩ := hx
  go_enter Tryd.func28, Tryd.ntmps28
  go_wp2_with (go_at_call 29; refine (CB.out _).mono ?_; rintro e w3 ⟨rfl, rfl⟩)
  go_ret
  exact ⟨ret_u32 (by omega), rfl⟩
theorem c_cut_10_5_25 (x : Int) (hx : u32 x) (B : Nat) (w : World) (hc : w.cell? ⟨B, 0, none⟩ = some (.int .u32 x)) : Calls Tryd.prog 28 #[.int .i64 10, .int .i64 5, .int .i64 25, .pointer (some ⟨B, 0, none⟩)] w fun e w' => e = .returned (.int .u32 (x / 32 % 64 * 33554432)) ∧ w' = w := by
  have CB := Lib.hid (c_bits_10_5 x hx)
  obtain ⟨x0, x1⟩ := hx
  go_enter Tryd.func28, Tryd.ntmps28
  go_wp2_with (go_at_call 29; refine (CB.out _).mono ?_; rintro e w3 ⟨rfl, rfl⟩)
  go_ret
  exact ⟨ret_u32 (by omega), rfl⟩
theorem c_cut_11_0_20 (x : Int) (hx : u32 x) (B : Nat) (w : World) (hc : w.cell? ⟨B, 0, none⟩ = some (.int .u32 x)) : Calls Tryd.prog 28 #[.int .i64 11, .int .i64 0, .int .i64 20, .pointer (some ⟨B, 0, none⟩)] w fun e w' => e = .returned (.int .u32 (x / 1 % 4096 * 1048576)) ∧ w' = w := by
  have CB := Lib.hid (c_bits_11_0 x hx)
  obtain ⟨x0, x1⟩ := hx
  go_enter Tryd.func28, Tryd.ntmps28
  go_wp2_with (go_at_call 29; refine (CB.out _).mono ?_; rintro e w3 ⟨rfl, rfl⟩)
  go_ret
  exact ⟨ret_u32 (by omega), rfl⟩
theorem c_cut_11_5_25 (x : Int) (hx : u32 x) (B : Nat) (w : World) (hc : w.cell? ⟨B, 0, none⟩ = some (.int .u32 x)) : Calls Tryd.prog 28 #[.int .i64 11, .int .i64 5, .int .i64 25, .pointer (some ⟨B, 0, none⟩)] w fun e w' => e = .returned (.int .u32 (x / 32 % 128 * 33554432)) ∧ w' = w := by
  have CB := Lib.hid (c_bits_11_5 x hx)
  obtain ⟨x0, x1⟩ := hx
  go_enter Tryd.func28, Tryd.ntmps28
  go_wp2_with (go_at_call 29; refine (CB.out _).mono ?_; rintro e w3 ⟨rfl, rfl⟩)
  go_ret
  exact ⟨ret_u32 (by omega), rfl⟩
theorem c_cut_11_11_7 (x : Int) (hx : u32 x) (B : Nat) (w : World) (hc : w.cell? ⟨B, 0, none⟩ = some (.int .u32 x)) : Calls Tryd.prog 28 #[.int .i64 11, .int .i64 11, .int .i64 7, .pointer (some ⟨B, 0, none⟩)] w fun e w' => e = .returned (.int .u32 (x / 2048 % 2 * 128)) ∧ w' = w := by
  have CB := Lib.hid (c_bits_11_11 x hx)
  obtain ⟨x0, x1⟩ := hx
  go_enter Tryd.func28, Tryd.ntmps28
  go_wp2_with (go_at_call 29; refine (CB.out _).mono ?_; rintro e w3 ⟨rfl, rfl⟩)
  go_ret
  exact ⟨ret_u32 (by omega), rfl⟩
theorem c_cut_11_11_20 (x : Int) (hx : u32 x) (B : Nat) (w : World) (hc : w.cell? ⟨B, 0, none⟩ = some (.int .u32 x)) : Calls Tryd.prog 28 #[.int .i64 11, .int .i64 11, .int .i64 20, .pointer (some ⟨B, 0, none⟩)] w fun e w' => e = .returned (.int .u32 (x / 2048 % 2 * 1048576)) ∧ w' = w := by
  have CB := Lib.hid (c_bits_11_11 x hx)
  obtain ⟨x0, x1⟩ := hx
  go_enter Tryd.func28, Tryd.ntmps28
  go_wp2_with (go_at_call 29; refine (CB.out _).mono ?_; rintro e w3 ⟨rfl, rfl⟩)
  go_ret
  exact ⟨ret_u32 (by omega), rfl⟩
theorem c_cut_12_12_31 (x : Int) (hx : u32 x) (B : Nat) (w : World) (hc : w.cell? ⟨B, 0, none⟩ = some (.int .u32 x)) : Calls Tryd.prog 28 #[.int .i64 12, .int .i64 12, .int .i64 31, .pointer (some ⟨B, 0, none⟩)] w fun e w' => e = .returned (.int .u32 (x / 4096 % 2 * 2147483648)) ∧ w' = w := by
  have CB := Lib.hid (c_bits_12_12 x hx)
  obtain ⟨x0, x1⟩ := hx
  go_enter Tryd.func28, Tryd.ntmps28
  go_wp2_with (go_at_call 29; refine (CB.out _).mono ?_; rintro e w3 ⟨rfl, rfl⟩)
  go_ret
  exact ⟨ret_u32 (by omega), rfl⟩
theorem c_cut_19_12_12 (x : Int) (hx : u32 x) (B : Nat) (w : World) (hc : w.cell? ⟨B, 0, none⟩ = some (.int .u32 x)) : Calls Tryd.prog 28 #[.int .i64 19, .int .i64 12, .int .i64 12, .pointer (some ⟨B, 0, none⟩)] w fun e w' => e = .returned (.int .u32 (x / 4096 % 256 * 4096)) ∧ w' = w := by
  have CB := Lib.hid (c_bits_19_12 x hx)
  obtain ⟨x0, x1⟩ := hx
  go_enter Tryd.func28, Tryd.ntmps28
  go_wp2_with (go_at_call 29; refine (CB.out _).mono ?_; rintro e w3 ⟨rfl, rfl⟩)
  go_ret
  exact ⟨ret_u32 (by omega), rfl⟩
theorem c_cut_20_20_31 (x : Int) (hx : u32 x) (B : Nat) (w : World) (hc : w.cell? ⟨B, 0, none⟩ = some (.int .u32 x)) : Calls Tryd.prog 28 #[.int .i64 20, .int .i64 20, .int .i64 31, .pointer (some ⟨B, 0, none⟩)] w fun e w' => e = .returned (.int .u32 (x / 1048576 % 2 * 2147483648)) ∧ w' = w := by
  have CB := Lib.hid (c_bits_20_20 x hx)
  obtain ⟨x0, x1⟩ := hx
  go_enter Tryd.func28, Tryd.ntmps28
  go_wp2_with (go_at_call 29; refine (CB.out _).mono ?_; rintro e w3 ⟨rfl, rfl⟩)
  go_ret
  exact ⟨ret_u32 (by omega), rfl⟩
theorem c_cut_31_12_12 (x : Int) (hx : u32 x) (B : Nat) (w : World) (hc : w.cell? ⟨B, 0, none⟩ = some (.int .u32 x)) : Calls Tryd.prog 28 #[.int .i64 31, .int .i64 12, .int .i64 12, .pointer (some ⟨B, 0, none⟩)] w fun e w' => e = .returned (.int .u32 (x / 4096 % 1048576 * 4096)) ∧ w' = w := by
  have CB := Lib.hid (c_bits_31_12 x hx)
  obtain ⟨x0, x1⟩ := hx
  go_enter Tryd.func28, Tryd.ntmps28
  go_wp2_with (go_at_call 29; refine (CB.out _).mono ?_; rintro e w3 ⟨rfl, rfl⟩)
  go_ret
  exact ⟨ret_u32 (by omega), rfl⟩
set_option maxHeartbeats 1600000 in
theorem c_enc_85 (k : Nat) (hk : k < 88) (h1 : 1 ≤ k) (hv : fmT k = 85) (rd i : Int) (hi : i64 i) (hm : mayF (k : Int) rd 0 0 i = true) (hrd : 0 ≤ rd ∧ rd < 32) (w : World) (hF : FT w) : Calls Tryd.prog 13 #[iv (k : Int) rd 0 0 i] w fun e w' => e = .returned (.tuple #[.int .u32 (encF k rd 0 0 i), .int .i64 0]) ∧ Gr w w' := by
  have gb : Gr w (w.alloc (.cells #[.int .i64 (k : Int), .int .i64 rd, .int .i64 0, .int .i64 0, .int .i64 i] 23)) := (Gr.refl w).alloc (Nat.le_refl _) _
  have HFT := Lib.hid (fun w1 (g : Gr w w1) => FT.gr hF g)
  have CM : Hid (∀ w1, Gr w w1 → Calls Tryd.prog 11 #[iv (k : Int) rd 0 0 i] w1 fun e w' => e = .returned (.bool true) ∧ Gr w1 w') := Lib.hid (fun w1 g => by have := c_may (k : Int) rd 0 0 i hi w1 (hF.gr g); rw [hm] at this; exact this)
  have CX : Hid (∀ w1, Gr w w1 → Calls Tryd.prog 27 #[.int .i64 (k : Int)] w1 fun e w' => e = .returned (.int .u32 (fixT k)) ∧ Gr w1 w') := Lib.hid (fun w1 g => c_fixed k hk w1 (hF.gr g))
  have HI : Hid (u32 (i % 4294967296)) := Lib.hid ⟨by omega, by omega⟩
  have hc := hF k hk
  rw [hv] at hc
  have hl : 0 < w.heap.size := cell_lt hc
  have HV := Lib.hid hv
  clear hF hv hm
  obtain ⟨i0, i1⟩ := hi
  obtain ⟨rd0, rd1⟩ := hrd
  go_enter Tryd.func13, Tryd.ntmps13
  go_wp2_with (first
    | (go_at_call 11; refine (CM.out _ gb).mono ?_; rintro e w2 ⟨rfl, g2⟩))
  have hb2 := blk_gr g2 (blk_new w (.cells #[.int .i64 (k : Int), .int .i64 rd, .int .i64 0, .int .i64 0, .int .i64 i] 23))
  have gw2 : Gr w w2 := gtrans gb g2
  have hl2 : 0 < w2.heap.size := Nat.lt_of_lt_of_le hl gw2.size
  generalize w.heap.size = B at *
  have HB2 := Lib.hid hb2
  have GW2 := Lib.hid gw2
  have c0 := blk_cell hb2 0 (v := .int .i64 (k : Int)) rfl
  have c4 := blk_cell hb2 4 (v := .int .i64 i) rfl
  clear hb2 gw2 g2 gb hc hl CM
  go_cut [4, 5] (fun s4 s5 wx => ∃ B2, s4 = .int .u32 (fixT k) ∧ s5 = .pointer (some ⟨B2, 0, none⟩) ∧ wx.heap[B2]? = some (.cells #[.int .u32 (IntKind.u32.wrap i)] 26) ∧ Gr w2 wx)
  case first =>
    have g0 : Gr w2 w2 := Gr.refl _
    have g0d : Gr w2 w2.drew := Gr.drewN g0 1
    go_region_held3 (fun w' => (w'.cell? ⟨B, 0, none⟩ = some (.int .i64 (k : Int)) ∧ w'.cell? ⟨B, 4, none⟩ = some (.int .i64 i)) ∧ Gr w2 w')
          ((refine ⟨⟨?_, ?_⟩, ?_⟩ <;> first | assumption | exact cell_drew6 (by assumption) | exact Gr.drewN (by assumption) 1 | exact calloc _ (by assumption) | exact gr_alloc (by assumption) _ | exact gr_set0 (by assumption) _ | exact kcell (gr_set0 (by assumption) _) c0 | exact kcell (gr_set0 (by assumption) _) c4))
          (first | (go_at_call 27; refine (CX.out _ (gtrans GW2.out (by first | assumption | go_grown))).mono ?_; rintro e w3 ⟨rfl, g3⟩; have g4 : Gr w2 w3 := gtrans (by first | assumption | go_grown) g3; have c03 := blk_cell (blk_gr g4 HB2.out) 0 (v := .int .i64 (k : Int)) rfl; have c43 := blk_cell (blk_gr g4 HB2.out) 4 (v := .int .i64 i) rfl; replace g3 := undrew g3; (first | (have B8 := blk_gr g3 (blk_new _ _); have d0 := blk_cell B8 0 rfl; have z0 := blk_frozen B8 0; have l8 := blk_lt B8) | (have l8 := g4.size))))
    all_goals
      go_wp2_with fail
      go_meet
      first
        | exact ⟨_, rfl, rfl, blk_new _ _, by go_grown⟩
        | exact ⟨_, rfl, rfl, blk_set (by assumption) 0 _, gr_set0 (by assumption) _⟩
        | exact ⟨_, rfl, rfl, blk_new _ _, gr_alloc (by assumption) _⟩
        | fail
  case rest =>
    obtain ⟨B2, rfl, rfl, hb, g⟩ := hcut
    have e2 := blk_cell hb 0 (v := .int .u32 (IntKind.u32.wrap i)) rfl
    rw [show IntKind.u32.wrap i = i % 4294967296 from IntKind.wrap_u32 _] at e2
    have hb1 := blk_gr g HB2.out
    have q0 := blk_cell hb1 0 (v := .int .i64 (k : Int)) rfl
    have q1 := blk_cell hb1 1 (v := .int .i64 rd) rfl
    have q2 := blk_cell hb1 2 (v := .int .i64 0) rfl
    have q3 := blk_cell hb1 3 (v := .int .i64 0) rfl
    have hcx := HFT.out _ (gtrans GW2.out g) k hk
    rw [HV.out] at hcx
    have GC := Lib.hid g
    clear hb hb1 g c0 c4
    go_wp2_with (first | (go_at_call 28; (with_reducible refine (c_cut_31_12_12 _ HI.out _ _ (by assumption)).mono ?_); rintro e w3 ⟨rfl, rfl⟩))
    first | go_ret2 | go_ret
    refine ⟨ret_ue (enc_or_85 k hk HV.out rd i ⟨rd0, rd1⟩) rfl, gtrans GW2.out (by first | exact GC.out | exact gtrans GC.out (by go_grown))⟩
set_option maxHeartbeats 1600000 in
theorem c_enc_74 (k : Nat) (hk : k < 88) (h1 : 1 ≤ k) (hv : fmT k = 74) (rd i : Int) (hi : i64 i) (hm : mayF (k : Int) rd 0 0 i = true) (hrd : 0 ≤ rd ∧ rd < 32) (w : World) (hF : FT w) : Calls Tryd.prog 13 #[iv (k : Int) rd 0 0 i] w fun e w' => e = .returned (.tuple #[.int .u32 (encF k rd 0 0 i), .int .i64 0]) ∧ Gr w w' := by
  have gb : Gr w (w.alloc (.cells #[.int .i64 (k : Int), .int .i64 rd, .int .i64 0, .int .i64 0, .int .i64 i] 23)) := (Gr.refl w).alloc (Nat.le_refl _) _
  have HFT := Lib.hid (fun w1 (g : Gr w w1) => FT.gr hF g)
  have CM : Hid (∀ w1, Gr w w1 → Calls Tryd.prog 11 #[iv (k : Int) rd 0 0 i] w1 fun e w' => e = .returned (.bool true) ∧ Gr w1 w') := Lib.hid (fun w1 g => by have := c_may (k : Int) rd 0 0 i hi w1 (hF.gr g); rw [hm] at this; exact this)
  have CX : Hid (∀ w1, Gr w w1 → Calls Tryd.prog 27 #[.int .i64 (k : Int)] w1 fun e w' => e = .returned (.int .u32 (fixT k)) ∧ Gr w1 w') := Lib.hid (fun w1 g => c_fixed k hk w1 (hF.gr g))
  have HI : Hid (u32 (i % 4294967296)) := Lib.hid ⟨by omega, by omega⟩
  have hc := hF k hk
  rw [hv] at hc
  have hl : 0 < w.heap.size := cell_lt hc
  have HV := Lib.hid hv
  clear hF hv hm
  obtain ⟨i0, i1⟩ := hi
  obtain ⟨rd0, rd1⟩ := hrd
  go_enter Tryd.func13, Tryd.ntmps13
  go_wp2_with (first
    | (go_at_call 11; refine (CM.out _ gb).mono ?_; rintro e w2 ⟨rfl, g2⟩))
  have hb2 := blk_gr g2 (blk_new w (.cells #[.int .i64 (k : Int), .int .i64 rd, .int .i64 0, .int .i64 0, .int .i64 i] 23))
  have gw2 : Gr w w2 := gtrans gb g2
  have hl2 : 0 < w2.heap.size := Nat.lt_of_lt_of_le hl gw2.size
  generalize w.heap.size = B at *
  have HB2 := Lib.hid hb2
  have GW2 := Lib.hid gw2
  have c0 := blk_cell hb2 0 (v := .int .i64 (k : Int)) rfl
  have c4 := blk_cell hb2 4 (v := .int .i64 i) rfl
  clear hb2 gw2 g2 gb hc hl CM
  go_cut [4, 5] (fun s4 s5 wx => ∃ B2, s4 = .int .u32 (fixT k) ∧ s5 = .pointer (some ⟨B2, 0, none⟩) ∧ wx.heap[B2]? = some (.cells #[.int .u32 (IntKind.u32.wrap i)] 26) ∧ Gr w2 wx)
  case first =>
    have g0 : Gr w2 w2 := Gr.refl _
    have g0d : Gr w2 w2.drew := Gr.drewN g0 1
    go_region_held3 (fun w' => (w'.cell? ⟨B, 0, none⟩ = some (.int .i64 (k : Int)) ∧ w'.cell? ⟨B, 4, none⟩ = some (.int .i64 i)) ∧ Gr w2 w')
          ((refine ⟨⟨?_, ?_⟩, ?_⟩ <;> first | assumption | exact cell_drew6 (by assumption) | exact Gr.drewN (by assumption) 1 | exact calloc _ (by assumption) | exact gr_alloc (by assumption) _ | exact gr_set0 (by assumption) _ | exact kcell (gr_set0 (by assumption) _) c0 | exact kcell (gr_set0 (by assumption) _) c4))
          (first | (go_at_call 27; refine (CX.out _ (gtrans GW2.out (by first | assumption | go_grown))).mono ?_; rintro e w3 ⟨rfl, g3⟩; have g4 : Gr w2 w3 := gtrans (by first | assumption | go_grown) g3; have c03 := blk_cell (blk_gr g4 HB2.out) 0 (v := .int .i64 (k : Int)) rfl; have c43 := blk_cell (blk_gr g4 HB2.out) 4 (v := .int .i64 i) rfl; replace g3 := undrew g3; (first | (have B8 := blk_gr g3 (blk_new _ _); have d0 := blk_cell B8 0 rfl; have z0 := blk_frozen B8 0; have l8 := blk_lt B8) | (have l8 := g4.size))))
    all_goals
      go_wp2_with fail
      go_meet
      first
        | exact ⟨_, rfl, rfl, blk_new _ _, by go_grown⟩
        | exact ⟨_, rfl, rfl, blk_set (by assumption) 0 _, gr_set0 (by assumption) _⟩
        | exact ⟨_, rfl, rfl, blk_new _ _, gr_alloc (by assumption) _⟩
        | fail
  case rest =>
    obtain ⟨B2, rfl, rfl, hb, g⟩ := hcut
    have e2 := blk_cell hb 0 (v := .int .u32 (IntKind.u32.wrap i)) rfl
    rw [show IntKind.u32.wrap i = i % 4294967296 from IntKind.wrap_u32 _] at e2
    have hb1 := blk_gr g HB2.out
    have q0 := blk_cell hb1 0 (v := .int .i64 (k : Int)) rfl
    have q1 := blk_cell hb1 1 (v := .int .i64 rd) rfl
    have q2 := blk_cell hb1 2 (v := .int .i64 0) rfl
    have q3 := blk_cell hb1 3 (v := .int .i64 0) rfl
    have hcx := HFT.out _ (gtrans GW2.out g) k hk
    rw [HV.out] at hcx
    have GC := Lib.hid g
    clear hb hb1 g c0 c4
    go_wp2_with (first | (go_at_call 28; (with_reducible refine (c_cut_20_20_31 _ HI.out _ _ (by assumption)).mono ?_); rintro e w3 ⟨rfl, rfl⟩) | (go_at_call 28; (with_reducible refine (c_cut_10_1_21 _ HI.out _ _ (by assumption)).mono ?_); rintro e w3 ⟨rfl, rfl⟩) | (go_at_call 28; (with_reducible refine (c_cut_11_11_20 _ HI.out _ _ (by assumption)).mono ?_); rintro e w3 ⟨rfl, rfl⟩) | (go_at_call 28; (with_reducible refine (c_cut_19_12_12 _ HI.out _ _ (by assumption)).mono ?_); rintro e w3 ⟨rfl, rfl⟩))
    first | go_ret2 | go_ret
    refine ⟨ret_ue (enc_or_74 k hk HV.out rd i ⟨rd0, rd1⟩) rfl, gtrans GW2.out (by first | exact GC.out | exact gtrans GC.out (by go_grown))⟩
set_option maxHeartbeats 1600000 in
theorem c_enc_73 (k : Nat) (hk : k < 88) (h1 : 1 ≤ k) (hv : fmT k = 73) (rd a i : Int) (hi : i64 i) (hm : mayF (k : Int) rd a 0 i = true) (hrd : 0 ≤ rd ∧ rd < 32) (ha : 0 ≤ a ∧ a < 32) (w : World) (hF : FT w) : Calls Tryd.prog 13 #[iv (k : Int) rd a 0 i] w fun e w' => e = .returned (.tuple #[.int .u32 (encF k rd a 0 i), .int .i64 0]) ∧ Gr w w' := by
  have gb : Gr w (w.alloc (.cells #[.int .i64 (k : Int), .int .i64 rd, .int .i64 a, .int .i64 0, .int .i64 i] 23)) := (Gr.refl w).alloc (Nat.le_refl _) _
  have HFT := Lib.hid (fun w1 (g : Gr w w1) => FT.gr hF g)
  have CM : Hid (∀ w1, Gr w w1 → Calls Tryd.prog 11 #[iv (k : Int) rd a 0 i] w1 fun e w' => e = .returned (.bool true) ∧ Gr w1 w') := Lib.hid (fun w1 g => by have := c_may (k : Int) rd a 0 i hi w1 (hF.gr g); rw [hm] at this; exact this)
  have CX : Hid (∀ w1, Gr w w1 → Calls Tryd.prog 27 #[.int .i64 (k : Int)] w1 fun e w' => e = .returned (.int .u32 (fixT k)) ∧ Gr w1 w') := Lib.hid (fun w1 g => c_fixed k hk w1 (hF.gr g))
  have HI : Hid (u32 (i % 4294967296)) := Lib.hid ⟨by omega, by omega⟩
  have hc := hF k hk
  rw [hv] at hc
  have hl : 0 < w.heap.size := cell_lt hc
  have HV := Lib.hid hv
  clear hF hv hm
  obtain ⟨i0, i1⟩ := hi
  obtain ⟨rd0, rd1⟩ := hrd
  obtain ⟨a0, a1⟩ := ha
  go_enter Tryd.func13, Tryd.ntmps13
  go_wp2_with (first
    | (go_at_call 11; refine (CM.out _ gb).mono ?_; rintro e w2 ⟨rfl, g2⟩))
  have hb2 := blk_gr g2 (blk_new w (.cells #[.int .i64 (k : Int), .int .i64 rd, .int .i64 a, .int .i64 0, .int .i64 i] 23))
  have gw2 : Gr w w2 := gtrans gb g2
  have hl2 : 0 < w2.heap.size := Nat.lt_of_lt_of_le hl gw2.size
  generalize w.heap.size = B at *
  have HB2 := Lib.hid hb2
  have GW2 := Lib.hid gw2
  have c0 := blk_cell hb2 0 (v := .int .i64 (k : Int)) rfl
  have c4 := blk_cell hb2 4 (v := .int .i64 i) rfl
  clear hb2 gw2 g2 gb hc hl CM
  go_cut [4, 5] (fun s4 s5 wx => ∃ B2, s4 = .int .u32 (fixT k) ∧ s5 = .pointer (some ⟨B2, 0, none⟩) ∧ wx.heap[B2]? = some (.cells #[.int .u32 (IntKind.u32.wrap i)] 26) ∧ Gr w2 wx)
  case first =>
    have g0 : Gr w2 w2 := Gr.refl _
    have g0d : Gr w2 w2.drew := Gr.drewN g0 1
    go_region_held3 (fun w' => (w'.cell? ⟨B, 0, none⟩ = some (.int .i64 (k : Int)) ∧ w'.cell? ⟨B, 4, none⟩ = some (.int .i64 i)) ∧ Gr w2 w')
          ((refine ⟨⟨?_, ?_⟩, ?_⟩ <;> first | assumption | exact cell_drew6 (by assumption) | exact Gr.drewN (by assumption) 1 | exact calloc _ (by assumption) | exact gr_alloc (by assumption) _ | exact gr_set0 (by assumption) _ | exact kcell (gr_set0 (by assumption) _) c0 | exact kcell (gr_set0 (by assumption) _) c4))
          (first | (go_at_call 27; refine (CX.out _ (gtrans GW2.out (by first | assumption | go_grown))).mono ?_; rintro e w3 ⟨rfl, g3⟩; have g4 : Gr w2 w3 := gtrans (by first | assumption | go_grown) g3; have c03 := blk_cell (blk_gr g4 HB2.out) 0 (v := .int .i64 (k : Int)) rfl; have c43 := blk_cell (blk_gr g4 HB2.out) 4 (v := .int .i64 i) rfl; replace g3 := undrew g3; (first | (have B8 := blk_gr g3 (blk_new _ _); have d0 := blk_cell B8 0 rfl; have z0 := blk_frozen B8 0; have l8 := blk_lt B8) | (have l8 := g4.size))))
    all_goals
      go_wp2_with fail
      go_meet
      first
        | exact ⟨_, rfl, rfl, blk_new _ _, by go_grown⟩
        | exact ⟨_, rfl, rfl, blk_set (by assumption) 0 _, gr_set0 (by assumption) _⟩
        | exact ⟨_, rfl, rfl, blk_new _ _, gr_alloc (by assumption) _⟩
        | fail
  case rest =>
    obtain ⟨B2, rfl, rfl, hb, g⟩ := hcut
    have e2 := blk_cell hb 0 (v := .int .u32 (IntKind.u32.wrap i)) rfl
    rw [show IntKind.u32.wrap i = i % 4294967296 from IntKind.wrap_u32 _] at e2
    have hb1 := blk_gr g HB2.out
    have q0 := blk_cell hb1 0 (v := .int .i64 (k : Int)) rfl
    have q1 := blk_cell hb1 1 (v := .int .i64 rd) rfl
    have q2 := blk_cell hb1 2 (v := .int .i64 a) rfl
    have q3 := blk_cell hb1 3 (v := .int .i64 0) rfl
    have hcx := HFT.out _ (gtrans GW2.out g) k hk
    rw [HV.out] at hcx
    have GC := Lib.hid g
    clear hb hb1 g c0 c4
    go_wp2_with (first | (go_at_call 28; (with_reducible refine (c_cut_11_0_20 _ HI.out _ _ (by assumption)).mono ?_); rintro e w3 ⟨rfl, rfl⟩))
    first | go_ret2 | go_ret
    refine ⟨ret_ue (enc_or_73 k hk HV.out rd a i ⟨rd0, rd1⟩ ⟨a0, a1⟩) rfl, gtrans GW2.out (by first | exact GC.out | exact gtrans GC.out (by go_grown))⟩
set_option maxHeartbeats 1600000 in
theorem c_enc_66 (k : Nat) (hk : k < 88) (h1 : 1 ≤ k) (hv : fmT k = 66) (a b i : Int) (hi : i64 i) (hm : mayF (k : Int) 0 a b i = true) (ha : 0 ≤ a ∧ a < 32) (hb : 0 ≤ b ∧ b < 32) (w : World) (hF : FT w) : Calls Tryd.prog 13 #[iv (k : Int) 0 a b i] w fun e w' => e = .returned (.tuple #[.int .u32 (encF k 0 a b i), .int .i64 0]) ∧ Gr w w' := by
  have gb : Gr w (w.alloc (.cells #[.int .i64 (k : Int), .int .i64 0, .int .i64 a, .int .i64 b, .int .i64 i] 23)) := (Gr.refl w).alloc (Nat.le_refl _) _
  have HFT := Lib.hid (fun w1 (g : Gr w w1) => FT.gr hF g)
  have CM : Hid (∀ w1, Gr w w1 → Calls Tryd.prog 11 #[iv (k : Int) 0 a b i] w1 fun e w' => e = .returned (.bool true) ∧ Gr w1 w') := Lib.hid (fun w1 g => by have := c_may (k : Int) 0 a b i hi w1 (hF.gr g); rw [hm] at this; exact this)
  have CX : Hid (∀ w1, Gr w w1 → Calls Tryd.prog 27 #[.int .i64 (k : Int)] w1 fun e w' => e = .returned (.int .u32 (fixT k)) ∧ Gr w1 w') := Lib.hid (fun w1 g => c_fixed k hk w1 (hF.gr g))
  have HI : Hid (u32 (i % 4294967296)) := Lib.hid ⟨by omega, by omega⟩
  have hc := hF k hk
  rw [hv] at hc
  have hl : 0 < w.heap.size := cell_lt hc
  have HV := Lib.hid hv
  clear hF hv hm
  obtain ⟨i0, i1⟩ := hi
  obtain ⟨a0, a1⟩ := ha
  obtain ⟨b0, b1⟩ := hb
  go_enter Tryd.func13, Tryd.ntmps13
  go_wp2_with (first
    | (go_at_call 11; refine (CM.out _ gb).mono ?_; rintro e w2 ⟨rfl, g2⟩))
  have hb2 := blk_gr g2 (blk_new w (.cells #[.int .i64 (k : Int), .int .i64 0, .int .i64 a, .int .i64 b, .int .i64 i] 23))
  have gw2 : Gr w w2 := gtrans gb g2
  have hl2 : 0 < w2.heap.size := Nat.lt_of_lt_of_le hl gw2.size
  generalize w.heap.size = B at *
  have HB2 := Lib.hid hb2
  have GW2 := Lib.hid gw2
  have c0 := blk_cell hb2 0 (v := .int .i64 (k : Int)) rfl
  have c4 := blk_cell hb2 4 (v := .int .i64 i) rfl
  clear hb2 gw2 g2 gb hc hl CM
  go_cut [4, 5] (fun s4 s5 wx => ∃ B2, s4 = .int .u32 (fixT k) ∧ s5 = .pointer (some ⟨B2, 0, none⟩) ∧ wx.heap[B2]? = some (.cells #[.int .u32 (IntKind.u32.wrap i)] 26) ∧ Gr w2 wx)
  case first =>
    have g0 : Gr w2 w2 := Gr.refl _
    have g0d : Gr w2 w2.drew := Gr.drewN g0 1
    go_region_held3 (fun w' => (w'.cell? ⟨B, 0, none⟩ = some (.int .i64 (k : Int)) ∧ w'.cell? ⟨B, 4, none⟩ = some (.int .i64 i)) ∧ Gr w2 w')
          ((refine ⟨⟨?_, ?_⟩, ?_⟩ <;> first | assumption | exact cell_drew6 (by assumption) | exact Gr.drewN (by assumption) 1 | exact calloc _ (by assumption) | exact gr_alloc (by assumption) _ | exact gr_set0 (by assumption) _ | exact kcell (gr_set0 (by assumption) _) c0 | exact kcell (gr_set0 (by assumption) _) c4))
          (first | (go_at_call 27; refine (CX.out _ (gtrans GW2.out (by first | assumption | go_grown))).mono ?_; rintro e w3 ⟨rfl, g3⟩; have g4 : Gr w2 w3 := gtrans (by first | assumption | go_grown) g3; have c03 := blk_cell (blk_gr g4 HB2.out) 0 (v := .int .i64 (k : Int)) rfl; have c43 := blk_cell (blk_gr g4 HB2.out) 4 (v := .int .i64 i) rfl; replace g3 := undrew g3; (first | (have B8 := blk_gr g3 (blk_new _ _); have d0 := blk_cell B8 0 rfl; have z0 := blk_frozen B8 0; have l8 := blk_lt B8) | (have l8 := g4.size))))
    all_goals
      go_wp2_with fail
      go_meet
      first
        | exact ⟨_, rfl, rfl, blk_new _ _, by go_grown⟩
        | exact ⟨_, rfl, rfl, blk_set (by assumption) 0 _, gr_set0 (by assumption) _⟩
        | exact ⟨_, rfl, rfl, blk_new _ _, gr_alloc (by assumption) _⟩
        | fail
  case rest =>
    obtain ⟨B2, rfl, rfl, hb, g⟩ := hcut
    have e2 := blk_cell hb 0 (v := .int .u32 (IntKind.u32.wrap i)) rfl
    rw [show IntKind.u32.wrap i = i % 4294967296 from IntKind.wrap_u32 _] at e2
    have hb1 := blk_gr g HB2.out
    have q0 := blk_cell hb1 0 (v := .int .i64 (k : Int)) rfl
    have q1 := blk_cell hb1 1 (v := .int .i64 0) rfl
    have q2 := blk_cell hb1 2 (v := .int .i64 a) rfl
    have q3 := blk_cell hb1 3 (v := .int .i64 b) rfl
    have hcx := HFT.out _ (gtrans GW2.out g) k hk
    rw [HV.out] at hcx
    have GC := Lib.hid g
    clear hb hb1 g c0 c4
    go_wp2_with (first | (go_at_call 28; (with_reducible refine (c_cut_12_12_31 _ HI.out _ _ (by assumption)).mono ?_); rintro e w3 ⟨rfl, rfl⟩) | (go_at_call 28; (with_reducible refine (c_cut_10_5_25 _ HI.out _ _ (by assumption)).mono ?_); rintro e w3 ⟨rfl, rfl⟩) | (go_at_call 28; (with_reducible refine (c_cut_4_1_8 _ HI.out _ _ (by assumption)).mono ?_); rintro e w3 ⟨rfl, rfl⟩) | (go_at_call 28; (with_reducible refine (c_cut_11_11_7 _ HI.out _ _ (by assumption)).mono ?_); rintro e w3 ⟨rfl, rfl⟩))
    first | go_ret2 | go_ret
    refine ⟨ret_ue (enc_or_66 k hk HV.out a b i ⟨a0, a1⟩ ⟨b0, b1⟩) rfl, gtrans GW2.out (by first | exact GC.out | exact gtrans GC.out (by go_grown))⟩
set_option maxHeartbeats 1600000 in
theorem c_enc_83 (k : Nat) (hk : k < 88) (h1 : 1 ≤ k) (hv : fmT k = 83) (a b i : Int) (hi : i64 i) (hm : mayF (k : Int) 0 a b i = true) (ha : 0 ≤ a ∧ a < 32) (hb : 0 ≤ b ∧ b < 32) (w : World) (hF : FT w) : Calls Tryd.prog 13 #[iv (k : Int) 0 a b i] w fun e w' => e = .returned (.tuple #[.int .u32 (encF k 0 a b i), .int .i64 0]) ∧ Gr w w' := by
  have gb : Gr w (w.alloc (.cells #[.int .i64 (k : Int), .int .i64 0, .int .i64 a, .int .i64 b, .int .i64 i] 23)) := (Gr.refl w).alloc (Nat.le_refl _) _
  have HFT := Lib.hid (fun w1 (g : Gr w w1) => FT.gr hF g)
  have CM : Hid (∀ w1, Gr w w1 → Calls Tryd.prog 11 #[iv (k : Int) 0 a b i] w1 fun e w' => e = .returned (.bool true) ∧ Gr w1 w') := Lib.hid (fun w1 g => by have := c_may (k : Int) 0 a b i hi w1 (hF.gr g); rw [hm] at this; exact this)
  have CX : Hid (∀ w1, Gr w w1 → Calls Tryd.prog 27 #[.int .i64 (k : Int)] w1 fun e w' => e = .returned (.int .u32 (fixT k)) ∧ Gr w1 w') := Lib.hid (fun w1 g => c_fixed k hk w1 (hF.gr g))
  have HI : Hid (u32 (i % 4294967296)) := Lib.hid ⟨by omega, by omega⟩
  have hc := hF k hk
  rw [hv] at hc
  have hl : 0 < w.heap.size := cell_lt hc
  have HV := Lib.hid hv
  clear hF hv hm
  obtain ⟨i0, i1⟩ := hi
  obtain ⟨a0, a1⟩ := ha
  obtain ⟨b0, b1⟩ := hb
  go_enter Tryd.func13, Tryd.ntmps13
  go_wp2_with (first
    | (go_at_call 11; refine (CM.out _ gb).mono ?_; rintro e w2 ⟨rfl, g2⟩))
  have hb2 := blk_gr g2 (blk_new w (.cells #[.int .i64 (k : Int), .int .i64 0, .int .i64 a, .int .i64 b, .int .i64 i] 23))
  have gw2 : Gr w w2 := gtrans gb g2
  have hl2 : 0 < w2.heap.size := Nat.lt_of_lt_of_le hl gw2.size
  generalize w.heap.size = B at *
  have HB2 := Lib.hid hb2
  have GW2 := Lib.hid gw2
  have c0 := blk_cell hb2 0 (v := .int .i64 (k : Int)) rfl
  have c4 := blk_cell hb2 4 (v := .int .i64 i) rfl
  clear hb2 gw2 g2 gb hc hl CM
  go_cut [4, 5] (fun s4 s5 wx => ∃ B2, s4 = .int .u32 (fixT k) ∧ s5 = .pointer (some ⟨B2, 0, none⟩) ∧ wx.heap[B2]? = some (.cells #[.int .u32 (IntKind.u32.wrap i)] 26) ∧ Gr w2 wx)
  case first =>
    have g0 : Gr w2 w2 := Gr.refl _
    have g0d : Gr w2 w2.drew := Gr.drewN g0 1
    go_region_held3 (fun w' => (w'.cell? ⟨B, 0, none⟩ = some (.int .i64 (k : Int)) ∧ w'.cell? ⟨B, 4, none⟩ = some (.int .i64 i)) ∧ Gr w2 w')
          ((refine ⟨⟨?_, ?_⟩, ?_⟩ <;> first | assumption | exact cell_drew6 (by assumption) | exact Gr.drewN (by assumption) 1 | exact calloc _ (by assumption) | exact gr_alloc (by assumption) _ | exact gr_set0 (by assumption) _ | exact kcell (gr_set0 (by assumption) _) c0 | exact kcell (gr_set0 (by assumption) _) c4))
          (first | (go_at_call 27; refine (CX.out _ (gtrans GW2.out (by first | assumption | go_grown))).mono ?_; rintro e w3 ⟨rfl, g3⟩; have g4 : Gr w2 w3 := gtrans (by first | assumption | go_grown) g3; have c03 := blk_cell (blk_gr g4 HB2.out) 0 (v := .int .i64 (k : Int)) rfl; have c43 := blk_cell (blk_gr g4 HB2.out) 4 (v := .int .i64 i) rfl; replace g3 := undrew g3; (first | (have B8 := blk_gr g3 (blk_new _ _); have d0 := blk_cell B8 0 rfl; have z0 := blk_frozen B8 0; have l8 := blk_lt B8) | (have l8 := g4.size))))
    all_goals
      go_wp2_with fail
      go_meet
      first
        | exact ⟨_, rfl, rfl, blk_new _ _, by go_grown⟩
        | exact ⟨_, rfl, rfl, blk_set (by assumption) 0 _, gr_set0 (by assumption) _⟩
        | exact ⟨_, rfl, rfl, blk_new _ _, gr_alloc (by assumption) _⟩
        | fail
  case rest =>
    obtain ⟨B2, rfl, rfl, hb, g⟩ := hcut
    have e2 := blk_cell hb 0 (v := .int .u32 (IntKind.u32.wrap i)) rfl
    rw [show IntKind.u32.wrap i = i % 4294967296 from IntKind.wrap_u32 _] at e2
    have hb1 := blk_gr g HB2.out
    have q0 := blk_cell hb1 0 (v := .int .i64 (k : Int)) rfl
    have q1 := blk_cell hb1 1 (v := .int .i64 0) rfl
    have q2 := blk_cell hb1 2 (v := .int .i64 a) rfl
    have q3 := blk_cell hb1 3 (v := .int .i64 b) rfl
    have hcx := HFT.out _ (gtrans GW2.out g) k hk
    rw [HV.out] at hcx
    have GC := Lib.hid g
    clear hb hb1 g c0 c4
    go_wp2_with (first | (go_at_call 28; (with_reducible refine (c_cut_11_5_25 _ HI.out _ _ (by assumption)).mono ?_); rintro e w3 ⟨rfl, rfl⟩) | (go_at_call 28; (with_reducible refine (c_cut_4_0_7 _ HI.out _ _ (by assumption)).mono ?_); rintro e w3 ⟨rfl, rfl⟩))
    first | go_ret2 | go_ret
    refine ⟨ret_ue (enc_or_83 k hk HV.out a b i ⟨a0, a1⟩ ⟨b0, b1⟩) rfl, gtrans GW2.out (by first | exact GC.out | exact gtrans GC.out (by go_grown))⟩
end Go.Proofs.YthcfobefpknjeaaDoor.P
namespace Go.Proofs.YthcfobefpknjeaaDoor.P
open Go.RowKit
set_option maxHeartbeats 1600000 in
theorem c_enc_72 (k : Nat) (hk : k < 88) (h1 : 1 ≤ k) (hv : fmT k = 72) (rd a i : Int) (hi : i64 i) (hi2 : 0 ≤ i ∧ i < 64) (hm : mayF (k : Int) rd a 0 i = true) (hrd : 0 ≤ rd ∧ rd < 32) (ha : 0 ≤ a ∧ a < 32) (w : World) (hF : FT w) : Calls Tryd.prog 13 #[iv (k : Int) rd a 0 i] w fun e w' => e = .returned (.tuple #[.int .u32 (encF k rd a 0 i), .int .i64 0]) ∧ Gr w w' := by
  have gb : Gr w (w.alloc (.cells #[.int .i64 (k : Int), .int .i64 rd, .int .i64 a, .int .i64 0, .int .i64 i] 23)) := (Gr.refl w).alloc (Nat.le_refl _) _
  have HFT := Lib.hid (fun w1 (g : Gr w w1) => FT.gr hF g)
  have CM : Hid (∀ w1, Gr w w1 → Calls Tryd.prog 11 #[iv (k : Int) rd a 0 i] w1 fun e w' => e = .returned (.bool true) ∧ Gr w1 w') := Lib.hid (fun w1 g => by have := c_may (k : Int) rd a 0 i hi w1 (hF.gr g); rw [hm] at this; exact this)
  have CX : Hid (∀ w1, Gr w w1 → Calls Tryd.prog 27 #[.int .i64 (k : Int)] w1 fun e w' => e = .returned (.int .u32 (fixT k)) ∧ Gr w1 w') := Lib.hid (fun w1 g => c_fixed k hk w1 (hF.gr g))
  have HI : Hid (u32 (i % 4294967296)) := Lib.hid ⟨by omega, by omega⟩
  have hc := hF k hk
  rw [hv] at hc
  have hl : 0 < w.heap.size := cell_lt hc
  have HV := Lib.hid hv
  have HI2 := Lib.hid hi2
  clear hi2
  clear hF hv hm
  obtain ⟨i0, i1⟩ := hi
  obtain ⟨rd0, rd1⟩ := hrd
  obtain ⟨a0, a1⟩ := ha
  go_enter Tryd.func13, Tryd.ntmps13
  go_wp2_with (first
    | (go_at_call 11; refine (CM.out _ gb).mono ?_; rintro e w2 ⟨rfl, g2⟩))
  have hb2 := blk_gr g2 (blk_new w (.cells #[.int .i64 (k : Int), .int .i64 rd, .int .i64 a, .int .i64 0, .int .i64 i] 23))
  have gw2 : Gr w w2 := gtrans gb g2
  have hl2 : 0 < w2.heap.size := Nat.lt_of_lt_of_le hl gw2.size
  generalize w.heap.size = B at *
  have HB2 := Lib.hid hb2
  have GW2 := Lib.hid gw2
  have c0 := blk_cell hb2 0 (v := .int .i64 (k : Int)) rfl
  have c4 := blk_cell hb2 4 (v := .int .i64 i) rfl
  clear hb2 gw2 g2 gb hc hl CM
  go_cut [4, 5] (fun s4 s5 wx => ∃ B2, s4 = .int .u32 (fixT k) ∧ s5 = .pointer (some ⟨B2, 0, none⟩) ∧ wx.heap[B2]? = some (.cells #[.int .u32 (IntKind.u32.wrap i)] 26) ∧ Gr w2 wx)
  case first =>
    have g0 : Gr w2 w2 := Gr.refl _
    have g0d : Gr w2 w2.drew := Gr.drewN g0 1
    go_region_held3 (fun w' => (w'.cell? ⟨B, 0, none⟩ = some (.int .i64 (k : Int)) ∧ w'.cell? ⟨B, 4, none⟩ = some (.int .i64 i)) ∧ Gr w2 w')
          ((refine ⟨⟨?_, ?_⟩, ?_⟩ <;> first | assumption | exact cell_drew6 (by assumption) | exact Gr.drewN (by assumption) 1 | exact calloc _ (by assumption) | exact gr_alloc (by assumption) _ | exact gr_set0 (by assumption) _ | exact kcell (gr_set0 (by assumption) _) c0 | exact kcell (gr_set0 (by assumption) _) c4))
          (first | (go_at_call 27; refine (CX.out _ (gtrans GW2.out (by first | assumption | go_grown))).mono ?_; rintro e w3 ⟨rfl, g3⟩; have g4 : Gr w2 w3 := gtrans (by first | assumption | go_grown) g3; have c03 := blk_cell (blk_gr g4 HB2.out) 0 (v := .int .i64 (k : Int)) rfl; have c43 := blk_cell (blk_gr g4 HB2.out) 4 (v := .int .i64 i) rfl; replace g3 := undrew g3; (first | (have B8 := blk_gr g3 (blk_new _ _); have d0 := blk_cell B8 0 rfl; have z0 := blk_frozen B8 0; have l8 := blk_lt B8) | (have l8 := g4.size))))
    all_goals
      go_wp2_with fail
      go_meet
      first
        | exact ⟨_, rfl, rfl, blk_new _ _, by go_grown⟩
        | exact ⟨_, rfl, rfl, blk_set (by assumption) 0 _, gr_set0 (by assumption) _⟩
        | exact ⟨_, rfl, rfl, blk_new _ _, gr_alloc (by assumption) _⟩
        | fail
  case rest =>
    obtain ⟨B2, rfl, rfl, hb, g⟩ := hcut
    have e2 := blk_cell hb 0 (v := .int .u32 (IntKind.u32.wrap i)) rfl
    rw [show IntKind.u32.wrap i = i % 4294967296 from IntKind.wrap_u32 _] at e2
    have hb1 := blk_gr g HB2.out
    have q0 := blk_cell hb1 0 (v := .int .i64 (k : Int)) rfl
    have q1 := blk_cell hb1 1 (v := .int .i64 rd) rfl
    have q2 := blk_cell hb1 2 (v := .int .i64 a) rfl
    have q3 := blk_cell hb1 3 (v := .int .i64 0) rfl
    have hcx := HFT.out _ (gtrans GW2.out g) k hk
    rw [HV.out] at hcx
    have GC := Lib.hid g
    clear hb hb1 g c0 c4
    go_wp2_with (first | fail)
    first | go_ret2 | go_ret
    refine ⟨ret_ue (enc_or_72 k hk HV.out rd a i ⟨rd0, rd1⟩ ⟨a0, a1⟩ HI2.out) rfl, gtrans GW2.out (by first | exact GC.out | exact gtrans GC.out (by go_grown))⟩
set_option maxHeartbeats 1600000 in
theorem c_enc_86 (k : Nat) (hk : k < 88) (h1 : 1 ≤ k) (hv : fmT k = 86) (rd a i : Int) (hi : i64 i) (hi2 : 0 ≤ i ∧ i < 32) (hm : mayF (k : Int) rd a 0 i = true) (hrd : 0 ≤ rd ∧ rd < 32) (ha : 0 ≤ a ∧ a < 32) (w : World) (hF : FT w) : Calls Tryd.prog 13 #[iv (k : Int) rd a 0 i] w fun e w' => e = .returned (.tuple #[.int .u32 (encF k rd a 0 i), .int .i64 0]) ∧ Gr w w' := by
  have gb : Gr w (w.alloc (.cells #[.int .i64 (k : Int), .int .i64 rd, .int .i64 a, .int .i64 0, .int .i64 i] 23)) := (Gr.refl w).alloc (Nat.le_refl _) _
  have HFT := Lib.hid (fun w1 (g : Gr w w1) => FT.gr hF g)
  have CM : Hid (∀ w1, Gr w w1 → Calls Tryd.prog 11 #[iv (k : Int) rd a 0 i] w1 fun e w' => e = .returned (.bool true) ∧ Gr w1 w') := Lib.hid (fun w1 g => by have := c_may (k : Int) rd a 0 i hi w1 (hF.gr g); rw [hm] at this; exact this)
  have CX : Hid (∀ w1, Gr w w1 → Calls Tryd.prog 27 #[.int .i64 (k : Int)] w1 fun e w' => e = .returned (.int .u32 (fixT k)) ∧ Gr w1 w') := Lib.hid (fun w1 g => c_fixed k hk w1 (hF.gr g))
  have HI : Hid (u32 (i % 4294967296)) := Lib.hid ⟨by omega, by omega⟩
  have hc := hF k hk
  rw [hv] at hc
  have hl : 0 < w.heap.size := cell_lt hc
  have HV := Lib.hid hv
  have HI2 := Lib.hid hi2
  clear hi2
  clear hF hv hm
  obtain ⟨i0, i1⟩ := hi
  obtain ⟨rd0, rd1⟩ := hrd
  obtain ⟨a0, a1⟩ := ha
  go_enter Tryd.func13, Tryd.ntmps13
  go_wp2_with (first
    | (go_at_call 11; refine (CM.out _ gb).mono ?_; rintro e w2 ⟨rfl, g2⟩))
  have hb2 := blk_gr g2 (blk_new w (.cells #[.int .i64 (k : Int), .int .i64 rd, .int .i64 a, .int .i64 0, .int .i64 i] 23))
  have gw2 : Gr w w2 := gtrans gb g2
  have hl2 : 0 < w2.heap.size := Nat.lt_of_lt_of_le hl gw2.size
  generalize w.heap.size = B at *
  have HB2 := Lib.hid hb2
  have GW2 := Lib.hid gw2
  have c0 := blk_cell hb2 0 (v := .int .i64 (k : Int)) rfl
  have c4 := blk_cell hb2 4 (v := .int .i64 i) rfl
  clear hb2 gw2 g2 gb hc hl CM
  go_cut [4, 5] (fun s4 s5 wx => ∃ B2, s4 = .int .u32 (fixT k) ∧ s5 = .pointer (some ⟨B2, 0, none⟩) ∧ wx.heap[B2]? = some (.cells #[.int .u32 (IntKind.u32.wrap i)] 26) ∧ Gr w2 wx)
  case first =>
    have g0 : Gr w2 w2 := Gr.refl _
    have g0d : Gr w2 w2.drew := Gr.drewN g0 1
    go_region_held3 (fun w' => (w'.cell? ⟨B, 0, none⟩ = some (.int .i64 (k : Int)) ∧ w'.cell? ⟨B, 4, none⟩ = some (.int .i64 i)) ∧ Gr w2 w')
          ((refine ⟨⟨?_, ?_⟩, ?_⟩ <;> first | assumption | exact cell_drew6 (by assumption) | exact Gr.drewN (by assumption) 1 | exact calloc _ (by assumption) | exact gr_alloc (by assumption) _ | exact gr_set0 (by assumption) _ | exact kcell (gr_set0 (by assumption) _) c0 | exact kcell (gr_set0 (by assumption) _) c4))
          (first | (go_at_call 27; refine (CX.out _ (gtrans GW2.out (by first | assumption | go_grown))).mono ?_; rintro e w3 ⟨rfl, g3⟩; have g4 : Gr w2 w3 := gtrans (by first | assumption | go_grown) g3; have c03 := blk_cell (blk_gr g4 HB2.out) 0 (v := .int .i64 (k : Int)) rfl; have c43 := blk_cell (blk_gr g4 HB2.out) 4 (v := .int .i64 i) rfl; replace g3 := undrew g3; (first | (have B8 := blk_gr g3 (blk_new _ _); have d0 := blk_cell B8 0 rfl; have z0 := blk_frozen B8 0; have l8 := blk_lt B8) | (have l8 := g4.size))))
    all_goals
      go_wp2_with fail
      go_meet
      first
        | exact ⟨_, rfl, rfl, blk_new _ _, by go_grown⟩
        | exact ⟨_, rfl, rfl, blk_set (by assumption) 0 _, gr_set0 (by assumption) _⟩
        | exact ⟨_, rfl, rfl, blk_new _ _, gr_alloc (by assumption) _⟩
        | fail
  case rest =>
    obtain ⟨B2, rfl, rfl, hb, g⟩ := hcut
    have e2 := blk_cell hb 0 (v := .int .u32 (IntKind.u32.wrap i)) rfl
    rw [show IntKind.u32.wrap i = i % 4294967296 from IntKind.wrap_u32 _] at e2
    have hb1 := blk_gr g HB2.out
    have q0 := blk_cell hb1 0 (v := .int .i64 (k : Int)) rfl
    have q1 := blk_cell hb1 1 (v := .int .i64 rd) rfl
    have q2 := blk_cell hb1 2 (v := .int .i64 a) rfl
    have q3 := blk_cell hb1 3 (v := .int .i64 0) rfl
    have hcx := HFT.out _ (gtrans GW2.out g) k hk
    rw [HV.out] at hcx
    have GC := Lib.hid g
    clear hb hb1 g c0 c4
    go_wp2_with (first | fail)
    first | go_ret2 | go_ret
    refine ⟨ret_ue (enc_or_86 k hk HV.out rd a i ⟨rd0, rd1⟩ ⟨a0, a1⟩ HI2.out) rfl, gtrans GW2.out (by first | exact GC.out | exact gtrans GC.out (by go_grown))⟩
set_option maxHeartbeats 1600000 in
theorem c_enc_82 (k : Nat) (hk : k < 88) (h1 : 1 ≤ k) (hv : fmT k = 82) (rd a b i : Int) (hi : i64 i) (hm : mayF (k : Int) rd a b i = true) (hrd : 0 ≤ rd ∧ rd < 32) (ha : 0 ≤ a ∧ a < 32) (hb : 0 ≤ b ∧ b < 32) (w : World) (hF : FT w) : Calls Tryd.prog 13 #[iv (k : Int) rd a b i] w fun e w' => e = .returned (.tuple #[.int .u32 (encF k rd a b i), .int .i64 0]) ∧ Gr w w' := by
  have gb : Gr w (w.alloc (.cells #[.int .i64 (k : Int), .int .i64 rd, .int .i64 a, .int .i64 b, .int .i64 i] 23)) := (Gr.refl w).alloc (Nat.le_refl _) _
  have HFT := Lib.hid (fun w1 (g : Gr w w1) => FT.gr hF g)
  have CM : Hid (∀ w1, Gr w w1 → Calls Tryd.prog 11 #[iv (k : Int) rd a b i] w1 fun e w' => e = .returned (.bool true) ∧ Gr w1 w') := Lib.hid (fun w1 g => by have := c_may (k : Int) rd a b i hi w1 (hF.gr g); rw [hm] at this; exact this)
  have CX : Hid (∀ w1, Gr w w1 → Calls Tryd.prog 27 #[.int .i64 (k : Int)] w1 fun e w' => e = .returned (.int .u32 (fixT k)) ∧ Gr w1 w') := Lib.hid (fun w1 g => c_fixed k hk w1 (hF.gr g))
  have HI : Hid (u32 (i % 4294967296)) := Lib.hid ⟨by omega, by omega⟩
  have hc := hF k hk
  rw [hv] at hc
  have hl : 0 < w.heap.size := cell_lt hc
  have HV := Lib.hid hv
  clear hF hv hm
  obtain ⟨i0, i1⟩ := hi
  obtain ⟨rd0, rd1⟩ := hrd
  obtain ⟨a0, a1⟩ := ha
  obtain ⟨b0, b1⟩ := hb
  go_enter Tryd.func13, Tryd.ntmps13
  go_wp2_with (first
    | (go_at_call 11; refine (CM.out _ gb).mono ?_; rintro e w2 ⟨rfl, g2⟩))
  have hb2 := blk_gr g2 (blk_new w (.cells #[.int .i64 (k : Int), .int .i64 rd, .int .i64 a, .int .i64 b, .int .i64 i] 23))
  have gw2 : Gr w w2 := gtrans gb g2
  have hl2 : 0 < w2.heap.size := Nat.lt_of_lt_of_le hl gw2.size
  generalize w.heap.size = B at *
  have HB2 := Lib.hid hb2
  have GW2 := Lib.hid gw2
  have c0 := blk_cell hb2 0 (v := .int .i64 (k : Int)) rfl
  have c4 := blk_cell hb2 4 (v := .int .i64 i) rfl
  clear hb2 gw2 g2 gb hc hl CM
  go_cut [4, 5] (fun s4 s5 wx => ∃ B2, s4 = .int .u32 (fixT k) ∧ s5 = .pointer (some ⟨B2, 0, none⟩) ∧ wx.heap[B2]? = some (.cells #[.int .u32 (IntKind.u32.wrap i)] 26) ∧ Gr w2 wx)
  case first =>
    have g0 : Gr w2 w2 := Gr.refl _
    have g0d : Gr w2 w2.drew := Gr.drewN g0 1
    go_region_held3 (fun w' => (w'.cell? ⟨B, 0, none⟩ = some (.int .i64 (k : Int)) ∧ w'.cell? ⟨B, 4, none⟩ = some (.int .i64 i)) ∧ Gr w2 w')
          ((refine ⟨⟨?_, ?_⟩, ?_⟩ <;> first | assumption | exact cell_drew6 (by assumption) | exact Gr.drewN (by assumption) 1 | exact calloc _ (by assumption) | exact gr_alloc (by assumption) _ | exact gr_set0 (by assumption) _ | exact kcell (gr_set0 (by assumption) _) c0 | exact kcell (gr_set0 (by assumption) _) c4))
          (first | (go_at_call 27; refine (CX.out _ (gtrans GW2.out (by first | assumption | go_grown))).mono ?_; rintro e w3 ⟨rfl, g3⟩; have g4 : Gr w2 w3 := gtrans (by first | assumption | go_grown) g3; have c03 := blk_cell (blk_gr g4 HB2.out) 0 (v := .int .i64 (k : Int)) rfl; have c43 := blk_cell (blk_gr g4 HB2.out) 4 (v := .int .i64 i) rfl; replace g3 := undrew g3; (first | (have B8 := blk_gr g3 (blk_new _ _); have d0 := blk_cell B8 0 rfl; have z0 := blk_frozen B8 0; have l8 := blk_lt B8) | (have l8 := g4.size))))
    all_goals
      go_wp2_with fail
      go_meet
      first
        | exact ⟨_, rfl, rfl, blk_new _ _, by go_grown⟩
        | exact ⟨_, rfl, rfl, blk_set (by assumption) 0 _, gr_set0 (by assumption) _⟩
        | exact ⟨_, rfl, rfl, blk_new _ _, gr_alloc (by assumption) _⟩
        | fail
  case rest =>
    obtain ⟨B2, rfl, rfl, hb, g⟩ := hcut
    have e2 := blk_cell hb 0 (v := .int .u32 (IntKind.u32.wrap i)) rfl
    rw [show IntKind.u32.wrap i = i % 4294967296 from IntKind.wrap_u32 _] at e2
    have hb1 := blk_gr g HB2.out
    have q0 := blk_cell hb1 0 (v := .int .i64 (k : Int)) rfl
    have q1 := blk_cell hb1 1 (v := .int .i64 rd) rfl
    have q2 := blk_cell hb1 2 (v := .int .i64 a) rfl
    have q3 := blk_cell hb1 3 (v := .int .i64 b) rfl
    have hcx := HFT.out _ (gtrans GW2.out g) k hk
    rw [HV.out] at hcx
    have GC := Lib.hid g
    clear hb hb1 g c0 c4
    go_wp2_with (first | fail)
    first | go_ret2 | go_ret
    refine ⟨ret_ue (enc_or_82 k hk HV.out rd a b i ⟨rd0, rd1⟩ ⟨a0, a1⟩ ⟨b0, b1⟩) rfl, gtrans GW2.out (by first | exact GC.out | exact gtrans GC.out (by go_grown))⟩
set_option maxHeartbeats 1600000 in
theorem c_enc_65 (k : Nat) (hk : k < 88) (h1 : 1 ≤ k) (hv : fmT k = 65) (rd a b i : Int) (hi : i64 i) (hi2 : 0 ≤ i ∧ i < 4) (hm : mayF (k : Int) rd a b i = true) (hrd : 0 ≤ rd ∧ rd < 32) (ha : 0 ≤ a ∧ a < 32) (hb : 0 ≤ b ∧ b < 32) (w : World) (hF : FT w) : Calls Tryd.prog 13 #[iv (k : Int) rd a b i] w fun e w' => e = .returned (.tuple #[.int .u32 (encF k rd a b i), .int .i64 0]) ∧ Gr w w' := by
  have gb : Gr w (w.alloc (.cells #[.int .i64 (k : Int), .int .i64 rd, .int .i64 a, .int .i64 b, .int .i64 i] 23)) := (Gr.refl w).alloc (Nat.le_refl _) _
  have HFT := Lib.hid (fun w1 (g : Gr w w1) => FT.gr hF g)
  have CM : Hid (∀ w1, Gr w w1 → Calls Tryd.prog 11 #[iv (k : Int) rd a b i] w1 fun e w' => e = .returned (.bool true) ∧ Gr w1 w') := Lib.hid (fun w1 g => by have := c_may (k : Int) rd a b i hi w1 (hF.gr g); rw [hm] at this; exact this)
  have CX : Hid (∀ w1, Gr w w1 → Calls Tryd.prog 27 #[.int .i64 (k : Int)] w1 fun e w' => e = .returned (.int .u32 (fixT k)) ∧ Gr w1 w') := Lib.hid (fun w1 g => c_fixed k hk w1 (hF.gr g))
  have HI : Hid (u32 (i % 4294967296)) := Lib.hid ⟨by omega, by omega⟩
  have hc := hF k hk
  rw [hv] at hc
  have hl : 0 < w.heap.size := cell_lt hc
  have HV := Lib.hid hv
  have HI2 := Lib.hid hi2
  clear hi2
  clear hF hv hm
  obtain ⟨i0, i1⟩ := hi
  obtain ⟨rd0, rd1⟩ := hrd
  obtain ⟨a0, a1⟩ := ha
  obtain ⟨b0, b1⟩ := hb
  go_enter Tryd.func13, Tryd.ntmps13
  go_wp2_with (first
    | (go_at_call 11; refine (CM.out _ gb).mono ?_; rintro e w2 ⟨rfl, g2⟩))
  have hb2 := blk_gr g2 (blk_new w (.cells #[.int .i64 (k : Int), .int .i64 rd, .int .i64 a, .int .i64 b, .int .i64 i] 23))
  have gw2 : Gr w w2 := gtrans gb g2
  have hl2 : 0 < w2.heap.size := Nat.lt_of_lt_of_le hl gw2.size
  generalize w.heap.size = B at *
  have HB2 := Lib.hid hb2
  have GW2 := Lib.hid gw2
  have c0 := blk_cell hb2 0 (v := .int .i64 (k : Int)) rfl
  have c4 := blk_cell hb2 4 (v := .int .i64 i) rfl
  clear hb2 gw2 g2 gb hc hl CM
  go_cut [4, 5] (fun s4 s5 wx => ∃ B2, s4 = .int .u32 (fixT k) ∧ s5 = .pointer (some ⟨B2, 0, none⟩) ∧ wx.heap[B2]? = some (.cells #[.int .u32 (IntKind.u32.wrap i)] 26) ∧ Gr w2 wx)
  case first =>
    have g0 : Gr w2 w2 := Gr.refl _
    have g0d : Gr w2 w2.drew := Gr.drewN g0 1
    go_region_held3 (fun w' => (w'.cell? ⟨B, 0, none⟩ = some (.int .i64 (k : Int)) ∧ w'.cell? ⟨B, 4, none⟩ = some (.int .i64 i)) ∧ Gr w2 w')
          ((refine ⟨⟨?_, ?_⟩, ?_⟩ <;> first | assumption | exact cell_drew6 (by assumption) | exact Gr.drewN (by assumption) 1 | exact calloc _ (by assumption) | exact gr_alloc (by assumption) _ | exact gr_set0 (by assumption) _ | exact kcell (gr_set0 (by assumption) _) c0 | exact kcell (gr_set0 (by assumption) _) c4))
          (first | (go_at_call 27; refine (CX.out _ (gtrans GW2.out (by first | assumption | go_grown))).mono ?_; rintro e w3 ⟨rfl, g3⟩; have g4 : Gr w2 w3 := gtrans (by first | assumption | go_grown) g3; have c03 := blk_cell (blk_gr g4 HB2.out) 0 (v := .int .i64 (k : Int)) rfl; have c43 := blk_cell (blk_gr g4 HB2.out) 4 (v := .int .i64 i) rfl; replace g3 := undrew g3; (first | (have B8 := blk_gr g3 (blk_new _ _); have d0 := blk_cell B8 0 rfl; have z0 := blk_frozen B8 0; have l8 := blk_lt B8) | (have l8 := g4.size))))
    all_goals
      go_wp2_with fail
      go_meet
      first
        | exact ⟨_, rfl, rfl, blk_new _ _, by go_grown⟩
        | exact ⟨_, rfl, rfl, blk_set (by assumption) 0 _, gr_set0 (by assumption) _⟩
        | exact ⟨_, rfl, rfl, blk_new _ _, gr_alloc (by assumption) _⟩
        | fail
  case rest =>
    obtain ⟨B2, rfl, rfl, hb, g⟩ := hcut
    have e2 := blk_cell hb 0 (v := .int .u32 (IntKind.u32.wrap i)) rfl
    rw [show IntKind.u32.wrap i = i % 4294967296 from IntKind.wrap_u32 _] at e2
    have hb1 := blk_gr g HB2.out
    have q0 := blk_cell hb1 0 (v := .int .i64 (k : Int)) rfl
    have q1 := blk_cell hb1 1 (v := .int .i64 rd) rfl
    have q2 := blk_cell hb1 2 (v := .int .i64 a) rfl
    have q3 := blk_cell hb1 3 (v := .int .i64 b) rfl
    have hcx := HFT.out _ (gtrans GW2.out g) k hk
    rw [HV.out] at hcx
    have GC := Lib.hid g
    clear hb hb1 g c0 c4
    go_wp2_with (first | fail)
    first | go_ret2 | go_ret
    refine ⟨ret_ue (enc_or_65 k hk HV.out rd a b i ⟨rd0, rd1⟩ ⟨a0, a1⟩ ⟨b0, b1⟩ HI2.out) rfl, gtrans GW2.out (by first | exact GC.out | exact gtrans GC.out (by go_grown))⟩
set_option maxHeartbeats 1600000 in
theorem c_enc_78 (k : Nat) (hk : k < 88) (h1 : 1 ≤ k) (hv : fmT k = 78) (i : Int) (hi : i64 i) (hm : mayF (k : Int) 0 0 0 i = true) (w : World) (hF : FT w) : Calls Tryd.prog 13 #[iv (k : Int) 0 0 0 i] w fun e w' => e = .returned (.tuple #[.int .u32 (encF k 0 0 0 i), .int .i64 0]) ∧ Gr w w' := by
  have gb : Gr w (w.alloc (.cells #[.int .i64 (k : Int), .int .i64 0, .int .i64 0, .int .i64 0, .int .i64 i] 23)) := (Gr.refl w).alloc (Nat.le_refl _) _
  have HFT := Lib.hid (fun w1 (g : Gr w w1) => FT.gr hF g)
  have CM : Hid (∀ w1, Gr w w1 → Calls Tryd.prog 11 #[iv (k : Int) 0 0 0 i] w1 fun e w' => e = .returned (.bool true) ∧ Gr w1 w') := Lib.hid (fun w1 g => by have := c_may (k : Int) 0 0 0 i hi w1 (hF.gr g); rw [hm] at this; exact this)
  have CX : Hid (∀ w1, Gr w w1 → Calls Tryd.prog 27 #[.int .i64 (k : Int)] w1 fun e w' => e = .returned (.int .u32 (fixT k)) ∧ Gr w1 w') := Lib.hid (fun w1 g => c_fixed k hk w1 (hF.gr g))
  have HI : Hid (u32 (i % 4294967296)) := Lib.hid ⟨by omega, by omega⟩
  have hc := hF k hk
  rw [hv] at hc
  have hl : 0 < w.heap.size := cell_lt hc
  have HV := Lib.hid hv
  clear hF hv hm
  obtain ⟨i0, i1⟩ := hi
  go_enter Tryd.func13, Tryd.ntmps13
  go_wp2_with (first
    | (go_at_call 11; refine (CM.out _ gb).mono ?_; rintro e w2 ⟨rfl, g2⟩))
  have hb2 := blk_gr g2 (blk_new w (.cells #[.int .i64 (k : Int), .int .i64 0, .int .i64 0, .int .i64 0, .int .i64 i] 23))
  have gw2 : Gr w w2 := gtrans gb g2
  have hl2 : 0 < w2.heap.size := Nat.lt_of_lt_of_le hl gw2.size
  generalize w.heap.size = B at *
  have HB2 := Lib.hid hb2
  have GW2 := Lib.hid gw2
  have c0 := blk_cell hb2 0 (v := .int .i64 (k : Int)) rfl
  have c4 := blk_cell hb2 4 (v := .int .i64 i) rfl
  clear hb2 gw2 g2 gb hc hl CM
  go_cut [4, 5] (fun s4 s5 wx => ∃ B2, s4 = .int .u32 (fixT k) ∧ s5 = .pointer (some ⟨B2, 0, none⟩) ∧ wx.heap[B2]? = some (.cells #[.int .u32 (IntKind.u32.wrap i)] 26) ∧ Gr w2 wx)
  case first =>
    have g0 : Gr w2 w2 := Gr.refl _
    have g0d : Gr w2 w2.drew := Gr.drewN g0 1
    go_region_held3 (fun w' => (w'.cell? ⟨B, 0, none⟩ = some (.int .i64 (k : Int)) ∧ w'.cell? ⟨B, 4, none⟩ = some (.int .i64 i)) ∧ Gr w2 w')
          ((refine ⟨⟨?_, ?_⟩, ?_⟩ <;> first | assumption | exact cell_drew6 (by assumption) | exact Gr.drewN (by assumption) 1 | exact calloc _ (by assumption) | exact gr_alloc (by assumption) _ | exact gr_set0 (by assumption) _ | exact kcell (gr_set0 (by assumption) _) c0 | exact kcell (gr_set0 (by assumption) _) c4))
          (first | (go_at_call 27; refine (CX.out _ (gtrans GW2.out (by first | assumption | go_grown))).mono ?_; rintro e w3 ⟨rfl, g3⟩; have g4 : Gr w2 w3 := gtrans (by first | assumption | go_grown) g3; have c03 := blk_cell (blk_gr g4 HB2.out) 0 (v := .int .i64 (k : Int)) rfl; have c43 := blk_cell (blk_gr g4 HB2.out) 4 (v := .int .i64 i) rfl; replace g3 := undrew g3; (first | (have B8 := blk_gr g3 (blk_new _ _); have d0 := blk_cell B8 0 rfl; have z0 := blk_frozen B8 0; have l8 := blk_lt B8) | (have l8 := g4.size))))
    all_goals
      go_wp2_with fail
      go_meet
      first
        | exact ⟨_, rfl, rfl, blk_new _ _, by go_grown⟩
        | exact ⟨_, rfl, rfl, blk_set (by assumption) 0 _, gr_set0 (by assumption) _⟩
        | exact ⟨_, rfl, rfl, blk_new _ _, gr_alloc (by assumption) _⟩
        | fail
  case rest =>
    obtain ⟨B2, rfl, rfl, hb, g⟩ := hcut
    have e2 := blk_cell hb 0 (v := .int .u32 (IntKind.u32.wrap i)) rfl
    rw [show IntKind.u32.wrap i = i % 4294967296 from IntKind.wrap_u32 _] at e2
    have hb1 := blk_gr g HB2.out
    have q0 := blk_cell hb1 0 (v := .int .i64 (k : Int)) rfl
    have q1 := blk_cell hb1 1 (v := .int .i64 0) rfl
    have q2 := blk_cell hb1 2 (v := .int .i64 0) rfl
    have q3 := blk_cell hb1 3 (v := .int .i64 0) rfl
    have hcx := HFT.out _ (gtrans GW2.out g) k hk
    rw [HV.out] at hcx
    have GC := Lib.hid g
    clear hb hb1 g c0 c4
    go_wp2_with (first | fail)
    first | go_ret2 | go_ret
    refine ⟨ret_ue (enc_or_78 k hk HV.out i ) rfl, gtrans GW2.out (by first | exact GC.out | exact gtrans GC.out (by go_grown))⟩
end Go.Proofs.YthcfobefpknjeaaDoor.P
namespace Go.Proofs.YthcfobefpknjeaaDoor.P
open Go.RowKit
theorem one_yes {n : Int} {b : Bool} (h : oneB n b = true) : 0 ≤ n ∧ n < 32 := by
  unfold oneB at h
  rw [Bool.or_eq_true, Bool.and_eq_true, Bool.and_eq_true, decide_eq_true_eq, decide_eq_true_eq, decide_eq_true_eq] at h
  omega
theorem one_no {n : Int} (h : oneB n false = true) : n = 0 := by
  unfold oneB at h
  rw [Bool.or_eq_true, decide_eq_true_eq] at h
  rcases h with h | h
  · exact h
  · cases h
theorem fits_yes {rd a b : Int} {p q r : Bool} (h : fitsB rd a b p q r = true) : oneB rd p = true ∧ oneB a q = true ∧ oneB b r = true := by
  unfold fitsB at h
  rw [Bool.and_eq_true, Bool.and_eq_true] at h
  exact ⟨h.1.1, h.1.2, h.2⟩
def encV (op rd a b i : Int) : Int := bif mayF op rd a b i then encF op.toNat rd a b i else 0
def encE (op rd a b i : Int) : Int := bif mayF op rd a b i then 0 else 2
theorem may_op {op rd a b i : Int} (h : mayF op rd a b i = true) : ∃ k : Nat, op = (k : Int) ∧ k < 88 ∧ 1 ≤ k ∧ mayR (fmT k) (resB k) rd a b = true ∧ mayI (fmT k) i = true := by
  by_cases ho : op < 1 ∨ 87 < op
  · exfalso
    unfold mayF at h
    rw [Bool.and_eq_true, Bool.and_eq_true, Bool.and_eq_true, decide_eq_true_eq, decide_eq_true_eq] at h
    omega
  · obtain ⟨k, rfl⟩ : ∃ k : Nat, op = (k : Int) := ⟨op.toNat, by omega⟩
    rw [may_in (by omega) (by omega), Bool.and_eq_true] at h
    exact ⟨k, rfl, by omega, by omega, h.1, h.2⟩
theorem c_enc_no (op rd a b i : Int) (hi : i64 i) (hm : mayF op rd a b i = false) (w : World) (hF : FT w) : Calls Tryd.prog 13 #[iv op rd a b i] w fun e w' => e = .returned (.tuple #[.int .u32 0, .int .i64 2]) ∧ Gr w w' := by
  have gb : Gr w (w.alloc (.cells #[.int .i64 op, .int .i64 rd, .int .i64 a, .int .i64 b, .int .i64 i] 23)) := (Gr.refl w).alloc (Nat.le_refl _) _
  have CM : Hid (∀ w1, Gr w w1 → Calls Tryd.prog 11 #[iv op rd a b i] w1 fun e w' => e = .returned (.bool false) ∧ Gr w1 w') := Lib.hid (fun w1 g => by have := c_may op rd a b i hi w1 (hF.gr g); rw [hm] at this; exact this)
  have GB := Lib.hid gb
  clear hF hm gb
  go_enter Tryd.func13, Tryd.ntmps13
  go_wp2_with (first
    | (go_at_call 11; refine (CM.out _ GB.out).mono ?_; rintro e w2 ⟨rfl, g2⟩))
  go_ret2
  exact ⟨rfl, gtrans GB.out g2⟩
theorem c_encode (op rd a b i : Int) (hi : i64 i) (w : World) (hF : FT w) : Calls Tryd.prog 13 #[iv op rd a b i] w fun e w' => e = .returned (.tuple #[.int .u32 (encV op rd a b i), .int .i64 (encE op rd a b i)]) ∧ Gr w w' := by
  cases hm : mayF op rd a b i with
  | false =>
    unfold encV encE
    rw [hm]
    exact c_enc_no op rd a b i hi hm w hF
  | true =>
    unfold encV encE
    rw [hm]
    obtain ⟨k, rfl, hk, h1, hr, hj⟩ := may_op hm
    rw [cond_true, cond_true, Int.toNat_natCast]
    rcases fm_cases k hk h1 with hv | hv | hv | hv | hv | hv | hv | hv | hv | hv
    all_goals rw [hv] at hr hj
    · obtain ⟨f1, f2, f3⟩ := fits_yes (p := true) (q := false) (r := false) hr
      obtain rfl := one_no f2
      obtain rfl := one_no f3
      exact c_enc_85 k hk h1 hv rd i hi hm (one_yes f1) w hF
    · obtain ⟨f1, f2, f3⟩ := fits_yes (p := true) (q := false) (r := false) hr
      obtain rfl := one_no f2
      obtain rfl := one_no f3
      exact c_enc_74 k hk h1 hv rd i hi hm (one_yes f1) w hF
    · obtain ⟨f1, f2, f3⟩ := fits_yes (p := true) (q := true) (r := false) hr
      obtain rfl := one_no f3
      exact c_enc_73 k hk h1 hv rd a i hi hm (one_yes f1) (one_yes f2) w hF
    · obtain ⟨f1, f2, f3⟩ := fits_yes (p := false) (q := true) (r := true) hr
      obtain rfl := one_no f1
      exact c_enc_66 k hk h1 hv a b i hi hm (one_yes f2) (one_yes f3) w hF
    · obtain ⟨f1, f2, f3⟩ := fits_yes (p := false) (q := true) (r := true) hr
      obtain rfl := one_no f1
      exact c_enc_83 k hk h1 hv a b i hi hm (one_yes f2) (one_yes f3) w hF
    · obtain ⟨f1, f2, f3⟩ := fits_yes (p := true) (q := true) (r := false) hr
      obtain rfl := one_no f3
      exact c_enc_72 k hk h1 hv rd a i hi (by have := hj; simp [mayI] at this; omega) hm (one_yes f1) (one_yes f2) w hF
    · obtain ⟨f1, f2, f3⟩ := fits_yes (p := true) (q := true) (r := false) hr
      obtain rfl := one_no f3
      exact c_enc_86 k hk h1 hv rd a i hi (by have := hj; simp [mayI] at this; omega) hm (one_yes f1) (one_yes f2) w hF
    · obtain ⟨f1, f2, f3⟩ := fits_yes (p := true) (q := true) (r := true) hr
      exact c_enc_82 k hk h1 hv rd a b i hi hm (one_yes f1) (one_yes f2) (one_yes f3) w hF
    · obtain ⟨f1, f2, f3⟩ := fits_yes (p := true) (q := true) (r := !resB k) hr
      exact c_enc_65 k hk h1 hv rd a b i hi (by have := hj; simp [mayI] at this; omega) hm (one_yes f1) (one_yes f2) (one_yes f3) w hF
    · obtain ⟨f1, f2, f3⟩ := fits_yes (p := false) (q := false) (r := false) hr
      obtain rfl := one_no f1
      obtain rfl := one_no f2
      obtain rfl := one_no f3
      exact c_enc_78 k hk h1 hv i hi hm w hF
end Go.Proofs.YthcfobefpknjeaaDoor.P
