/- Stage 2: an instruction's word, the other forms. No condition. -/
import Derived.Test.YthcfobefpknjeaaDoorB5
set_option linter.unusedVariables false
set_option linter.unusedSimpArgs false
set_option maxRecDepth 100000
namespace Go.Proofs.YthcfobefpknjeaaDoor.P
open Go.RowKit
set_option maxHeartbeats 1600000 in
theorem c_enc_72 (k : Nat) (hk : k < 88) (h1 : 1 ≤ k) (hv : fmT k = 72) (rd a i : Int) (hi : i64 i) (hi2 : 0 ≤ i ∧ i < 64) (hm : mayF (k : Int) rd a 0 i = true) (hrd : 0 ≤ rd ∧ rd < 32) (ha : 0 ≤ a ∧ a < 32) (w : World) (hF : FT w) : Calls Tryd.prog 13 #[iv (k : Int) rd a 0 i] w fun e w' => e = .returned (.tuple #[.int .u32 (encF k rd a 0 i), .int .i64 0]) ∧ Gr w w' := by
  have gb : Gr w (w.alloc (.cells #[.int .i64 (k : Int), .int .i64 rd, .int .i64 a, .int .i64 0, .int .i64 i] 23)) := (Gr.refl w).alloc (Nat.le_refl _) _
  have HFT := Lib.hid (fun w1 (g : Gr w w1) => FT.gr hF g)
  have CM : Hid (∀ w1, Gr w w1 → Calls Tryd.prog 11 #[iv (k : Int) rd a 0 i] w1 fun e w' => e = .returned (.bool true) ∧ Gr w1 w') := Lib.hid (fun w1 g => by have := c_may (k : Int) rd a 0 i hi w1 (hF.gr g); rw [hm] at this; exact this)
  have CX : Hid (∀ w1, Gr w w1 → Calls Tryd.prog 27 #[.int .i64 (k : Int)] w1 fun e w' => e = .returned (.int .u32 (fixT k)) ∧ Gr w1 w') := Lib.hid (fun w1 g => c_fixed k hk w1 (hF.gr g))
  have HI : Hid (u32 (i % 4294967296)) := Lib.hid ⟨by omega, by omega⟩
  have hc := hF k hk
  rw [hv] at hc
  have hl : 0 < w.heap.size := cell_lt hc
  have HV := Lib.hid hv
  have HI2 := Lib.hid hi2
  clear hi2
  clear hF hv hm
  obtain ⟨i0, i1⟩ := hi
  obtain ⟨rd0, rd1⟩ := hrd
  obtain ⟨a0, a1⟩ := ha
  go_enter Tryd.func13, Tryd.ntmps13
  go_wp2_with (first
    | (go_at_call 11; refine (CM.out _ gb).mono ?_; rintro e w2 ⟨rfl, g2⟩))
  have hb2 := blk_gr g2 (blk_new w (.cells #[.int .i64 (k : Int), .int .i64 rd, .int .i64 a, .int .i64 0, .int .i64 i] 23))
  have gw2 : Gr w w2 := gtrans gb g2
  have hl2 : 0 < w2.heap.size := Nat.lt_of_lt_of_le hl gw2.size
  generalize w.heap.size = B at *
  have HB2 := Lib.hid hb2
  have GW2 := Lib.hid gw2
  have c0 := blk_cell hb2 0 (v := .int .i64 (k : Int)) rfl
  have c4 := blk_cell hb2 4 (v := .int .i64 i) rfl
  clear hb2 gw2 g2 gb hc hl CM
  go_cut [4, 5] (fun s4 s5 wx => ∃ B2, s4 = .int .u32 (fixT k) ∧ s5 = .pointer (some ⟨B2, 0, none⟩) ∧ wx.heap[B2]? = some (.cells #[.int .u32 (IntKind.u32.wrap i)] 26) ∧ Gr w2 wx)
  case first =>
    have g0 : Gr w2 w2 := Gr.refl _
    have g0d : Gr w2 w2.drew := Gr.drewN g0 1
    go_region_held3 (fun w' => (w'.cell? ⟨B, 0, none⟩ = some (.int .i64 (k : Int)) ∧ w'.cell? ⟨B, 4, none⟩ = some (.int .i64 i)) ∧ Gr w2 w')
          ((refine ⟨⟨?_, ?_⟩, ?_⟩ <;> first | assumption | exact cell_drew6 (by assumption) | exact Gr.drewN (by assumption) 1 | exact calloc _ (by assumption) | exact gr_alloc (by assumption) _ | exact gr_set0 (by assumption) _ | exact kcell (gr_set0 (by assumption) _) c0 | exact kcell (gr_set0 (by assumption) _) c4))
          (first | (go_at_call 27; refine (CX.out _ (gtrans GW2.out (by first | assumption | go_grown))).mono ?_; rintro e w3 ⟨rfl, g3⟩; have g4 : Gr w2 w3 := gtrans (by first | assumption | go_grown) g3; have c03 := blk_cell (blk_gr g4 HB2.out) 0 (v := .int .i64 (k : Int)) rfl; have c43 := blk_cell (blk_gr g4 HB2.out) 4 (v := .int .i64 i) rfl; replace g3 := undrew g3; (first | (have B8 := blk_gr g3 (blk_new _ _); have d0 := blk_cell B8 0 rfl; have z0 := blk_frozen B8 0; have l8 := blk_lt B8) | (have l8 := g4.size))))
    all_goals
      go_wp2_with fail
      go_meet
      first
        | exact ⟨_, rfl, rfl, blk_new _ _, by go_grown⟩
        | exact ⟨_, rfl, rfl, blk_set (by assumption) 0 _, gr_set0 (by assumption) _⟩
        | exact ⟨_, rfl, rfl, blk_new _ _, gr_alloc (by assumption) _⟩
        | fail
  case rest =>
    obtain ⟨B2, rfl, rfl, hb, g⟩ := hcut
    have e2 := blk_cell hb 0 (v := .int .u32 (IntKind.u32.wrap i)) rfl
    rw [show IntKind.u32.wrap i = i % 4294967296 from IntKind.wrap_u32 _] at e2
    have hb1 := blk_gr g HB2.out
    have q0 := blk_cell hb1 0 (v := .int .i64 (k : Int)) rfl
    have q1 := blk_cell hb1 1 (v := .int .i64 rd) rfl
    have q2 := blk_cell hb1 2 (v := .int .i64 a) rfl
    have q3 := blk_cell hb1 3 (v := .int .i64 0) rfl
    have hcx := HFT.out _ (gtrans GW2.out g) k hk
    rw [HV.out] at hcx
    have GC := Lib.hid g
    clear hb hb1 g c0 c4
    go_wp2_with (first | fail)
    first | go_ret2 | go_ret
    refine ⟨ret_ue (enc_or_72 k hk HV.out rd a i ⟨rd0, rd1⟩ ⟨a0, a1⟩ HI2.out) rfl, gtrans GW2.out (by first | exact GC.out | exact gtrans GC.out (by go_grown))⟩
set_option maxHeartbeats 1600000 in
theorem c_enc_86 (k : Nat) (hk : k < 88) (h1 : 1 ≤ k) (hv : fmT k = 86) (rd a i : Int) (hi : i64 i) (hi2 : 0 ≤ i ∧ i < 32) (hm : mayF (k : Int) rd a 0 i = true) (hrd : 0 ≤ rd ∧ rd < 32) (ha : 0 ≤ a ∧ a < 32) (w : World) (hF : FT w) : Calls Tryd.prog 13 #[iv (k : Int) rd a 0 i] w fun e w' => e = .returned (.tuple #[.int .u32 (encF k rd a 0 i), .int .i64 0]) ∧ Gr w w' := by
  have gb : Gr w (w.alloc (.cells #[.int .i64 (k : Int), .int .i64 rd, .int .i64 a, .int .i64 0, .int .i64 i] 23)) := (Gr.refl w).alloc (Nat.le_refl _) _
  have HFT := Lib.hid (fun w1 (g : Gr w w1) => FT.gr hF g)
  have CM : Hid (∀ w1, Gr w w1 → Calls Tryd.prog 11 #[iv (k : Int) rd a 0 i] w1 fun e w' => e = .returned (.bool true) ∧ Gr w1 w') := Lib.hid (fun w1 g => by have := c_may (k : Int) rd a 0 i hi w1 (hF.gr g); rw [hm] at this; exact this)
  have CX : Hid (∀ w1, Gr w w1 → Calls Tryd.prog 27 #[.int .i64 (k : Int)] w1 fun e w' => e = .returned (.int .u32 (fixT k)) ∧ Gr w1 w') := Lib.hid (fun w1 g => c_fixed k hk w1 (hF.gr g))
  have HI : Hid (u32 (i % 4294967296)) := Lib.hid ⟨by omega, by omega⟩
  have hc := hF k hk
  rw [hv] at hc
  have hl : 0 < w.heap.size := cell_lt hc
  have HV := Lib.hid hv
  have HI2 := Lib.hid hi2
  clear hi2
  clear hF hv hm
  obtain ⟨i0, i1⟩ := hi
  obtain ⟨rd0, rd1⟩ := hrd
  obtain ⟨a0, a1⟩ := ha
  go_enter Tryd.func13, Tryd.ntmps13
  go_wp2_with (first
    | (go_at_call 11; refine (CM.out _ gb).mono ?_; rintro e w2 ⟨rfl, g2⟩))
  have hb2 := blk_gr g2 (blk_new w (.cells #[.int .i64 (k : Int), .int .i64 rd, .int .i64 a, .int .i64 0, .int .i64 i] 23))
  have gw2 : Gr w w2 := gtrans gb g2
  have hl2 : 0 < w2.heap.size := Nat.lt_of_lt_of_le hl gw2.size
  generalize w.heap.size = B at *
  have HB2 := Lib.hid hb2
  have GW2 := Lib.hid gw2
  have c0 := blk_cell hb2 0 (v := .int .i64 (k : Int)) rfl
  have c4 := blk_cell hb2 4 (v := .int .i64 i) rfl
  clear hb2 gw2 g2 gb hc hl CM
  go_cut [4, 5] (fun s4 s5 wx => ∃ B2, s4 = .int .u32 (fixT k) ∧ s5 = .pointer (some ⟨B2, 0, none⟩) ∧ wx.heap[B2]? = some (.cells #[.int .u32 (IntKind.u32.wrap i)] 26) ∧ Gr w2 wx)
  case first =>
    have g0 : Gr w2 w2 := Gr.refl _
    have g0d : Gr w2 w2.drew := Gr.drewN g0 1
    go_region_held3 (fun w' => (w'.cell? ⟨B, 0, none⟩ = some (.int .i64 (k : Int)) ∧ w'.cell? ⟨B, 4, none⟩ = some (.int .i64 i)) ∧ Gr w2 w')
          ((refine ⟨⟨?_, ?_⟩, ?_⟩ <;> first | assumption | exact cell_drew6 (by assumption) | exact Gr.drewN (by assumption) 1 | exact calloc _ (by assumption) | exact gr_alloc (by assumption) _ | exact gr_set0 (by assumption) _ | exact kcell (gr_set0 (by assumption) _) c0 | exact kcell (gr_set0 (by assumption) _) c4))
          (first | (go_at_call 27; refine (CX.out _ (gtrans GW2.out (by first | assumption | go_grown))).mono ?_; rintro e w3 ⟨rfl, g3⟩; have g4 : Gr w2 w3 := gtrans (by first | assumption | go_grown) g3; have c03 := blk_cell (blk_gr g4 HB2.out) 0 (v := .int .i64 (k : Int)) rfl; have c43 := blk_cell (blk_gr g4 HB2.out) 4 (v := .int .i64 i) rfl; replace g3 := undrew g3; (first | (have B8 := blk_gr g3 (blk_new _ _); have d0 := blk_cell B8 0 rfl; have z0 := blk_frozen B8 0; have l8 := blk_lt B8) | (have l8 := g4.size))))
    all_goals
      go_wp2_with fail
      go_meet
      first
        | exact ⟨_, rfl, rfl, blk_new _ _, by go_grown⟩
        | exact ⟨_, rfl, rfl, blk_set (by assumption) 0 _, gr_set0 (by assumption) _⟩
        | exact ⟨_, rfl, rfl, blk_new _ _, gr_alloc (by assumption) _⟩
        | fail
  case rest =>
    obtain ⟨B2, rfl, rfl, hb, g⟩ := hcut
    have e2 := blk_cell hb 0 (v := .int .u32 (IntKind.u32.wrap i)) rfl
    rw [show IntKind.u32.wrap i = i % 4294967296 from IntKind.wrap_u32 _] at e2
    have hb1 := blk_gr g HB2.out
    have q0 := blk_cell hb1 0 (v := .int .i64 (k : Int)) rfl
    have q1 := blk_cell hb1 1 (v := .int .i64 rd) rfl
    have q2 := blk_cell hb1 2 (v := .int .i64 a) rfl
    have q3 := blk_cell hb1 3 (v := .int .i64 0) rfl
    have hcx := HFT.out _ (gtrans GW2.out g) k hk
    rw [HV.out] at hcx
    have GC := Lib.hid g
    clear hb hb1 g c0 c4
    go_wp2_with (first | fail)
    first | go_ret2 | go_ret
    refine ⟨ret_ue (enc_or_86 k hk HV.out rd a i ⟨rd0, rd1⟩ ⟨a0, a1⟩ HI2.out) rfl, gtrans GW2.out (by first | exact GC.out | exact gtrans GC.out (by go_grown))⟩
set_option maxHeartbeats 1600000 in
theorem c_enc_82 (k : Nat) (hk : k < 88) (h1 : 1 ≤ k) (hv : fmT k = 82) (rd a b i : Int) (hi : i64 i) (hm : mayF (k : Int) rd a b i = true) (hrd : 0 ≤ rd ∧ rd < 32) (ha : 0 ≤ a ∧ a < 32) (hb : 0 ≤ b ∧ b < 32) (w : World) (hF : FT w) : Calls Tryd.prog 13 #[iv (k : Int) rd a b i] w fun e w' => e = .returned (.tuple #[.int .u32 (encF k rd a b i), .int .i64 0]) ∧ Gr w w' := by
  have gb : Gr w (w.alloc (.cells #[.int .i64 (k : Int), .int .i64 rd, .int .i64 a, .int .i64 b, .int .i64 i] 23)) := (Gr.refl w).alloc (Nat.le_refl _) _
  have HFT := Lib.hid (fun w1 (g : Gr w w1) => FT.gr hF g)
  have CM : Hid (∀ w1, Gr w w1 → Calls Tryd.prog 11 #[iv (k : Int) rd a b i] w1 fun e w' => e = .returned (.bool true) ∧ Gr w1 w') := Lib.hid (fun w1 g => by have := c_may (k : Int) rd a b i hi w1 (hF.gr g); rw [hm] at this; exact this)
  have CX : Hid (∀ w1, Gr w w1 → Calls Tryd.prog 27 #[.int .i64 (k : Int)] w1 fun e w' => e = .returned (.int .u32 (fixT k)) ∧ Gr w1 w') := Lib.hid (fun w1 g => c_fixed k hk w1 (hF.gr g))
  have HI : Hid (u32 (i % 4294967296)) := Lib.hid ⟨by omega, by omega⟩
  have hc := hF k hk
  rw [hv] at hc
  have hl : 0 < w.heap.size := cell_lt hc
  have HV := Lib.hid hv
  clear hF hv hm
  obtain ⟨i0, i1⟩ := hi
  obtain ⟨rd0, rd1⟩ := hrd
  obtain ⟨a0, a1⟩ := ha
  obtain ⟨b0, b1⟩ := hb
  go_enter Tryd.func13, Tryd.ntmps13
  go_wp2_with (first
    | (go_at_call 11; refine (CM.out _ gb).mono ?_; rintro e w2 ⟨rfl, g2⟩))
  have hb2 := blk_gr g2 (blk_new w (.cells #[.int .i64 (k : Int), .int .i64 rd, .int .i64 a, .int .i64 b, .int .i64 i] 23))
  have gw2 : Gr w w2 := gtrans gb g2
  have hl2 : 0 < w2.heap.size := Nat.lt_of_lt_of_le hl gw2.size
  generalize w.heap.size = B at *
  have HB2 := Lib.hid hb2
  have GW2 := Lib.hid gw2
  have c0 := blk_cell hb2 0 (v := .int .i64 (k : Int)) rfl
  have c4 := blk_cell hb2 4 (v := .int .i64 i) rfl
  clear hb2 gw2 g2 gb hc hl CM
  go_cut [4, 5] (fun s4 s5 wx => ∃ B2, s4 = .int .u32 (fixT k) ∧ s5 = .pointer (some ⟨B2, 0, none⟩) ∧ wx.heap[B2]? = some (.cells #[.int .u32 (IntKind.u32.wrap i)] 26) ∧ Gr w2 wx)
  case first =>
    have g0 : Gr w2 w2 := Gr.refl _
    have g0d : Gr w2 w2.drew := Gr.drewN g0 1
    go_region_held3 (fun w' => (w'.cell? ⟨B, 0, none⟩ = some (.int .i64 (k : Int)) ∧ w'.cell? ⟨B, 4, none⟩ = some (.int .i64 i)) ∧ Gr w2 w')
          ((refine ⟨⟨?_, ?_⟩, ?_⟩ <;> first | assumption | exact cell_drew6 (by assumption) | exact Gr.drewN (by assumption) 1 | exact calloc _ (by assumption) | exact gr_alloc (by assumption) _ | exact gr_set0 (by assumption) _ | exact kcell (gr_set0 (by assumption) _) c0 | exact kcell (gr_set0 (by assumption) _) c4))
          (first | (go_at_call 27; refine (CX.out _ (gtrans GW2.out (by first | assumption | go_grown))).mono ?_; rintro e w3 ⟨rfl, g3⟩; have g4 : Gr w2 w3 := gtrans (by first | assumption | go_grown) g3; have c03 := blk_cell (blk_gr g4 HB2.out) 0 (v := .int .i64 (k : Int)) rfl; have c43 := blk_cell (blk_gr g4 HB2.out) 4 (v := .int .i64 i) rfl; replace g3 := undrew g3; (first | (have B8 := blk_gr g3 (blk_new _ _); have d0 := blk_cell B8 0 rfl; have z0 := blk_frozen B8 0; have l8 := blk_lt B8) | (have l8 := g4.size))))
    all_goals
      go_wp2_with fail
      go_meet
      first
        | exact ⟨_, rfl, rfl, blk_new _ _, by go_grown⟩
        | exact ⟨_, rfl, rfl, blk_set (by assumption) 0 _, gr_set0 (by assumption) _⟩
        | exact ⟨_, rfl, rfl, blk_new _ _, gr_alloc (by assumption) _⟩
        | fail
  case rest =>
    obtain ⟨B2, rfl, rfl, hb, g⟩ := hcut
    have e2 := blk_cell hb 0 (v := .int .u32 (IntKind.u32.wrap i)) rfl
    rw [show IntKind.u32.wrap i = i % 4294967296 from IntKind.wrap_u32 _] at e2
    have hb1 := blk_gr g HB2.out
    have q0 := blk_cell hb1 0 (v := .int .i64 (k : Int)) rfl
    have q1 := blk_cell hb1 1 (v := .int .i64 rd) rfl
    have q2 := blk_cell hb1 2 (v := .int .i64 a) rfl
    have q3 := blk_cell hb1 3 (v := .int .i64 b) rfl
    have hcx := HFT.out _ (gtrans GW2.out g) k hk
    rw [HV.out] at hcx
    have GC := Lib.hid g
    clear hb hb1 g c0 c4
    go_wp2_with (first | fail)
    first | go_ret2 | go_ret
    refine ⟨ret_ue (enc_or_82 k hk HV.out rd a b i ⟨rd0, rd1⟩ ⟨a0, a1⟩ ⟨b0, b1⟩) rfl, gtrans GW2.out (by first | exact GC.out | exact gtrans GC.out (by go_grown))⟩
set_option maxHeartbeats 1600000 in
theorem c_enc_65 (k : Nat) (hk : k < 88) (h1 : 1 ≤ k) (hv : fmT k = 65) (rd a b i : Int) (hi : i64 i) (hi2 : 0 ≤ i ∧ i < 4) (hm : mayF (k : Int) rd a b i = true) (hrd : 0 ≤ rd ∧ rd < 32) (ha : 0 ≤ a ∧ a < 32) (hb : 0 ≤ b ∧ b < 32) (w : World) (hF : FT w) : Calls Tryd.prog 13 #[iv (k : Int) rd a b i] w fun e w' => e = .returned (.tuple #[.int .u32 (encF k rd a b i), .int .i64 0]) ∧ Gr w w' := by
  have gb : Gr w (w.alloc (.cells #[.int .i64 (k : Int), .int .i64 rd, .int .i64 a, .int .i64 b, .int .i64 i] 23)) := (Gr.refl w).alloc (Nat.le_refl _) _
  have HFT := Lib.hid (fun w1 (g : Gr w w1) => FT.gr hF g)
  have CM : Hid (∀ w1, Gr w w1 → Calls Tryd.prog 11 #[iv (k : Int) rd a b i] w1 fun e w' => e = .returned (.bool true) ∧ Gr w1 w') := Lib.hid (fun w1 g => by have := c_may (k : Int) rd a b i hi w1 (hF.gr g); rw [hm] at this; exact this)
  have CX : Hid (∀ w1, Gr w w1 → Calls Tryd.prog 27 #[.int .i64 (k : Int)] w1 fun e w' => e = .returned (.int .u32 (fixT k)) ∧ Gr w1 w') := Lib.hid (fun w1 g => c_fixed k hk w1 (hF.gr g))
  have HI : Hid (u32 (i % 4294967296)) := Lib.hid ⟨by omega, by omega⟩
  have hc := hF k hk
  rw [hv] at hc
  have hl : 0 < w.heap.size := cell_lt hc
  have HV := Lib.hid hv
  have HI2 := Lib.hid hi2
  clear hi2
  clear hF hv hm
  obtain ⟨i0, i1⟩ := hi
  obtain ⟨rd0, rd1⟩ := hrd
  obtain ⟨a0, a1⟩ := ha
  obtain ⟨b0, b1⟩ := hb
  go_enter Tryd.func13, Tryd.ntmps13
  go_wp2_with (first
    | (go_at_call 11; refine (CM.out _ gb).mono ?_; rintro e w2 ⟨rfl, g2⟩))
  have hb2 := blk_gr g2 (blk_new w (.cells #[.int .i64 (k : Int), .int .i64 rd, .int .i64 a, .int .i64 b, .int .i64 i] 23))
  have gw2 : Gr w w2 := gtrans gb g2
  have hl2 : 0 < w2.heap.size := Nat.lt_of_lt_of_le hl gw2.size
  generalize w.heap.size = B at *
  have HB2 := Lib.hid hb2
  have GW2 := Lib.hid gw2
  have c0 := blk_cell hb2 0 (v := .int .i64 (k : Int)) rfl
  have c4 := blk_cell hb2 4 (v := .int .i64 i) rfl
  clear hb2 gw2 g2 gb hc hl CM
  go_cut [4, 5] (fun s4 s5 wx => ∃ B2, s4 = .int .u32 (fixT k) ∧ s5 = .pointer (some ⟨B2, 0, none⟩) ∧ wx.heap[B2]? = some (.cells #[.int .u32 (IntKind.u32.wrap i)] 26) ∧ Gr w2 wx)
  case first =>
    have g0 : Gr w2 w2 := Gr.refl _
    have g0d : Gr w2 w2.drew := Gr.drewN g0 1
    go_region_held3 (fun w' => (w'.cell? ⟨B, 0, none⟩ = some (.int .i64 (k : Int)) ∧ w'.cell? ⟨B, 4, none⟩ = some (.int .i64 i)) ∧ Gr w2 w')
          ((refine ⟨⟨?_, ?_⟩, ?_⟩ <;> first | assumption | exact cell_drew6 (by assumption) | exact Gr.drewN (by assumption) 1 | exact calloc _ (by assumption) | exact gr_alloc (by assumption) _ | exact gr_set0 (by assumption) _ | exact kcell (gr_set0 (by assumption) _) c0 | exact kcell (gr_set0 (by assumption) _) c4))
          (first | (go_at_call 27; refine (CX.out _ (gtrans GW2.out (by first | assumption | go_grown))).mono ?_; rintro e w3 ⟨rfl, g3⟩; have g4 : Gr w2 w3 := gtrans (by first | assumption | go_grown) g3; have c03 := blk_cell (blk_gr g4 HB2.out) 0 (v := .int .i64 (k : Int)) rfl; have c43 := blk_cell (blk_gr g4 HB2.out) 4 (v := .int .i64 i) rfl; replace g3 := undrew g3; (first | (have B8 := blk_gr g3 (blk_new _ _); have d0 := blk_cell B8 0 rfl; have z0 := blk_frozen B8 0; have l8 := blk_lt B8) | (have l8 := g4.size))))
    all_goals
      go_wp2_with fail
      go_meet
      first
        | exact ⟨_, rfl, rfl, blk_new _ _, by go_grown⟩
        | exact ⟨_, rfl, rfl, blk_set (by assumption) 0 _, gr_set0 (by assumption) _⟩
        | exact ⟨_, rfl, rfl, blk_new _ _, gr_alloc (by assumption) _⟩
        | fail
  case rest =>
    obtain ⟨B2, rfl, rfl, hb, g⟩ := hcut
    have e2 := blk_cell hb 0 (v := .int .u32 (IntKind.u32.wrap i)) rfl
    rw [show IntKind.u32.wrap i = i % 4294967296 from IntKind.wrap_u32 _] at e2
    have hb1 := blk_gr g HB2.out
    have q0 := blk_cell hb1 0 (v := .int .i64 (k : Int)) rfl
    have q1 := blk_cell hb1 1 (v := .int .i64 rd) rfl
    have q2 := blk_cell hb1 2 (v := .int .i64 a) rfl
    have q3 := blk_cell hb1 3 (v := .int .i64 b) rfl
    have hcx := HFT.out _ (gtrans GW2.out g) k hk
    rw [HV.out] at hcx
    have GC := Lib.hid g
    clear hb hb1 g c0 c4
    go_wp2_with (first | fail)
    first | go_ret2 | go_ret
    refine ⟨ret_ue (enc_or_65 k hk HV.out rd a b i ⟨rd0, rd1⟩ ⟨a0, a1⟩ ⟨b0, b1⟩ HI2.out) rfl, gtrans GW2.out (by first | exact GC.out | exact gtrans GC.out (by go_grown))⟩
set_option maxHeartbeats 1600000 in
theorem c_enc_78 (k : Nat) (hk : k < 88) (h1 : 1 ≤ k) (hv : fmT k = 78) (i : Int) (hi : i64 i) (hm : mayF (k : Int) 0 0 0 i = true) (w : World) (hF : FT w) : Calls Tryd.prog 13 #[iv (k : Int) 0 0 0 i] w fun e w' => e = .returned (.tuple #[.int .u32 (encF k 0 0 0 i), .int .i64 0]) ∧ Gr w w' := by
  have gb : Gr w (w.alloc (.cells #[.int .i64 (k : Int), .int .i64 0, .int .i64 0, .int .i64 0, .int .i64 i] 23)) := (Gr.refl w).alloc (Nat.le_refl _) _
  have HFT := Lib.hid (fun w1 (g : Gr w w1) => FT.gr hF g)
  have CM : Hid (∀ w1, Gr w w1 → Calls Tryd.prog 11 #[iv (k : Int) 0 0 0 i] w1 fun e w' => e = .returned (.bool true) ∧ Gr w1 w') := Lib.hid (fun w1 g => by have := c_may (k : Int) 0 0 0 i hi w1 (hF.gr g); rw [hm] at this; exact this)
  have CX : Hid (∀ w1, Gr w w1 → Calls Tryd.prog 27 #[.int .i64 (k : Int)] w1 fun e w' => e = .returned (.int .u32 (fixT k)) ∧ Gr w1 w') := Lib.hid (fun w1 g => c_fixed k hk w1 (hF.gr g))
  have HI : Hid (u32 (i % 4294967296)) := Lib.hid ⟨by omega, by omega⟩
  have hc := hF k hk
  rw [hv] at hc
  have hl : 0 < w.heap.size := cell_lt hc
  have HV := Lib.hid hv
  clear hF hv hm
  obtain ⟨i0, i1⟩ := hi
  go_enter Tryd.func13, Tryd.ntmps13
  go_wp2_with (first
    | (go_at_call 11; refine (CM.out _ gb).mono ?_; rintro e w2 ⟨rfl, g2⟩))
  have hb2 := blk_gr g2 (blk_new w (.cells #[.int .i64 (k : Int), .int .i64 0, .int .i64 0, .int .i64 0, .int .i64 i] 23))
  have gw2 : Gr w w2 := gtrans gb g2
  have hl2 : 0 < w2.heap.size := Nat.lt_of_lt_of_le hl gw2.size
  generalize w.heap.size = B at *
  have HB2 := Lib.hid hb2
  have GW2 := Lib.hid gw2
  have c0 := blk_cell hb2 0 (v := .int .i64 (k : Int)) rfl
  have c4 := blk_cell hb2 4 (v := .int .i64 i) rfl
  clear hb2 gw2 g2 gb hc hl CM
  go_cut [4, 5] (fun s4 s5 wx => ∃ B2, s4 = .int .u32 (fixT k) ∧ s5 = .pointer (some ⟨B2, 0, none⟩) ∧ wx.heap[B2]? = some (.cells #[.int .u32 (IntKind.u32.wrap i)] 26) ∧ Gr w2 wx)
  case first =>
    have g0 : Gr w2 w2 := Gr.refl _
    have g0d : Gr w2 w2.drew := Gr.drewN g0 1
    go_region_held3 (fun w' => (w'.cell? ⟨B, 0, none⟩ = some (.int .i64 (k : Int)) ∧ w'.cell? ⟨B, 4, none⟩ = some (.int .i64 i)) ∧ Gr w2 w')
          ((refine ⟨⟨?_, ?_⟩, ?_⟩ <;> first | assumption | exact cell_drew6 (by assumption) | exact Gr.drewN (by assumption) 1 | exact calloc _ (by assumption) | exact gr_alloc (by assumption) _ | exact gr_set0 (by assumption) _ | exact kcell (gr_set0 (by assumption) _) c0 | exact kcell (gr_set0 (by assumption) _) c4))
          (first | (go_at_call 27; refine (CX.out _ (gtrans GW2.out (by first | assumption | go_grown))).mono ?_; rintro e w3 ⟨rfl, g3⟩; have g4 : Gr w2 w3 := gtrans (by first | assumption | go_grown) g3; have c03 := blk_cell (blk_gr g4 HB2.out) 0 (v := .int .i64 (k : Int)) rfl; have c43 := blk_cell (blk_gr g4 HB2.out) 4 (v := .int .i64 i) rfl; replace g3 := undrew g3; (first | (have B8 := blk_gr g3 (blk_new _ _); have d0 := blk_cell B8 0 rfl; have z0 := blk_frozen B8 0; have l8 := blk_lt B8) | (have l8 := g4.size))))
    all_goals
      go_wp2_with fail
      go_meet
      first
        | exact ⟨_, rfl, rfl, blk_new _ _, by go_grown⟩
        | exact ⟨_, rfl, rfl, blk_set (by assumption) 0 _, gr_set0 (by assumption) _⟩
        | exact ⟨_, rfl, rfl, blk_new _ _, gr_alloc (by assumption) _⟩
        | fail
  case rest =>
    obtain ⟨B2, rfl, rfl, hb, g⟩ := hcut
    have e2 := blk_cell hb 0 (v := .int .u32 (IntKind.u32.wrap i)) rfl
    rw [show IntKind.u32.wrap i = i % 4294967296 from IntKind.wrap_u32 _] at e2
    have hb1 := blk_gr g HB2.out
    have q0 := blk_cell hb1 0 (v := .int .i64 (k : Int)) rfl
    have q1 := blk_cell hb1 1 (v := .int .i64 0) rfl
    have q2 := blk_cell hb1 2 (v := .int .i64 0) rfl
    have q3 := blk_cell hb1 3 (v := .int .i64 0) rfl
    have hcx := HFT.out _ (gtrans GW2.out g) k hk
    rw [HV.out] at hcx
    have GC := Lib.hid g
    clear hb hb1 g c0 c4
    go_wp2_with (first | fail)
    first | go_ret2 | go_ret
    refine ⟨ret_ue (enc_or_78 k hk HV.out i ) rfl, gtrans GW2.out (by first | exact GC.out | exact gtrans GC.out (by go_grown))⟩
end Go.Proofs.YthcfobefpknjeaaDoor.P
