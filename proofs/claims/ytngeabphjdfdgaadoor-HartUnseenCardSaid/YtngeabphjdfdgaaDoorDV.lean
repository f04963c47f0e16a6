/- Stage 2: Decode, by the program. No condition. -/
import Derived.Test.YtngeabphjdfdgaaDoorDU
set_option linter.unusedVariables false
set_option linter.unusedSimpArgs false
set_option maxRecDepth 100000
namespace Go.Proofs.YtngeabphjdfdgaaDoor.P
open Go.RowKit
set_option maxHeartbeats 6400000 in
theorem c_decode_no (x : Int) (hx : u32 x) (hno : ∀ j, 1 ≤ j → j < 88 → matB x j = false) (w : World) (hF : FT w) :
    Calls Tryd.prog 21 #[.int .u32 x] w fun e w' => e = .returned (.tuple #[iv 0 0 0 0 0, .int .i64 2]) ∧ Gr w w' := by
  have CB := Lib.hid (c_bits_6_0 x hx)
  have CS := Lib.hid (c_span (x % 128))
  have HNO := Lib.hid hno
  have CM : Hid (∀ (j : Nat), 1 ≤ j → j < 88 → ∀ w1, Gr w w1 → Calls Tryd.prog 37 #[.int .i64 (j : Int)] w1 fun e w' => e = .returned (.int .u32 (maskT j)) ∧ Gr w1 w') := Lib.hid (fun j j1 j2 w1 g => c_mask j j2 j1 w1 (hF.gr g))
  have CX : Hid (∀ (j : Nat), j < 88 → ∀ w1, Gr w w1 → Calls Tryd.prog 38 #[.int .i64 (j : Int)] w1 fun e w' => e = .returned (.int .u32 (fixT j)) ∧ Gr w1 w') := Lib.hid (fun j j2 w1 g => c_fixed j j2 w1 (hF.gr g))
  have hb := blk_new w (.cells #[.int .i64 0, .int .i64 0, .int .i64 0, .int .i64 0, .int .i64 0] 63)
  have gb := gr_al (Gr.refl w) (.cells #[.int .i64 0, .int .i64 0, .int .i64 0, .int .i64 0, .int .i64 0] 63)
  obtain ⟨x0, x1⟩ := hx
  clear hF hno
  rw [show x / 1 % 128 = x % 128 by omega] at CB
  have hft : toF (x % 128) ≤ 87 := by rcases from_to (x % 128) with h | h <;> omega
  generalize hfr : fromF (x % 128) = fr at *
  generalize hto : toF (x % 128) = tt at *
  clear hfr hto
  obtain ⟨f1, hf1⟩ : ∃ f1 : Nat, max (fr : Int) 1 = (f1 : Int) := ⟨(max (fr : Int) 1).toNat, by omega⟩
  have hf0 : 1 ≤ f1 := by omega
  have hmx := hf1
  clear hf1
  go_enter Tryd.func21, Tryd.ntmps21
  go_upto_region 1 with fail
  generalize w.alloc (.cells #[.int .i64 0, .int .i64 0, .int .i64 0, .int .i64 0, .int .i64 0] 63) = wA at *
  obtain ⟨B, hB⟩ : ∃ B, B = w.heap.size := ⟨_, rfl⟩
  rw [← hB] at hb ⊢
  have HB := Lib.hid hb
  have GB := Lib.hid gb
  have EB := Lib.hid hB
  clear hb gb hB
  go_upto_region 2 with (first | (go_at_call 36; refine (CB.out _).mono ?_; rintro e w1 ⟨rfl, rfl⟩) | (go_at_call 35; refine (CS.out _).mono ?_; rintro e w1 ⟨rfl, rfl⟩))
  go_wp2_with fail
  go_loopw [6] (fun v wr => ∃ j : Nat, 1 ≤ j ∧ v = .int .i64 (j : Int) ∧ wr.heap[B]? = some (.cells #[.int .i64 0, .int .i64 0, .int .i64 0, .int .i64 0, .int .i64 0] 63) ∧ Gr w wr) (fun v _ => tt + 1 - (intOf v).toNat)
  case atStart => exact ⟨f1, hf0, by rw [← hmx], HB.out, GB.out⟩
  case round =>
    obtain ⟨j, hj1, rfl, hbb, hgg⟩ := hrel
    have HBB := Lib.hid hbb
    have HGG := Lib.hid hgg
    by_cases hlt : j ≤ tt
    · have C1 := Lib.hid (CM.out j (by omega) (by omega))
      have C2 := Lib.hid (CX.out j (by omega))
      have ett : decide (j ≤ tt) = true := decide_eq_true (by omega)
      have em : (bits .and .u32 x (maskT j) == fixT j) = false := HNO.out j (by omega) (by omega)
      clear hbb hgg
      go_wp2_with (first
        | (go_at_call 37; refine (C1.out _ HGG.out).mono ?_; rintro e w3 ⟨rfl, g3⟩; have HG3 := Lib.hid (gtrans HGG.out g3); have HB3 := Lib.hid (blk_gr g3 HBB.out); clear g3)
        | (go_at_call 38; refine (C2.out _ HG3.out).mono ?_; rintro e w4 ⟨rfl, g4⟩; have HG4 := Lib.hid (gtrans HG3.out g4); have HB4 := Lib.hid (blk_gr g4 HB3.out); clear g4))
      go_roundw
      case rel => exact ⟨j + 1, by omega, by go_num, HB4.out, HG4.out⟩
      case measure => simp [intOf]; omega
    · have ett : decide (j ≤ tt) = false := decide_eq_false (by omega)
      have d0 := blk_cell hbb 0 (v := .int .i64 0) rfl
      have d1 := blk_cell hbb 1 (v := .int .i64 0) rfl
      have d2 := blk_cell hbb 2 (v := .int .i64 0) rfl
      have d3 := blk_cell hbb 3 (v := .int .i64 0) rfl
      have d4 := blk_cell hbb 4 (v := .int .i64 0) rfl
      have z0 := blk_frozen hbb 0
      have z1 := blk_frozen hbb 1
      have z2 := blk_frozen hbb 2
      have z3 := blk_frozen hbb 3
      have z4 := blk_frozen hbb 4
      clear hbb hgg
      go_wp2_with fail
      obtain ⟨hz, gz⟩ := set5g (B := B) (by rw [EB.out]; exact Nat.le_refl _) HBB.out HGG.out (.int .i64 0) (.int .i64 0) (.int .i64 0) (.int .i64 0) (.int .i64 0)
      refine bodyPost_ret (v := .tuple #[iv 0 0 0 0 0, .int .i64 2]) ?_ rfl ⟨rfl, gz⟩
      have y0 := blk_cell hz 0 (v := .int .i64 0) rfl
      have y1 := blk_cell hz 1 (v := .int .i64 0) rfl
      have y2 := blk_cell hz 2 (v := .int .i64 0) rfl
      have y3 := blk_cell hz 3 (v := .int .i64 0) rfl
      have y4 := blk_cell hz 4 (v := .int .i64 0) rfl
      generalize (World.setCell _ ⟨B, 4, none⟩ _) = wz at *
      simp [results, Tryd.results21, go_sem, y0, y1, y2, y3, y4]
theorem c_decode (x : Int) (hx : u32 x) (w : World) (hF : FT w) : Calls Tryd.prog 21 #[.int .u32 x] w fun e w' => e = .returned (.tuple #[decV x, .int .i64 (decE x)]) ∧ Gr w w' := by
  unfold decV decE
  rcases decK_cases x with ⟨h0, hn⟩ | ⟨h1, h2, h3, h4⟩
  · rw [if_pos h0, if_pos h0]
    exact c_decode_no x hx hn w hF
  · rw [if_neg (by omega), if_neg (by omega)]
    obtain ⟨g1, g2⟩ := mat_from h2 h1 hx h3
    exact c_decode_yes x hx (decK x) h1 g1 g2 h3 (fun j j1 _ j3 => h4 j j1 j3) _ _ _ _ w hF (fun w1 g => c_fields (decK x) h2 h1 x hx h3 w1 (hF.gr g))
end Go.Proofs.YtngeabphjdfdgaaDoor.P
