/- Stage 2: the instruction of a word. No condition. -/
import Derived.Test.YtngeabphjdfdgaaDoorD1
set_option linter.unusedVariables false
set_option linter.unusedSimpArgs false
set_option maxRecDepth 100000
namespace Go.Proofs.YtngeabphjdfdgaaDoor.P
open Go.RowKit
def fromF (c : Int) : Nat := if c = 55 then 1 else if c = 23 then 2 else if c = 111 then 3 else if c = 103 then 4 else if c = 99 then 5 else if c = 3 then 11 else if c = 35 then 18 else if c = 19 then 22 else if c = 27 then 31 else if c = 51 then 35 else if c = 59 then 35 else if c = 15 then 63 else if c = 115 then 63 else if c = 47 then 66 else 0
def toF (c : Int) : Nat := if c = 55 then 1 else if c = 23 then 2 else if c = 111 then 3 else if c = 103 then 4 else if c = 99 then 10 else if c = 3 then 17 else if c = 35 then 21 else if c = 19 then 30 else if c = 27 then 34 else if c = 51 then 62 else if c = 59 then 62 else if c = 15 then 65 else if c = 115 then 65 else if c = 47 then 87 else 0
theorem ret_ii {a b c d : Int} (h : a = b) (h2 : c = d) : Ending.returned (.tuple #[.int .i64 a, .int .i64 c]) = .returned (.tuple #[.int .i64 b, .int .i64 d]) := by rw [h, h2]
set_option maxHeartbeats 1600000 in
theorem c_span (c : Int) (w : World) : Calls Tryd.prog 35 #[.int .u32 c] w fun e w' => e = .returned (.tuple #[.int .i64 (fromF c), .int .i64 (toF c)]) ∧ w' = w := by
  by_cases h : c = 55 ∨ c = 23 ∨ c = 111 ∨ c = 103 ∨ c = 99 ∨ c = 3 ∨ c = 35 ∨ c = 19 ∨ c = 27 ∨ c = 51 ∨ c = 59 ∨ c = 15 ∨ c = 115 ∨ c = 47
  · rcases h with rfl | rfl | rfl | rfl | rfl | rfl | rfl | rfl | rfl | rfl | rfl | rfl | rfl | rfl
    all_goals
      go_enter Tryd.func35, Tryd.ntmps35
      go_wp2
      go_ret2
      exact ⟨rfl, rfl⟩
  · have hf : fromF c = 0 := by
      unfold fromF
      repeat rw [if_neg (by omega)]
    have ht : toF c = 0 := by
      unfold toF
      repeat rw [if_neg (by omega)]
    rw [hf, ht]
    have e55 : (c == 55) = false := beq_eq_false_iff_ne.2 (by omega)
    have e23 : (c == 23) = false := beq_eq_false_iff_ne.2 (by omega)
    have e111 : (c == 111) = false := beq_eq_false_iff_ne.2 (by omega)
    have e103 : (c == 103) = false := beq_eq_false_iff_ne.2 (by omega)
    have e99 : (c == 99) = false := beq_eq_false_iff_ne.2 (by omega)
    have e3 : (c == 3) = false := beq_eq_false_iff_ne.2 (by omega)
    have e35 : (c == 35) = false := beq_eq_false_iff_ne.2 (by omega)
    have e19 : (c == 19) = false := beq_eq_false_iff_ne.2 (by omega)
    have e27 : (c == 27) = false := beq_eq_false_iff_ne.2 (by omega)
    have e51 : (c == 51) = false := beq_eq_false_iff_ne.2 (by omega)
    have e59 : (c == 59) = false := beq_eq_false_iff_ne.2 (by omega)
    have e15 : (c == 15) = false := beq_eq_false_iff_ne.2 (by omega)
    have e115 : (c == 115) = false := beq_eq_false_iff_ne.2 (by omega)
    have e47 : (c == 47) = false := beq_eq_false_iff_ne.2 (by omega)
    clear h hf ht
    go_enter Tryd.func35, Tryd.ntmps35
    go_wp2
    go_ret2
    exact ⟨rfl, rfl⟩
def matB (x : Int) (k : Nat) : Bool := bits .and .u32 x (maskT k) == fixT k
theorem from_to (c : Int) : 1 ≤ fromF c ∧ toF c ≤ 87 ∨ (fromF c = 0 ∧ toF c = 0) := by
  by_cases h : c = 55 ∨ c = 23 ∨ c = 111 ∨ c = 103 ∨ c = 99 ∨ c = 3 ∨ c = 35 ∨ c = 19 ∨ c = 27 ∨ c = 51 ∨ c = 59 ∨ c = 15 ∨ c = 115 ∨ c = 47
  · rcases h with rfl | rfl | rfl | rfl | rfl | rfl | rfl | rfl | rfl | rfl | rfl | rfl | rfl | rfl
    all_goals exact .inl ⟨by decide, by decide⟩
  · refine .inr ⟨?_, ?_⟩
    · unfold fromF
      repeat rw [if_neg (by omega)]
    · unfold toF
      repeat rw [if_neg (by omega)]
set_option maxHeartbeats 6400000 in
theorem c_decode_yes (x : Int) (hx : u32 x) (k : Nat) (h1 : 1 ≤ k) (hf : fromF (x % 128) ≤ k) (ht : k ≤ toF (x % 128)) (hm : matB x k = true) (hno : ∀ j, 1 ≤ j → fromF (x % 128) ≤ j → j < k → matB x j = false) (rd a b i : Int) (w : World) (hF : FT w)
    (CFL : ∀ w1, Gr w w1 → Calls Tryd.prog 39 #[.int .i64 (k : Int), .int .u32 x] w1 fun e w' => e = .returned (iv (k : Int) rd a b i) ∧ Gr w1 w') :
    Calls Tryd.prog 21 #[.int .u32 x] w fun e w' => e = .returned (.tuple #[iv (k : Int) rd a b i, .int .i64 0]) ∧ Gr w w' := by
  have hk : k < 88 := by rcases from_to (x % 128) with h | h <;> omega
  have hfl : 1 ≤ fromF (x % 128) := by rcases from_to (x % 128) with h | h <;> omega
  have htl : toF (x % 128) ≤ 87 := by rcases from_to (x % 128) with h | h <;> omega
  have CB := Lib.hid (c_bits_6_0 x hx)
  have CS := Lib.hid (c_span (x % 128))
  have HNO := Lib.hid hno
  have HM := Lib.hid hm
  have CM : Hid (∀ (j : Nat), 1 ≤ j → j < 88 → ∀ w1, Gr w w1 → Calls Tryd.prog 37 #[.int .i64 (j : Int)] w1 fun e w' => e = .returned (.int .u32 (maskT j)) ∧ Gr w1 w') := Lib.hid (fun j j1 j2 w1 g => c_mask j j2 j1 w1 (hF.gr g))
  have CX : Hid (∀ (j : Nat), j < 88 → ∀ w1, Gr w w1 → Calls Tryd.prog 38 #[.int .i64 (j : Int)] w1 fun e w' => e = .returned (.int .u32 (fixT j)) ∧ Gr w1 w') := Lib.hid (fun j j2 w1 g => c_fixed j j2 w1 (hF.gr g))
  have CF := Lib.hid CFL
  have hb := blk_new w (.cells #[.int .i64 0, .int .i64 0, .int .i64 0, .int .i64 0, .int .i64 0] 63)
  have gb := gr_al (Gr.refl w) (.cells #[.int .i64 0, .int .i64 0, .int .i64 0, .int .i64 0, .int .i64 0] 63)
  obtain ⟨x0, x1⟩ := hx
  clear hF hno hm CFL
  rw [show x / 1 % 128 = x % 128 by omega] at CB
  generalize hfr : fromF (x % 128) = fr at *
  generalize hto : toF (x % 128) = tt at *
  clear hfr hto
  have hmx : max (fr : Int) 1 = (fr : Int) := by omega
  go_enter Tryd.func21, Tryd.ntmps21
  go_upto_region 1 with fail
  generalize w.alloc (.cells #[.int .i64 0, .int .i64 0, .int .i64 0, .int .i64 0, .int .i64 0] 63) = wA at *
  obtain ⟨B, hB⟩ : ∃ B, B = w.heap.size := ⟨_, rfl⟩
  rw [← hB] at hb ⊢
  have HB := Lib.hid hb
  have GB := Lib.hid gb
  have EB := Lib.hid hB
  clear hb gb hB
  go_upto_region 2 with (first | (go_at_call 36; refine (CB.out _).mono ?_; rintro e w1 ⟨rfl, rfl⟩) | (go_at_call 35; refine (CS.out _).mono ?_; rintro e w1 ⟨rfl, rfl⟩))
  go_wp2_with fail
  go_loopw [6] (fun v wr => ∃ j : Nat, fr ≤ j ∧ j ≤ k ∧ v = .int .i64 (j : Int) ∧ wr.heap[B]? = some (.cells #[.int .i64 0, .int .i64 0, .int .i64 0, .int .i64 0, .int .i64 0] 63) ∧ Gr w wr) (fun v _ => k - (intOf v).toNat)
  case atStart => exact ⟨fr, Nat.le_refl _, hf, congrArg (Value.int .i64) (by first | rfl | exact hmx), HB.out, GB.out⟩
  case round =>
    obtain ⟨j, hj1, hj2, rfl, hbb, hgg⟩ := hrel
    have HBB := Lib.hid hbb
    have HGG := Lib.hid hgg
    clear hbb hgg
    have C1 := Lib.hid (CM.out j (by omega) (by omega))
    have C2 := Lib.hid (CX.out j (by omega))
    have ett : decide (j ≤ tt) = true := decide_eq_true (by omega)
    by_cases hlt : j < k
    · have em : (bits .and .u32 x (maskT j) == fixT j) = false := HNO.out j (by omega) (by omega) hlt
      go_wp2_with (first
        | (go_at_call 37; refine (C1.out _ HGG.out).mono ?_; rintro e w3 ⟨rfl, g3⟩; have HG3 := Lib.hid (gtrans HGG.out g3); have HB3 := Lib.hid (blk_gr g3 HBB.out); clear g3)
        | (go_at_call 38; refine (C2.out _ HG3.out).mono ?_; rintro e w4 ⟨rfl, g4⟩; have HG4 := Lib.hid (gtrans HG3.out g4); have HB4 := Lib.hid (blk_gr g4 HB3.out); clear g4))
      go_roundw
      case rel => exact ⟨j + 1, by omega, by omega, by go_num, HB4.out, HG4.out⟩
      case measure => simp [intOf]; omega
    · have ej : j = k := by omega
      subst ej
      have em : (bits .and .u32 x (maskT j) == fixT j) = true := HM.out
      go_wp2_with (first
        | (go_at_call 37; refine (C1.out _ HGG.out).mono ?_; rintro e w3 ⟨rfl, g3⟩; have HG3 := Lib.hid (gtrans HGG.out g3); have HB3 := Lib.hid (blk_gr g3 HBB.out); clear g3)
        | (go_at_call 38; refine (C2.out _ HG3.out).mono ?_; rintro e w4 ⟨rfl, g4⟩; have HG4 := Lib.hid (gtrans HG3.out g4); have HB4 := Lib.hid (blk_gr g4 HB3.out); clear g4)
        | (go_at_call 39; refine (CF.out _ HG4.out).mono ?_; rintro e w5 ⟨rfl, g5⟩; have HG5 := Lib.hid (gtrans HG4.out g5); have hb5 := blk_gr g5 HB4.out; have HB5 := Lib.hid hb5; have d0 := blk_cell hb5 0 (v := .int .i64 0) rfl; have d1 := blk_cell hb5 1 (v := .int .i64 0) rfl; have d2 := blk_cell hb5 2 (v := .int .i64 0) rfl; have d3 := blk_cell hb5 3 (v := .int .i64 0) rfl; have d4 := blk_cell hb5 4 (v := .int .i64 0) rfl; have z0 := blk_frozen hb5 0; have z1 := blk_frozen hb5 1; have z2 := blk_frozen hb5 2; have z3 := blk_frozen hb5 3; have z4 := blk_frozen hb5 4; clear g5 hb5))
      obtain ⟨hz, gz⟩ := set5g (B := B) (by rw [EB.out]; exact Nat.le_refl _) HB5.out HG5.out (.int .i64 (j : Int)) (.int .i64 rd) (.int .i64 a) (.int .i64 b) (.int .i64 i)
      refine bodyPost_ret (v := .tuple #[iv (j : Int) rd a b i, .int .i64 0]) ?_ rfl ⟨rfl, gz⟩
      have y0 := blk_cell hz 0 (v := .int .i64 (j : Int)) rfl
      have y1 := blk_cell hz 1 (v := .int .i64 rd) rfl
      have y2 := blk_cell hz 2 (v := .int .i64 a) rfl
      have y3 := blk_cell hz 3 (v := .int .i64 b) rfl
      have y4 := blk_cell hz 4 (v := .int .i64 i) rfl
      generalize (World.setCell _ ⟨B, 4, none⟩ _) = wz at *
      simp [results, Tryd.results21, go_sem, y0, y1, y2, y3, y4]
end Go.Proofs.YtngeabphjdfdgaaDoor.P
