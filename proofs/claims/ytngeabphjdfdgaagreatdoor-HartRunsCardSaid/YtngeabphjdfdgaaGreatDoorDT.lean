/- Stage 2: Decode, by the document. No condition. -/
import Derived.Test.YtngeabphjdfdgaaGreatDoorDV
import Derived.Test.YtngeabphjdfdgaaGreatDoorDS
import Derived.Test.YtngeabphjdfdgaaGreatDoorMI
set_option linter.unusedVariables false
set_option linter.unusedSimpArgs false
set_option maxRecDepth 100000
namespace Go.Proofs.YtngeabphjdfdgaaGreatDoor.P
open Go.RowKit
set_option maxHeartbeats 6400000 in
/-- The document's: the instruction of the first opcode whose word it is; K = 88: none. -/
theorem r_decode_to (x : Int) (hx : u32 x) (K : Nat) (h1 : 1 ≤ K) (h88 : K ≤ 88) (hno : ∀ j, 1 ≤ j → j < K → matB x j = false) (hyes : K = 88 ∨ matB x K = true) (V : Value) (E : Int) (rd a b i : Int)
    (hV : (K = 88 ∧ rd = 0 ∧ a = 0 ∧ b = 0 ∧ i = 0 ∧ V = iv 0 0 0 0 0 ∧ E = 2) ∨ (K < 88 ∧ rd = fitD (fmT K) x ∧ a = fitA (fmT K) x ∧ b = fitB (fmT K) (resB K) x ∧ i = fitI (fmT K) x ∧ V = iv (K : Int) rd a b i ∧ E = 0)) (w : World) :
    Calls Tryz.prog 23 #[.int .u32 x] w fun e w' => e = .returned (.tuple #[V, .int .i64 E]) ∧ Gr w w' := by
  have CF : Hid (∀ (j : Nat), j < 88 → 1 ≤ j → ∀ w1, Calls Tryz.prog 48 #[.int .i64 (j : Int), .int .u32 x] w1 fun e w' => e = .returned (iv (j : Int) (fitD (fmT j) x) (fitA (fmT j) x) (fitB (fmT j) (resB j) x) (fitI (fmT j) x)) ∧ Gr w1 w') := Lib.hid (fun j j2 j1 w1 => r_fits j j2 j1 x hx w1)
  have CE : Hid (∀ (j : Nat), j < 88 → 1 ≤ j → ∀ w1, Calls Tryz.prog 49 #[iv (j : Int) (fitD (fmT j) x) (fitA (fmT j) x) (fitB (fmT j) (resB j) x) (fitI (fmT j) x)] w1 fun e w' => e = .returned (.tuple #[.int .u32 (encF j (fitD (fmT j) x) (fitA (fmT j) x) (fitB (fmT j) (resB j) x) (fitI (fmT j) x)), .int .i64 0]) ∧ Gr w1 w') := Lib.hid (fun j j2 j1 w1 => by
    have := r_encode (j : Int) (fitD (fmT j) x) (fitA (fmT j) x) (fitB (fmT j) (resB j) x) (fitI (fmT j) x) (fitI_in j j2 j1 x hx) w1
    unfold encV encE at this
    rw [fit_may j j2 j1 x hx, Int.toNat_natCast] at this
    exact this)
  have HM : Hid (∀ (j : Nat), j < 88 → 1 ≤ j → (encF j (fitD (fmT j) x) (fitA (fmT j) x) (fitB (fmT j) (resB j) x) (fitI (fmT j) x) == x) = matB x j) := Lib.hid (fun j j2 j1 => fit_enc j j2 j1 x hx)
  have HNO := Lib.hid hno
  have HY := Lib.hid hyes
  have HV := Lib.hid hV
  have hb := blk_new w (.cells #[.int .i64 0, .int .i64 0, .int .i64 0, .int .i64 0, .int .i64 0] 61)
  have gb := gr_al (Gr.refl w) (.cells #[.int .i64 0, .int .i64 0, .int .i64 0, .int .i64 0, .int .i64 0] 61)
  clear hno hyes hV hx
  go_enter Tryz.func23, Tryz.ntmps23
  go_upto_region 1 with fail
  generalize w.alloc (.cells #[.int .i64 0, .int .i64 0, .int .i64 0, .int .i64 0, .int .i64 0] 61) = wA at *
  obtain ⟨B, hB⟩ : ∃ B, B = w.heap.size := ⟨_, rfl⟩
  rw [← hB] at hb ⊢
  have HB := Lib.hid hb
  have GB := Lib.hid gb
  have EB := Lib.hid hB
  clear hb gb hB
  go_wp2_with fail
  go_loopw [4] (fun v wr => ∃ j : Nat, 1 ≤ j ∧ j ≤ K ∧ v = .int .i64 (j : Int) ∧ wr.heap[B]? = some (.cells #[.int .i64 0, .int .i64 0, .int .i64 0, .int .i64 0, .int .i64 0] 61) ∧ Gr w wr) (fun v _ => 88 - (intOf v).toNat)
  case atStart => exact ⟨1, Nat.le_refl _, h1, rfl, HB.out, GB.out⟩
  case round =>
    obtain ⟨j, hj1, hj2, rfl, hbb, hgg⟩ := hrel
    have HBB := Lib.hid hbb
    have HGG := Lib.hid hgg
    by_cases hlt : j < K
    · have C1 := Lib.hid (CF.out j (by omega) (by omega))
      have C2 := Lib.hid (CE.out j (by omega) (by omega))
      have em := HM.out j (by omega) (by omega)
      rw [HNO.out j hj1 hlt] at em
      have e87 : decide ((j : Int) ≤ 87) = true := decide_eq_true (by omega)
      clear hbb hgg
      generalize encF j (fitD (fmT j) x) (fitA (fmT j) x) (fitB (fmT j) (resB j) x) (fitI (fmT j) x) = EV at *
      generalize fitD (fmT j) x = p1 at *
      generalize fitA (fmT j) x = p2 at *
      generalize fitB (fmT j) (resB j) x = p3 at *
      generalize fitI (fmT j) x = p4 at *
      go_upto_region 5 with (go_at_call 48; refine (C1.out _).mono ?_; rintro e w3 ⟨rfl, g3⟩)
      have kb := blk_new w3 (.cells #[.int .i64 (j : Int), .int .i64 p1, .int .i64 p2, .int .i64 p3, .int .i64 p4] 61)
      have kg := gr_al (gtrans HGG.out g3) (.cells #[.int .i64 (j : Int), .int .i64 p1, .int .i64 p2, .int .i64 p3, .int .i64 p4] 61)
      have kz := blk_alloc (.cells #[.int .i64 (j : Int), .int .i64 p1, .int .i64 p2, .int .i64 p3, .int .i64 p4] 61) (blk_gr g3 HBB.out)
      generalize w3.alloc (.cells #[.int .i64 (j : Int), .int .i64 p1, .int .i64 p2, .int .i64 p3, .int .i64 p4] 61) = w4 at *
      generalize w3.heap.size = X at *
      have c0 := blk_cell kb 0 (v := .int .i64 (j : Int)) rfl
      have c1 := blk_cell kb 1 (v := .int .i64 p1) rfl
      have c2 := blk_cell kb 2 (v := .int .i64 p2) rfl
      have c3 := blk_cell kb 3 (v := .int .i64 p3) rfl
      have c4 := blk_cell kb 4 (v := .int .i64 p4) rfl
      have HG4 := Lib.hid kg
      have HB4 := Lib.hid kz
      have HK4 := Lib.hid kb
      clear kb kg kz g3
      go_wp2_with (go_at_call 49; refine (C2.out _).mono ?_; rintro e w5 ⟨rfl, g5⟩; have HG5 := Lib.hid (gtrans HG4.out g5); have HB5 := Lib.hid (blk_gr g5 HB4.out); clear g5)
      go_roundw
      case rel => exact ⟨j + 1, by omega, by omega, by go_num, HB5.out, HG5.out⟩
      case measure => simp [intOf]; omega
    · have ej : j = K := by omega
      subst ej
      by_cases hk : j = 88
      · have e87 : decide ((j : Int) ≤ 87) = false := decide_eq_false (by omega)
        have d0 := blk_cell hbb 0 (v := .int .i64 0) rfl
        have d1 := blk_cell hbb 1 (v := .int .i64 0) rfl
        have d2 := blk_cell hbb 2 (v := .int .i64 0) rfl
        have d3 := blk_cell hbb 3 (v := .int .i64 0) rfl
        have d4 := blk_cell hbb 4 (v := .int .i64 0) rfl
        have z0 := blk_frozen hbb 0
        have z1 := blk_frozen hbb 1
        have z2 := blk_frozen hbb 2
        have z3 := blk_frozen hbb 3
        have z4 := blk_frozen hbb 4
        have HV2 : Hid (V = iv 0 0 0 0 0 ∧ E = 2) := Lib.hid (by rcases HV.out with h | h; exact ⟨h.2.2.2.2.2.1, h.2.2.2.2.2.2⟩; omega)
        have nlt : ¬ (j : Int) ≤ 87 := by omega
        clear hbb hgg hk HV
        go_wp2_with fail
        obtain ⟨hz, gz⟩ := set5g (B := B) (by rw [EB.out]; exact Nat.le_refl _) HBB.out HGG.out (.int .i64 0) (.int .i64 0) (.int .i64 0) (.int .i64 0) (.int .i64 0)
        refine bodyPost_ret (v := .tuple #[iv 0 0 0 0 0, .int .i64 2]) ?_ rfl ⟨by rw [HV2.out.1, HV2.out.2], gz⟩
        have y0 := blk_cell hz 0 (v := .int .i64 0) rfl
        have y1 := blk_cell hz 1 (v := .int .i64 0) rfl
        have y2 := blk_cell hz 2 (v := .int .i64 0) rfl
        have y3 := blk_cell hz 3 (v := .int .i64 0) rfl
        have y4 := blk_cell hz 4 (v := .int .i64 0) rfl
        generalize (World.setCell _ ⟨B, 4, none⟩ _) = wz at *
        simp [results, Tryz.results23, go_sem, y0, y1, y2, y3, y4]
      · have C1 := Lib.hid (CF.out j (by omega) (by omega))
        have C2 := Lib.hid (CE.out j (by omega) (by omega))
        have em := HM.out j (by omega) (by omega)
        rw [show matB x j = true by rcases HY.out with h | h; exact absurd h hk; exact h] at em
        have e87 : decide ((j : Int) ≤ 87) = true := decide_eq_true (by omega)
        have HV2 : Hid (V = iv (j : Int) (fitD (fmT j) x) (fitA (fmT j) x) (fitB (fmT j) (resB j) x) (fitI (fmT j) x) ∧ E = 0) := Lib.hid (by rcases HV.out with h | ⟨_, h1, h2, h3, h4, h5, h6⟩; exact absurd h.1 hk; exact ⟨by rw [h5, h1, h2, h3, h4], h6⟩)
        clear hbb hgg HV hj2
        generalize encF j (fitD (fmT j) x) (fitA (fmT j) x) (fitB (fmT j) (resB j) x) (fitI (fmT j) x) = EV at *
        generalize fitD (fmT j) x = p1 at *
        generalize fitA (fmT j) x = p2 at *
        generalize fitB (fmT j) (resB j) x = p3 at *
        generalize fitI (fmT j) x = p4 at *
        go_upto_region 5 with (go_at_call 48; refine (C1.out _).mono ?_; rintro e w3 ⟨rfl, g3⟩)
        have kb := blk_new w3 (.cells #[.int .i64 (j : Int), .int .i64 p1, .int .i64 p2, .int .i64 p3, .int .i64 p4] 61)
        have kg := gr_al (gtrans HGG.out g3) (.cells #[.int .i64 (j : Int), .int .i64 p1, .int .i64 p2, .int .i64 p3, .int .i64 p4] 61)
        have kz := blk_alloc (.cells #[.int .i64 (j : Int), .int .i64 p1, .int .i64 p2, .int .i64 p3, .int .i64 p4] 61) (blk_gr g3 HBB.out)
        generalize w3.alloc (.cells #[.int .i64 (j : Int), .int .i64 p1, .int .i64 p2, .int .i64 p3, .int .i64 p4] 61) = w4 at *
        generalize w3.heap.size = X at *
        have c0 := blk_cell kb 0 (v := .int .i64 (j : Int)) rfl
        have c1 := blk_cell kb 1 (v := .int .i64 p1) rfl
        have c2 := blk_cell kb 2 (v := .int .i64 p2) rfl
        have c3 := blk_cell kb 3 (v := .int .i64 p3) rfl
        have c4 := blk_cell kb 4 (v := .int .i64 p4) rfl
        have HG4 := Lib.hid kg
        have HB4 := Lib.hid kz
        have HK4 := Lib.hid kb
        clear kb kg kz g3
        go_wp2_with (go_at_call 49; refine (C2.out _).mono ?_; rintro e w5 ⟨rfl, g5⟩; have HG5 := Lib.hid (gtrans HG4.out g5); have hb5 := blk_gr g5 HB4.out; have HB5 := Lib.hid hb5; have hk5 := blk_gr g5 HK4.out; have d0 := blk_cell hb5 0 (v := .int .i64 0) rfl; have d1 := blk_cell hb5 1 (v := .int .i64 0) rfl; have d2 := blk_cell hb5 2 (v := .int .i64 0) rfl; have d3 := blk_cell hb5 3 (v := .int .i64 0) rfl; have d4 := blk_cell hb5 4 (v := .int .i64 0) rfl; have z0 := blk_frozen hb5 0; have z1 := blk_frozen hb5 1; have z2 := blk_frozen hb5 2; have z3 := blk_frozen hb5 3; have z4 := blk_frozen hb5 4; clear c0 c1 c2 c3 c4; have c0 := blk_cell hk5 0 (v := .int .i64 (j : Int)) rfl; have c1 := blk_cell hk5 1 (v := .int .i64 p1) rfl; have c2 := blk_cell hk5 2 (v := .int .i64 p2) rfl; have c3 := blk_cell hk5 3 (v := .int .i64 p3) rfl; have c4 := blk_cell hk5 4 (v := .int .i64 p4) rfl; clear g5 hb5 hk5)
        obtain ⟨hz, gz⟩ := set5g (B := B) (by rw [EB.out]; exact Nat.le_refl _) HB5.out HG5.out (.int .i64 (j : Int)) (.int .i64 p1) (.int .i64 p2) (.int .i64 p3) (.int .i64 p4)
        refine bodyPost_ret (v := .tuple #[iv (j : Int) p1 p2 p3 p4, .int .i64 0]) ?_ rfl ⟨by rw [HV2.out.1, HV2.out.2], gz⟩
        have y0 := blk_cell hz 0 (v := .int .i64 (j : Int)) rfl
        have y1 := blk_cell hz 1 (v := .int .i64 p1) rfl
        have y2 := blk_cell hz 2 (v := .int .i64 p2) rfl
        have y3 := blk_cell hz 3 (v := .int .i64 p3) rfl
        have y4 := blk_cell hz 4 (v := .int .i64 p4) rfl
        generalize (World.setCell _ ⟨B, 4, none⟩ _) = wz at *
        simp [results, Tryz.results23, go_sem, y0, y1, y2, y3, y4]
theorem r_decode (x : Int) (hx : u32 x) (w : World) : Calls Tryz.prog 23 #[.int .u32 x] w fun e w' => e = .returned (.tuple #[decV x, .int .i64 (decE x)]) ∧ Gr w w' := by
  unfold decV decE
  rcases decK_cases x with ⟨h0, hn⟩ | ⟨h1, h2, h3, h4⟩
  · rw [if_pos h0, if_pos h0]
    exact r_decode_to x hx 88 (by decide) (Nat.le_refl _) hn (.inl rfl) _ _ _ _ _ _ (.inl ⟨rfl, rfl, rfl, rfl, rfl, rfl, rfl⟩) w
  · rw [if_neg (by omega), if_neg (by omega)]
    exact r_decode_to x hx (decK x) h1 (by omega) h4 (.inr h3) _ _ _ _ _ _ (.inr ⟨h2, rfl, rfl, rfl, rfl, rfl, rfl⟩) w
end Go.Proofs.YtngeabphjdfdgaaGreatDoor.P
