/- Stage 2: every word's fields. No condition. -/
import Derived.Test.YtngeabphjdfdgaaGreatDoorDQ
import Derived.Test.YtngeabphjdfdgaaGreatDoorD5
set_option linter.unusedVariables false
set_option linter.unusedSimpArgs false
set_option maxRecDepth 100000
namespace Go.Proofs.YtngeabphjdfdgaaGreatDoor.P
open Go.RowKit
theorem ret_iv {k a b c i a' b' c' i' : Int} (h1 : a = a') (h2 : b = b') (h3 : c = c') (h4 : i = i') : Ending.returned (iv k a b c i) = .returned (iv k a' b' c' i') := by rw [h1, h2, h3, h4]
theorem fix_res : ∀ k : Nat, k < 88 → resB k = true → fixT k / 1048576 % 32 = 0 := by decide +kernel
theorem fix_from : ∀ k : Nat, k < 88 → 1 ≤ k → fromF (fixT k % 128) ≤ k ∧ k ≤ toF (fixT k % 128) := by decide +kernel
theorem mat_from {k : Nat} (hk : k < 88) (h1 : 1 ≤ k) {x : Int} (hx : u32 x) (h : matB x k = true) : fromF (x % 128) ≤ k ∧ k ≤ toF (x % 128) := by
  have e : x % 128 = fixT k % 128 := by
    unfold matB at h
    rw [mat_is k hk h1 x hx, beq_iff_eq] at h
    obtain ⟨x0, x1⟩ := hx
    generalize resB k = q at h
    unfold okM at h
    rcases fm_cases k hk h1 with hv | hv | hv | hv | hv | hv | hv | hv | hv | hv
    all_goals
      rw [hv] at h
      simp only [Int.reduceEq, or_false, false_or, or_true, true_or, if_false, if_true] at h
      cases q <;> (try simp only [cond_true, cond_false] at h) <;> omega
  rw [e]
  exact fix_from k hk h1
theorem mat_res {k : Nat} (hk : k < 88) (h1 : 1 ≤ k) {x : Int} (hx : u32 x) (h : matB x k = true) (hv : fmT k = 65) : x / 1048576 % 32 = (bif resB k then 0 else x / 1048576 % 32) := by
  cases hq : resB k with
  | false => rfl
  | true =>
    have hf := fix_res k hk hq
    unfold matB at h
    rw [mat_is k hk h1 x hx, beq_iff_eq, hv, hq] at h
    obtain ⟨x0, x1⟩ := hx
    unfold okM at h
    simp only [Int.reduceEq, or_false, false_or, or_true, true_or, if_false, if_true, cond_true] at h
    rw [cond_true]
    omega
theorem c_fields (k : Nat) (hk : k < 88) (h1 : 1 ≤ k) (x : Int) (hx : u32 x) (hm : matB x k = true) (w : World) (hF : FT w) : Calls Tryz.prog 40 #[.int .i64 (k : Int), .int .u32 x] w fun e w' => e = .returned (iv (k : Int) (fitD (fmT k) x) (fitA (fmT k) x) (fitB (fmT k) (resB k) x) (fitI (fmT k) x)) ∧ Gr w w' := by
  have ef := fldR_is k hk h1 x hx
  rcases fm_cases k hk h1 with hv | hv | hv | hv | hv | hv | hv | hv | hv | hv
  · refine (c_fld_85 k hk h1 hv x hx w hF).mono ?_; rintro e w' ⟨rfl, g⟩; rw [← ef, hv]; exact ⟨rfl, g⟩
  · refine (c_fld_74 k hk h1 hv x hx w hF).mono ?_; rintro e w' ⟨rfl, g⟩; rw [← ef, hv]; exact ⟨rfl, g⟩
  · refine (c_fld_73 k hk h1 hv x hx w hF).mono ?_; rintro e w' ⟨rfl, g⟩; rw [← ef, hv]; exact ⟨rfl, g⟩
  · refine (c_fld_66 k hk h1 hv x hx w hF).mono ?_; rintro e w' ⟨rfl, g⟩; rw [← ef, hv]; exact ⟨rfl, g⟩
  · refine (c_fld_83 k hk h1 hv x hx w hF).mono ?_; rintro e w' ⟨rfl, g⟩; rw [← ef, hv]; exact ⟨rfl, g⟩
  · refine (c_fld_72 k hk h1 hv x hx w hF).mono ?_; rintro e w' ⟨rfl, g⟩; rw [← ef, hv]; exact ⟨rfl, g⟩
  · refine (c_fld_86 k hk h1 hv x hx w hF).mono ?_; rintro e w' ⟨rfl, g⟩; rw [← ef, hv]; exact ⟨rfl, g⟩
  · refine (c_fld_82 k hk h1 hv x hx w hF).mono ?_; rintro e w' ⟨rfl, g⟩; rw [← ef, hv]; exact ⟨rfl, g⟩
  · have hr := mat_res hk h1 hx hm hv
    refine (c_fld_65 k hk h1 hv x hx w hF).mono ?_; rintro e w' ⟨rfl, g⟩; rw [← ef, hv]; exact ⟨ret_iv rfl rfl hr rfl, g⟩
  · refine (c_fld_78 k hk h1 hv x hx w hF).mono ?_; rintro e w' ⟨rfl, g⟩; rw [← ef, hv]; exact ⟨rfl, g⟩
/-- The opcode of a word; 0: none. -/
def decK (x : Int) : Nat := ((List.range 88).find? (fun k => decide (1 ≤ k) && matB x k)).getD 0
theorem find_range {p : Nat → Bool} : ∀ (n : Nat), ((List.range n).find? p = none ∧ ∀ j, j < n → p j = false) ∨ ∃ k, (List.range n).find? p = some k ∧ k < n ∧ p k = true ∧ ∀ j, j < k → p j = false
  | 0 => .inl ⟨rfl, fun j h => absurd h (Nat.not_lt_zero _)⟩
  | n + 1 => by
    rw [List.range_succ, List.find?_append]
    rcases find_range (p := p) n with ⟨h, hn⟩ | ⟨k, h, hk, hp, hl⟩
    · rw [h, Option.none_or]
      cases hp : p n with
      | false =>
        refine .inl ⟨by simp [List.find?, hp], fun j hj => ?_⟩
        by_cases e : j = n
        · rw [e]; exact hp
        · exact hn j (by omega)
      | true => exact .inr ⟨n, by simp [List.find?, hp], by omega, hp, hn⟩
    · rw [h]
      exact .inr ⟨k, rfl, by omega, hp, hl⟩
theorem decK_cases (x : Int) : (decK x = 0 ∧ ∀ j, 1 ≤ j → j < 88 → matB x j = false) ∨ (1 ≤ decK x ∧ decK x < 88 ∧ matB x (decK x) = true ∧ ∀ j, 1 ≤ j → j < decK x → matB x j = false) := by
  unfold decK
  rcases find_range (p := fun k => decide (1 ≤ k) && matB x k) 88 with ⟨h, hn⟩ | ⟨k, h, hk, hp, hl⟩
  · rw [h]
    refine .inl ⟨rfl, fun j h1 h2 => ?_⟩
    have := hn j h2
    rw [decide_eq_true h1, Bool.true_and] at this
    exact this
  · rw [h]
    rw [Bool.and_eq_true, decide_eq_true_eq] at hp
    refine .inr ⟨hp.1, hk, hp.2, fun j h1 h2 => ?_⟩
    have := hl j h2
    rw [decide_eq_true h1, Bool.true_and] at this
    exact this
def decV (x : Int) : Value := if decK x = 0 then iv 0 0 0 0 0 else iv (decK x : Int) (fitD (fmT (decK x)) x) (fitA (fmT (decK x)) x) (fitB (fmT (decK x)) (resB (decK x)) x) (fitI (fmT (decK x)) x)
def decE (x : Int) : Int := if decK x = 0 then 2 else 0
end Go.Proofs.YtngeabphjdfdgaaGreatDoor.P
namespace Go.Proofs.YtngeabphjdfdgaaGreatDoor.P
open Go.RowKit
set_option maxHeartbeats 6400000 in
theorem c_decode_no (x : Int) (hx : u32 x) (hno : ∀ j, 1 ≤ j → j < 88 → matB x j = false) (w : World) (hF : FT w) :
    Calls Tryz.prog 18 #[.int .u32 x] w fun e w' => e = .returned (.tuple #[iv 0 0 0 0 0, .int .i64 2]) ∧ Gr w w' := by
  have CB := Lib.hid (c_bits_6_0 x hx)
  have CS := Lib.hid (c_span (x % 128))
  have HNO := Lib.hid hno
  have CM : Hid (∀ (j : Nat), 1 ≤ j → j < 88 → ∀ w1, Gr w w1 → Calls Tryz.prog 38 #[.int .i64 (j : Int)] w1 fun e w' => e = .returned (.int .u32 (maskT j)) ∧ Gr w1 w') := Lib.hid (fun j j1 j2 w1 g => c_mask j j2 j1 w1 (hF.gr g))
  have CX : Hid (∀ (j : Nat), j < 88 → ∀ w1, Gr w w1 → Calls Tryz.prog 39 #[.int .i64 (j : Int)] w1 fun e w' => e = .returned (.int .u32 (fixT j)) ∧ Gr w1 w') := Lib.hid (fun j j2 w1 g => c_fixed j j2 w1 (hF.gr g))
  have hb := blk_new w (.cells #[.int .i64 0, .int .i64 0, .int .i64 0, .int .i64 0, .int .i64 0] 61)
  have gb := gr_al (Gr.refl w) (.cells #[.int .i64 0, .int .i64 0, .int .i64 0, .int .i64 0, .int .i64 0] 61)
  obtain ⟨x0, x1⟩ := hx
  clear hF hno
  rw [show x / 1 % 128 = x % 128 by omega] at CB
  have hft : toF (x % 128) ≤ 87 := by rcases from_to (x % 128) with h | h <;> omega
  generalize hfr : fromF (x % 128) = fr at *
  generalize hto : toF (x % 128) = tt at *
  clear hfr hto
  obtain ⟨f1, hf1⟩ : ∃ f1 : Nat, max (fr : Int) 1 = (f1 : Int) := ⟨(max (fr : Int) 1).toNat, by omega⟩
  have hf0 : 1 ≤ f1 := by omega
  have hmx := hf1
  clear hf1
  go_enter Tryz.func18, Tryz.ntmps18
  go_upto_region 1 with fail
  generalize w.alloc (.cells #[.int .i64 0, .int .i64 0, .int .i64 0, .int .i64 0, .int .i64 0] 61) = wA at *
  obtain ⟨B, hB⟩ : ∃ B, B = w.heap.size := ⟨_, rfl⟩
  rw [← hB] at hb ⊢
  have HB := Lib.hid hb
  have GB := Lib.hid gb
  have EB := Lib.hid hB
  clear hb gb hB
  go_upto_region 2 with (first | (go_at_call 37; refine (CB.out _).mono ?_; rintro e w1 ⟨rfl, rfl⟩) | (go_at_call 36; refine (CS.out _).mono ?_; rintro e w1 ⟨rfl, rfl⟩))
  go_wp2_with fail
  go_loopw [6] (fun v wr => ∃ j : Nat, 1 ≤ j ∧ v = .int .i64 (j : Int) ∧ wr.heap[B]? = some (.cells #[.int .i64 0, .int .i64 0, .int .i64 0, .int .i64 0, .int .i64 0] 61) ∧ Gr w wr) (fun v _ => tt + 1 - (intOf v).toNat)
  case atStart => exact ⟨f1, hf0, by rw [← hmx], HB.out, GB.out⟩
  case round =>
    obtain ⟨j, hj1, rfl, hbb, hgg⟩ := hrel
    have HBB := Lib.hid hbb
    have HGG := Lib.hid hgg
    by_cases hlt : j ≤ tt
    · have C1 := Lib.hid (CM.out j (by omega) (by omega))
      have C2 := Lib.hid (CX.out j (by omega))
      have ett : decide (j ≤ tt) = true := decide_eq_true (by omega)
      have em : (bits .and .u32 x (maskT j) == fixT j) = false := HNO.out j (by omega) (by omega)
      clear hbb hgg
      go_wp2_with (first
        | (go_at_call 38; refine (C1.out _ HGG.out).mono ?_; rintro e w3 ⟨rfl, g3⟩; have HG3 := Lib.hid (gtrans HGG.out g3); have HB3 := Lib.hid (blk_gr g3 HBB.out); clear g3)
        | (go_at_call 39; refine (C2.out _ HG3.out).mono ?_; rintro e w4 ⟨rfl, g4⟩; have HG4 := Lib.hid (gtrans HG3.out g4); have HB4 := Lib.hid (blk_gr g4 HB3.out); clear g4))
      go_roundw
      case rel => exact ⟨j + 1, by omega, by go_num, HB4.out, HG4.out⟩
      case measure => simp [intOf]; omega
    · have ett : decide (j ≤ tt) = false := decide_eq_false (by omega)
      have d0 := blk_cell hbb 0 (v := .int .i64 0) rfl
      have d1 := blk_cell hbb 1 (v := .int .i64 0) rfl
      have d2 := blk_cell hbb 2 (v := .int .i64 0) rfl
      have d3 := blk_cell hbb 3 (v := .int .i64 0) rfl
      have d4 := blk_cell hbb 4 (v := .int .i64 0) rfl
      have z0 := blk_frozen hbb 0
      have z1 := blk_frozen hbb 1
      have z2 := blk_frozen hbb 2
      have z3 := blk_frozen hbb 3
      have z4 := blk_frozen hbb 4
      clear hbb hgg
      go_wp2_with fail
      obtain ⟨hz, gz⟩ := set5g (B := B) (by rw [EB.out]; exact Nat.le_refl _) HBB.out HGG.out (.int .i64 0) (.int .i64 0) (.int .i64 0) (.int .i64 0) (.int .i64 0)
      refine bodyPost_ret (v := .tuple #[iv 0 0 0 0 0, .int .i64 2]) ?_ rfl ⟨rfl, gz⟩
      have y0 := blk_cell hz 0 (v := .int .i64 0) rfl
      have y1 := blk_cell hz 1 (v := .int .i64 0) rfl
      have y2 := blk_cell hz 2 (v := .int .i64 0) rfl
      have y3 := blk_cell hz 3 (v := .int .i64 0) rfl
      have y4 := blk_cell hz 4 (v := .int .i64 0) rfl
      generalize (World.setCell _ ⟨B, 4, none⟩ _) = wz at *
      simp [results, Tryz.results18, go_sem, y0, y1, y2, y3, y4]
theorem c_decode (x : Int) (hx : u32 x) (w : World) (hF : FT w) : Calls Tryz.prog 18 #[.int .u32 x] w fun e w' => e = .returned (.tuple #[decV x, .int .i64 (decE x)]) ∧ Gr w w' := by
  unfold decV decE
  rcases decK_cases x with ⟨h0, hn⟩ | ⟨h1, h2, h3, h4⟩
  · rw [if_pos h0, if_pos h0]
    exact c_decode_no x hx hn w hF
  · rw [if_neg (by omega), if_neg (by omega)]
    obtain ⟨g1, g2⟩ := mat_from h2 h1 hx h3
    exact c_decode_yes x hx (decK x) h1 g1 g2 h3 (fun j j1 _ j3 => h4 j j1 j3) _ _ _ _ w hF (fun w1 g => c_fields (decK x) h2 h1 x hx h3 w1 (hF.gr g))
end Go.Proofs.YtngeabphjdfdgaaGreatDoor.P
