/- Stage 14: contracts. No condition. -/
import Derived.Test.YtfegnppilhfghaaT4
import Derived.Deep.RegionHeld3
import Derived.Deep.DeepCutAuto
set_option linter.unusedVariables false
namespace Go.Proofs.Ytfegnppilhfghaa.P
open Go.RowKit
def bc (B : Nat → Bool) : Array Value := #[.bool (B 0), .bool (B 1), .bool (B 2), .bool (B 3), .bool (B 4), .bool (B 5), .bool (B 6), .bool (B 7)]
theorem bc_size (B : Nat → Bool) : (bc B).size = 8 := rfl
theorem bc_get (B : Nat → Bool) (i : Nat) (h : i < 8) : (bc B)[i]? = some (.bool (B i)) := eight (p := fun i => (bc B)[i]? = some (.bool (B i))) rfl rfl rfl rfl rfl rfl rfl rfl i h
/-- Whose turn it is, looked for from the i-th behind a on. -/
def nx (T : Nat → RowV) (B : Nat → Bool) (a : Nat) : Nat → Nat → Int
  | 0, _ => -1
  | f + 1, i => if livesB T (((a + 1 + i) % 8 : Nat) : Int) = true ∧ B ((a + 1 + i) % 8) = false then (((a + 1 + i) % 8 : Nat) : Int) else nx T B a f (i + 1)
def nextV (T : Nat → RowV) (x : Int) (B : Nat → Bool) : Int := nx T B (x % 8).toNat 8 0
theorem mod8 (x : Int) : ((x % 8).toNat : Int) = x % 8 ∧ (x % 8).toNat < 8 := by omega
theorem after8 (x : Int) : (wrap64 (x.tmod 8 + 8)).tmod 8 = ((x % 8).toNat : Int) := by
  rcases Int.le_total 0 x with h | h
  · rw [Int.tmod_eq_emod_of_nonneg h]
    have e : wrap64 (x % 8 + 8) = x % 8 + 8 := by unfold wrap64; omega
    rw [e, Int.tmod_eq_emod_of_nonneg (by omega)]
    omega
  · obtain ⟨y, rfl⟩ : ∃ y : Int, x = -y := ⟨-x, by omega⟩
    have e0 : y.tmod 8 = y % 8 := Int.tmod_eq_emod_of_nonneg (by omega)
    rw [Int.neg_tmod, e0]
    have e : wrap64 (-(y % 8) + 8) = -(y % 8) + 8 := by unfold wrap64; omega
    rw [e, Int.tmod_eq_emod_of_nonneg (by omega)]
    omega
theorem step8 (a k : Nat) : ((a : Int) + 1 + k).tmod 8 = (((a + 1 + k) % 8 : Nat) : Int) := by
  rw [Int.tmod_eq_emod_of_nonneg (by omega)]
  omega
theorem nx_hit {T : Nat → RowV} {B : Nat → Bool} {a f i : Nat} (h : livesB T (((a + 1 + i) % 8 : Nat) : Int) = true) (h2 : B ((a + 1 + i) % 8) = false) : nx T B a (f + 1) i = (((a + 1 + i) % 8 : Nat) : Int) := by
  rw [nx, if_pos ⟨h, h2⟩]
theorem nx_dead {T : Nat → RowV} {B : Nat → Bool} {a f i : Nat} (h : livesB T (((a + 1 + i) % 8 : Nat) : Int) = false) : nx T B a (f + 1) i = nx T B a f (i + 1) := by
  rw [nx, if_neg (by rw [h]; simp)]
theorem nx_busy {T : Nat → RowV} {B : Nat → Bool} {a f i : Nat} (h2 : B ((a + 1 + i) % 8) = true) : nx T B a (f + 1) i = nx T B a f (i + 1) := by
  rw [nx, if_neg (by rw [h2]; simp)]
def NL (w0 wr : World) (T : Nat → RowV) (B : Nat → Bool) : Prop := Gr w0 wr ∧ wr.heap[w0.heap.size]? = some (.cells (tc T) 25) ∧ wr.heap[w0.heap.size + 1]? = some (.cells (bc B) 27)
set_option maxHeartbeats 1600000 in
theorem tnext (T : Nat → RowV) (x : Int) (B : Nat → Bool) (w : World) : Calls Try.prog 19 #[.agg (tc T), .int .i64 x, .agg (bc B)] w fun e w' => e = .returned (.int .i64 (nextV T x B)) ∧ Gr w w' := by
  have hc := tc_size T
  have hb := bc_size B
  have ha := after8 x
  obtain ⟨a, he⟩ : ∃ a, a = (x % 8).toNat := ⟨_, rfl⟩
  have ha8 : a < 8 := by omega
  rw [← he] at ha
  have hn : nextV T x B = nx T B a 8 0 := by rw [he]; rfl
  have HN := Lib.hid hn
  have HA8 := Lib.hid ha8
  have ha0 : (0 : Int) ≤ a := by omega
  have ha7 : (a : Int) < 8 := by omega
  clear hn he ha8
  go_enter Try.func19, Try.ntmps19
  go_wp2_with fail
  have A0' := blk_alloc (.cells (bc B) 27) (blk_new w (.cells (tc T) 25))
  have A1' := blk_new (w.alloc (.cells (tc T) 25)) (.cells (bc B) 27)
  rw [World.size_alloc] at A1'
  have G1' : Gr w ((w.alloc (.cells (tc T) 25)).alloc (.cells (bc B) 27)) := Below.alloc (Below.alloc (Below.refl _ _) (Nat.le_refl _) _) (by rw [World.size_alloc]; omega) _
  have A0 := Lib.hid A0'; have A1 := Lib.hid A1'; have G1 := Lib.hid G1'
  clear A0' A1' G1'
  go_loopw [13] (fun v13 wr => ∃ k : Nat, k ≤ 8 ∧ v13 = .int .i64 k ∧ nextV T x B = nx T B a (8 - k) k ∧ NL w wr T B) (fun v13 _ => 8 - (intOf v13).toNat)
  case atStart => exact ⟨0, by omega, rfl, HN.out, G1.out, A0.out, A1.out⟩
  case round =>
    obtain ⟨k, hk, rfl, hf, hg, hb1, hr⟩ := hrel
    have HB := Lib.hid hb1
    have HG := Lib.hid hg
    have HR := Lib.hid hr
    clear hb1 hg hr
    by_cases hlt : k < 8
    · have hk' : (k : Int) < 8 := by omega
      have HL := Lib.hid hlt
      have e8 : 8 - k = (7 - k) + 1 := by omega
      rw [e8] at hf
      have e9 : 7 - k = 8 - (k + 1) := by omega
      have hs := step8 a k
      have hlv : livesB T (((a + 1 + k) % 8 : Nat) : Int) = true ∨ livesB T (((a + 1 + k) % 8 : Nat) : Int) = false := by cases livesB T (((a + 1 + k) % 8 : Nat) : Int) <;> simp
      have hbu : B ((a + 1 + k) % 8) = true ∨ B ((a + 1 + k) % 8) = false := by cases B ((a + 1 + k) % 8) <;> simp
      obtain ⟨m, hm⟩ : ∃ m, m = (a + 1 + k) % 8 := ⟨_, rfl⟩
      have hm8 : m < 8 := by omega
      have hm0 : (m : Int) < 8 := by omega
      have q1 := @nx_hit T B a (7 - k) k
      have q2 := @nx_dead T B a (7 - k) k
      have q3 := @nx_busy T B a (7 - k) k
      rw [← hm] at hs hlv hbu q1 q2 q3
      have HM := Lib.hid hm8
      have c0 := blk_cell HR.out m (bc_get B m hm8)
      have Hnx : RowKit.Hid ((livesB T m = true → B m = false → nextV T x B = (m : Int)) ∧ (livesB T m = false → nextV T x B = nx T B a (8 - (k + 1)) (k + 1)) ∧ (B m = true → nextV T x B = nx T B a (8 - (k + 1)) (k + 1))) :=
        ⟨fun h1 h2 => hf.trans (q1 h1 h2), fun h1 => by rw [hf, q2 h1, e9], fun h1 => by rw [hf, q3 h1, e9]⟩
      clear q1 q2 q3 hf e8 e9 hm
      rcases hlv with hlv | hlv
      · have HV := Lib.hid hlv
        rcases hbu with hbu | hbu
        · have HF := Lib.hid (Hnx.out.2.2 hbu)
          clear hlv
          rw [hbu] at c0
          go_wp2_with (first | (refine wpList_load_row rfl 25 _ rfl _ rfl 25 _ (0, 0) _ HB.out Try.underlying25 rfl (by kernel_rfl) ?_))
          refine (l_lives T m _).mono ?_; rintro e w2 ⟨rfl, g2⟩
          rw [HV.out]
          have B2 := Lib.hid (blk_gr g2 HB.out); have R2 := Lib.hid (blk_gr g2 HR.out); have G2 := Lib.hid (gtrans HG.out g2)
          replace c0 := kcell g2 c0
          clear g2
          go_wp2_with fail
          exact ⟨⟨k + 1, HL.out, rfl, HF.out, G2.out, B2.out, R2.out⟩, by simp only [intOf]; omega⟩
        · have HF := Lib.hid (Hnx.out.1 hlv hbu)
          clear hlv
          rw [hbu] at c0
          go_wp2_with (first | (refine wpList_load_row rfl 25 _ rfl _ rfl 25 _ (0, 0) _ HB.out Try.underlying25 rfl (by kernel_rfl) ?_))
          refine (l_lives T m _).mono ?_; rintro e w2 ⟨rfl, g2⟩
          rw [HV.out]
          have G2 := Lib.hid (gtrans HG.out g2)
          replace c0 := kcell g2 c0
          clear g2
          go_wp2_with fail
          go_ret
          exact ⟨by rw [HF.out]; rfl, G2.out⟩
      · have HF := Lib.hid (Hnx.out.2.1 hlv)
        have HV := Lib.hid hlv
        clear hlv hbu
        go_wp2_with (first | (refine wpList_load_row rfl 25 _ rfl _ rfl 25 _ (0, 0) _ HB.out Try.underlying25 rfl (by kernel_rfl) ?_))
        refine (l_lives T m _).mono ?_; rintro e w2 ⟨rfl, g2⟩
        rw [HV.out]
        have B2 := Lib.hid (blk_gr g2 HB.out); have R2 := Lib.hid (blk_gr g2 HR.out); have G2 := Lib.hid (gtrans HG.out g2)
        clear g2 c0
        go_wp2_with fail
        exact ⟨⟨k + 1, HL.out, rfl, HF.out, G2.out, B2.out, R2.out⟩, by simp only [intOf]; omega⟩
    · have hk8 : k = 8 := by omega
      subst hk8
      have HF := Lib.hid hf
      clear hf
      go_wp2_with fail
      go_ret
      exact ⟨by rw [HF.out]; rfl, HG.out⟩
end Go.Proofs.Ytfegnppilhfghaa.P
