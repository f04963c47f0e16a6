/- Stage 13: the walk of PipeEnds. No condition but that strings are no longer than strings are. -/
import Derived.Test.YtplkijpllibpfaaP6
import Derived.Deep.RegionHeld3
import Derived.Deep.DeepCutAuto
set_option linter.unusedVariables false
namespace Go.Proofs.Ytplkijpllibpfaa.P
open Go.RowKit
theorem crd (b : ByteArray) (r M : Int) (hM : 0 ≤ M) (hb : b.size ≤ maxLen) (B S : ByteArray) (n : Nat) (hn : rk b M = n) (hB : b.extract n b.size = B) (hS : b.extract 0 n = S) (w : World) :
    Calls Try.prog 10 #[.agg #[.string b, .int .i64 r, .int .i64 0], .int .i64 M] w fun e w' => e = .returned (.tuple #[.agg #[.string B, .int .i64 r, .int .i64 0], .string S, .int .i64 0]) ∧ Gr w w' := by
  have e : rE b 0 M = 0 := by unfold rE; rw [if_neg (by omega), if_neg (by omega)]
  have h1 : rB b 0 M = B := by unfold rB; rw [if_neg (by omega), e, hn]; exact hB
  have h2 : rS b 0 M = S := by unfold rS; rw [e, hn]; exact hS
  have h3 : rR M r = r := by unfold rR; rw [if_neg (by omega)]
  have h4 : rR M 0 = 0 := by unfold rR; rw [if_neg (by omega)]
  have h := c_read b r 0 M hb w
  unfold rV at h; rwa [h1, h2, h3, h4, e] at h
theorem ex1 (b : ByteArray) (j n : Nat) (hj : j ≤ b.size) : (b.extract j b.size).extract n (b.extract j b.size).size = b.extract (j + n) b.size := by
  apply ByteArray.ext
  have e : (b.extract j b.size).size = b.size - j := by rw [ByteArray.size_extract]; omega
  rw [e]
  simp only [ByteArray.data_extract, Array.extract_extract]
  congr 1; omega
theorem ex2 (b : ByteArray) (j n : Nat) (hj : j + n ≤ b.size) : b.extract 0 j ++ (b.extract j b.size).extract 0 n = b.extract 0 (j + n) := by
  apply ByteArray.ext
  simp only [ByteArray.data_extract, ByteArray.data_append, Array.extract_extract]
  have e : min (j + n) b.size = j + n := by omega
  rw [show j + 0 = j from rfl, e, Array.extract_append_extract]
  congr 1 <;> omega
def jk (b : ByteArray) (k M : Nat) : Nat := min (k * M) b.size
def Lp (w0 : World) (Bp Bq : Nat) (wr : World) (b : ByteArray) (r : Int) (j : Nat) : Prop :=
  Gr w0 wr ∧ wr.heap[Bp]? = some (.cells #[.string b, .int .i64 r, .int .i64 0] 23) ∧ wr.heap[Bq]? = some (.cells #[.string (b.extract j b.size), .int .i64 r, .int .i64 0] 23)
set_option maxRecDepth 100000 in
set_option maxHeartbeats 1600000 in
theorem ends_a (b : ByteArray) (r x m : Int) (s : ByteArray) (hb : b.size ≤ maxLen) (hs : s.size ≤ maxLen) (h1 : 4096 < b.size) (w : World) :
    Calls Try.prog 6 #[.agg #[.string b, .int .i64 r, .int .i64 x], .int .i64 m, .string s] w fun e w' => e = .returned (.bool true) ∧ Gr w w' := by
  have HS := Lib.hid hs
  clear hb hs
  go_enter Try.func6, Try.ntmps6
  go_wp2_with fail
  refine (c_shown _).mono ?_; rintro e w1 ⟨rfl, g1⟩
  have B1 := Lib.hid (blk_gr g1 (blk_new w _))
  have c0 := blk_cell B1.out 0 rfl
  have c1 := blk_cell B1.out 1 rfl
  have c2 := blk_cell B1.out 2 rfl
  have l0 := blk_lt B1.out
  go_wp2_with fail
  go_ret
  exact ⟨rfl, galloc _ g1⟩
set_option maxRecDepth 100000 in
set_option maxHeartbeats 1600000 in
theorem ends_b (b : ByteArray) (r x m : Int) (s : ByteArray) (hb : b.size ≤ maxLen) (hs : s.size ≤ maxLen) (h1 : b.size ≤ 4096) (M : Nat) (hm : m = (M : Int)) (h2 : 1 ≤ M) (h3 : M ≤ 100) (w : World) :
    Calls Try.prog 6 #[.agg #[.string b, .int .i64 r, .int .i64 x], .int .i64 m, .string s] w fun e w' => e = .returned (.bool true) ∧ Gr w w' := by
  have HS := Lib.hid hs
  clear hb hs
  subst hm
  have h4 : (1 : Int) ≤ (M : Int) := by omega
  have h5 : (M : Int) ≤ 100 := by omega
  go_enter Try.func6, Try.ntmps6
  go_wp2_with fail
  refine (c_shown _).mono ?_; rintro e w1 ⟨rfl, g1⟩
  have B1 := Lib.hid (blk_gr g1 (blk_new w _))
  have c0 := blk_cell B1.out 0 rfl
  have c1 := blk_cell B1.out 1 rfl
  have c2 := blk_cell B1.out 2 rfl
  have z2 := blk_frozen B1.out 2
  have l0 := blk_lt B1.out
  go_wp2_with fail
  clear c0 c1 c2 z2
  go_loopw [9, 10] (fun v9 v10 wr => ∃ k : Nat, k ≤ b.size + 1 ∧ v9 = .string (b.extract 0 (jk b k M)) ∧ v10 = .int .i64 k ∧ Lp w w.heap.size w1.heap.size wr b r (jk b k M)) (fun _ v10 _ => b.size + 1 - (intOf v10).toNat)
  case atStart =>
    refine ⟨0, by omega, ?_, rfl, ?_⟩
    · have : jk b 0 M = 0 := by unfold jk; omega
      rw [this, ByteArray.extract_same]; rfl
    · have : jk b 0 M = 0 := by unfold jk; omega
      rw [this]
      have e : b.extract 0 b.size = b := ByteArray.extract_zero_size
      unfold Lp
      rw [e]
      have l1 := g1.size
      simp only [World.size_alloc] at l1
      refine ⟨?_, ?_, ?_⟩
      · exact Below.alloc (Below.setCell (galloc _ g1) (Nat.le_refl _) _) (by simp only [World.size_setCell]; omega) _
      · exact blk_alloc _ (blk_set B1.out 2 _)
      · have := blk_new (w1.setCell ⟨w.heap.size, 2, none⟩ (.int .i64 0)) (.cells #[.string b, .int .i64 r, .int .i64 0] 23)
        simpa only [World.size_setCell] using this
  case round =>
    obtain ⟨k, hk, rfl, rfl, hg, hp, hq⟩ := hrel
    have l1 := g1.size
    simp only [World.size_alloc] at l1
    have lp := blk_lt hp
    have lq := blk_lt hq
    have p0 := blk_cell hp 0 rfl
    have p1 := blk_cell hp 1 rfl
    have p2 := blk_cell hp 2 rfl
    have q0 := blk_cell hq 0 rfl
    have q1 := blk_cell hq 1 rfl
    have q2 := blk_cell hq 2 rfl
    have y0 := blk_frozen hp 0
    have y1 := blk_frozen hp 1
    have y2 := blk_frozen hp 2
    have z0 := blk_frozen hq 0
    have z1 := blk_frozen hq 1
    have z2 := blk_frozen hq 2
    have HP := Lib.hid hp
    have HQ := Lib.hid hq
    have HG := Lib.hid hg
    have G1 := Lib.hid g1
    clear hp hq hg g1
    by_cases hlt : k ≤ b.size
    · have hlt' : (k : Int) ≤ (b.size : Int) := by omega
      have hj : jk b k M ≤ b.size := by unfold jk; omega
      have hn : rk (b.extract (jk b k M) b.size) (M : Int) + jk b k M = jk b (k + 1) M := by unfold rk jk; rw [ByteArray.size_extract, Nat.add_mul]; omega
      have he2 := ex2 b (jk b k M) (rk (b.extract (jk b k M) b.size) (M : Int)) (by rw [Nat.add_comm, hn]; unfold jk; omega)
      rw [Nat.add_comm, hn] at he2
      have he1 := ex1 b (jk b k M) (rk (b.extract (jk b k M) b.size) (M : Int)) hj
      rw [Nat.add_comm (jk b k M), hn] at he1
      have hj2 : jk b (k + 1) M ≤ b.size := by unfold jk; omega
      have hz : (b.extract 0 (jk b k M)).size + ((b.extract (jk b k M) b.size).extract 0 (rk (b.extract (jk b k M) b.size) (M : Int))).size ≤ 9223372036854775807 := by
        rw [ByteArray.size_extract, ByteArray.size_extract, ByteArray.size_extract]; omega
      have E1 := Lib.hid he1; have E2 := Lib.hid he2; have HN := Lib.hid hn; have HJ := Lib.hid hj
      clear he1 he2 hn hj hj2 h1
      go_wp2_with fail
      refine (crd _ _ (M : Int) (by omega) (by rw [ByteArray.size_extract]; unfold maxLen; omega) _ _ _ rfl E1.out rfl _).mono ?_; rintro e w2 ⟨rfl, g2⟩
      have HP2 := Lib.hid (blk_gr g2 HP.out)
      have HQ2 := Lib.hid (blk_gr g2 HQ.out)
      have HG2 := Lib.hid (gtrans HG.out g2)
      have lp2 := blk_lt HP2.out
      have lq2 := blk_lt HQ2.out
      clear p0 p1 p2 q0 q1 q2 y0 y1 y2 z0 z1 z2 g2
      have q0 := blk_cell HQ2.out 0 rfl
      have q1 := blk_cell HQ2.out 1 rfl
      have q2 := blk_cell HQ2.out 2 rfl
      have z0 := blk_frozen HQ2.out 0
      have z1 := blk_frozen HQ2.out 1
      have z2 := blk_frozen HQ2.out 2
      go_wp2_with fail
      refine ⟨⟨k + 1, by omega, by rw [E2.out], rfl, ?_, ?_, ?_⟩, by simp only [intOf]; omega⟩
      · exact Below.alloc (Below.setCell (Below.setCell (Below.setCell HG2.out (by dsimp only; omega) _) (by dsimp only; omega) _) (by dsimp only; omega) _) (by simp only [World.size_setCell]; omega) _
      · exact blk_alloc _ (blk_other (blk_other (blk_other HP2.out ⟨w1.heap.size, 0, none⟩ _ (by dsimp only; omega)) ⟨w1.heap.size, 1, none⟩ _ (by dsimp only; omega)) ⟨w1.heap.size, 2, none⟩ _ (by dsimp only; omega))
      · exact blk_alloc _ (blk_set (blk_set (blk_set HQ2.out 0 _) 1 _) 2 _)
    · have hk1 : k = b.size + 1 := by omega
      have hj : jk b k M = b.size := by
        have : (b.size + 1) * 1 ≤ (b.size + 1) * M := Nat.mul_le_mul_left _ (by omega)
        unfold jk; rw [hk1]; omega
      have hlt' : ¬ (k : Int) ≤ (b.size : Int) := by omega
      have e0 : b.extract b.size b.size = ⟨#[]⟩ := by rw [ByteArray.extract_same]; rfl
      have e1 : b.extract 0 b.size = b := ByteArray.extract_zero_size
      rw [hj] at q0 HQ
      rw [e0] at q0 HQ
      rw [hj, e1]
      have hr : rk ⟨#[]⟩ (M : Int) = 0 := by unfold rk; show min _ 0 = 0; omega
      have HE := Lib.hid hr
      clear hk1 hj e0 e1 hr hlt h1
      go_wp2_with fail
      refine (crd ⟨#[]⟩ r (M : Int) (by omega) (by decide) ⟨#[]⟩ ⟨#[]⟩ 0 HE.out (by rfl) (by rfl) _).mono ?_; rintro e w2 ⟨rfl, g2⟩
      have HP2 := Lib.hid (blk_gr g2 HP.out)
      have HQ2 := Lib.hid (blk_gr g2 HQ.out)
      have HG2 := Lib.hid (gtrans HG.out g2)
      have lp2 := blk_lt HP2.out
      have lq2 := blk_lt HQ2.out
      clear p0 p1 p2 q0 q1 q2 y0 y1 y2 z0 z1 z2 g2
      have q0 := blk_cell HQ2.out 0 rfl
      have q1 := blk_cell HQ2.out 1 rfl
      have q2 := blk_cell HQ2.out 2 rfl
      have p0 := blk_cell HP2.out 0 rfl
      have p1 := blk_cell HP2.out 1 rfl
      have p2 := blk_cell HP2.out 2 rfl
      have z1 := blk_frozen HP2.out 1
      go_wp2_with fail
      have X : Gr w ((w2.setCell ⟨w.heap.size, 1, none⟩ (.int .i64 0)).alloc (.cells #[.string ⟨#[]⟩, .int .i64 r, .int .i64 0] 23)) := Below.alloc (Below.setCell HG2.out (Nat.le_refl _) _) (by simp only [World.size_setCell]; omega) _
      have HP3 : RowKit.Hid (((w2.setCell ⟨w.heap.size, 1, none⟩ (.int .i64 0)).alloc (.cells #[.string ⟨#[]⟩, .int .i64 r, .int .i64 0] 23)).heap[w.heap.size]? = some (.cells #[.string b, .int .i64 0, .int .i64 0] 23)) := blk_alloc _ (blk_set HP2.out 1 _)
      have HQ3 : RowKit.Hid (((w2.setCell ⟨w.heap.size, 1, none⟩ (.int .i64 0)).alloc (.cells #[.string ⟨#[]⟩, .int .i64 r, .int .i64 0] 23)).heap[w1.heap.size]? = some (.cells #[.string ⟨#[]⟩, .int .i64 r, .int .i64 0] 23)) := blk_alloc _ (blk_other HQ2.out ⟨w.heap.size, 1, none⟩ _ (by dsimp only; omega))
      have HR3 : RowKit.Hid (((w2.setCell ⟨w.heap.size, 1, none⟩ (.int .i64 0)).alloc (.cells #[.string ⟨#[]⟩, .int .i64 r, .int .i64 0] 23)).heap[w2.heap.size]? = some (.cells #[.string ⟨#[]⟩, .int .i64 r, .int .i64 0] 23)) := by
        have := blk_new (w2.setCell ⟨w.heap.size, 1, none⟩ (.int .i64 0)) (.cells #[.string ⟨#[]⟩, .int .i64 r, .int .i64 0] 23)
        simp only [World.size_setCell] at this
        exact this
      have X := Lib.hid X
      clear p0 p1 p2 q0 q1 q2 z1
      refine (cwA (by decide) (by unfold maxLen; omega) (by have := HS.out; unfold maxLen at *; omega) _).mono ?_; rintro e w3 ⟨rfl, g3⟩
      have HP4 := Lib.hid (blk_gr g3 HP3.out)
      have HQ4 := Lib.hid (blk_gr g3 HQ3.out)
      have HR4 := Lib.hid (blk_gr g3 HR3.out)
      have X4 := Lib.hid (gtrans X.out g3)
      clear g3
      have p0 := blk_cell HP4.out 0 rfl
      have q0 := blk_cell HQ4.out 0 rfl
      have q1 := blk_cell HQ4.out 1 rfl
      have q2 := blk_cell HQ4.out 2 rfl
      have r0 := blk_cell HR4.out 0 rfl
      have r1 := blk_cell HR4.out 1 rfl
      have r2 := blk_cell HR4.out 2 rfl
      have s1 := blk_lt HP4.out
      have s2 := blk_lt HQ4.out
      have s3 := blk_lt HR4.out
      go_wp2_with fail
      go_ret
      exact ⟨rfl, Below.alloc X4.out X4.out.size _⟩
set_option maxRecDepth 100000 in
set_option maxHeartbeats 1600000 in
theorem ends_c (b : ByteArray) (r x m : Int) (s : ByteArray) (hb : b.size ≤ maxLen) (hs : s.size ≤ maxLen) (h1 : b.size ≤ 4096) (h2 : m < 1) (w : World) :
    Calls Try.prog 6 #[.agg #[.string b, .int .i64 r, .int .i64 x], .int .i64 m, .string s] w fun e w' => e = .returned (.bool true) ∧ Gr w w' := by
  have HS := Lib.hid hs
  clear hb hs
  go_enter Try.func6, Try.ntmps6
  go_wp2_with fail
  refine (c_shown _).mono ?_; rintro e w1 ⟨rfl, g1⟩
  have B1 := Lib.hid (blk_gr g1 (blk_new w _))
  have c0 := blk_cell B1.out 0 rfl
  have c1 := blk_cell B1.out 1 rfl
  have c2 := blk_cell B1.out 2 rfl
  have z2 := blk_frozen B1.out 2
  have l0 := blk_lt B1.out
  go_wp2_with fail
  clear c0 c1 c2 z2
  go_loopw [9, 10] (fun v9 v10 wr => ∃ k : Nat, k ≤ b.size + 1 ∧ v9 = .string (b.extract 0 (jk b k 3)) ∧ v10 = .int .i64 k ∧ Lp w w.heap.size w1.heap.size wr b r (jk b k 3)) (fun _ v10 _ => b.size + 1 - (intOf v10).toNat)
  case atStart =>
    refine ⟨0, by omega, ?_, rfl, ?_⟩
    · have : jk b 0 3 = 0 := by unfold jk; omega
      rw [this, ByteArray.extract_same]; rfl
    · have : jk b 0 3 = 0 := by unfold jk; omega
      rw [this]
      have e : b.extract 0 b.size = b := ByteArray.extract_zero_size
      unfold Lp
      rw [e]
      have l1 := g1.size
      simp only [World.size_alloc] at l1
      refine ⟨?_, ?_, ?_⟩
      · exact Below.alloc (Below.setCell (galloc _ g1) (Nat.le_refl _) _) (by simp only [World.size_setCell]; omega) _
      · exact blk_alloc _ (blk_set B1.out 2 _)
      · have := blk_new (w1.setCell ⟨w.heap.size, 2, none⟩ (.int .i64 0)) (.cells #[.string b, .int .i64 r, .int .i64 0] 23)
        simpa only [World.size_setCell] using this
  case round =>
    obtain ⟨k, hk, rfl, rfl, hg, hp, hq⟩ := hrel
    have l1 := g1.size
    simp only [World.size_alloc] at l1
    have lp := blk_lt hp
    have lq := blk_lt hq
    have p0 := blk_cell hp 0 rfl
    have p1 := blk_cell hp 1 rfl
    have p2 := blk_cell hp 2 rfl
    have q0 := blk_cell hq 0 rfl
    have q1 := blk_cell hq 1 rfl
    have q2 := blk_cell hq 2 rfl
    have y0 := blk_frozen hp 0
    have y1 := blk_frozen hp 1
    have y2 := blk_frozen hp 2
    have z0 := blk_frozen hq 0
    have z1 := blk_frozen hq 1
    have z2 := blk_frozen hq 2
    have HP := Lib.hid hp
    have HQ := Lib.hid hq
    have HG := Lib.hid hg
    have G1 := Lib.hid g1
    clear hp hq hg g1
    by_cases hlt : k ≤ b.size
    · have hlt' : (k : Int) ≤ (b.size : Int) := by omega
      have hj : jk b k 3 ≤ b.size := by unfold jk; omega
      have hn : rk (b.extract (jk b k 3) b.size) 3 + jk b k 3 = jk b (k + 1) 3 := by unfold rk jk; rw [ByteArray.size_extract, Nat.add_mul]; omega
      have he2 := ex2 b (jk b k 3) (rk (b.extract (jk b k 3) b.size) 3) (by rw [Nat.add_comm, hn]; unfold jk; omega)
      rw [Nat.add_comm, hn] at he2
      have he1 := ex1 b (jk b k 3) (rk (b.extract (jk b k 3) b.size) 3) hj
      rw [Nat.add_comm (jk b k 3), hn] at he1
      have hj2 : jk b (k + 1) 3 ≤ b.size := by unfold jk; omega
      have hz : (b.extract 0 (jk b k 3)).size + ((b.extract (jk b k 3) b.size).extract 0 (rk (b.extract (jk b k 3) b.size) 3)).size ≤ 9223372036854775807 := by
        rw [ByteArray.size_extract, ByteArray.size_extract, ByteArray.size_extract]; omega
      have E1 := Lib.hid he1; have E2 := Lib.hid he2; have HN := Lib.hid hn; have HJ := Lib.hid hj
      clear he1 he2 hn hj hj2 h1
      go_wp2_with fail
      refine (crd _ _ 3 (by omega) (by rw [ByteArray.size_extract]; unfold maxLen; omega) _ _ _ rfl E1.out rfl _).mono ?_; rintro e w2 ⟨rfl, g2⟩
      have HP2 := Lib.hid (blk_gr g2 HP.out)
      have HQ2 := Lib.hid (blk_gr g2 HQ.out)
      have HG2 := Lib.hid (gtrans HG.out g2)
      have lp2 := blk_lt HP2.out
      have lq2 := blk_lt HQ2.out
      clear p0 p1 p2 q0 q1 q2 y0 y1 y2 z0 z1 z2 g2
      have q0 := blk_cell HQ2.out 0 rfl
      have q1 := blk_cell HQ2.out 1 rfl
      have q2 := blk_cell HQ2.out 2 rfl
      have z0 := blk_frozen HQ2.out 0
      have z1 := blk_frozen HQ2.out 1
      have z2 := blk_frozen HQ2.out 2
      go_wp2_with fail
      refine ⟨⟨k + 1, by omega, by rw [E2.out], rfl, ?_, ?_, ?_⟩, by simp only [intOf]; omega⟩
      · exact Below.alloc (Below.setCell (Below.setCell (Below.setCell HG2.out (by dsimp only; omega) _) (by dsimp only; omega) _) (by dsimp only; omega) _) (by simp only [World.size_setCell]; omega) _
      · exact blk_alloc _ (blk_other (blk_other (blk_other HP2.out ⟨w1.heap.size, 0, none⟩ _ (by dsimp only; omega)) ⟨w1.heap.size, 1, none⟩ _ (by dsimp only; omega)) ⟨w1.heap.size, 2, none⟩ _ (by dsimp only; omega))
      · exact blk_alloc _ (blk_set (blk_set (blk_set HQ2.out 0 _) 1 _) 2 _)
    · have hk1 : k = b.size + 1 := by omega
      have hj : jk b k 3 = b.size := by
        have : (b.size + 1) * 1 ≤ (b.size + 1) * 3 := Nat.mul_le_mul_left _ (by omega)
        unfold jk; rw [hk1]; omega
      have hlt' : ¬ (k : Int) ≤ (b.size : Int) := by omega
      have e0 : b.extract b.size b.size = ⟨#[]⟩ := by rw [ByteArray.extract_same]; rfl
      have e1 : b.extract 0 b.size = b := ByteArray.extract_zero_size
      rw [hj] at q0 HQ
      rw [e0] at q0 HQ
      rw [hj, e1]
      have hr : rk ⟨#[]⟩ 3 = 0 := by unfold rk; show min _ 0 = 0; omega
      have HE := Lib.hid hr
      clear hk1 hj e0 e1 hr hlt h1
      go_wp2_with fail
      refine (crd ⟨#[]⟩ r 3 (by omega) (by decide) ⟨#[]⟩ ⟨#[]⟩ 0 HE.out (by rfl) (by rfl) _).mono ?_; rintro e w2 ⟨rfl, g2⟩
      have HP2 := Lib.hid (blk_gr g2 HP.out)
      have HQ2 := Lib.hid (blk_gr g2 HQ.out)
      have HG2 := Lib.hid (gtrans HG.out g2)
      have lp2 := blk_lt HP2.out
      have lq2 := blk_lt HQ2.out
      clear p0 p1 p2 q0 q1 q2 y0 y1 y2 z0 z1 z2 g2
      have q0 := blk_cell HQ2.out 0 rfl
      have q1 := blk_cell HQ2.out 1 rfl
      have q2 := blk_cell HQ2.out 2 rfl
      have p0 := blk_cell HP2.out 0 rfl
      have p1 := blk_cell HP2.out 1 rfl
      have p2 := blk_cell HP2.out 2 rfl
      have z1 := blk_frozen HP2.out 1
      go_wp2_with fail
      have X : Gr w ((w2.setCell ⟨w.heap.size, 1, none⟩ (.int .i64 0)).alloc (.cells #[.string ⟨#[]⟩, .int .i64 r, .int .i64 0] 23)) := Below.alloc (Below.setCell HG2.out (Nat.le_refl _) _) (by simp only [World.size_setCell]; omega) _
      have HP3 : RowKit.Hid (((w2.setCell ⟨w.heap.size, 1, none⟩ (.int .i64 0)).alloc (.cells #[.string ⟨#[]⟩, .int .i64 r, .int .i64 0] 23)).heap[w.heap.size]? = some (.cells #[.string b, .int .i64 0, .int .i64 0] 23)) := blk_alloc _ (blk_set HP2.out 1 _)
      have HQ3 : RowKit.Hid (((w2.setCell ⟨w.heap.size, 1, none⟩ (.int .i64 0)).alloc (.cells #[.string ⟨#[]⟩, .int .i64 r, .int .i64 0] 23)).heap[w1.heap.size]? = some (.cells #[.string ⟨#[]⟩, .int .i64 r, .int .i64 0] 23)) := blk_alloc _ (blk_other HQ2.out ⟨w.heap.size, 1, none⟩ _ (by dsimp only; omega))
      have HR3 : RowKit.Hid (((w2.setCell ⟨w.heap.size, 1, none⟩ (.int .i64 0)).alloc (.cells #[.string ⟨#[]⟩, .int .i64 r, .int .i64 0] 23)).heap[w2.heap.size]? = some (.cells #[.string ⟨#[]⟩, .int .i64 r, .int .i64 0] 23)) := by
        have := blk_new (w2.setCell ⟨w.heap.size, 1, none⟩ (.int .i64 0)) (.cells #[.string ⟨#[]⟩, .int .i64 r, .int .i64 0] 23)
        simp only [World.size_setCell] at this
        exact this
      have X := Lib.hid X
      clear p0 p1 p2 q0 q1 q2 z1
      refine (cwA (by decide) (by unfold maxLen; omega) (by have := HS.out; unfold maxLen at *; omega) _).mono ?_; rintro e w3 ⟨rfl, g3⟩
      have HP4 := Lib.hid (blk_gr g3 HP3.out)
      have HQ4 := Lib.hid (blk_gr g3 HQ3.out)
      have HR4 := Lib.hid (blk_gr g3 HR3.out)
      have X4 := Lib.hid (gtrans X.out g3)
      clear g3
      have p0 := blk_cell HP4.out 0 rfl
      have q0 := blk_cell HQ4.out 0 rfl
      have q1 := blk_cell HQ4.out 1 rfl
      have q2 := blk_cell HQ4.out 2 rfl
      have r0 := blk_cell HR4.out 0 rfl
      have r1 := blk_cell HR4.out 1 rfl
      have r2 := blk_cell HR4.out 2 rfl
      have s1 := blk_lt HP4.out
      have s2 := blk_lt HQ4.out
      have s3 := blk_lt HR4.out
      go_wp2_with fail
      go_ret
      exact ⟨rfl, Below.alloc X4.out X4.out.size _⟩
set_option maxRecDepth 100000 in
set_option maxHeartbeats 1600000 in
theorem ends_d (b : ByteArray) (r x m : Int) (s : ByteArray) (hb : b.size ≤ maxLen) (hs : s.size ≤ maxLen) (h1 : b.size ≤ 4096) (h2 : 100 < m) (w : World) :
    Calls Try.prog 6 #[.agg #[.string b, .int .i64 r, .int .i64 x], .int .i64 m, .string s] w fun e w' => e = .returned (.bool true) ∧ Gr w w' := by
  have HS := Lib.hid hs
  clear hb hs
  have h3 : ¬ m < 1 := by omega
  go_enter Try.func6, Try.ntmps6
  go_wp2_with fail
  refine (c_shown _).mono ?_; rintro e w1 ⟨rfl, g1⟩
  have B1 := Lib.hid (blk_gr g1 (blk_new w _))
  have c0 := blk_cell B1.out 0 rfl
  have c1 := blk_cell B1.out 1 rfl
  have c2 := blk_cell B1.out 2 rfl
  have z2 := blk_frozen B1.out 2
  have l0 := blk_lt B1.out
  go_wp2_with fail
  clear c0 c1 c2 z2
  go_loopw [9, 10] (fun v9 v10 wr => ∃ k : Nat, k ≤ b.size + 1 ∧ v9 = .string (b.extract 0 (jk b k 3)) ∧ v10 = .int .i64 k ∧ Lp w w.heap.size w1.heap.size wr b r (jk b k 3)) (fun _ v10 _ => b.size + 1 - (intOf v10).toNat)
  case atStart =>
    refine ⟨0, by omega, ?_, rfl, ?_⟩
    · have : jk b 0 3 = 0 := by unfold jk; omega
      rw [this, ByteArray.extract_same]; rfl
    · have : jk b 0 3 = 0 := by unfold jk; omega
      rw [this]
      have e : b.extract 0 b.size = b := ByteArray.extract_zero_size
      unfold Lp
      rw [e]
      have l1 := g1.size
      simp only [World.size_alloc] at l1
      refine ⟨?_, ?_, ?_⟩
      · exact Below.alloc (Below.setCell (galloc _ g1) (Nat.le_refl _) _) (by simp only [World.size_setCell]; omega) _
      · exact blk_alloc _ (blk_set B1.out 2 _)
      · have := blk_new (w1.setCell ⟨w.heap.size, 2, none⟩ (.int .i64 0)) (.cells #[.string b, .int .i64 r, .int .i64 0] 23)
        simpa only [World.size_setCell] using this
  case round =>
    obtain ⟨k, hk, rfl, rfl, hg, hp, hq⟩ := hrel
    have l1 := g1.size
    simp only [World.size_alloc] at l1
    have lp := blk_lt hp
    have lq := blk_lt hq
    have p0 := blk_cell hp 0 rfl
    have p1 := blk_cell hp 1 rfl
    have p2 := blk_cell hp 2 rfl
    have q0 := blk_cell hq 0 rfl
    have q1 := blk_cell hq 1 rfl
    have q2 := blk_cell hq 2 rfl
    have y0 := blk_frozen hp 0
    have y1 := blk_frozen hp 1
    have y2 := blk_frozen hp 2
    have z0 := blk_frozen hq 0
    have z1 := blk_frozen hq 1
    have z2 := blk_frozen hq 2
    have HP := Lib.hid hp
    have HQ := Lib.hid hq
    have HG := Lib.hid hg
    have G1 := Lib.hid g1
    clear hp hq hg g1
    by_cases hlt : k ≤ b.size
    · have hlt' : (k : Int) ≤ (b.size : Int) := by omega
      have hj : jk b k 3 ≤ b.size := by unfold jk; omega
      have hn : rk (b.extract (jk b k 3) b.size) 3 + jk b k 3 = jk b (k + 1) 3 := by unfold rk jk; rw [ByteArray.size_extract, Nat.add_mul]; omega
      have he2 := ex2 b (jk b k 3) (rk (b.extract (jk b k 3) b.size) 3) (by rw [Nat.add_comm, hn]; unfold jk; omega)
      rw [Nat.add_comm, hn] at he2
      have he1 := ex1 b (jk b k 3) (rk (b.extract (jk b k 3) b.size) 3) hj
      rw [Nat.add_comm (jk b k 3), hn] at he1
      have hj2 : jk b (k + 1) 3 ≤ b.size := by unfold jk; omega
      have hz : (b.extract 0 (jk b k 3)).size + ((b.extract (jk b k 3) b.size).extract 0 (rk (b.extract (jk b k 3) b.size) 3)).size ≤ 9223372036854775807 := by
        rw [ByteArray.size_extract, ByteArray.size_extract, ByteArray.size_extract]; omega
      have E1 := Lib.hid he1; have E2 := Lib.hid he2; have HN := Lib.hid hn; have HJ := Lib.hid hj
      clear he1 he2 hn hj hj2 h1
      go_wp2_with fail
      refine (crd _ _ 3 (by omega) (by rw [ByteArray.size_extract]; unfold maxLen; omega) _ _ _ rfl E1.out rfl _).mono ?_; rintro e w2 ⟨rfl, g2⟩
      have HP2 := Lib.hid (blk_gr g2 HP.out)
      have HQ2 := Lib.hid (blk_gr g2 HQ.out)
      have HG2 := Lib.hid (gtrans HG.out g2)
      have lp2 := blk_lt HP2.out
      have lq2 := blk_lt HQ2.out
      clear p0 p1 p2 q0 q1 q2 y0 y1 y2 z0 z1 z2 g2
      have q0 := blk_cell HQ2.out 0 rfl
      have q1 := blk_cell HQ2.out 1 rfl
      have q2 := blk_cell HQ2.out 2 rfl
      have z0 := blk_frozen HQ2.out 0
      have z1 := blk_frozen HQ2.out 1
      have z2 := blk_frozen HQ2.out 2
      go_wp2_with fail
      refine ⟨⟨k + 1, by omega, by rw [E2.out], rfl, ?_, ?_, ?_⟩, by simp only [intOf]; omega⟩
      · exact Below.alloc (Below.setCell (Below.setCell (Below.setCell HG2.out (by dsimp only; omega) _) (by dsimp only; omega) _) (by dsimp only; omega) _) (by simp only [World.size_setCell]; omega) _
      · exact blk_alloc _ (blk_other (blk_other (blk_other HP2.out ⟨w1.heap.size, 0, none⟩ _ (by dsimp only; omega)) ⟨w1.heap.size, 1, none⟩ _ (by dsimp only; omega)) ⟨w1.heap.size, 2, none⟩ _ (by dsimp only; omega))
      · exact blk_alloc _ (blk_set (blk_set (blk_set HQ2.out 0 _) 1 _) 2 _)
    · have hk1 : k = b.size + 1 := by omega
      have hj : jk b k 3 = b.size := by
        have : (b.size + 1) * 1 ≤ (b.size + 1) * 3 := Nat.mul_le_mul_left _ (by omega)
        unfold jk; rw [hk1]; omega
      have hlt' : ¬ (k : Int) ≤ (b.size : Int) := by omega
      have e0 : b.extract b.size b.size = ⟨#[]⟩ := by rw [ByteArray.extract_same]; rfl
      have e1 : b.extract 0 b.size = b := ByteArray.extract_zero_size
      rw [hj] at q0 HQ
      rw [e0] at q0 HQ
      rw [hj, e1]
      have hr : rk ⟨#[]⟩ 3 = 0 := by unfold rk; show min _ 0 = 0; omega
      have HE := Lib.hid hr
      clear hk1 hj e0 e1 hr hlt h1
      go_wp2_with fail
      refine (crd ⟨#[]⟩ r 3 (by omega) (by decide) ⟨#[]⟩ ⟨#[]⟩ 0 HE.out (by rfl) (by rfl) _).mono ?_; rintro e w2 ⟨rfl, g2⟩
      have HP2 := Lib.hid (blk_gr g2 HP.out)
      have HQ2 := Lib.hid (blk_gr g2 HQ.out)
      have HG2 := Lib.hid (gtrans HG.out g2)
      have lp2 := blk_lt HP2.out
      have lq2 := blk_lt HQ2.out
      clear p0 p1 p2 q0 q1 q2 y0 y1 y2 z0 z1 z2 g2
      have q0 := blk_cell HQ2.out 0 rfl
      have q1 := blk_cell HQ2.out 1 rfl
      have q2 := blk_cell HQ2.out 2 rfl
      have p0 := blk_cell HP2.out 0 rfl
      have p1 := blk_cell HP2.out 1 rfl
      have p2 := blk_cell HP2.out 2 rfl
      have z1 := blk_frozen HP2.out 1
      go_wp2_with fail
      have X : Gr w ((w2.setCell ⟨w.heap.size, 1, none⟩ (.int .i64 0)).alloc (.cells #[.string ⟨#[]⟩, .int .i64 r, .int .i64 0] 23)) := Below.alloc (Below.setCell HG2.out (Nat.le_refl _) _) (by simp only [World.size_setCell]; omega) _
      have HP3 : RowKit.Hid (((w2.setCell ⟨w.heap.size, 1, none⟩ (.int .i64 0)).alloc (.cells #[.string ⟨#[]⟩, .int .i64 r, .int .i64 0] 23)).heap[w.heap.size]? = some (.cells #[.string b, .int .i64 0, .int .i64 0] 23)) := blk_alloc _ (blk_set HP2.out 1 _)
      have HQ3 : RowKit.Hid (((w2.setCell ⟨w.heap.size, 1, none⟩ (.int .i64 0)).alloc (.cells #[.string ⟨#[]⟩, .int .i64 r, .int .i64 0] 23)).heap[w1.heap.size]? = some (.cells #[.string ⟨#[]⟩, .int .i64 r, .int .i64 0] 23)) := blk_alloc _ (blk_other HQ2.out ⟨w.heap.size, 1, none⟩ _ (by dsimp only; omega))
      have HR3 : RowKit.Hid (((w2.setCell ⟨w.heap.size, 1, none⟩ (.int .i64 0)).alloc (.cells #[.string ⟨#[]⟩, .int .i64 r, .int .i64 0] 23)).heap[w2.heap.size]? = some (.cells #[.string ⟨#[]⟩, .int .i64 r, .int .i64 0] 23)) := by
        have := blk_new (w2.setCell ⟨w.heap.size, 1, none⟩ (.int .i64 0)) (.cells #[.string ⟨#[]⟩, .int .i64 r, .int .i64 0] 23)
        simp only [World.size_setCell] at this
        exact this
      have X := Lib.hid X
      clear p0 p1 p2 q0 q1 q2 z1
      refine (cwA (by decide) (by unfold maxLen; omega) (by have := HS.out; unfold maxLen at *; omega) _).mono ?_; rintro e w3 ⟨rfl, g3⟩
      have HP4 := Lib.hid (blk_gr g3 HP3.out)
      have HQ4 := Lib.hid (blk_gr g3 HQ3.out)
      have HR4 := Lib.hid (blk_gr g3 HR3.out)
      have X4 := Lib.hid (gtrans X.out g3)
      clear g3
      have p0 := blk_cell HP4.out 0 rfl
      have q0 := blk_cell HQ4.out 0 rfl
      have q1 := blk_cell HQ4.out 1 rfl
      have q2 := blk_cell HQ4.out 2 rfl
      have r0 := blk_cell HR4.out 0 rfl
      have r1 := blk_cell HR4.out 1 rfl
      have r2 := blk_cell HR4.out 2 rfl
      have s1 := blk_lt HP4.out
      have s2 := blk_lt HQ4.out
      have s3 := blk_lt HR4.out
      go_wp2_with fail
      go_ret
      exact ⟨rfl, Below.alloc X4.out X4.out.size _⟩
theorem l_ends (b : ByteArray) (r x m : Int) (s : ByteArray) (hb : b.size ≤ maxLen) (hm : i64 m) (hs : s.size ≤ maxLen) (w : World) :
    Calls Try.prog 6 #[.agg #[.string b, .int .i64 r, .int .i64 x], .int .i64 m, .string s] w fun e w' => e = .returned (.bool true) ∧ Gr w w' := by
  by_cases h1 : 4096 < b.size
  · exact ends_a b r x m s hb hs h1 w
  · by_cases h2 : 1 ≤ m ∧ m ≤ 100
    · exact ends_b b r x m s hb hs (by omega) m.toNat (by omega) (by omega) (by omega) w
    · by_cases h3 : m < 1
      · exact ends_c b r x m s hb hs (by omega) h3 w
      · exact ends_d b r x m s hb hs (by omega) (by omega) w
end Go.Proofs.Ytplkijpllibpfaa.P
