/- Stage 13: the walk of PipeOrder. No condition but that a list is no longer than lists in memory are. -/
import Derived.Test.YtplkijpllibpfaaP4
import Derived.Test.YtplkijpllibpfaaP7
set_option linter.unusedVariables false
namespace Go.Proofs.Ytplkijpllibpfaa.P
open Go.RowKit
theorem crA {b : ByteArray} {m : Int} (h : m < 0) (hb : b.size ≤ maxLen) (w : World) :
    Calls Try.prog 10 #[.agg #[.string b, .int .i64 1, .int .i64 1], .int .i64 m] w fun e w' => e = .returned (.tuple #[.agg #[.string ⟨#[]⟩, .int .i64 0, .int .i64 0], .string ⟨#[]⟩, .int .i64 1]) ∧ Gr w w' := by
  have h0 := c_read b 1 1 m hb w
  rwa [rV_arg b 1 1 m h] at h0
theorem crB {b : ByteArray} {m : Int} (h : 0 < m) (hz : b.size = 0) (hb : b.size ≤ maxLen) (w : World) :
    Calls Try.prog 10 #[.agg #[.string b, .int .i64 1, .int .i64 1], .int .i64 m] w fun e w' => e = .returned (.tuple #[.agg #[.string b, .int .i64 1, .int .i64 1], .string ⟨#[]⟩, .int .i64 12]) ∧ Gr w w' := by
  have e : rE b 1 m = 12 := by unfold rE; rw [if_neg (by omega), if_pos ⟨h, hz, by omega⟩]
  have h1 : rB b 1 m = b := by unfold rB; rw [if_neg (by omega), e]; rfl
  have h2 : rS b 1 m = ⟨#[]⟩ := by unfold rS; rw [e]; rfl
  have h3 : rR m 1 = 1 := by unfold rR; rw [if_neg (by omega)]
  have h0 := c_read b 1 1 m hb w
  unfold rV at h0; rwa [h1, h2, h3, e] at h0
theorem crC {b : ByteArray} {m : Int} (h : 0 ≤ m) (hz : 0 < m → 0 < b.size) (n : Nat) (hn : rk b m = n) (hb : b.size ≤ maxLen) (w : World) :
    Calls Try.prog 10 #[.agg #[.string b, .int .i64 1, .int .i64 1], .int .i64 m] w fun e w' => e = .returned (.tuple #[.agg #[.string (b.extract n b.size), .int .i64 1, .int .i64 1], .string (b.extract 0 n), .int .i64 0]) ∧ Gr w w' := by
  have e : rE b 1 m = 0 := by unfold rE; rw [if_neg (by omega), if_neg (by intro g; have := hz g.1; omega)]
  have h1 : rB b 1 m = b.extract n b.size := by unfold rB; rw [if_neg (by omega), e, hn]; rfl
  have h2 : rS b 1 m = b.extract 0 n := by unfold rS; rw [e, hn]; rfl
  have h3 : rR m 1 = 1 := by unfold rR; rw [if_neg (by omega)]
  have h0 := c_read b 1 1 m hb w
  unfold rV at h0; rwa [h1, h2, h3, e] at h0
theorem ex3 (o b : ByteArray) (n : Nat) (h : n ≤ b.size) : (o ++ b.extract 0 n) ++ b.extract n b.size = o ++ b := by
  rw [ByteArray.append_assoc]
  congr 1
  apply ByteArray.ext
  simp only [ByteArray.data_extract, ByteArray.data_append]
  rw [Array.extract_append_extract]
  have e : max n b.size = b.size := by omega
  rw [show min 0 n = 0 from by omega, e]
  exact Array.extract_size
def Ord (w0 : World) (Bp : Nat) (wr : World) (out b : ByteArray) (k : Nat) : Prop :=
  Gr w0 wr ∧ wr.heap[Bp]? = some (.cells #[.string b, .int .i64 1, .int .i64 1] 23) ∧ b.size ≤ 64 ∧ out.size + b.size ≤ 64 * k
theorem ord_set {w0 wr : World} {Bp : Nat} {out b b' : ByteArray} {k : Nat} (g : Gr w0 wr) (h : wr.heap[Bp]? = some (.cells #[.string b', .int .i64 1, .int .i64 1] 23)) (lp : w0.heap.size ≤ Bp) (hb : b.size ≤ 64) (ho : out.size + b.size ≤ 64 * k) :
    Ord w0 Bp (((wr.setCell ⟨Bp, 0, none⟩ (.string b)).setCell ⟨Bp, 1, none⟩ (.int .i64 1)).setCell ⟨Bp, 2, none⟩ (.int .i64 1)) out b k :=
  ⟨Below.setCell (Below.setCell (Below.setCell g lp _) lp _) lp _, blk_set (blk_set (blk_set h 0 _) 1 _) 2 _, hb, ho⟩
set_option maxRecDepth 100000 in
set_option maxHeartbeats 4000000 in
theorem l_order (bl off len cap : Nat) (f : Nat → ActV) (w : World) (hlen : len ≤ 140737488355328) (hl : Acts w bl off len f) (hbl : bl < w.heap.size) :
    Calls Try.prog 4 #[.slice (some ⟨bl, off, none⟩) len cap] w fun e w' => e = .returned (.bool true) ∧ Gr w w' := by
  have HL := Lib.hid hl
  clear hl
  go_enter Try.func4, Try.ntmps4
  go_wp2_with fail
  refine (c_shown _).mono ?_; rintro e w1 ⟨rfl, g1⟩
  have s1 := g1.size
  have G1 := Lib.hid g1
  clear g1
  go_wp2_with fail
  go_loopw [5, 6, 7] (fun v5 v6 v7 wr => ∃ (k : Nat) (out b : ByteArray), k ≤ len ∧ v5 = .string (out ++ b) ∧ v6 = .string out ∧ v7 = .int .i64 k ∧ Ord w w1.heap.size wr out b k) (fun _ _ v7 _ => len - (intOf v7).toNat)
  case atStart => exact ⟨0, ⟨#[]⟩, ⟨#[]⟩, Nat.zero_le _, rfl, rfl, rfl, Below.alloc G1.out s1 _, blk_new _ _, by decide, by decide⟩
  case round =>
    obtain ⟨k, out, b, hk, rfl, rfl, rfl, hg, hp, hb, ho⟩ := hrel
    have HP := Lib.hid hp
    have HG := Lib.hid hg
    by_cases hlt : k < len
    · obtain ⟨⟨ok0, ok1, ok2, ok3⟩, a0, a1, a2, a3⟩ := HL.out k hlt
      have hk2 : 64 * (k + 1) ≤ 64 * 140737488355328 := Nat.mul_le_mul_left _ (by omega)
      have hsz : (out ++ b).size = out.size + b.size := ByteArray.size_append
      have HSZ := Lib.hid hsz
      have lp := blk_lt hp
      have p0 := blk_cell hp 0 rfl
      have p1 := blk_cell hp 1 rfl
      have p2 := blk_cell hp 2 rfl
      replace a0 := kcell hg a0
      have ax1 := kcell hg a1
      have ax3 := kcell hg a3
      have lbl := cell_lt a0
      dsimp only at lbl
      clear hp hg a1 a2 a3 hsz ok2 ok0
      by_cases hk1 : (f k).kind = 1
      · rw [hk1] at a0
        have K1 := Lib.hid hk1
        clear hk1
        by_cases hz : (f k).s.size ≠ 0 ∧ nF b (f k).s = 0
        · obtain ⟨hz1, hz2⟩ := hz
          have Z1 := Lib.hid hz1; have Z2 := Lib.hid hz2; have O3 := Lib.hid ok3; have HB := Lib.hid hb; have HO := Lib.hid ho
          clear hz1 hz2 ok3 hb ho
          have ax := ax3
          clear ax3 ax1
          have F0 := hold p0
          have F1 := hold p1
          have F2 := hold p2
          have F3 := hold ax
          go_upto_region 9 with fail
          go_cut [8, 9, 10] (fun s8 s9 s10 wx => ∃ D : Nat, s8 = .pointer (some ⟨D, 0, none⟩) ∧ s9 = .int .i64 0 ∧ s10 = .int .i64 12 ∧ wx.heap[D]? = some (.cells #[.string b, .int .i64 1, .int .i64 1] 23) ∧ Gr wr wx ∧ wr.heap.size ≤ D)
          case first =>
            go_region_held3 (fun w' => Gr wr w') (first | (with_reducible assumption) | go_grown)
              (first | (go_at_call 8; refine (cwB (by omega) Z2.out Z1.out (by have := HB.out; unfold maxLen; omega) (by have := O3.out; unfold maxLen at *; omega) _).mono ?_; rintro e w2 ⟨rfl, g2⟩; have g3 : Gr wr w2 := gtrans (by first | assumption | go_grown) g2; replace g2 := undrew g2; (first | (have B8 := blk_gr g2 (blk_new wr _); have d0 := blk_cell B8 0 rfl; have d1 := blk_cell B8 1 rfl; have d2 := blk_cell B8 2 rfl; have z0 := blk_frozen B8 0; have z1 := blk_frozen B8 1; have z2 := blk_frozen B8 2; have l8 := blk_lt B8) | (have l8 := g3.size))))
            all_goals
              go_wp2_with fail
              go_meet
              first
                | exact ⟨_, rfl, rfl, rfl, blk_new _ _, by go_grown, g3.size⟩
                | exact ⟨_, rfl, rfl, rfl, (blk_set (blk_set (blk_set B8 0 _) 1 _) 2 _), by go_grown, Nat.le_refl _⟩
          case rest =>
            obtain ⟨D, rfl, rfl, rfl, hD, gD, lD⟩ := hcut
            obtain ⟨wd, rfl⟩ : ∃ wd : World, wd = wc := ⟨_, rfl⟩
            have HD := Lib.hid hD
            have GD := Lib.hid (gtrans HG.out gD)
            have HP2 := Lib.hid (blk_gr gD HP.out)
            have lD' := blk_lt hD
            have lP' := blk_lt HP2.out
            replace p0 := kcell gD p0
            replace p1 := kcell gD p1
            replace p2 := kcell gD p2
            replace a0 := kcell gD a0
            replace ax := kcell gD ax
            have z0 := blk_frozen HP2.out 0
            have z1 := blk_frozen HP2.out 1
            have z2 := blk_frozen HP2.out 2
            have d0 := blk_cell hD 0 rfl
            have d1 := blk_cell hD 1 rfl
            have d2 := blk_cell hD 2 rfl
            clear F0 F1 F2 F3 hD gD
            have hb := HB.out
            have ho := HO.out
            have e1 := HSZ.out
            go_wp2_with fail
            exact ⟨⟨k + 1, out, b, hlt, rfl, rfl, rfl, GD.out, HP2.out, HB.out, by omega⟩, by simp only [intOf]; omega⟩
        · have hz2 : nF b (f k).s = 0 → (f k).s.size = 0 := fun g => by
            by_cases h : (f k).s.size = 0
            · exact h
            · exact absurd ⟨h, g⟩ hz
          have hn1 : nF b (f k).s ≤ (f k).s.size := by unfold nF; omega
          have hn2 : b.size + nF b (f k).s ≤ 64 := by unfold nF; omega
          have he : ((f k).s.extract 0 (nF b (f k).s)).size = nF b (f k).s := by rw [ByteArray.size_extract]; omega
          have asc : out ++ (b ++ (f k).s.extract 0 (nF b (f k).s)) = (out ++ b) ++ (f k).s.extract 0 (nF b (f k).s) := ByteArray.append_assoc.symm
          have he2 : (b ++ (f k).s.extract 0 (nF b (f k).s)).size = b.size + nF b (f k).s := by rw [ByteArray.size_append, he]
          have Z2 := Lib.hid hz2; have O3 := Lib.hid ok3; have HB := Lib.hid hb; have HO := Lib.hid ho; have AS := Lib.hid asc; have HE := Lib.hid he; have HE2 := Lib.hid he2
          clear hz hz2 ok3 asc he he2
          have ax := ax3
          clear ax3 ax1
          have F0 := hold p0
          have F1 := hold p1
          have F2 := hold p2
          have F3 := hold ax
          go_upto_region 9 with fail
          go_cut [8, 9, 10] (fun s8 s9 s10 wx => ∃ D : Nat, s8 = .pointer (some ⟨D, 0, none⟩) ∧ s9 = .int .i64 (nF b (f k).s : Int) ∧ s10 = .int .i64 0 ∧ wx.heap[D]? = some (.cells #[.string (b ++ (f k).s.extract 0 (nF b (f k).s)), .int .i64 1, .int .i64 1] 23) ∧ Gr wr wx ∧ wr.heap.size ≤ D)
          case first =>
            go_region_held3 (fun w' => Gr wr w') (first | (with_reducible assumption) | go_grown)
              (first | (go_at_call 8; refine (cwC (by omega) Z2.out _ _ rfl rfl (by have := HB.out; unfold maxLen; omega) (by have := O3.out; unfold maxLen at *; omega) _).mono ?_; rintro e w2 ⟨rfl, g2⟩; have g3 : Gr wr w2 := gtrans (by first | assumption | go_grown) g2; replace g2 := undrew g2; (first | (have B8 := blk_gr g2 (blk_new wr _); have d0 := blk_cell B8 0 rfl; have d1 := blk_cell B8 1 rfl; have d2 := blk_cell B8 2 rfl; have z0 := blk_frozen B8 0; have z1 := blk_frozen B8 1; have z2 := blk_frozen B8 2; have l8 := blk_lt B8) | (have l8 := g3.size))))
            all_goals
              go_wp2_with fail
              go_meet
              first
                | exact ⟨_, rfl, rfl, rfl, blk_new _ _, by go_grown, g3.size⟩
                | exact ⟨_, rfl, rfl, rfl, (blk_set (blk_set (blk_set B8 0 _) 1 _) 2 _), by go_grown, Nat.le_refl _⟩
          case rest =>
            obtain ⟨D, rfl, rfl, rfl, hD, gD, lD⟩ := hcut
            obtain ⟨wd, rfl⟩ : ∃ wd : World, wd = wc := ⟨_, rfl⟩
            have HD := Lib.hid hD
            have GD := Lib.hid (gtrans HG.out gD)
            have HP2 := Lib.hid (blk_gr gD HP.out)
            have lD' := blk_lt hD
            have lP' := blk_lt HP2.out
            replace p0 := kcell gD p0
            replace p1 := kcell gD p1
            replace p2 := kcell gD p2
            replace a0 := kcell gD a0
            replace ax := kcell gD ax
            have z0 := blk_frozen HP2.out 0
            have z1 := blk_frozen HP2.out 1
            have z2 := blk_frozen HP2.out 2
            have d0 := blk_cell hD 0 rfl
            have d1 := blk_cell hD 1 rfl
            have d2 := blk_cell hD 2 rfl
            clear F0 F1 F2 F3 hD gD
            have asc := AS.out
            have he := HE.out
            have he2 := HE2.out
            have e1 := HSZ.out
            have hb := HB.out
            have ho := HO.out
            go_wp2_with fail
            exact ⟨⟨k + 1, out, _, hlt, by rw [AS.out], rfl, rfl, ord_set GD.out HP2.out s1 (by rw [HE2.out]; omega) (by rw [HE2.out]; omega)⟩, by simp only [intOf]; omega⟩
      · by_cases hk2 : (f k).kind = 2
        · rw [hk2] at a0
          have K1 := Lib.hid hk1
          have K2 := Lib.hid hk2
          clear hk1 hk2
          have ax := ax1
          clear ax3 ax1
          by_cases hz : (f k).n < 0
          · have Z1 := Lib.hid hz; have O3 := Lib.hid ok3; have O1 := Lib.hid ok1; have HB := Lib.hid hb; have HO := Lib.hid ho
            clear hz ok3 ok1 hb ho
            have F0 := hold p0
            have F1 := hold p1
            have F2 := hold p2
            have F3 := hold ax
            go_upto_region 16 with fail
            go_cut [11, 12, 13] (fun s11 s12 s13 wx => ∃ D : Nat, s11 = .pointer (some ⟨D, 0, none⟩) ∧ s12 = .string ⟨#[]⟩ ∧ s13 = .int .i64 1 ∧ wx.heap[D]? = some (.cells #[.string ⟨#[]⟩, .int .i64 0, .int .i64 0] 23) ∧ Gr wr wx ∧ wr.heap.size ≤ D)
            case first =>
              go_region_held3 (fun w' => Gr wr w') (first | (with_reducible assumption) | go_grown)
                (first | (go_at_call 10; refine (crA Z1.out (by have := HB.out; unfold maxLen; omega) _).mono ?_; rintro e w2 ⟨rfl, g2⟩; have g3 : Gr wr w2 := gtrans (by first | assumption | go_grown) g2; replace g2 := undrew g2; (first | (have B8 := blk_gr g2 (blk_new wr _); have d0 := blk_cell B8 0 rfl; have d1 := blk_cell B8 1 rfl; have d2 := blk_cell B8 2 rfl; have z0 := blk_frozen B8 0; have z1 := blk_frozen B8 1; have z2 := blk_frozen B8 2; have l8 := blk_lt B8) | (have l8 := g3.size))))
              all_goals
                go_wp2_with fail
                go_meet
                first
                  | exact ⟨_, rfl, rfl, rfl, blk_new _ _, by go_grown, g3.size⟩
                  | exact ⟨_, rfl, rfl, rfl, (blk_set (blk_set (blk_set B8 0 _) 1 _) 2 _), by go_grown, Nat.le_refl _⟩
            case rest =>
              obtain ⟨D, rfl, rfl, rfl, hD, gD, lD⟩ := hcut
              obtain ⟨wd, rfl⟩ : ∃ wd : World, wd = wc := ⟨_, rfl⟩
              have HD := Lib.hid hD
              have GD := Lib.hid (gtrans HG.out gD)
              have HP2 := Lib.hid (blk_gr gD HP.out)
              have lD' := blk_lt hD
              have lP' := blk_lt HP2.out
              replace p0 := kcell gD p0
              replace p1 := kcell gD p1
              replace p2 := kcell gD p2
              replace a0 := kcell gD a0
              replace ax := kcell gD ax
              have z0 := blk_frozen HP2.out 0
              have z1 := blk_frozen HP2.out 1
              have z2 := blk_frozen HP2.out 2
              have d0 := blk_cell hD 0 rfl
              have d1 := blk_cell hD 1 rfl
              have d2 := blk_cell hD 2 rfl
              clear F0 F1 F2 F3 hD gD
              have e1 := HSZ.out
              have hb := HB.out
              have ho := HO.out
              go_wp2_with fail
              exact ⟨⟨k + 1, out, b, hlt, rfl, rfl, rfl, GD.out, HP2.out, HB.out, by omega⟩, by simp only [intOf]; omega⟩
          · by_cases hz2 : 0 < (f k).n ∧ b.size = 0
            · have Z1 := Lib.hid hz2.1; have Z2 := Lib.hid hz2.2; have O3 := Lib.hid ok3; have O1 := Lib.hid ok1; have HB := Lib.hid hb; have HO := Lib.hid ho
              clear hz hz2 ok3 ok1 hb ho
              have F0 := hold p0
              have F1 := hold p1
              have F2 := hold p2
              have F3 := hold ax
              go_upto_region 16 with fail
              go_cut [11, 12, 13] (fun s11 s12 s13 wx => ∃ D : Nat, s11 = .pointer (some ⟨D, 0, none⟩) ∧ s12 = .string ⟨#[]⟩ ∧ s13 = .int .i64 12 ∧ wx.heap[D]? = some (.cells #[.string b, .int .i64 1, .int .i64 1] 23) ∧ Gr wr wx ∧ wr.heap.size ≤ D)
              case first =>
                go_region_held3 (fun w' => Gr wr w') (first | (with_reducible assumption) | go_grown)
                  (first | (go_at_call 10; refine (crB Z1.out Z2.out (by have := HB.out; unfold maxLen; omega) _).mono ?_; rintro e w2 ⟨rfl, g2⟩; have g3 : Gr wr w2 := gtrans (by first | assumption | go_grown) g2; replace g2 := undrew g2; (first | (have B8 := blk_gr g2 (blk_new wr _); have d0 := blk_cell B8 0 rfl; have d1 := blk_cell B8 1 rfl; have d2 := blk_cell B8 2 rfl; have z0 := blk_frozen B8 0; have z1 := blk_frozen B8 1; have z2 := blk_frozen B8 2; have l8 := blk_lt B8) | (have l8 := g3.size))))
                all_goals
                  go_wp2_with fail
                  go_meet
                  first
                    | exact ⟨_, rfl, rfl, rfl, blk_new _ _, by go_grown, g3.size⟩
                    | exact ⟨_, rfl, rfl, rfl, (blk_set (blk_set (blk_set B8 0 _) 1 _) 2 _), by go_grown, Nat.le_refl _⟩
              case rest =>
                obtain ⟨D, rfl, rfl, rfl, hD, gD, lD⟩ := hcut
                obtain ⟨wd, rfl⟩ : ∃ wd : World, wd = wc := ⟨_, rfl⟩
                have HD := Lib.hid hD
                have GD := Lib.hid (gtrans HG.out gD)
                have HP2 := Lib.hid (blk_gr gD HP.out)
                have lD' := blk_lt hD
                have lP' := blk_lt HP2.out
                replace p0 := kcell gD p0
                replace p1 := kcell gD p1
                replace p2 := kcell gD p2
                replace a0 := kcell gD a0
                replace ax := kcell gD ax
                have z0 := blk_frozen HP2.out 0
                have z1 := blk_frozen HP2.out 1
                have z2 := blk_frozen HP2.out 2
                have d0 := blk_cell hD 0 rfl
                have d1 := blk_cell hD 1 rfl
                have d2 := blk_cell hD 2 rfl
                clear F0 F1 F2 F3 hD gD
                have e1 := HSZ.out
                have hb := HB.out
                have ho := HO.out
                go_wp2_with fail
                exact ⟨⟨k + 1, out, b, hlt, rfl, rfl, rfl, GD.out, HP2.out, HB.out, by omega⟩, by simp only [intOf]; omega⟩
            · have hz3 : 0 < (f k).n → 0 < b.size := fun h => by omega
              have hz4 : 0 ≤ (f k).n := by omega
              have hn1 : rk b (f k).n ≤ b.size := by unfold rk; omega
              have asc : (out ++ b.extract 0 (rk b (f k).n)) ++ b.extract (rk b (f k).n) b.size = out ++ b := ex3 out b _ hn1
              have he : (b.extract 0 (rk b (f k).n)).size = rk b (f k).n := by rw [ByteArray.size_extract]; omega
              have he2 : (b.extract (rk b (f k).n) b.size).size = b.size - rk b (f k).n := by rw [ByteArray.size_extract]; omega
              have he3 : (out ++ b.extract 0 (rk b (f k).n)).size = out.size + rk b (f k).n := by rw [ByteArray.size_append, he]
              have Z1 := Lib.hid hz4; have Z2 := Lib.hid hz3; have O3 := Lib.hid ok3; have O1 := Lib.hid ok1; have HB := Lib.hid hb; have HO := Lib.hid ho; have AS := Lib.hid asc; have HE := Lib.hid he; have HE2 := Lib.hid he2; have HE3 := Lib.hid he3
              clear hz hz2 hz3 hz4 ok3 ok1 hb ho asc he he2 he3
              have F0 := hold p0
              have F1 := hold p1
              have F2 := hold p2
              have F3 := hold ax
              go_upto_region 16 with fail
              go_cut [11, 12, 13] (fun s11 s12 s13 wx => ∃ D : Nat, s11 = .pointer (some ⟨D, 0, none⟩) ∧ s12 = .string (b.extract 0 (rk b (f k).n)) ∧ s13 = .int .i64 0 ∧ wx.heap[D]? = some (.cells #[.string (b.extract (rk b (f k).n) b.size), .int .i64 1, .int .i64 1] 23) ∧ Gr wr wx ∧ wr.heap.size ≤ D)
              case first =>
                go_region_held3 (fun w' => Gr wr w') (first | (with_reducible assumption) | go_grown)
                  (first | (go_at_call 10; refine (crC Z1.out Z2.out _ rfl (by have := HB.out; unfold maxLen; omega) _).mono ?_; rintro e w2 ⟨rfl, g2⟩; have g3 : Gr wr w2 := gtrans (by first | assumption | go_grown) g2; replace g2 := undrew g2; (first | (have B8 := blk_gr g2 (blk_new wr _); have d0 := blk_cell B8 0 rfl; have d1 := blk_cell B8 1 rfl; have d2 := blk_cell B8 2 rfl; have z0 := blk_frozen B8 0; have z1 := blk_frozen B8 1; have z2 := blk_frozen B8 2; have l8 := blk_lt B8) | (have l8 := g3.size))))
                all_goals
                  go_wp2_with fail
                  go_meet
                  first
                    | exact ⟨_, rfl, rfl, rfl, blk_new _ _, by go_grown, g3.size⟩
                    | exact ⟨_, rfl, rfl, rfl, (blk_set (blk_set (blk_set B8 0 _) 1 _) 2 _), by go_grown, Nat.le_refl _⟩
              case rest =>
                obtain ⟨D, rfl, rfl, rfl, hD, gD, lD⟩ := hcut
                obtain ⟨wd, rfl⟩ : ∃ wd : World, wd = wc := ⟨_, rfl⟩
                have HD := Lib.hid hD
                have GD := Lib.hid (gtrans HG.out gD)
                have HP2 := Lib.hid (blk_gr gD HP.out)
                have lD' := blk_lt hD
                have lP' := blk_lt HP2.out
                replace p0 := kcell gD p0
                replace p1 := kcell gD p1
                replace p2 := kcell gD p2
                replace a0 := kcell gD a0
                replace ax := kcell gD ax
                have z0 := blk_frozen HP2.out 0
                have z1 := blk_frozen HP2.out 1
                have z2 := blk_frozen HP2.out 2
                have d0 := blk_cell hD 0 rfl
                have d1 := blk_cell hD 1 rfl
                have d2 := blk_cell hD 2 rfl
                clear F0 F1 F2 F3 hD gD
                have e1 := HSZ.out
                have hb := HB.out
                have ho := HO.out
                have asc := AS.out
                have he := HE.out
                have he2 := HE2.out
                have he3 := HE3.out
                go_wp2_with fail
                exact ⟨⟨k + 1, _, _, hlt, by rw [AS.out], rfl, rfl, ord_set GD.out HP2.out s1 (by rw [HE2.out]; omega) (by rw [HE3.out, HE2.out]; omega)⟩, by simp only [intOf]; omega⟩
        · have e1 : ((f k).kind == 1) = false := by simpa using hk1
          have e2 : ((f k).kind == 2) = false := by simpa using hk2
          have HB := Lib.hid hb; have HO := Lib.hid ho; have O3 := Lib.hid ok3; have O1 := Lib.hid ok1
          have e3 := HSZ.out
          clear hk1 hk2 ok1 ok3 ax1 ax3
          go_wp2_with fail
          exact ⟨⟨k + 1, out, b, hlt, rfl, rfl, rfl, HG.out, HP.out, HB.out, by omega⟩, by simp only [intOf]; omega⟩
    · go_wp2_with fail
      go_ret
      exact ⟨rfl, HG.out⟩
set_option maxHeartbeats 1600000 in
theorem l_order0 (o : Option Addr) (cap : Nat) (w : World) :
    Calls Try.prog 4 #[.slice o 0 cap] w fun e w' => e = .returned (.bool true) ∧ Gr w w' := by
  go_enter Try.func4, Try.ntmps4
  go_wp2_with fail
  refine (c_shown _).mono ?_; rintro e w1 ⟨rfl, g1⟩
  have s1 := g1.size
  go_wp2_with fail
  go_loopw [5, 6, 7] (fun v5 v6 v7 wr => v7 = .int .i64 0 ∧ Gr w wr) (fun _ _ _ _ => 0)
  case atStart => exact ⟨rfl, Below.alloc g1 s1 _⟩
  case round =>
    obtain ⟨rfl, hg⟩ := hrel
    go_wp2_with fail
    go_ret
    exact ⟨rfl, hg⟩
end Go.Proofs.Ytplkijpllibpfaa.P
