/- Stage 6: the document's Crash. No condition. -/
import Derived.Test.YtgaibknhdaeidaaGreatJ3
import Derived.Deep.LoopGhost
import Derived.Test.YtgaibknhdaeidaaGreatD8
set_option linter.unusedVariables false
namespace Go.Proofs.YtgaibknhdaeidaaGreat.P
open Go.RowKit
def bitK (K : Int) (j : Nat) : Int := K / 2 ^ j
theorem bitK_step (K : Int) (j : Nat) : bitK K j / 2 = bitK K (j + 1) := by
  unfold bitK
  have hp : (0 : Int) ≤ 2 ^ j := Int.le_of_lt (W.pow_pos j)
  rw [Int.ediv_ediv_of_nonneg hp, Int.pow_succ]
theorem bitK_bd (K : Int) (hK : u64 K) (j : Nat) : 0 ≤ bitK K j ∧ bitK K j ≤ 18446744073709551615 := by
  unfold bitK
  have hp : (0 : Int) < 2 ^ j := W.pow_pos j
  exact ⟨Int.ediv_nonneg hK.1 (Int.le_of_lt hp), Int.le_trans (Int.ediv_le_self _ hK.1) hK.2⟩
theorem bitK_keep (K : Int) (k : Nat) : keepB K k = decide (bitK K (k % 64) % 2 = 1) := rfl
set_option maxRecDepth 100000 in
set_option maxHeartbeats 4000000 in
theorem e_crash (w : World) (d sb : Nat) (wb : Option Nat) (z : DState) (h : RDiskO w d sb wb z) (hz : WZ z) (K : Int) (hK : Go.Proofs.YtgaibknhdaeidaaGreat.P.u64 K) (hm : z.wait.length ≤ 4000000000000) :
    Calls Tryz.prog 11 #[.pointer (some ⟨d, 0, none⟩), .int .u64 K] w fun e w' => e = .returned (.tuple #[]) ∧ RDiskO w' d sb none (crashZ z K) ∧ Ch (fun x => x = d ∨ x = sb) w w' := by
  have HBD := Lib.hid (bitK_bd K hK)
  have hb0 : K = bitK K 0 := by unfold bitK; rw [Int.pow_zero, Int.ediv_one]
  have HB0 := Lib.hid hb0
  have HW := Lib.hid hz.2.2.2.2
  have H := Lib.hid h
  have hn := hz.2.1
  obtain ⟨m, hmm⟩ : ∃ m, m = z.wait.length := ⟨_, rfl⟩
  have HM := Lib.hid hmm
  rw [← hmm] at hm
  obtain ⟨n, hnn⟩ : ∃ n, n = z.safe.length := ⟨_, rfl⟩
  have HN := Lib.hid hnn
  rw [← hnn] at hn
  have HC0 := Lib.hid (Ch.refl (fun x => x = d ∨ x = sb) w)
  clear hmm hnn hz h hK hb0
  go_enter Tryz.func11, Tryz.ntmps11
  go_wp2_with fail
  go_loopg [4] m (fun gh v wr => ∃ k : Nat, k ≤ m ∧ gh = m - k ∧ v = .int .i64 k ∧ RDiskO wr d sb wb { z with safe := setN (keepB K) z.safe z.wait k } ∧ Ch (fun x => x = d ∨ x = sb) w wr)
  case atStart => exact ⟨0, Nat.zero_le _, rfl, rfl, H.out, HC0.out⟩
  case round =>
    obtain ⟨k, hk, rfl, rfl, hd, hc⟩ := hrel
    have HD := Lib.hid hd
    have HC := Lib.hid hc
    obtain ⟨wo, wc, c1⟩ := hd.waitCell
    rw [show ({ z with safe := setN (keepB K) z.safe z.wait k } : DState).wait.length = m by show z.wait.length = m; rw [HM.out]] at c1
    clear hd hc
    by_cases hlt : k < m
    · have dl : decide (k < m) = true := decide_eq_true hlt
      have hk0 : (0 : Int) ≤ k := by omega
      have hr1 : k % 64 < 64 := by omega
      have er : (k : Int) % 64 = ((k % 64 : Nat) : Int) := by omega
      have hkeep := bitK_keep K k
      obtain ⟨r, hr⟩ : ∃ r, r = k % 64 := ⟨_, rfl⟩
      rw [← hr] at hr1 er hkeep
      have HKEEP := Lib.hid hkeep
      clear hr hkeep c1
      obtain ⟨wo, wc, c1⟩ := HD.out.waitCell
      rw [show ({ z with safe := setN (keepB K) z.safe z.wait k } : DState).wait.length = m by show z.wait.length = m; rw [HM.out]] at c1
      go_wp2_with fail
      clear c1
      go_loopg [5, 6] r (fun gh v5 v6 wl => ∃ j : Nat, j ≤ r ∧ gh = r - j ∧ v6 = .int .i64 j ∧ v5 = .int .u64 (bitK K j) ∧ RDiskO wl d sb wb { z with safe := setN (keepB K) z.safe z.wait k } ∧ Ch (fun x => x = d ∨ x = sb) w wl)
      case atStart => exact ⟨0, Nat.zero_le _, rfl, rfl, by rw [← HB0.out], HD.out, HC.out⟩
      case round =>
        obtain ⟨j, hj, rfl, rfl, rfl, hd, hc⟩ := hrel
        have HD2 := Lib.hid hd
        have HC2 := Lib.hid hc
        clear hd hc
        have hbd := HBD.out j
        by_cases hjr : j < r
        · have dj : decide (j < r) = true := decide_eq_true hjr
          have HST := Lib.hid (bitK_step K j)
          generalize bitK K j = x at *
          obtain ⟨hb1, hb2⟩ := hbd
          go_wp2_with fail
          go_roundg (r - (j + 1))
          case measure => omega
          case rel => exact ⟨j + 1, by omega, rfl, by go_num, by rw [← HST.out], HD2.out, HC2.out⟩
        · obtain rfl : j = r := by omega
          have dj : decide (j < j) = false := decide_eq_false (by omega)
          obtain ⟨hb1, hb2⟩ := hbd
          have hkw : k < z.wait.length := by have := HM.out; omega
          have hx : z.wait[k]? = some (z.wait[k]'hkw) := List.getElem?_eq_getElem _
          have hNx := setN_at (P := keepB K) (safe := z.safe) hx
          cases hP : keepB K k with
          | false =>
            have hbit : ¬ bitK K j % 2 = 1 := of_decide_eq_false (HKEEP.out.symm.trans hP)
            have HNX : RowKit.Hid (setN (keepB K) z.safe z.wait (k + 1) = setN (keepB K) z.safe z.wait k) := Lib.hid (by rw [hNx, hP]; rfl)
            generalize bitK K j = x at *
            have hbit2 : (x % 2 == 1) = false := beq_eq_false_iff_ne.2 hbit
            clear hP hNx hx hbit
            go_wp2_with fail
            go_roundg (m - (k + 1))
            case measure => omega
            case rel => exact ⟨k + 1, by omega, rfl, by go_num, by rw [HNX.out]; exact HD2.out, HC2.out⟩
          | true =>
            have hbit : bitK K j % 2 = 1 := of_decide_eq_true (HKEEP.out.symm.trans hP)
            rw [hP] at hNx
            obtain ⟨g, wc', hg, e0, e1, e2⟩ := HD2.out.waits (k := k) (x := z.wait[k]'hkw) hx
            rw [show ({ z with safe := setN (keepB K) z.safe z.wait k } : DState).wait.length = m by show z.wait.length = m; rw [HM.out]] at e0
            have hxw := HW.out _ (List.getElem_mem hkw)
            generalize z.wait[k]'hkw = x at *
            obtain ⟨xi, xs⟩ := x
            dsimp only at e1 e2 hxw hNx
            obtain ⟨q, rfl⟩ : ∃ q : Nat, xi = (q : Int) := ⟨xi.toNat, by omega⟩
            rw [Int.toNat_natCast, cond_true] at hNx
            have HNX := Lib.hid hNx
            have hqn : q < z.safe.length := by omega
            obtain ⟨sc', s0, sf, scell⟩ := HD2.out.safes
            have s1 := scell q _ (List.getElem?_eq_getElem (by show q < (setN (keepB K) z.safe z.wait k).length; rw [setN_len]; exact hqn))
            have sfq := sf q
            rw [show ({ z with safe := setN (keepB K) z.safe z.wait k } : DState).safe.length = n by show (setN _ _ _ _).length = n; rw [setN_len, HN.out]] at s0
            rw [← HN.out] at hqn
            have HS9 := Lib.hid ((HD2.out.gr (Gr.drewN (Gr.refl _) 1)).setSafe q xs)
            have HC9 := Lib.hid ((HC2.out.drew).setCell (p := ⟨sb, q, none⟩) (.inl (.inr rfl)) (.string xs))
            generalize (setN (keepB K) z.safe z.wait k)[q]'_ = old at *
            generalize bitK K j = y at *
            have hbit2 : (y % 2 == 1) = true := by rw [beq_iff_eq]; exact hbit
            have hq0 : (0 : Int) ≤ q := by omega
            clear sf scell hxw hNx hx hP hbit
            go_upto_region 9 with fail
            go_still_tail 21, (by kernel_rfl)
            go_wp2_with fail
            go_roundg (m - (k + 1))
            case measure => omega
            case rel => exact ⟨k + 1, by omega, rfl, by go_num, by rw [HNX.out]; exact HS9.out, HC9.out⟩
    · obtain rfl : k = m := by omega
      have dl : decide (k < k) = false := decide_eq_false (by omega)
      obtain ⟨sv, wv, hcells⟩ := HD.out.cellsOf
      have f1 := blk_frozen hcells 1
      have hE := HD.out.emptied
      obtain ⟨sv2, wv2, hcells2⟩ := hE.cellsOf
      have f2 := blk_frozen hcells2 2
      have f3 := blk_frozen hcells2 3
      have d2 := blk_cell hcells2 2 rfl
      have d3 := blk_cell hcells2 3 rfl
      have hch : Ch (· = d) (wr.setCell ⟨d, 1, none⟩ (.slice none 0 0)) (((wr.setCell ⟨d, 1, none⟩ (.slice none 0 0)).setCell ⟨d, 3, none⟩ (.bool false)).setCell ⟨d, 2, none⟩ (.int .i64 (-1))) := Ch.setCell (S := (· = d)) (Ch.setCell (S := (· = d)) (Ch.refl _ _) (p := ⟨d, 3, none⟩) (.inl rfl) _) (p := ⟨d, 2, none⟩) (.inl rfl) _
      have HF := Lib.hid (hE.cells hch false false 0 (fun a b hb => by rw [blk_set (blk_set hb 3 _) 2 _]; rfl))
      have HCF := Lib.hid ((HC.out.setCell (p := ⟨d, 1, none⟩) (.inl (.inl rfl)) (.slice none 0 0)).trans (hch.mono (fun x hx => .inl hx)))
      clear hcells hcells2 hE hch
      go_wp2_with fail
      have HM2 : RowKit.Hid (crashZ z K = ⟨setN (keepB K) z.safe z.wait k, [], false, false, 0⟩) := Lib.hid (by unfold crashZ; rw [HM.out])
      exact bodyPost_end (results_none rfl _ _ _) rfl ⟨rfl, by rw [HM2.out]; exact HF.out, HCF.out⟩
end Go.Proofs.YtgaibknhdaeidaaGreat.P
