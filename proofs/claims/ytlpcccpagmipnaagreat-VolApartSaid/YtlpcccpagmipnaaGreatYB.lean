/- Stage 8: VolApart, walked. No condition. -/
import Derived.Test.YtlpcccpagmipnaaGreatYA
set_option linter.unusedVariables false
set_option linter.unusedSimpArgs false
set_option maxRecDepth 100000
namespace Go.Proofs.YtlpcccpagmipnaaGreat.P
open Go.RowKit Go.ChangeMaps Go.MapKept
set_option maxHeartbeats 25600000 in
theorem l_apart8 (w : World) (o : Option Addr) (len cap bl off : Nat) (f : Nat → V8ActV) (an ao : Int) (s : ByteArray) (hlen : len ≤ 4000000000000000) (ho0 : 0 < len → o = some ⟨bl, off, none⟩) (hA : V8Acts w bl off len f) (hao : ao ≤ 9223372036854775807) (hsz : s.size ≤ 9223372036854775807) :
    Calls Tryz.prog 5 #[.agg #[.slice o len cap, .int .i64 an, .int .i64 ao, .string s]] w fun e w' => e = .returned (.bool true) ∧ Gr w w' := by
  obtain ⟨wA, hwA⟩ : ∃ wA, wA = w.alloc (.cells #[.slice o len cap, .int .i64 an, .int .i64 ao, .string s] 67) := ⟨_, rfl⟩
  have gA : Gr w wA := by rw [hwA]; exact (Gr.refl w).alloc (Nat.le_refl _) _
  have hbA : wA.heap[w.heap.size]? = some (.cells #[.slice o len cap, .int .i64 an, .int .i64 ao, .string s] 67) := by rw [hwA]; exact blk_new _ _
  have CS := Lib.hid (c_shown8 wA)
  have CF : Hid (∀ w1, Gr wA w1 → Calls Tryz.prog 12 #[.int .i64 200] w1 (FreshP w (168 + 32) emp)) := Lib.hid (fun w1 g => c_fresh8 (Own.start (gtrans gA g)) stable_emp 200)
  unfold FreshP at CF
  have HACT := Lib.hid hA
  have HO0 := Lib.hid ho0
  have t0 := blk_cell hbA 0 (v := .slice o len cap) rfl
  have t1 := blk_cell hbA 1 (v := .int .i64 an) rfl
  have t2 := blk_cell hbA 2 (v := .int .i64 ao) rfl
  have t3 := blk_cell hbA 3 (v := .string s) rfl
  obtain ⟨i0, hi0, hz0, hz1, hz2⟩ := info_parts strInfo
  clear hA ho0 hbA gA
  go_enter Tryz.func5, Tryz.ntmps5
  go_upto_region 1 with fail
  rw [← hwA]
  generalize w.heap.size = B0 at *
  clear hwA
  go_upto_region 5 with fail
  clear t0 t1 t2 t3
  go_upto_region 6 with (go_at_call 11; refine CS.out.mono ?_; rintro e w1 ⟨rfl, g1⟩; have G1 := Lib.hid g1; clear g1)
  go_upto_region 7 with (go_at_call 12; refine (CF.out _ G1.out).mono ?_; rintro e w2 ⟨d, l, ml, rfl, h2⟩; have H2 := Lib.hid h2; clear h2)
  go_upto_region 10 with (go_at_call 13; refine (k_format H2.out stable_emp (by omega) (by omega)).mono ?_; rintro e w3 ⟨V, rfl, h3⟩; have H3 := Lib.hid h3; clear h3)
  go_upto_region 11 with (go_at_call 14; refine (k_commit H3.out stable_emp (by omega) (by omega)).mono ?_; rintro e w4 ⟨rfl, h4⟩; have H4 := Lib.hid h4; clear h4)
  have HA4 : Hid (VA w d 168 l V emp w4) := Lib.hid ⟨_, _, H4.out⟩
  clear CS CF G1 H2 H3 H4
  go_wp2_with fail
  go_loopw [12] (fun v wr => ∃ k : Nat, k ≤ 4 ∧ v = .int .i64 (k : Int) ∧ VA w d 168 l V emp wr) (fun v _ => 4 - (intOf v).toNat)
  case atStart => exact ⟨0, Nat.zero_le _, rfl, HA4.out⟩
  case round =>
    clear HA4
    obtain ⟨k, hk, rfl, ho⟩ := hrel
    have HO := Lib.hid ho
    clear ho
    by_cases hlt : k < 4
    · have dl : decide (k < 4) = true := decide_eq_true hlt
      have dl2 : decide ((k : Int) < 4) = true := decide_eq_true (by omega)
      have CJ := Lib.hid (j_new HO.out stable_emp (by omega) (by omega) 1)
      clear HO
      go_wp2_with (go_at_call 35; refine CJ.out.mono ?_; rintro e w5 ⟨ra, rb, rfl, h5⟩; have H5 := Lib.hid h5; clear h5)
      go_roundw
      case rel => exact ⟨k + 1, by omega, by go_num, H5.out⟩
      case measure => simp [intOf]; omega
    · obtain rfl : k = 4 := by omega
      have CC := Lib.hid (j_commit HO.out stable_emp (by omega) (by omega))
      clear HO
      go_wp2_with (go_at_call 14; refine CC.out.mono ?_; rintro e w5 ⟨rfl, h5⟩; have H5 := Lib.hid h5; clear h5)
      clear CC
      go_loopw [13] (fun v wr => ∃ k : Nat, k ≤ len ∧ v = .int .i64 (k : Int) ∧ VA w d 168 l V emp wr) (fun v _ => len - (intOf v).toNat)
      case atStart => exact ⟨0, Nat.zero_le _, rfl, H5.out⟩
      case round =>
        clear H5
        obtain ⟨k, hk, rfl, ho⟩ := hrel
        have HO := Lib.hid ho
        clear ho
        by_cases hlt : k < len
        · have dl : decide (k < len) = true := decide_eq_true hlt
          obtain rfl := HO0.out (by omega)
          have HKC : Hid (∀ wx, Gr w wx → _) := Lib.hid (fun wx g => V8cells HACT.out hlt g)
          generalize f k = x at HKC
          obtain ⟨ak, bn, bo, bm, bs⟩ := x
          dsimp only at HKC
          have c0 := (HKC.out _ HO.out.sub).1
          by_cases a6 : ak = 6
          · subst a6
            have CJ := Lib.hid (j_write (HO.out.gr stable_emp (Gr.drewN (Gr.refl _) 1)) stable_emp (by omega) (by omega) bn bo bs)
            go_upto_region 20 with fail
            clear c0
            obtain ⟨c0, c1, c2, c3, c4⟩ := HKC.out _ HO.out.sub
            go_still_tail 16, (by kernel_rfl)
            go_wp2_with (first
              | (go_at_call 36; refine CJ.out.mono ?_; rintro e w8 ⟨ra, rfl, h8⟩; have H8 := Lib.hid (j_commit h8 stable_emp (by omega) (by omega)); clear h8)
              | (go_at_call 14; refine H8.out.mono ?_; rintro e w9 ⟨rfl, h9⟩; have H9 := Lib.hid h9; clear h9))
            go_roundw
            case rel => exact ⟨k + 1, by omega, by go_num, H9.out⟩
            case measure => simp [intOf]; omega
          · have b6 : (ak == 6) = false := beq_eq_false_iff_ne.2 a6
            go_wp2_with fail
            go_roundw
            case rel => exact ⟨k + 1, by omega, by go_num, HO.out⟩
            case measure => simp [intOf]; omega
        · obtain rfl : k = len := by omega
          have dl : decide (k < k) = false := decide_eq_false (by omega)
          clear HACT HO0
          obtain ⟨m, N, hv⟩ := HO.out
          have HN := Lib.hid (vs_nilrow hv stable_emp)
          clear hv HO
          go_wp2_with fail
          go_loopw [14, 15] (fun v14 v15 wr => ∃ (k : Nat) (o : Option Addr) (c : Nat), k ≤ 4 ∧ (0 < k → ∃ g, o = some ⟨g, 0, none⟩) ∧ v15 = .int .i64 (k : Int) ∧ v14 = .slice o k c ∧ VS w d 168 l V (Star (rowV (.slice o k c) k (befL N k)) emp) m N wr) (fun _ v _ => 4 - (intOf v).toNat)
          case atStart => exact ⟨0, none, 0, Nat.zero_le _, fun h => absurd h (by omega), rfl, rfl, HN.out⟩
          case round =>
            clear HN
            obtain ⟨k, o, c, hk, hko, rfl, rfl, hh⟩ := hrel
            have HK := Lib.hid hko
            have HH := Lib.hid hh
            clear hh hko
            have HSR : Hid (∀ v q L, Stable (Star (rowV v q L) emp)) := Lib.hid (fun v q L => stable_star (stable_row _ _ _ _ _) stable_emp)
            by_cases hlt : k < 4
            · have dl : decide (k < 4) = true := decide_eq_true hlt
              have dl2 : decide ((k : Int) < 4) = true := decide_eq_true (by omega)
              have CR : Hid (Calls Tryz.prog 33 #[.pointer (some ⟨V, 0, none⟩), .int .i64 (k : Int), .int .i64 0, .int .i64 3000] wr fun e w' => (∃ r : Int, e = .returned (.tuple #[.string (rdB N (k : Int)), .int .i64 r])) ∧ VS w d 168 l V (Star (rowV (.slice o k c) k (befL N k)) emp) m N w') := Lib.hid ((k_read HH.out (HSR.out _ _ _) (by omega) (by omega) (k : Int) 0 3000 (by omega) (by omega)).mono (by
                rintro e w' ⟨rfl, k2⟩
                exact ⟨⟨_, rfl⟩, k2⟩))
              have HS := Lib.hid (befL_succ N k)
              generalize rdB N (k : Int) = t at *
              go_upto_region 27 with (go_at_call 33; refine CR.out.mono ?_; rintro e w5 ⟨⟨r5, rfl⟩, h5⟩; have H5 := Lib.hid h5; clear h5)
              have H6 := Lib.hid (H5.out.gr (HSR.out _ _ _) ((Gr.refl _).alloc (Nat.le_refl _) (.cells #[.string t] 9)))
              have HROW := Lib.hid (vs_row H6.out)
              clear H5 CR HH
              go_wp2_with (at_builtin; refine wpList_append_lies _ rfl _ _ _ rfl 0 9 i0 (.string ⟨#[]⟩) 1 16 Tryz.underlying42 hi0 hz0 hz1 hz2 rfl (by omega) (.slice o k c) k (strs (befL N k)) rfl HROW.out ⟨_, 0, none⟩ 1 1 [.string t] rfl rfl (World.news_of_block (cs := #[.string t]) (blk_new _ _)) (by simp [Value.oneCell']) (by omega) (by unfold maxLen; omega) (by omega) (by omega) (w5.heap.size + 1) (by simp) ?_; intro g2 cap2 w8 hown8 hgrow8 hat8 hlt8; have HO8 := Lib.hid hown8; have HG8 := Lib.hid hgrow8; have HA8 := Lib.hid hat8; have HT8 := Lib.hid hlt8; clear hown8 hgrow8 hat8 hlt8)
              have H9 : Hid (VS w d 168 l V (Star (rowV (.slice (some ⟨g2, 0, none⟩) (k + 1) cap2) (k + 1) (befL N (k + 1))) emp) m N w8) := Lib.hid (vs_grown H6.out stable_emp (by rw [HS.out]; exact HO8.out) rfl HG8.out (HA8.out.elim .inl (fun e => .inr (by simp; omega))) HT8.out)
              go_roundw
              case rel => exact ⟨k + 1, _, cap2, by omega, fun _ => ⟨g2, rfl⟩, by go_num, rfl, H9.out⟩
              case measure => simp [intOf]; omega
            · obtain rfl : k = 4 := by omega
              obtain ⟨g, rfl⟩ := HK.out (by omega)
              have CW := Lib.hid (k_writeX HH.out (HSR.out _ _ _) (by omega) (by omega) an ao s)
              clear HH HK
              go_upto_region 29 with (go_at_call 36; refine CW.out.mono ?_; rintro e w5 ⟨full, m', rfl, h5⟩; have H5 := Lib.hid h5; clear h5)
              have HNO := Lib.hid (writeN_no (N := N) (n := 168) (full := full) (k := an) (off := ao) (s := s.data.toList))
              have HOK := Lib.hid (writeN_ok (N := N) (n := 168) (full := full) (k := an) (off := ao) (s := s.data.toList))
              generalize (writeN N 168 full an ao s.data.toList).1 = r at *
              generalize (writeN N 168 full an ao s.data.toList).2 = N' at *
              clear CW
              have HSAME : Hid (∀ k : Nat, k < 4 → (¬ (k : Int) = an ∨ ¬ r = 0) → rdB N' (k : Int) = rdB N (k : Int)) := Lib.hid (fun k hk h => by
                by_cases hr : r = 0
                · obtain ⟨q, p, hq, _, _, _, _, _, _, he⟩ := HOK.out hr
                  refine rdB_congr ?_
                  rw [he]
                  unfold insN
                  rw [if_neg (by omega)]
                · rw [HNO.out hr])
              go_wp2_with fail
              go_loopw [19] (fun v wr => ∃ k : Nat, k ≤ 4 ∧ v = .int .i64 (k : Int) ∧ VS w d 168 l V (Star (rowV (.slice (some ⟨g, 0, none⟩) 4 c) 4 (befL N 4)) emp) m' N' wr) (fun v _ => 4 - (intOf v).toNat)
              case atStart => exact ⟨0, Nat.zero_le _, rfl, H5.out⟩
              case round =>
                clear H5
                obtain ⟨k, hk, rfl, hh⟩ := hrel
                have HH := Lib.hid hh
                clear hh
                by_cases hlt : k < 4
                · have dl : decide (k < 4) = true := decide_eq_true hlt
                  have dl2 : decide ((k : Int) < 4) = true := decide_eq_true (by omega)
                  have CR : Hid (Calls Tryz.prog 33 #[.pointer (some ⟨V, 0, none⟩), .int .i64 (k : Int), .int .i64 0, .int .i64 3000] wr fun e w' => (∃ r : Int, e = .returned (.tuple #[.string (rdB N' (k : Int)), .int .i64 r])) ∧ VS w d 168 l V (Star (rowV (.slice (some ⟨g, 0, none⟩) 4 c) 4 (befL N 4)) emp) m' N' w') := Lib.hid ((k_read HH.out (HSR.out _ _ _) (by omega) (by omega) (k : Int) 0 3000 (by omega) (by omega)).mono (by
                    rintro e w' ⟨rfl, k2⟩
                    exact ⟨⟨_, rfl⟩, k2⟩))
                  have HCB : Hid (∀ wx, VS w d 168 l V (Star (rowV (.slice (some ⟨g, 0, none⟩) 4 c) 4 (befL N 4)) emp) m' N' wx → wx.cell? ⟨g, k, none⟩ = some (.string (rdB N (k : Int)))) := Lib.hid (fun wx hw => by
                    have h1 := World.ownsRow.cellAt (vs_row hw) k (by omega)
                    rw [h1]
                    rcases (by omega : k = 0 ∨ k = 1 ∨ k = 2 ∨ k = 3) with rfl | rfl | rfl | rfl <;> rfl)
                  clear HH
                  by_cases hx : ¬ (k : Int) = an ∨ ¬ r = 0
                  · rw [HSAME.out k hlt hx] at CR
                    generalize rdB N (k : Int) = t at *
                    go_upto_region 33 with (go_at_call 33; refine CR.out.mono ?_; rintro e w6 ⟨⟨r6, rfl⟩, h6⟩; have H6 := Lib.hid h6; clear h6)
                    have c6 := HCB.out _ H6.out
                    by_cases hk1 : (k : Int) = an
                    · have hr : ¬ r = 0 := by omega
                      have b2 : (r == 0) = false := beq_eq_false_iff_ne.2 hr
                      clear hx
                      subst hk1
                      go_wp2_with fail
                      go_roundw
                      case rel => exact ⟨k + 1, by omega, by go_num, H6.out⟩
                      case measure => simp [intOf]; omega
                    · have b1 : ((k : Int) == an) = false := beq_eq_false_iff_ne.2 hk1
                      clear hx
                      go_wp2_with fail
                      go_roundw
                      case rel => exact ⟨k + 1, by omega, by go_num, H6.out⟩
                      case measure => simp [intOf]; omega
                  · have hk1 : (k : Int) = an := by omega
                    have hr : r = 0 := by omega
                    clear hx
                    subst hk1
                    subst hr
                    go_wp2_with (go_at_call 33; refine CR.out.mono ?_; rintro e w6 ⟨⟨r6, rfl⟩, h6⟩; have H6 := Lib.hid h6; clear h6)
                    go_roundw
                    case rel => exact ⟨k + 1, by omega, by go_num, H6.out⟩
                    case measure => simp [intOf]; omega
                · obtain rfl : k = 4 := by omega
                  by_cases hr : r = 0
                  · have b2 : (r == 0) = true := by rw [hr]; rfl
                    have CR : Hid (Calls Tryz.prog 33 #[.pointer (some ⟨V, 0, none⟩), .int .i64 an, .int .i64 ao, .int .i64 (s.size : Int)] wr fun e w' => e = .returned (.tuple #[.string s, .int .i64 0]) ∧ Gr w w') := Lib.hid (by
                      obtain ⟨q, p, hq, hq32, hkd, hp, hpl, h5, h6, he⟩ := HOK.out hr
                      refine (k_read HH.out (HSR.out _ _ _) (by omega) (by omega) an ao (s.size : Int) hao (by omega)).mono ?_
                      rintro e w' ⟨rfl, k2⟩
                      have e2 : readN N' an ao (s.size : Int) = (s.data.toList, 0) := by
                        have hN : N' q = ⟨(N q).kind, (N q).links, wrD (N q).data p s.data.toList⟩ := by rw [he]; unfold insN; rw [if_pos rfl]
                        have hf : findN N' an = 0 := by rw [hq]; exact find_ok hq32 (by rw [hN]; exact hkd)
                        unfold readN
                        rw [hf, if_neg (fun e => e rfl), if_neg (by omega), hq, hp, Int.toNat_natCast, Int.toNat_natCast, Int.toNat_natCast, hN]
                        have := wrD_back (s := s.data.toList) hpl
                        rw [toL_size] at this
                        rw [this]
                      rw [e2]
                      exact ⟨by rw [show (⟨s.data.toList.toArray⟩ : ByteArray) = s from arr_eta rfl], k2.sub⟩)
                    clear HH HOK HNO HSAME hr
                    go_wp2_with (go_at_call 33; refine CR.out.mono ?_; rintro e w6 ⟨rfl, g6⟩; have H6 := Lib.hid g6; clear g6)
                    go_ret
                    exact ⟨rfl, H6.out⟩
                  · have b2 : (r == 0) = false := beq_eq_false_iff_ne.2 hr
                    have H6 := Lib.hid HH.out.sub
                    clear HH HOK HNO HSAME hr
                    go_wp2_with fail
                    go_ret
                    exact ⟨rfl, H6.out⟩
end Go.Proofs.YtlpcccpagmipnaaGreat.P
