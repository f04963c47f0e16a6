/- Stage 8: VolRoom, walked. No condition. -/
import Derived.Test.YtlpcccpagmipnaaGreatWY
set_option linter.unusedVariables false
set_option linter.unusedSimpArgs false
set_option maxRecDepth 100000
namespace Go.Proofs.YtlpcccpagmipnaaGreat.P
open Go.RowKit Go.ChangeMaps Go.MapKept
set_option maxHeartbeats 25600000 in
theorem l_room8 (w : World) (sectors : Int) (o : Option Addr) (len cap bl off : Nat) (f : Nat → V8ActV) (hlen : len ≤ 4000000000000000) (ho0 : 0 < len → o = some ⟨bl, off, none⟩) (hA : V8Acts w bl off len f) : Calls Tryz.prog 7 #[.int .i64 sectors, .slice o len cap] w fun e w' => e = .returned (.bool true) ∧ Gr w w' := by
  have CS := Lib.hid (c_shown8 w)
  obtain ⟨n, hn⟩ : ∃ n, freshN sectors = n + 32 := ⟨freshN sectors - 32, by unfold freshN; split <;> omega⟩
  have hnb : 16 ≤ n ∧ n ≤ 512 := by unfold freshN at hn; split at hn <;> omega
  obtain ⟨hn1, hn2⟩ := hnb
  have CF : Hid (∀ w1, Gr w w1 → Calls Tryz.prog 12 #[.int .i64 sectors] w1 (FreshP w (n + 32) emp)) := Lib.hid (fun w1 g => by
    have := c_fresh8 (Own.start g) stable_emp sectors
    rw [hn] at this
    exact this)
  unfold FreshP at CF
  clear hn
  have HACT := Lib.hid hA
  have HO0 := Lib.hid ho0
  have HI := Lib.hid stat_info
  have HZ := Lib.hid stat_zero
  have H1S := Lib.hid stat_one
  clear hA ho0
  go_enter Tryz.func7, Tryz.ntmps7
  go_upto_region 2 with (go_at_call 11; refine CS.out.mono ?_; rintro e w1 ⟨rfl, g1⟩; have G1 := Lib.hid g1; clear g1)
  go_upto_region 3 with (go_at_call 12; refine (CF.out _ G1.out).mono ?_; rintro e w2 ⟨d, l, ml, rfl, h2⟩; have H2 := Lib.hid h2; clear h2)
  go_upto_region 6 with (go_at_call 13; refine (k_format H2.out stable_emp hn1 hn2).mono ?_; rintro e w3 ⟨V, rfl, h3⟩; have H3 := Lib.hid h3; clear h3)
  go_upto_region 7 with (go_at_call 14; refine (k_commit H3.out stable_emp hn1 hn2).mono ?_; rintro e w4 ⟨rfl, h4⟩; have H4 := Lib.hid h4; clear h4)
  have HA4 : Hid (VA w d n l V emp w4) := Lib.hid ⟨_, _, H4.out⟩
  clear CS CF G1 H2 H3 H4
  go_wp2_with fail
  go_loopg [10] len (fun gh v wr => ∃ k : Nat, k ≤ len ∧ gh = len - k ∧ v = .int .i64 (k : Int) ∧ VA w d n l V emp wr)
  case atStart => exact ⟨0, Nat.zero_le _, rfl, rfl, HA4.out⟩
  case round =>
    clear HA4
    obtain ⟨k, hk, rfl, rfl, ho⟩ := hrel
    have HO := Lib.hid ho
    clear ho
    by_cases hlt : k < len
    · have dl : decide (k < len) = true := decide_eq_true hlt
      obtain rfl := HO0.out (by omega)
      have HKC : Hid (∀ wx, Gr w wx → _) := Lib.hid (fun wx g => V8cells HACT.out hlt g)
      generalize f k = x at HKC
      obtain ⟨ak, an, ao, am, ac⟩ := x
      dsimp only at HKC
      have c0 := (HKC.out _ HO.out.sub).1
      go_upto_region 11 with fail
      clear c0
      obtain ⟨c0, c1, c2, c3, c4⟩ := HKC.out _ HO.out.sub
      by_cases a1 : ak = 1
      · subst a1
        have CJ := Lib.hid (j_new HO.out stable_emp hn1 hn2 an)
        go_upto_region 19 with (go_at_call 35; refine CJ.out.mono ?_; rintro e w8 ⟨ra, rb, rfl, h8⟩; have H8 := Lib.hid h8; clear h8)
        clear CJ HO HKC c0 c1 c2 c3 c4
        by_cases he : (k : Int) % 2 = 0
        · have de : ((k : Int) % 2 == 0) = true := by rw [he]; rfl
          have CC := Lib.hid (j_commit H8.out stable_emp hn1 hn2)
          go_upto_region 21 with (go_at_call 14; refine CC.out.mono ?_; rintro e w9 ⟨rfl, h9⟩; have H9 := Lib.hid h9; clear h9)
          clear CC H8 de he
          obtain ⟨m, N, hv⟩ := H9.out
          have HV := Lib.hid hv
          clear hv H9
          go_wp2_with fail
          go_loopg [11, 12] 32 (fun gh v11 v12 wl => ∃ j : Nat, j ≤ 32 ∧ gh = 32 - j ∧ v12 = .int .i64 (j : Int) ∧ v11 = .int .i64 (sumT N j : Int) ∧ sumT N j ≤ 38 * j ∧ VS w d n l V emp m N wl)
          case atStart => exact ⟨0, Nat.zero_le _, rfl, rfl, rfl, Nat.zero_le _, HV.out⟩
          case round =>
            clear HV
            obtain ⟨j, hj, rfl, rfl, rfl, hsum, hv⟩ := hrel
            have HV := Lib.hid hv
            clear hv
            by_cases hj2 : j < 32
            · have dj : decide (j < 32) = true := decide_eq_true hj2
              have dj2 : decide ((j : Int) < 32) = true := decide_eq_true (by omega)
              obtain ⟨n1, n2, n3⟩ := HV.out.node hj2
              have CST := Lib.hid (k_stat HV.out stable_emp hn1 hn2 (j : Int))
              have HSS := Lib.hid (sumT_succ N j)
              by_cases hkd : (N j).kind = 0
              · rw [find_free hj2 hkd, show statV N (j : Int) = statL i0 by unfold statV; rw [find_free hj2 hkd, if_pos (by decide)]; rfl] at CST
                have hz : sumT N (j + 1) = sumT N j := by
                  rw [HSS.out, n3 hkd]; rfl
                clear n1 n2 n3 HSS
                go_upto_region 26 with (first
                  | (go_at_call 31; refine CST.out.mono ?_; rintro e w10 ⟨rfl, h10⟩; have H10 := Lib.hid h10; clear h10)
                  | (refine wpList_alloc_blk rfl 56 stat0 rfl (HZ.out _) ?_)
                  | (refine wpList_store_row rfl _ _ _ rfl w10.heap.size (statL i0) rfl rfl _ _ (blk_new w10 _) (HI.out i0) rfl (H1S.out i0) ?_))
                have H11 := Lib.hid (vs_stat H10.out stable_emp (statL i0))
                generalize (World.setRow _ _ _) = w11 at *
                generalize w10.heap.size = g at *
                clear H10 CST HV
                go_wp2_with fail
                go_roundg (32 - (j + 1))
                case measure => omega
                case rel => exact ⟨j + 1, by omega, rfl, by go_num, by rw [hz], by omega, H11.out.2⟩
              · obtain ⟨si, hsi⟩ : ∃ si : Ino, si = ⟨(N j).kind, (N j).links, (N j).data.length, []⟩ := ⟨_, rfl⟩
                have hs2 : si.size = (N j).data.length := by rw [hsi]
                rw [find_ok hj2 hkd, show statV N (j : Int) = statL si by unfold statV; rw [find_ok hj2 hkd, if_neg (fun e => e rfl), Int.toNat_natCast, hsi]; rfl] at CST
                clear hsi
                have hb := takes_bound n1
                have CTK : Hid (∀ wx, Calls Tryz.prog 40 #[.int .i64 (si.size : Int)] wx fun e w' => e = .returned (.int .i64 (takesN (N j).data.length : Int)) ∧ w' = wx) := Lib.hid (fun wx => by
                  rw [hs2]; exact c_takes8 _ (by omega) wx)
                clear n1 n2 n3 hs2
                go_upto_region 26 with (first
                  | (go_at_call 31; refine CST.out.mono ?_; rintro e w10 ⟨rfl, h10⟩; have H10 := Lib.hid h10; clear h10)
                  | (refine wpList_alloc_blk rfl 56 stat0 rfl (HZ.out _) ?_)
                  | (refine wpList_store_row rfl _ _ _ rfl w10.heap.size (statL si) rfl rfl _ _ (blk_new w10 _) (HI.out si) rfl (H1S.out si) ?_))
                have H11 := Lib.hid (vs_stat H10.out stable_emp (statL si))
                generalize (World.setRow _ _ _) = w11 at *
                generalize w10.heap.size = g at *
                clear H10 CST HV
                have cs2 : w11.cell? ⟨g, 2, none⟩ = some (.int .i64 (si.size : Int)) := blk_cell H11.out.1 2 rfl
                have hz : sumT N (j + 1) = sumT N j + takesN (N j).data.length := HSS.out
                generalize takesN (N j).data.length = tk at *
                clear HSS
                go_wp2_with (go_at_call 40; refine (CTK.out _).mono ?_; rintro e w' ⟨rfl, hw'⟩; rw [hw']; clear hw' w')
                go_roundg (32 - (j + 1))
                case measure => omega
                case rel => exact ⟨j + 1, by omega, rfl, by go_num, by rw [hz]; go_num, by omega, H11.out.2⟩
            · obtain rfl : j = 32 := by omega
              have hr : roomN N n = (n : Int) - 9 - (sumT N 32 : Int) := rfl
              have CR := Lib.hid (k_room HV.out stable_emp hn1 hn2)
              have CH : Hid (∀ wx, VS w d n l V emp m N wx → _) := Lib.hid (fun wx hw => kv_home hw)
              rw [hr] at CR
              clear hr
              generalize sumT N 32 = S at *
              have hq : ((S : Int) + ((n : Int) - 9 - (S : Int)) == (n : Int) - 9) = true := by rw [show (S : Int) + ((n : Int) - 9 - (S : Int)) = (n : Int) - 9 by omega]; exact beq_self_eq_true _
              clear HV
              go_wp2_with (first
                | (go_at_call 25; refine CR.out.mono ?_; rintro e w12 ⟨rfl, h12⟩; have H12 := Lib.hid h12; clear h12)
                | (go_at_call 16; refine (CH.out _ H12.out).mono ?_; rintro e w' ⟨rfl, hw'⟩; rw [hw']; clear hw' w'))
              go_roundg (len - (k + 1))
              case measure => omega
              case rel => exact ⟨k + 1, by omega, rfl, by go_num, _, _, H12.out⟩
        · have de : ((k : Int) % 2 == 0) = false := beq_eq_false_iff_ne.2 he
          go_upto_region 21 with fail
          have H9 := H8
          clear H8 de he
          obtain ⟨m, N, hv⟩ := H9.out
          have HV := Lib.hid hv
          clear hv H9
          go_wp2_with fail
          go_loopg [11, 12] 32 (fun gh v11 v12 wl => ∃ j : Nat, j ≤ 32 ∧ gh = 32 - j ∧ v12 = .int .i64 (j : Int) ∧ v11 = .int .i64 (sumT N j : Int) ∧ sumT N j ≤ 38 * j ∧ VS w d n l V emp m N wl)
          case atStart => exact ⟨0, Nat.zero_le _, rfl, rfl, rfl, Nat.zero_le _, HV.out⟩
          case round =>
            clear HV
            obtain ⟨j, hj, rfl, rfl, rfl, hsum, hv⟩ := hrel
            have HV := Lib.hid hv
            clear hv
            by_cases hj2 : j < 32
            · have dj : decide (j < 32) = true := decide_eq_true hj2
              have dj2 : decide ((j : Int) < 32) = true := decide_eq_true (by omega)
              obtain ⟨n1, n2, n3⟩ := HV.out.node hj2
              have CST := Lib.hid (k_stat HV.out stable_emp hn1 hn2 (j : Int))
              have HSS := Lib.hid (sumT_succ N j)
              by_cases hkd : (N j).kind = 0
              · rw [find_free hj2 hkd, show statV N (j : Int) = statL i0 by unfold statV; rw [find_free hj2 hkd, if_pos (by decide)]; rfl] at CST
                have hz : sumT N (j + 1) = sumT N j := by
                  rw [HSS.out, n3 hkd]; rfl
                clear n1 n2 n3 HSS
                go_upto_region 26 with (first
                  | (go_at_call 31; refine CST.out.mono ?_; rintro e w10 ⟨rfl, h10⟩; have H10 := Lib.hid h10; clear h10)
                  | (refine wpList_alloc_blk rfl 56 stat0 rfl (HZ.out _) ?_)
                  | (refine wpList_store_row rfl _ _ _ rfl w10.heap.size (statL i0) rfl rfl _ _ (blk_new w10 _) (HI.out i0) rfl (H1S.out i0) ?_))
                have H11 := Lib.hid (vs_stat H10.out stable_emp (statL i0))
                generalize (World.setRow _ _ _) = w11 at *
                generalize w10.heap.size = g at *
                clear H10 CST HV
                go_wp2_with fail
                go_roundg (32 - (j + 1))
                case measure => omega
                case rel => exact ⟨j + 1, by omega, rfl, by go_num, by rw [hz], by omega, H11.out.2⟩
              · obtain ⟨si, hsi⟩ : ∃ si : Ino, si = ⟨(N j).kind, (N j).links, (N j).data.length, []⟩ := ⟨_, rfl⟩
                have hs2 : si.size = (N j).data.length := by rw [hsi]
                rw [find_ok hj2 hkd, show statV N (j : Int) = statL si by unfold statV; rw [find_ok hj2 hkd, if_neg (fun e => e rfl), Int.toNat_natCast, hsi]; rfl] at CST
                clear hsi
                have hb := takes_bound n1
                have CTK : Hid (∀ wx, Calls Tryz.prog 40 #[.int .i64 (si.size : Int)] wx fun e w' => e = .returned (.int .i64 (takesN (N j).data.length : Int)) ∧ w' = wx) := Lib.hid (fun wx => by
                  rw [hs2]; exact c_takes8 _ (by omega) wx)
                clear n1 n2 n3 hs2
                go_upto_region 26 with (first
                  | (go_at_call 31; refine CST.out.mono ?_; rintro e w10 ⟨rfl, h10⟩; have H10 := Lib.hid h10; clear h10)
                  | (refine wpList_alloc_blk rfl 56 stat0 rfl (HZ.out _) ?_)
                  | (refine wpList_store_row rfl _ _ _ rfl w10.heap.size (statL si) rfl rfl _ _ (blk_new w10 _) (HI.out si) rfl (H1S.out si) ?_))
                have H11 := Lib.hid (vs_stat H10.out stable_emp (statL si))
                generalize (World.setRow _ _ _) = w11 at *
                generalize w10.heap.size = g at *
                clear H10 CST HV
                have cs2 : w11.cell? ⟨g, 2, none⟩ = some (.int .i64 (si.size : Int)) := blk_cell H11.out.1 2 rfl
                have hz : sumT N (j + 1) = sumT N j + takesN (N j).data.length := HSS.out
                generalize takesN (N j).data.length = tk at *
                clear HSS
                go_wp2_with (go_at_call 40; refine (CTK.out _).mono ?_; rintro e w' ⟨rfl, hw'⟩; rw [hw']; clear hw' w')
                go_roundg (32 - (j + 1))
                case measure => omega
                case rel => exact ⟨j + 1, by omega, rfl, by go_num, by rw [hz]; go_num, by omega, H11.out.2⟩
            · obtain rfl : j = 32 := by omega
              have hr : roomN N n = (n : Int) - 9 - (sumT N 32 : Int) := rfl
              have CR := Lib.hid (k_room HV.out stable_emp hn1 hn2)
              have CH : Hid (∀ wx, VS w d n l V emp m N wx → _) := Lib.hid (fun wx hw => kv_home hw)
              rw [hr] at CR
              clear hr
              generalize sumT N 32 = S at *
              have hq : ((S : Int) + ((n : Int) - 9 - (S : Int)) == (n : Int) - 9) = true := by rw [show (S : Int) + ((n : Int) - 9 - (S : Int)) = (n : Int) - 9 by omega]; exact beq_self_eq_true _
              clear HV
              go_wp2_with (first
                | (go_at_call 25; refine CR.out.mono ?_; rintro e w12 ⟨rfl, h12⟩; have H12 := Lib.hid h12; clear h12)
                | (go_at_call 16; refine (CH.out _ H12.out).mono ?_; rintro e w' ⟨rfl, hw'⟩; rw [hw']; clear hw' w'))
              go_roundg (len - (k + 1))
              case measure => omega
              case rel => exact ⟨k + 1, by omega, rfl, by go_num, _, _, H12.out⟩
      · have b1 : (ak == 1) = false := beq_eq_false_iff_ne.2 a1
        by_cases a2 : ak = 2
        · subst a2
          have CJ := Lib.hid (j_free HO.out stable_emp hn1 hn2 an)
          go_upto_region 19 with (go_at_call 37; refine CJ.out.mono ?_; rintro e w8 ⟨ra, rfl, h8⟩; have H8 := Lib.hid h8; clear h8)
          clear CJ HO HKC c0 c1 c2 c3 c4
          by_cases he : (k : Int) % 2 = 0
          · have de : ((k : Int) % 2 == 0) = true := by rw [he]; rfl
            have CC := Lib.hid (j_commit H8.out stable_emp hn1 hn2)
            go_upto_region 21 with (go_at_call 14; refine CC.out.mono ?_; rintro e w9 ⟨rfl, h9⟩; have H9 := Lib.hid h9; clear h9)
            clear CC H8 de he
            obtain ⟨m, N, hv⟩ := H9.out
            have HV := Lib.hid hv
            clear hv H9
            go_wp2_with fail
            go_loopg [11, 12] 32 (fun gh v11 v12 wl => ∃ j : Nat, j ≤ 32 ∧ gh = 32 - j ∧ v12 = .int .i64 (j : Int) ∧ v11 = .int .i64 (sumT N j : Int) ∧ sumT N j ≤ 38 * j ∧ VS w d n l V emp m N wl)
            case atStart => exact ⟨0, Nat.zero_le _, rfl, rfl, rfl, Nat.zero_le _, HV.out⟩
            case round =>
              clear HV
              obtain ⟨j, hj, rfl, rfl, rfl, hsum, hv⟩ := hrel
              have HV := Lib.hid hv
              clear hv
              by_cases hj2 : j < 32
              · have dj : decide (j < 32) = true := decide_eq_true hj2
                have dj2 : decide ((j : Int) < 32) = true := decide_eq_true (by omega)
                obtain ⟨n1, n2, n3⟩ := HV.out.node hj2
                have CST := Lib.hid (k_stat HV.out stable_emp hn1 hn2 (j : Int))
                have HSS := Lib.hid (sumT_succ N j)
                by_cases hkd : (N j).kind = 0
                · rw [find_free hj2 hkd, show statV N (j : Int) = statL i0 by unfold statV; rw [find_free hj2 hkd, if_pos (by decide)]; rfl] at CST
                  have hz : sumT N (j + 1) = sumT N j := by
                    rw [HSS.out, n3 hkd]; rfl
                  clear n1 n2 n3 HSS
                  go_upto_region 26 with (first
                    | (go_at_call 31; refine CST.out.mono ?_; rintro e w10 ⟨rfl, h10⟩; have H10 := Lib.hid h10; clear h10)
                    | (refine wpList_alloc_blk rfl 56 stat0 rfl (HZ.out _) ?_)
                    | (refine wpList_store_row rfl _ _ _ rfl w10.heap.size (statL i0) rfl rfl _ _ (blk_new w10 _) (HI.out i0) rfl (H1S.out i0) ?_))
                  have H11 := Lib.hid (vs_stat H10.out stable_emp (statL i0))
                  generalize (World.setRow _ _ _) = w11 at *
                  generalize w10.heap.size = g at *
                  clear H10 CST HV
                  go_wp2_with fail
                  go_roundg (32 - (j + 1))
                  case measure => omega
                  case rel => exact ⟨j + 1, by omega, rfl, by go_num, by rw [hz], by omega, H11.out.2⟩
                · obtain ⟨si, hsi⟩ : ∃ si : Ino, si = ⟨(N j).kind, (N j).links, (N j).data.length, []⟩ := ⟨_, rfl⟩
                  have hs2 : si.size = (N j).data.length := by rw [hsi]
                  rw [find_ok hj2 hkd, show statV N (j : Int) = statL si by unfold statV; rw [find_ok hj2 hkd, if_neg (fun e => e rfl), Int.toNat_natCast, hsi]; rfl] at CST
                  clear hsi
                  have hb := takes_bound n1
                  have CTK : Hid (∀ wx, Calls Tryz.prog 40 #[.int .i64 (si.size : Int)] wx fun e w' => e = .returned (.int .i64 (takesN (N j).data.length : Int)) ∧ w' = wx) := Lib.hid (fun wx => by
                    rw [hs2]; exact c_takes8 _ (by omega) wx)
                  clear n1 n2 n3 hs2
                  go_upto_region 26 with (first
                    | (go_at_call 31; refine CST.out.mono ?_; rintro e w10 ⟨rfl, h10⟩; have H10 := Lib.hid h10; clear h10)
                    | (refine wpList_alloc_blk rfl 56 stat0 rfl (HZ.out _) ?_)
                    | (refine wpList_store_row rfl _ _ _ rfl w10.heap.size (statL si) rfl rfl _ _ (blk_new w10 _) (HI.out si) rfl (H1S.out si) ?_))
                  have H11 := Lib.hid (vs_stat H10.out stable_emp (statL si))
                  generalize (World.setRow _ _ _) = w11 at *
                  generalize w10.heap.size = g at *
                  clear H10 CST HV
                  have cs2 : w11.cell? ⟨g, 2, none⟩ = some (.int .i64 (si.size : Int)) := blk_cell H11.out.1 2 rfl
                  have hz : sumT N (j + 1) = sumT N j + takesN (N j).data.length := HSS.out
                  generalize takesN (N j).data.length = tk at *
                  clear HSS
                  go_wp2_with (go_at_call 40; refine (CTK.out _).mono ?_; rintro e w' ⟨rfl, hw'⟩; rw [hw']; clear hw' w')
                  go_roundg (32 - (j + 1))
                  case measure => omega
                  case rel => exact ⟨j + 1, by omega, rfl, by go_num, by rw [hz]; go_num, by omega, H11.out.2⟩
              · obtain rfl : j = 32 := by omega
                have hr : roomN N n = (n : Int) - 9 - (sumT N 32 : Int) := rfl
                have CR := Lib.hid (k_room HV.out stable_emp hn1 hn2)
                have CH : Hid (∀ wx, VS w d n l V emp m N wx → _) := Lib.hid (fun wx hw => kv_home hw)
                rw [hr] at CR
                clear hr
                generalize sumT N 32 = S at *
                have hq : ((S : Int) + ((n : Int) - 9 - (S : Int)) == (n : Int) - 9) = true := by rw [show (S : Int) + ((n : Int) - 9 - (S : Int)) = (n : Int) - 9 by omega]; exact beq_self_eq_true _
                clear HV
                go_wp2_with (first
                  | (go_at_call 25; refine CR.out.mono ?_; rintro e w12 ⟨rfl, h12⟩; have H12 := Lib.hid h12; clear h12)
                  | (go_at_call 16; refine (CH.out _ H12.out).mono ?_; rintro e w' ⟨rfl, hw'⟩; rw [hw']; clear hw' w'))
                go_roundg (len - (k + 1))
                case measure => omega
                case rel => exact ⟨k + 1, by omega, rfl, by go_num, _, _, H12.out⟩
          · have de : ((k : Int) % 2 == 0) = false := beq_eq_false_iff_ne.2 he
            go_upto_region 21 with fail
            have H9 := H8
            clear H8 de he
            obtain ⟨m, N, hv⟩ := H9.out
            have HV := Lib.hid hv
            clear hv H9
            go_wp2_with fail
            go_loopg [11, 12] 32 (fun gh v11 v12 wl => ∃ j : Nat, j ≤ 32 ∧ gh = 32 - j ∧ v12 = .int .i64 (j : Int) ∧ v11 = .int .i64 (sumT N j : Int) ∧ sumT N j ≤ 38 * j ∧ VS w d n l V emp m N wl)
            case atStart => exact ⟨0, Nat.zero_le _, rfl, rfl, rfl, Nat.zero_le _, HV.out⟩
            case round =>
              clear HV
              obtain ⟨j, hj, rfl, rfl, rfl, hsum, hv⟩ := hrel
              have HV := Lib.hid hv
              clear hv
              by_cases hj2 : j < 32
              · have dj : decide (j < 32) = true := decide_eq_true hj2
                have dj2 : decide ((j : Int) < 32) = true := decide_eq_true (by omega)
                obtain ⟨n1, n2, n3⟩ := HV.out.node hj2
                have CST := Lib.hid (k_stat HV.out stable_emp hn1 hn2 (j : Int))
                have HSS := Lib.hid (sumT_succ N j)
                by_cases hkd : (N j).kind = 0
                · rw [find_free hj2 hkd, show statV N (j : Int) = statL i0 by unfold statV; rw [find_free hj2 hkd, if_pos (by decide)]; rfl] at CST
                  have hz : sumT N (j + 1) = sumT N j := by
                    rw [HSS.out, n3 hkd]; rfl
                  clear n1 n2 n3 HSS
                  go_upto_region 26 with (first
                    | (go_at_call 31; refine CST.out.mono ?_; rintro e w10 ⟨rfl, h10⟩; have H10 := Lib.hid h10; clear h10)
                    | (refine wpList_alloc_blk rfl 56 stat0 rfl (HZ.out _) ?_)
                    | (refine wpList_store_row rfl _ _ _ rfl w10.heap.size (statL i0) rfl rfl _ _ (blk_new w10 _) (HI.out i0) rfl (H1S.out i0) ?_))
                  have H11 := Lib.hid (vs_stat H10.out stable_emp (statL i0))
                  generalize (World.setRow _ _ _) = w11 at *
                  generalize w10.heap.size = g at *
                  clear H10 CST HV
                  go_wp2_with fail
                  go_roundg (32 - (j + 1))
                  case measure => omega
                  case rel => exact ⟨j + 1, by omega, rfl, by go_num, by rw [hz], by omega, H11.out.2⟩
                · obtain ⟨si, hsi⟩ : ∃ si : Ino, si = ⟨(N j).kind, (N j).links, (N j).data.length, []⟩ := ⟨_, rfl⟩
                  have hs2 : si.size = (N j).data.length := by rw [hsi]
                  rw [find_ok hj2 hkd, show statV N (j : Int) = statL si by unfold statV; rw [find_ok hj2 hkd, if_neg (fun e => e rfl), Int.toNat_natCast, hsi]; rfl] at CST
                  clear hsi
                  have hb := takes_bound n1
                  have CTK : Hid (∀ wx, Calls Tryz.prog 40 #[.int .i64 (si.size : Int)] wx fun e w' => e = .returned (.int .i64 (takesN (N j).data.length : Int)) ∧ w' = wx) := Lib.hid (fun wx => by
                    rw [hs2]; exact c_takes8 _ (by omega) wx)
                  clear n1 n2 n3 hs2
                  go_upto_region 26 with (first
                    | (go_at_call 31; refine CST.out.mono ?_; rintro e w10 ⟨rfl, h10⟩; have H10 := Lib.hid h10; clear h10)
                    | (refine wpList_alloc_blk rfl 56 stat0 rfl (HZ.out _) ?_)
                    | (refine wpList_store_row rfl _ _ _ rfl w10.heap.size (statL si) rfl rfl _ _ (blk_new w10 _) (HI.out si) rfl (H1S.out si) ?_))
                  have H11 := Lib.hid (vs_stat H10.out stable_emp (statL si))
                  generalize (World.setRow _ _ _) = w11 at *
                  generalize w10.heap.size = g at *
                  clear H10 CST HV
                  have cs2 : w11.cell? ⟨g, 2, none⟩ = some (.int .i64 (si.size : Int)) := blk_cell H11.out.1 2 rfl
                  have hz : sumT N (j + 1) = sumT N j + takesN (N j).data.length := HSS.out
                  generalize takesN (N j).data.length = tk at *
                  clear HSS
                  go_wp2_with (go_at_call 40; refine (CTK.out _).mono ?_; rintro e w' ⟨rfl, hw'⟩; rw [hw']; clear hw' w')
                  go_roundg (32 - (j + 1))
                  case measure => omega
                  case rel => exact ⟨j + 1, by omega, rfl, by go_num, by rw [hz]; go_num, by omega, H11.out.2⟩
              · obtain rfl : j = 32 := by omega
                have hr : roomN N n = (n : Int) - 9 - (sumT N 32 : Int) := rfl
                have CR := Lib.hid (k_room HV.out stable_emp hn1 hn2)
                have CH : Hid (∀ wx, VS w d n l V emp m N wx → _) := Lib.hid (fun wx hw => kv_home hw)
                rw [hr] at CR
                clear hr
                generalize sumT N 32 = S at *
                have hq : ((S : Int) + ((n : Int) - 9 - (S : Int)) == (n : Int) - 9) = true := by rw [show (S : Int) + ((n : Int) - 9 - (S : Int)) = (n : Int) - 9 by omega]; exact beq_self_eq_true _
                clear HV
                go_wp2_with (first
                  | (go_at_call 25; refine CR.out.mono ?_; rintro e w12 ⟨rfl, h12⟩; have H12 := Lib.hid h12; clear h12)
                  | (go_at_call 16; refine (CH.out _ H12.out).mono ?_; rintro e w' ⟨rfl, hw'⟩; rw [hw']; clear hw' w'))
                go_roundg (len - (k + 1))
                case measure => omega
                case rel => exact ⟨k + 1, by omega, rfl, by go_num, _, _, H12.out⟩
        · have b2 : (ak == 2) = false := beq_eq_false_iff_ne.2 a2
          by_cases a6 : ak = 6
          · subst a6
            have CJ := Lib.hid (j_write (HO.out.gr stable_emp (Gr.drewN (Gr.refl _) 1)) stable_emp hn1 hn2 an ao ac)
            go_upto_region 16 with fail
            go_still_tail 16, (by kernel_rfl)
            go_upto_region 19 with (go_at_call 36; refine CJ.out.mono ?_; rintro e w8 ⟨ra, rfl, h8⟩; have H8 := Lib.hid h8; clear h8)
            clear CJ HO HKC c0 c1 c2 c3 c4
            by_cases he : (k : Int) % 2 = 0
            · have de : ((k : Int) % 2 == 0) = true := by rw [he]; rfl
              have CC := Lib.hid (j_commit H8.out stable_emp hn1 hn2)
              go_upto_region 21 with (go_at_call 14; refine CC.out.mono ?_; rintro e w9 ⟨rfl, h9⟩; have H9 := Lib.hid h9; clear h9)
              clear CC H8 de he
              obtain ⟨m, N, hv⟩ := H9.out
              have HV := Lib.hid hv
              clear hv H9
              go_wp2_with fail
              go_loopg [11, 12] 32 (fun gh v11 v12 wl => ∃ j : Nat, j ≤ 32 ∧ gh = 32 - j ∧ v12 = .int .i64 (j : Int) ∧ v11 = .int .i64 (sumT N j : Int) ∧ sumT N j ≤ 38 * j ∧ VS w d n l V emp m N wl)
              case atStart => exact ⟨0, Nat.zero_le _, rfl, rfl, rfl, Nat.zero_le _, HV.out⟩
              case round =>
                clear HV
                obtain ⟨j, hj, rfl, rfl, rfl, hsum, hv⟩ := hrel
                have HV := Lib.hid hv
                clear hv
                by_cases hj2 : j < 32
                · have dj : decide (j < 32) = true := decide_eq_true hj2
                  have dj2 : decide ((j : Int) < 32) = true := decide_eq_true (by omega)
                  obtain ⟨n1, n2, n3⟩ := HV.out.node hj2
                  have CST := Lib.hid (k_stat HV.out stable_emp hn1 hn2 (j : Int))
                  have HSS := Lib.hid (sumT_succ N j)
                  by_cases hkd : (N j).kind = 0
                  · rw [find_free hj2 hkd, show statV N (j : Int) = statL i0 by unfold statV; rw [find_free hj2 hkd, if_pos (by decide)]; rfl] at CST
                    have hz : sumT N (j + 1) = sumT N j := by
                      rw [HSS.out, n3 hkd]; rfl
                    clear n1 n2 n3 HSS
                    go_upto_region 26 with (first
                      | (go_at_call 31; refine CST.out.mono ?_; rintro e w10 ⟨rfl, h10⟩; have H10 := Lib.hid h10; clear h10)
                      | (refine wpList_alloc_blk rfl 56 stat0 rfl (HZ.out _) ?_)
                      | (refine wpList_store_row rfl _ _ _ rfl w10.heap.size (statL i0) rfl rfl _ _ (blk_new w10 _) (HI.out i0) rfl (H1S.out i0) ?_))
                    have H11 := Lib.hid (vs_stat H10.out stable_emp (statL i0))
                    generalize (World.setRow _ _ _) = w11 at *
                    generalize w10.heap.size = g at *
                    clear H10 CST HV
                    go_wp2_with fail
                    go_roundg (32 - (j + 1))
                    case measure => omega
                    case rel => exact ⟨j + 1, by omega, rfl, by go_num, by rw [hz], by omega, H11.out.2⟩
                  · obtain ⟨si, hsi⟩ : ∃ si : Ino, si = ⟨(N j).kind, (N j).links, (N j).data.length, []⟩ := ⟨_, rfl⟩
                    have hs2 : si.size = (N j).data.length := by rw [hsi]
                    rw [find_ok hj2 hkd, show statV N (j : Int) = statL si by unfold statV; rw [find_ok hj2 hkd, if_neg (fun e => e rfl), Int.toNat_natCast, hsi]; rfl] at CST
                    clear hsi
                    have hb := takes_bound n1
                    have CTK : Hid (∀ wx, Calls Tryz.prog 40 #[.int .i64 (si.size : Int)] wx fun e w' => e = .returned (.int .i64 (takesN (N j).data.length : Int)) ∧ w' = wx) := Lib.hid (fun wx => by
                      rw [hs2]; exact c_takes8 _ (by omega) wx)
                    clear n1 n2 n3 hs2
                    go_upto_region 26 with (first
                      | (go_at_call 31; refine CST.out.mono ?_; rintro e w10 ⟨rfl, h10⟩; have H10 := Lib.hid h10; clear h10)
                      | (refine wpList_alloc_blk rfl 56 stat0 rfl (HZ.out _) ?_)
                      | (refine wpList_store_row rfl _ _ _ rfl w10.heap.size (statL si) rfl rfl _ _ (blk_new w10 _) (HI.out si) rfl (H1S.out si) ?_))
                    have H11 := Lib.hid (vs_stat H10.out stable_emp (statL si))
                    generalize (World.setRow _ _ _) = w11 at *
                    generalize w10.heap.size = g at *
                    clear H10 CST HV
                    have cs2 : w11.cell? ⟨g, 2, none⟩ = some (.int .i64 (si.size : Int)) := blk_cell H11.out.1 2 rfl
                    have hz : sumT N (j + 1) = sumT N j + takesN (N j).data.length := HSS.out
                    generalize takesN (N j).data.length = tk at *
                    clear HSS
                    go_wp2_with (go_at_call 40; refine (CTK.out _).mono ?_; rintro e w' ⟨rfl, hw'⟩; rw [hw']; clear hw' w')
                    go_roundg (32 - (j + 1))
                    case measure => omega
                    case rel => exact ⟨j + 1, by omega, rfl, by go_num, by rw [hz]; go_num, by omega, H11.out.2⟩
                · obtain rfl : j = 32 := by omega
                  have hr : roomN N n = (n : Int) - 9 - (sumT N 32 : Int) := rfl
                  have CR := Lib.hid (k_room HV.out stable_emp hn1 hn2)
                  have CH : Hid (∀ wx, VS w d n l V emp m N wx → _) := Lib.hid (fun wx hw => kv_home hw)
                  rw [hr] at CR
                  clear hr
                  generalize sumT N 32 = S at *
                  have hq : ((S : Int) + ((n : Int) - 9 - (S : Int)) == (n : Int) - 9) = true := by rw [show (S : Int) + ((n : Int) - 9 - (S : Int)) = (n : Int) - 9 by omega]; exact beq_self_eq_true _
                  clear HV
                  go_wp2_with (first
                    | (go_at_call 25; refine CR.out.mono ?_; rintro e w12 ⟨rfl, h12⟩; have H12 := Lib.hid h12; clear h12)
                    | (go_at_call 16; refine (CH.out _ H12.out).mono ?_; rintro e w' ⟨rfl, hw'⟩; rw [hw']; clear hw' w'))
                  go_roundg (len - (k + 1))
                  case measure => omega
                  case rel => exact ⟨k + 1, by omega, rfl, by go_num, _, _, H12.out⟩
            · have de : ((k : Int) % 2 == 0) = false := beq_eq_false_iff_ne.2 he
              go_upto_region 21 with fail
              have H9 := H8
              clear H8 de he
              obtain ⟨m, N, hv⟩ := H9.out
              have HV := Lib.hid hv
              clear hv H9
              go_wp2_with fail
              go_loopg [11, 12] 32 (fun gh v11 v12 wl => ∃ j : Nat, j ≤ 32 ∧ gh = 32 - j ∧ v12 = .int .i64 (j : Int) ∧ v11 = .int .i64 (sumT N j : Int) ∧ sumT N j ≤ 38 * j ∧ VS w d n l V emp m N wl)
              case atStart => exact ⟨0, Nat.zero_le _, rfl, rfl, rfl, Nat.zero_le _, HV.out⟩
              case round =>
                clear HV
                obtain ⟨j, hj, rfl, rfl, rfl, hsum, hv⟩ := hrel
                have HV := Lib.hid hv
                clear hv
                by_cases hj2 : j < 32
                · have dj : decide (j < 32) = true := decide_eq_true hj2
                  have dj2 : decide ((j : Int) < 32) = true := decide_eq_true (by omega)
                  obtain ⟨n1, n2, n3⟩ := HV.out.node hj2
                  have CST := Lib.hid (k_stat HV.out stable_emp hn1 hn2 (j : Int))
                  have HSS := Lib.hid (sumT_succ N j)
                  by_cases hkd : (N j).kind = 0
                  · rw [find_free hj2 hkd, show statV N (j : Int) = statL i0 by unfold statV; rw [find_free hj2 hkd, if_pos (by decide)]; rfl] at CST
                    have hz : sumT N (j + 1) = sumT N j := by
                      rw [HSS.out, n3 hkd]; rfl
                    clear n1 n2 n3 HSS
                    go_upto_region 26 with (first
                      | (go_at_call 31; refine CST.out.mono ?_; rintro e w10 ⟨rfl, h10⟩; have H10 := Lib.hid h10; clear h10)
                      | (refine wpList_alloc_blk rfl 56 stat0 rfl (HZ.out _) ?_)
                      | (refine wpList_store_row rfl _ _ _ rfl w10.heap.size (statL i0) rfl rfl _ _ (blk_new w10 _) (HI.out i0) rfl (H1S.out i0) ?_))
                    have H11 := Lib.hid (vs_stat H10.out stable_emp (statL i0))
                    generalize (World.setRow _ _ _) = w11 at *
                    generalize w10.heap.size = g at *
                    clear H10 CST HV
                    go_wp2_with fail
                    go_roundg (32 - (j + 1))
                    case measure => omega
                    case rel => exact ⟨j + 1, by omega, rfl, by go_num, by rw [hz], by omega, H11.out.2⟩
                  · obtain ⟨si, hsi⟩ : ∃ si : Ino, si = ⟨(N j).kind, (N j).links, (N j).data.length, []⟩ := ⟨_, rfl⟩
                    have hs2 : si.size = (N j).data.length := by rw [hsi]
                    rw [find_ok hj2 hkd, show statV N (j : Int) = statL si by unfold statV; rw [find_ok hj2 hkd, if_neg (fun e => e rfl), Int.toNat_natCast, hsi]; rfl] at CST
                    clear hsi
                    have hb := takes_bound n1
                    have CTK : Hid (∀ wx, Calls Tryz.prog 40 #[.int .i64 (si.size : Int)] wx fun e w' => e = .returned (.int .i64 (takesN (N j).data.length : Int)) ∧ w' = wx) := Lib.hid (fun wx => by
                      rw [hs2]; exact c_takes8 _ (by omega) wx)
                    clear n1 n2 n3 hs2
                    go_upto_region 26 with (first
                      | (go_at_call 31; refine CST.out.mono ?_; rintro e w10 ⟨rfl, h10⟩; have H10 := Lib.hid h10; clear h10)
                      | (refine wpList_alloc_blk rfl 56 stat0 rfl (HZ.out _) ?_)
                      | (refine wpList_store_row rfl _ _ _ rfl w10.heap.size (statL si) rfl rfl _ _ (blk_new w10 _) (HI.out si) rfl (H1S.out si) ?_))
                    have H11 := Lib.hid (vs_stat H10.out stable_emp (statL si))
                    generalize (World.setRow _ _ _) = w11 at *
                    generalize w10.heap.size = g at *
                    clear H10 CST HV
                    have cs2 : w11.cell? ⟨g, 2, none⟩ = some (.int .i64 (si.size : Int)) := blk_cell H11.out.1 2 rfl
                    have hz : sumT N (j + 1) = sumT N j + takesN (N j).data.length := HSS.out
                    generalize takesN (N j).data.length = tk at *
                    clear HSS
                    go_wp2_with (go_at_call 40; refine (CTK.out _).mono ?_; rintro e w' ⟨rfl, hw'⟩; rw [hw']; clear hw' w')
                    go_roundg (32 - (j + 1))
                    case measure => omega
                    case rel => exact ⟨j + 1, by omega, rfl, by go_num, by rw [hz]; go_num, by omega, H11.out.2⟩
                · obtain rfl : j = 32 := by omega
                  have hr : roomN N n = (n : Int) - 9 - (sumT N 32 : Int) := rfl
                  have CR := Lib.hid (k_room HV.out stable_emp hn1 hn2)
                  have CH : Hid (∀ wx, VS w d n l V emp m N wx → _) := Lib.hid (fun wx hw => kv_home hw)
                  rw [hr] at CR
                  clear hr
                  generalize sumT N 32 = S at *
                  have hq : ((S : Int) + ((n : Int) - 9 - (S : Int)) == (n : Int) - 9) = true := by rw [show (S : Int) + ((n : Int) - 9 - (S : Int)) = (n : Int) - 9 by omega]; exact beq_self_eq_true _
                  clear HV
                  go_wp2_with (first
                    | (go_at_call 25; refine CR.out.mono ?_; rintro e w12 ⟨rfl, h12⟩; have H12 := Lib.hid h12; clear h12)
                    | (go_at_call 16; refine (CH.out _ H12.out).mono ?_; rintro e w' ⟨rfl, hw'⟩; rw [hw']; clear hw' w'))
                  go_roundg (len - (k + 1))
                  case measure => omega
                  case rel => exact ⟨k + 1, by omega, rfl, by go_num, _, _, H12.out⟩
          · have b6 : (ak == 6) = false := beq_eq_false_iff_ne.2 a6
            by_cases a7 : ak = 7
            · subst a7
              have CJ := Lib.hid (j_cut (HO.out.gr stable_emp (Gr.drewN (Gr.refl _) 1)) stable_emp hn1 hn2 an ao)
              go_upto_region 18 with fail
              go_still_tail 11, (by kernel_rfl)
              go_upto_region 19 with (go_at_call 39; refine CJ.out.mono ?_; rintro e w8 ⟨ra, rfl, h8⟩; have H8 := Lib.hid h8; clear h8)
              clear CJ HO HKC c0 c1 c2 c3 c4
              by_cases he : (k : Int) % 2 = 0
              · have de : ((k : Int) % 2 == 0) = true := by rw [he]; rfl
                have CC := Lib.hid (j_commit H8.out stable_emp hn1 hn2)
                go_upto_region 21 with (go_at_call 14; refine CC.out.mono ?_; rintro e w9 ⟨rfl, h9⟩; have H9 := Lib.hid h9; clear h9)
                clear CC H8 de he
                obtain ⟨m, N, hv⟩ := H9.out
                have HV := Lib.hid hv
                clear hv H9
                go_wp2_with fail
                go_loopg [11, 12] 32 (fun gh v11 v12 wl => ∃ j : Nat, j ≤ 32 ∧ gh = 32 - j ∧ v12 = .int .i64 (j : Int) ∧ v11 = .int .i64 (sumT N j : Int) ∧ sumT N j ≤ 38 * j ∧ VS w d n l V emp m N wl)
                case atStart => exact ⟨0, Nat.zero_le _, rfl, rfl, rfl, Nat.zero_le _, HV.out⟩
                case round =>
                  clear HV
                  obtain ⟨j, hj, rfl, rfl, rfl, hsum, hv⟩ := hrel
                  have HV := Lib.hid hv
                  clear hv
                  by_cases hj2 : j < 32
                  · have dj : decide (j < 32) = true := decide_eq_true hj2
                    have dj2 : decide ((j : Int) < 32) = true := decide_eq_true (by omega)
                    obtain ⟨n1, n2, n3⟩ := HV.out.node hj2
                    have CST := Lib.hid (k_stat HV.out stable_emp hn1 hn2 (j : Int))
                    have HSS := Lib.hid (sumT_succ N j)
                    by_cases hkd : (N j).kind = 0
                    · rw [find_free hj2 hkd, show statV N (j : Int) = statL i0 by unfold statV; rw [find_free hj2 hkd, if_pos (by decide)]; rfl] at CST
                      have hz : sumT N (j + 1) = sumT N j := by
                        rw [HSS.out, n3 hkd]; rfl
                      clear n1 n2 n3 HSS
                      go_upto_region 26 with (first
                        | (go_at_call 31; refine CST.out.mono ?_; rintro e w10 ⟨rfl, h10⟩; have H10 := Lib.hid h10; clear h10)
                        | (refine wpList_alloc_blk rfl 56 stat0 rfl (HZ.out _) ?_)
                        | (refine wpList_store_row rfl _ _ _ rfl w10.heap.size (statL i0) rfl rfl _ _ (blk_new w10 _) (HI.out i0) rfl (H1S.out i0) ?_))
                      have H11 := Lib.hid (vs_stat H10.out stable_emp (statL i0))
                      generalize (World.setRow _ _ _) = w11 at *
                      generalize w10.heap.size = g at *
                      clear H10 CST HV
                      go_wp2_with fail
                      go_roundg (32 - (j + 1))
                      case measure => omega
                      case rel => exact ⟨j + 1, by omega, rfl, by go_num, by rw [hz], by omega, H11.out.2⟩
                    · obtain ⟨si, hsi⟩ : ∃ si : Ino, si = ⟨(N j).kind, (N j).links, (N j).data.length, []⟩ := ⟨_, rfl⟩
                      have hs2 : si.size = (N j).data.length := by rw [hsi]
                      rw [find_ok hj2 hkd, show statV N (j : Int) = statL si by unfold statV; rw [find_ok hj2 hkd, if_neg (fun e => e rfl), Int.toNat_natCast, hsi]; rfl] at CST
                      clear hsi
                      have hb := takes_bound n1
                      have CTK : Hid (∀ wx, Calls Tryz.prog 40 #[.int .i64 (si.size : Int)] wx fun e w' => e = .returned (.int .i64 (takesN (N j).data.length : Int)) ∧ w' = wx) := Lib.hid (fun wx => by
                        rw [hs2]; exact c_takes8 _ (by omega) wx)
                      clear n1 n2 n3 hs2
                      go_upto_region 26 with (first
                        | (go_at_call 31; refine CST.out.mono ?_; rintro e w10 ⟨rfl, h10⟩; have H10 := Lib.hid h10; clear h10)
                        | (refine wpList_alloc_blk rfl 56 stat0 rfl (HZ.out _) ?_)
                        | (refine wpList_store_row rfl _ _ _ rfl w10.heap.size (statL si) rfl rfl _ _ (blk_new w10 _) (HI.out si) rfl (H1S.out si) ?_))
                      have H11 := Lib.hid (vs_stat H10.out stable_emp (statL si))
                      generalize (World.setRow _ _ _) = w11 at *
                      generalize w10.heap.size = g at *
                      clear H10 CST HV
                      have cs2 : w11.cell? ⟨g, 2, none⟩ = some (.int .i64 (si.size : Int)) := blk_cell H11.out.1 2 rfl
                      have hz : sumT N (j + 1) = sumT N j + takesN (N j).data.length := HSS.out
                      generalize takesN (N j).data.length = tk at *
                      clear HSS
                      go_wp2_with (go_at_call 40; refine (CTK.out _).mono ?_; rintro e w' ⟨rfl, hw'⟩; rw [hw']; clear hw' w')
                      go_roundg (32 - (j + 1))
                      case measure => omega
                      case rel => exact ⟨j + 1, by omega, rfl, by go_num, by rw [hz]; go_num, by omega, H11.out.2⟩
                  · obtain rfl : j = 32 := by omega
                    have hr : roomN N n = (n : Int) - 9 - (sumT N 32 : Int) := rfl
                    have CR := Lib.hid (k_room HV.out stable_emp hn1 hn2)
                    have CH : Hid (∀ wx, VS w d n l V emp m N wx → _) := Lib.hid (fun wx hw => kv_home hw)
                    rw [hr] at CR
                    clear hr
                    generalize sumT N 32 = S at *
                    have hq : ((S : Int) + ((n : Int) - 9 - (S : Int)) == (n : Int) - 9) = true := by rw [show (S : Int) + ((n : Int) - 9 - (S : Int)) = (n : Int) - 9 by omega]; exact beq_self_eq_true _
                    clear HV
                    go_wp2_with (first
                      | (go_at_call 25; refine CR.out.mono ?_; rintro e w12 ⟨rfl, h12⟩; have H12 := Lib.hid h12; clear h12)
                      | (go_at_call 16; refine (CH.out _ H12.out).mono ?_; rintro e w' ⟨rfl, hw'⟩; rw [hw']; clear hw' w'))
                    go_roundg (len - (k + 1))
                    case measure => omega
                    case rel => exact ⟨k + 1, by omega, rfl, by go_num, _, _, H12.out⟩
              · have de : ((k : Int) % 2 == 0) = false := beq_eq_false_iff_ne.2 he
                go_upto_region 21 with fail
                have H9 := H8
                clear H8 de he
                obtain ⟨m, N, hv⟩ := H9.out
                have HV := Lib.hid hv
                clear hv H9
                go_wp2_with fail
                go_loopg [11, 12] 32 (fun gh v11 v12 wl => ∃ j : Nat, j ≤ 32 ∧ gh = 32 - j ∧ v12 = .int .i64 (j : Int) ∧ v11 = .int .i64 (sumT N j : Int) ∧ sumT N j ≤ 38 * j ∧ VS w d n l V emp m N wl)
                case atStart => exact ⟨0, Nat.zero_le _, rfl, rfl, rfl, Nat.zero_le _, HV.out⟩
                case round =>
                  clear HV
                  obtain ⟨j, hj, rfl, rfl, rfl, hsum, hv⟩ := hrel
                  have HV := Lib.hid hv
                  clear hv
                  by_cases hj2 : j < 32
                  · have dj : decide (j < 32) = true := decide_eq_true hj2
                    have dj2 : decide ((j : Int) < 32) = true := decide_eq_true (by omega)
                    obtain ⟨n1, n2, n3⟩ := HV.out.node hj2
                    have CST := Lib.hid (k_stat HV.out stable_emp hn1 hn2 (j : Int))
                    have HSS := Lib.hid (sumT_succ N j)
                    by_cases hkd : (N j).kind = 0
                    · rw [find_free hj2 hkd, show statV N (j : Int) = statL i0 by unfold statV; rw [find_free hj2 hkd, if_pos (by decide)]; rfl] at CST
                      have hz : sumT N (j + 1) = sumT N j := by
                        rw [HSS.out, n3 hkd]; rfl
                      clear n1 n2 n3 HSS
                      go_upto_region 26 with (first
                        | (go_at_call 31; refine CST.out.mono ?_; rintro e w10 ⟨rfl, h10⟩; have H10 := Lib.hid h10; clear h10)
                        | (refine wpList_alloc_blk rfl 56 stat0 rfl (HZ.out _) ?_)
                        | (refine wpList_store_row rfl _ _ _ rfl w10.heap.size (statL i0) rfl rfl _ _ (blk_new w10 _) (HI.out i0) rfl (H1S.out i0) ?_))
                      have H11 := Lib.hid (vs_stat H10.out stable_emp (statL i0))
                      generalize (World.setRow _ _ _) = w11 at *
                      generalize w10.heap.size = g at *
                      clear H10 CST HV
                      go_wp2_with fail
                      go_roundg (32 - (j + 1))
                      case measure => omega
                      case rel => exact ⟨j + 1, by omega, rfl, by go_num, by rw [hz], by omega, H11.out.2⟩
                    · obtain ⟨si, hsi⟩ : ∃ si : Ino, si = ⟨(N j).kind, (N j).links, (N j).data.length, []⟩ := ⟨_, rfl⟩
                      have hs2 : si.size = (N j).data.length := by rw [hsi]
                      rw [find_ok hj2 hkd, show statV N (j : Int) = statL si by unfold statV; rw [find_ok hj2 hkd, if_neg (fun e => e rfl), Int.toNat_natCast, hsi]; rfl] at CST
                      clear hsi
                      have hb := takes_bound n1
                      have CTK : Hid (∀ wx, Calls Tryz.prog 40 #[.int .i64 (si.size : Int)] wx fun e w' => e = .returned (.int .i64 (takesN (N j).data.length : Int)) ∧ w' = wx) := Lib.hid (fun wx => by
                        rw [hs2]; exact c_takes8 _ (by omega) wx)
                      clear n1 n2 n3 hs2
                      go_upto_region 26 with (first
                        | (go_at_call 31; refine CST.out.mono ?_; rintro e w10 ⟨rfl, h10⟩; have H10 := Lib.hid h10; clear h10)
                        | (refine wpList_alloc_blk rfl 56 stat0 rfl (HZ.out _) ?_)
                        | (refine wpList_store_row rfl _ _ _ rfl w10.heap.size (statL si) rfl rfl _ _ (blk_new w10 _) (HI.out si) rfl (H1S.out si) ?_))
                      have H11 := Lib.hid (vs_stat H10.out stable_emp (statL si))
                      generalize (World.setRow _ _ _) = w11 at *
                      generalize w10.heap.size = g at *
                      clear H10 CST HV
                      have cs2 : w11.cell? ⟨g, 2, none⟩ = some (.int .i64 (si.size : Int)) := blk_cell H11.out.1 2 rfl
                      have hz : sumT N (j + 1) = sumT N j + takesN (N j).data.length := HSS.out
                      generalize takesN (N j).data.length = tk at *
                      clear HSS
                      go_wp2_with (go_at_call 40; refine (CTK.out _).mono ?_; rintro e w' ⟨rfl, hw'⟩; rw [hw']; clear hw' w')
                      go_roundg (32 - (j + 1))
                      case measure => omega
                      case rel => exact ⟨j + 1, by omega, rfl, by go_num, by rw [hz]; go_num, by omega, H11.out.2⟩
                  · obtain rfl : j = 32 := by omega
                    have hr : roomN N n = (n : Int) - 9 - (sumT N 32 : Int) := rfl
                    have CR := Lib.hid (k_room HV.out stable_emp hn1 hn2)
                    have CH : Hid (∀ wx, VS w d n l V emp m N wx → _) := Lib.hid (fun wx hw => kv_home hw)
                    rw [hr] at CR
                    clear hr
                    generalize sumT N 32 = S at *
                    have hq : ((S : Int) + ((n : Int) - 9 - (S : Int)) == (n : Int) - 9) = true := by rw [show (S : Int) + ((n : Int) - 9 - (S : Int)) = (n : Int) - 9 by omega]; exact beq_self_eq_true _
                    clear HV
                    go_wp2_with (first
                      | (go_at_call 25; refine CR.out.mono ?_; rintro e w12 ⟨rfl, h12⟩; have H12 := Lib.hid h12; clear h12)
                      | (go_at_call 16; refine (CH.out _ H12.out).mono ?_; rintro e w' ⟨rfl, hw'⟩; rw [hw']; clear hw' w'))
                    go_roundg (len - (k + 1))
                    case measure => omega
                    case rel => exact ⟨k + 1, by omega, rfl, by go_num, _, _, H12.out⟩
            · have b7 : (ak == 7) = false := beq_eq_false_iff_ne.2 a7
              go_upto_region 19 with fail
              have H8 := HO
              clear HO HKC c0 c1 c2 c3 c4
              by_cases he : (k : Int) % 2 = 0
              · have de : ((k : Int) % 2 == 0) = true := by rw [he]; rfl
                have CC := Lib.hid (j_commit H8.out stable_emp hn1 hn2)
                go_upto_region 21 with (go_at_call 14; refine CC.out.mono ?_; rintro e w9 ⟨rfl, h9⟩; have H9 := Lib.hid h9; clear h9)
                clear CC H8 de he
                obtain ⟨m, N, hv⟩ := H9.out
                have HV := Lib.hid hv
                clear hv H9
                go_wp2_with fail
                go_loopg [11, 12] 32 (fun gh v11 v12 wl => ∃ j : Nat, j ≤ 32 ∧ gh = 32 - j ∧ v12 = .int .i64 (j : Int) ∧ v11 = .int .i64 (sumT N j : Int) ∧ sumT N j ≤ 38 * j ∧ VS w d n l V emp m N wl)
                case atStart => exact ⟨0, Nat.zero_le _, rfl, rfl, rfl, Nat.zero_le _, HV.out⟩
                case round =>
                  clear HV
                  obtain ⟨j, hj, rfl, rfl, rfl, hsum, hv⟩ := hrel
                  have HV := Lib.hid hv
                  clear hv
                  by_cases hj2 : j < 32
                  · have dj : decide (j < 32) = true := decide_eq_true hj2
                    have dj2 : decide ((j : Int) < 32) = true := decide_eq_true (by omega)
                    obtain ⟨n1, n2, n3⟩ := HV.out.node hj2
                    have CST := Lib.hid (k_stat HV.out stable_emp hn1 hn2 (j : Int))
                    have HSS := Lib.hid (sumT_succ N j)
                    by_cases hkd : (N j).kind = 0
                    · rw [find_free hj2 hkd, show statV N (j : Int) = statL i0 by unfold statV; rw [find_free hj2 hkd, if_pos (by decide)]; rfl] at CST
                      have hz : sumT N (j + 1) = sumT N j := by
                        rw [HSS.out, n3 hkd]; rfl
                      clear n1 n2 n3 HSS
                      go_upto_region 26 with (first
                        | (go_at_call 31; refine CST.out.mono ?_; rintro e w10 ⟨rfl, h10⟩; have H10 := Lib.hid h10; clear h10)
                        | (refine wpList_alloc_blk rfl 56 stat0 rfl (HZ.out _) ?_)
                        | (refine wpList_store_row rfl _ _ _ rfl w10.heap.size (statL i0) rfl rfl _ _ (blk_new w10 _) (HI.out i0) rfl (H1S.out i0) ?_))
                      have H11 := Lib.hid (vs_stat H10.out stable_emp (statL i0))
                      generalize (World.setRow _ _ _) = w11 at *
                      generalize w10.heap.size = g at *
                      clear H10 CST HV
                      go_wp2_with fail
                      go_roundg (32 - (j + 1))
                      case measure => omega
                      case rel => exact ⟨j + 1, by omega, rfl, by go_num, by rw [hz], by omega, H11.out.2⟩
                    · obtain ⟨si, hsi⟩ : ∃ si : Ino, si = ⟨(N j).kind, (N j).links, (N j).data.length, []⟩ := ⟨_, rfl⟩
                      have hs2 : si.size = (N j).data.length := by rw [hsi]
                      rw [find_ok hj2 hkd, show statV N (j : Int) = statL si by unfold statV; rw [find_ok hj2 hkd, if_neg (fun e => e rfl), Int.toNat_natCast, hsi]; rfl] at CST
                      clear hsi
                      have hb := takes_bound n1
                      have CTK : Hid (∀ wx, Calls Tryz.prog 40 #[.int .i64 (si.size : Int)] wx fun e w' => e = .returned (.int .i64 (takesN (N j).data.length : Int)) ∧ w' = wx) := Lib.hid (fun wx => by
                        rw [hs2]; exact c_takes8 _ (by omega) wx)
                      clear n1 n2 n3 hs2
                      go_upto_region 26 with (first
                        | (go_at_call 31; refine CST.out.mono ?_; rintro e w10 ⟨rfl, h10⟩; have H10 := Lib.hid h10; clear h10)
                        | (refine wpList_alloc_blk rfl 56 stat0 rfl (HZ.out _) ?_)
                        | (refine wpList_store_row rfl _ _ _ rfl w10.heap.size (statL si) rfl rfl _ _ (blk_new w10 _) (HI.out si) rfl (H1S.out si) ?_))
                      have H11 := Lib.hid (vs_stat H10.out stable_emp (statL si))
                      generalize (World.setRow _ _ _) = w11 at *
                      generalize w10.heap.size = g at *
                      clear H10 CST HV
                      have cs2 : w11.cell? ⟨g, 2, none⟩ = some (.int .i64 (si.size : Int)) := blk_cell H11.out.1 2 rfl
                      have hz : sumT N (j + 1) = sumT N j + takesN (N j).data.length := HSS.out
                      generalize takesN (N j).data.length = tk at *
                      clear HSS
                      go_wp2_with (go_at_call 40; refine (CTK.out _).mono ?_; rintro e w' ⟨rfl, hw'⟩; rw [hw']; clear hw' w')
                      go_roundg (32 - (j + 1))
                      case measure => omega
                      case rel => exact ⟨j + 1, by omega, rfl, by go_num, by rw [hz]; go_num, by omega, H11.out.2⟩
                  · obtain rfl : j = 32 := by omega
                    have hr : roomN N n = (n : Int) - 9 - (sumT N 32 : Int) := rfl
                    have CR := Lib.hid (k_room HV.out stable_emp hn1 hn2)
                    have CH : Hid (∀ wx, VS w d n l V emp m N wx → _) := Lib.hid (fun wx hw => kv_home hw)
                    rw [hr] at CR
                    clear hr
                    generalize sumT N 32 = S at *
                    have hq : ((S : Int) + ((n : Int) - 9 - (S : Int)) == (n : Int) - 9) = true := by rw [show (S : Int) + ((n : Int) - 9 - (S : Int)) = (n : Int) - 9 by omega]; exact beq_self_eq_true _
                    clear HV
                    go_wp2_with (first
                      | (go_at_call 25; refine CR.out.mono ?_; rintro e w12 ⟨rfl, h12⟩; have H12 := Lib.hid h12; clear h12)
                      | (go_at_call 16; refine (CH.out _ H12.out).mono ?_; rintro e w' ⟨rfl, hw'⟩; rw [hw']; clear hw' w'))
                    go_roundg (len - (k + 1))
                    case measure => omega
                    case rel => exact ⟨k + 1, by omega, rfl, by go_num, _, _, H12.out⟩
              · have de : ((k : Int) % 2 == 0) = false := beq_eq_false_iff_ne.2 he
                go_upto_region 21 with fail
                have H9 := H8
                clear H8 de he
                obtain ⟨m, N, hv⟩ := H9.out
                have HV := Lib.hid hv
                clear hv H9
                go_wp2_with fail
                go_loopg [11, 12] 32 (fun gh v11 v12 wl => ∃ j : Nat, j ≤ 32 ∧ gh = 32 - j ∧ v12 = .int .i64 (j : Int) ∧ v11 = .int .i64 (sumT N j : Int) ∧ sumT N j ≤ 38 * j ∧ VS w d n l V emp m N wl)
                case atStart => exact ⟨0, Nat.zero_le _, rfl, rfl, rfl, Nat.zero_le _, HV.out⟩
                case round =>
                  clear HV
                  obtain ⟨j, hj, rfl, rfl, rfl, hsum, hv⟩ := hrel
                  have HV := Lib.hid hv
                  clear hv
                  by_cases hj2 : j < 32
                  · have dj : decide (j < 32) = true := decide_eq_true hj2
                    have dj2 : decide ((j : Int) < 32) = true := decide_eq_true (by omega)
                    obtain ⟨n1, n2, n3⟩ := HV.out.node hj2
                    have CST := Lib.hid (k_stat HV.out stable_emp hn1 hn2 (j : Int))
                    have HSS := Lib.hid (sumT_succ N j)
                    by_cases hkd : (N j).kind = 0
                    · rw [find_free hj2 hkd, show statV N (j : Int) = statL i0 by unfold statV; rw [find_free hj2 hkd, if_pos (by decide)]; rfl] at CST
                      have hz : sumT N (j + 1) = sumT N j := by
                        rw [HSS.out, n3 hkd]; rfl
                      clear n1 n2 n3 HSS
                      go_upto_region 26 with (first
                        | (go_at_call 31; refine CST.out.mono ?_; rintro e w10 ⟨rfl, h10⟩; have H10 := Lib.hid h10; clear h10)
                        | (refine wpList_alloc_blk rfl 56 stat0 rfl (HZ.out _) ?_)
                        | (refine wpList_store_row rfl _ _ _ rfl w10.heap.size (statL i0) rfl rfl _ _ (blk_new w10 _) (HI.out i0) rfl (H1S.out i0) ?_))
                      have H11 := Lib.hid (vs_stat H10.out stable_emp (statL i0))
                      generalize (World.setRow _ _ _) = w11 at *
                      generalize w10.heap.size = g at *
                      clear H10 CST HV
                      go_wp2_with fail
                      go_roundg (32 - (j + 1))
                      case measure => omega
                      case rel => exact ⟨j + 1, by omega, rfl, by go_num, by rw [hz], by omega, H11.out.2⟩
                    · obtain ⟨si, hsi⟩ : ∃ si : Ino, si = ⟨(N j).kind, (N j).links, (N j).data.length, []⟩ := ⟨_, rfl⟩
                      have hs2 : si.size = (N j).data.length := by rw [hsi]
                      rw [find_ok hj2 hkd, show statV N (j : Int) = statL si by unfold statV; rw [find_ok hj2 hkd, if_neg (fun e => e rfl), Int.toNat_natCast, hsi]; rfl] at CST
                      clear hsi
                      have hb := takes_bound n1
                      have CTK : Hid (∀ wx, Calls Tryz.prog 40 #[.int .i64 (si.size : Int)] wx fun e w' => e = .returned (.int .i64 (takesN (N j).data.length : Int)) ∧ w' = wx) := Lib.hid (fun wx => by
                        rw [hs2]; exact c_takes8 _ (by omega) wx)
                      clear n1 n2 n3 hs2
                      go_upto_region 26 with (first
                        | (go_at_call 31; refine CST.out.mono ?_; rintro e w10 ⟨rfl, h10⟩; have H10 := Lib.hid h10; clear h10)
                        | (refine wpList_alloc_blk rfl 56 stat0 rfl (HZ.out _) ?_)
                        | (refine wpList_store_row rfl _ _ _ rfl w10.heap.size (statL si) rfl rfl _ _ (blk_new w10 _) (HI.out si) rfl (H1S.out si) ?_))
                      have H11 := Lib.hid (vs_stat H10.out stable_emp (statL si))
                      generalize (World.setRow _ _ _) = w11 at *
                      generalize w10.heap.size = g at *
                      clear H10 CST HV
                      have cs2 : w11.cell? ⟨g, 2, none⟩ = some (.int .i64 (si.size : Int)) := blk_cell H11.out.1 2 rfl
                      have hz : sumT N (j + 1) = sumT N j + takesN (N j).data.length := HSS.out
                      generalize takesN (N j).data.length = tk at *
                      clear HSS
                      go_wp2_with (go_at_call 40; refine (CTK.out _).mono ?_; rintro e w' ⟨rfl, hw'⟩; rw [hw']; clear hw' w')
                      go_roundg (32 - (j + 1))
                      case measure => omega
                      case rel => exact ⟨j + 1, by omega, rfl, by go_num, by rw [hz]; go_num, by omega, H11.out.2⟩
                  · obtain rfl : j = 32 := by omega
                    have hr : roomN N n = (n : Int) - 9 - (sumT N 32 : Int) := rfl
                    have CR := Lib.hid (k_room HV.out stable_emp hn1 hn2)
                    have CH : Hid (∀ wx, VS w d n l V emp m N wx → _) := Lib.hid (fun wx hw => kv_home hw)
                    rw [hr] at CR
                    clear hr
                    generalize sumT N 32 = S at *
                    have hq : ((S : Int) + ((n : Int) - 9 - (S : Int)) == (n : Int) - 9) = true := by rw [show (S : Int) + ((n : Int) - 9 - (S : Int)) = (n : Int) - 9 by omega]; exact beq_self_eq_true _
                    clear HV
                    go_wp2_with (first
                      | (go_at_call 25; refine CR.out.mono ?_; rintro e w12 ⟨rfl, h12⟩; have H12 := Lib.hid h12; clear h12)
                      | (go_at_call 16; refine (CH.out _ H12.out).mono ?_; rintro e w' ⟨rfl, hw'⟩; rw [hw']; clear hw' w'))
                    go_roundg (len - (k + 1))
                    case measure => omega
                    case rel => exact ⟨k + 1, by omega, rfl, by go_num, _, _, H12.out⟩
    · obtain rfl : k = len := by omega
      have dl : decide (k < k) = false := decide_eq_false (by omega)
      have HG := Lib.hid HO.out.sub
      clear HO
      go_wp2_with fail
      go_ret
      exact ⟨rfl, HG.out⟩
end Go.Proofs.YtlpcccpagmipnaaGreat.P
