/- Stage 7: LogWhole. No condition. -/
import Derived.Test.YtgaibknhdaeidaaA47
set_option linter.unusedVariables false
set_option maxRecDepth 50000
namespace Go.Proofs.Ytgaibknhdaeidaa.P
open Go.RowKit
def inV (o1 : Option Addr) (len cap : Nat) (oI oS : Option Addr) (cI cS nI nS : Nat) (p : Int) (oK : Option Addr) (cK nK : Nat) : Array Value := #[.slice o1 len cap, .slice oI nI cI, .slice oS nS cS, .int .i64 p, .slice oK nK cK]
set_option maxHeartbeats 12800000 in
set_option maxRecDepth 100000 in
theorem l_whole7 (w : World) (o1 : Option Addr) (len cap bl off : Nat) (oI oS : Option Addr) (cI cS : Nat) (I : List Int) (S : List ByteArray) (p : Int) (oK : Option Addr) (cK : Nat) (K : List Int)
    (hlen : len ≤ 4000000000000000) (ho : 0 < len → o1 = some ⟨bl, off, none⟩) (hT : ∀ k, k < len → TxAt w bl off k)
    (hI : RowI w oI I) (hS : RowS w oS S) (hlI : I.length ≤ 4000000000000000) (hlS : S.length ≤ 4000000000000000) (hss : ∀ s ∈ S, s.size ≤ 9223372036854770000) (hp : i64 p) (hlK : K.length ≤ 4000000000000000) (hK : RowU w oK K) (hKu : ∀ q ∈ K, u64 q) :
    Calls Try.prog 3 #[.agg #[.slice o1 len cap, .slice oI I.length cI, .slice oS S.length cS, .int .i64 p, .slice oK K.length cK]] w fun e w' => e = .returned (.bool true) ∧ Gr w w' := by
  obtain ⟨wA, hwA⟩ : ∃ wA, wA = (w.alloc (.cells #[.slice o1 len cap, .slice oI I.length cI, .slice oS S.length cS, .int .i64 p, .slice oK K.length cK] 29)).alloc (.cells #[.slice oI I.length cI, .slice oS S.length cS] 26) := ⟨_, rfl⟩
  have g1 : Gr w (w.alloc (.cells #[.slice o1 len cap, .slice oI I.length cI, .slice oS S.length cS, .int .i64 p, .slice oK K.length cK] 29)) := (Gr.refl w).alloc (Nat.le_refl _) _
  have gA : Gr w wA := by rw [hwA]; exact g1.alloc g1.size _
  have hb1 : wA.heap[w.heap.size + 1]? = some (.cells #[.slice oI I.length cI, .slice oS S.length cS] 26) := by
    rw [hwA]
    have := blk_new (w.alloc (.cells #[.slice o1 len cap, .slice oI I.length cI, .slice oS S.length cS, .int .i64 p, .slice oK K.length cK] 29)) (.cells #[.slice oI I.length cI, .slice oS S.length cS] 26)
    rw [show (w.alloc (.cells #[.slice o1 len cap, .slice oI I.length cI, .slice oS S.length cS, .int .i64 p, .slice oK K.length cK] 29)).heap.size = w.heap.size + 1 by simp] at this
    exact this
  have CSH := Lib.hid (c_shown7 wA)
  have CN : Hid (∀ w1, Gr wA w1 → Calls Try.prog 11 #[.int .i64 60] w1 fun e w' => ∃ d, e = .returned (.tuple #[ptr d, .int .i64 0]) ∧ Own wA w' (Star (dsk d zG) emp)) := Lib.hid (fun w1 g => o_new (Own.start g) stable_emp 60 (by omega) (by omega))
  have HB1 := Lib.hid hb1
  have GA := Lib.hid gA
  have HT := Lib.hid (fun k hk => TxAt.gr (hT k hk) gA)
  have HO := Lib.hid ho
  have HI := Lib.hid (hI.gr gA)
  have HS := Lib.hid (hS.gr gA)
  have HSS := Lib.hid hss
  have HK := Lib.hid (hK.gr gA)
  have HKU := Lib.hid hKu
  clear hT ho hI hS hss hK hKu hb1 gA g1
  have sE := stable_emp
  have cG : Clean zG 60 := clean_new 60 (by omega) (by omega)
  obtain ⟨hp0, hp1⟩ := hp
  go_enter Try.func3, Try.ntmps3
  go_upto_region 5 with fail
  rw [← hwA]
  clear hwA
  go_upto_region 6 with (go_at_call 10; refine CSH.out.mono ?_; rintro e w1 ⟨rfl, h1⟩; have H1 := Lib.hid h1; clear h1)
  go_upto_region 7 with (go_at_call 11; refine (CN.out _ H1.out).mono ?_; rintro e w2 ⟨d, rfl, h2⟩; have H2 := Lib.hid h2; clear h2)
  clear CSH CN
  go_upto_region 12 with (go_at_call 12; refine (o_open_ok H2.out sE (sz_new 60) (by show 0 ≤ _; omega) zG (ex_new 60 (by omega))).mono ?_; rintro e w3 ⟨l, mb, rfl, h3⟩; have H3 := Lib.hid h3; clear h3)
  go_upto_block 0 with fail
  go_cut [11] (fun u wx => ∃ z : DState, u = .int .i64 0 ∧ Clean z 60 ∧ Own wA wx (DL d z l mb [] false emp))
  case first =>
    go_wp2_with fail
    go_loopw [11, 12] (fun u v wr => ∃ (k : Nat) (z : DState), k ≤ len ∧ k ≤ 20 ∧ u = .int .i64 0 ∧ v = .int .i64 k ∧ Clean z 60 ∧ Own wA wr (DL d z l mb [] false emp)) (fun _ v _ => len - (intOf v).toNat)
    case atStart => exact ⟨0, zG, Nat.zero_le _, by omega, rfl, rfl, cG, H3.out⟩
    case round =>
      obtain ⟨k, z, hk, hk20, rfl, rfl, hc, hh⟩ := hrel
      have HH := Lib.hid hh
      clear hh
      by_cases hlt : k < len ∧ k < 20
      · obtain ⟨l1, l2⟩ := hlt
        have dl : decide (k < len) = true := decide_eq_true l1
        have oe := HO.out (by omega)
        subst oe
        obtain ⟨oI, oS, cI, cS, I, S, q0, q1, hI, hS, hlI, hlS, hss⟩ := HT.out k l1
        have d0 := kcell HH.out.sub q0
        have d1 := kcell HH.out.sub q1
        have CE := Lib.hid (e_setsC hc HH.out oI oS cI cS I S hI hS hlI hlS hss)
        clear q0 q1 hI hS hss
        go_upto_region 16 with (go_at_call 13; refine CE.out.mono ?_; rintro e w6 ⟨rfl, st, hst, h6⟩; have H6 := Lib.hid h6; clear h6)
        go_wp2_with (go_at_call 14; refine (o_comm H6.out sE hc (by omega) (by omega) hst).mono ?_; rintro e w7 ⟨rfl, h7⟩; have H7 := Lib.hid h7; clear h7)
        go_roundw
        case rel => exact ⟨k + 1, commZ st z, by omega, by omega, rfl, by go_num, (comm_clean hc (by omega) hst).1, H7.out⟩
        case measure => simp [intOf]; omega
      · have hcase : (¬ k < len) ∨ (k < len ∧ ¬ k < 20) := by omega
        clear hlt
        rcases hcase with c1 | ⟨c1, c2⟩
        all_goals
          go_wp2_with fail
          go_meet
          exact ⟨z, rfl, hc, HH.out⟩
  case rest =>
    obtain ⟨z, rfl, hc, hh⟩ := hcut
    have HH := Lib.hid hh
    clear hh H3 H2 H1 HT HO cG
    go_upto_region 20 with (go_at_call 15; refine (o_homes HH.out sE (by rw [hc.still]; simp) 28 hc.len).mono ?_; rintro e w8 ⟨ga, ca, rfl, h8⟩; have H8 := Lib.hid h8; clear h8)
    have sA : Stable (Star (rowV (.slice (some ⟨ga, 0, none⟩) 28 ca) 28 (homeL false z [] 28)) emp) := stable_star (stable_row _ _ _ _ _) sE
    have hbx := blk_gr H8.out.sub HB1.out
    have t0 := blk_cell hbx 0 (v := .slice oI I.length cI) rfl
    have t1 := blk_cell hbx 1 (v := .slice oS S.length cS) rfl
    clear hbx
    have CE := o_sets H8.out sA (by rw [hc.len]; exact ok_nil 60) oI oS cI cS I S HI.out HS.out hlI hlS HSS.out
    rw [hc.len] at CE
    have CE := Lib.hid CE
    have hst : okSt 60 (setsF 60 [] (I.zip S)) := ok_sets _ _ (ok_nil 60)
    generalize setsF 60 [] (I.zip S) = st at *
    have HST := Lib.hid hst
    clear hst
    go_upto_region 21 with (go_at_call 13; refine CE.out.mono ?_; rintro e w9 ⟨rfl, h9⟩; have H9 := Lib.hid h9; clear h9)
    clear t0 t1 CE
    go_upto_region 22 with (go_at_call 15; refine (o_homes H9.out sA (by rw [hc.still]; simp) 28 hc.len).mono ?_; rintro e w10 ⟨gb, cb, rfl, h10⟩; have H10 := Lib.hid h10; clear h10)
    have sB : Stable (Star (rowV (.slice (some ⟨gb, 0, none⟩) 28 cb) 28 (homeL false z st 28)) (Star (rowV (.slice (some ⟨ga, 0, none⟩) 28 ca) 28 (homeL false z [] 28)) emp)) := stable_star (stable_row _ _ _ _ _) sA
    go_upto_if 75 with fail
    go_cut [5] (fun v wx => ∃ pp : Int, v = .int .i64 pp ∧ 0 ≤ pp ∧ pp ≤ 9223372036854775807 ∧ wx = w10)
    case first =>
      by_cases hn : p < 0
      all_goals
        go_wp2_with fail
        go_meet
        first | exact ⟨0, rfl, by omega, by omega, rfl⟩ | exact ⟨p, rfl, by omega, by omega, rfl⟩
    case rest =>
      obtain ⟨pp, rfl, pp0, pp1, rfl⟩ := hcut
      go_upto_region 25 with (go_at_call 16; refine (o_power H10.out (stable_star (stable_lg _ _ _ _ _) sB) pp pp1).mono ?_; rintro e w11 ⟨rfl, h11⟩; have H11 := Lib.hid h11; clear h11)
      have HX := Lib.hid (kx_start (by omega) (by omega) hc HST.out pp pp1)
      have CC := e_commK H11.out sB HST.out (by show z.wait.length ≤ _; rw [hc.still]; simp)
      generalize commQ st (powZ z pp) = q at *
      obtain ⟨q1, q2⟩ := q
      dsimp only at CC
      have CC := Lib.hid CC
      have HX := Lib.hid (id HX.out : KX 60 st (fun i => getS z.safe (32 + i)) (fun i => (lookS (i : Int) st).getD (getS z.safe (32 + i))) (decide (q1 = 0)) 200 q2)
      go_upto_region 26 with (go_at_call 14; refine CC.out.mono ?_; rintro e w12 ⟨rfl, h12⟩; have H12 := Lib.hid h12; clear h12)
      clear CC
      obtain ⟨RK, hRK⟩ : ∃ RK, RK = Star (lgA l d mb [] (!decide (q1 = 0))) (Star (rowV (.slice (some ⟨gb, 0, none⟩) 28 cb) 28 (homeL false z st 28)) (Star (rowV (.slice (some ⟨ga, 0, none⟩) 28 ca) 28 (homeL false z [] 28)) emp)) := ⟨_, rfl⟩
      have sRK : Stable RK := by rw [hRK]; exact stable_star (stable_lg _ _ _ _ _) sB
      have h13 : Own wA w12 (Star (dsk d q2) RK) := by rw [hRK]; exact H12.out
      have HRK := Lib.hid hRK
      have H13 := Lib.hid h13
      clear hRK h13 H12 H11 H10 H9 H8
      generalize hwon : decide (q1 = 0) = won at *
      have HWON := Lib.hid hwon
      clear hwon
      go_upto_block 2 with fail
      go_cut [] (fun wx => ∃ (m : Nat) (zz : DState), m ≤ 2000 ∧ KX 60 st (fun i => getS z.safe (32 + i)) (fun i => (lookS (i : Int) st).getD (getS z.safe (32 + i))) won m zz ∧ Own wA wx (Star (dsk d zz) RK))
      case first =>
        go_wp2_with fail
        go_loopw [15] (fun v wr => ∃ (k : Nat) (zz : DState), k ≤ K.length ∧ k ≤ 20 ∧ v = .int .i64 k ∧ KX 60 st (fun i => getS z.safe (32 + i)) (fun i => (lookS (i : Int) st).getD (getS z.safe (32 + i))) won (200 + 40 * k) zz ∧ Own wA wr (Star (dsk d zz) RK)) (fun v _ => K.length - (intOf v).toNat)
        case atStart => exact ⟨0, q2, Nat.zero_le _, by omega, rfl, HX.out, H13.out⟩
        case round =>
          obtain ⟨k, zz, hk, hk20, rfl, hx, hh⟩ := hrel
          have HH := Lib.hid hh
          have KH := Lib.hid hx
          clear hh hx
          by_cases hlt : k < K.length ∧ k < 20
          · obtain ⟨l1, l2⟩ := hlt
            have dl : decide (k < K.length) = true := decide_eq_true l1
            have hkc : K[k]? = some K[k] := List.getElem?_eq_getElem l1
            have hu := HKU.out _ (List.getElem_mem l1)
            generalize K[k] = kv at *
            obtain ⟨b, off2, rfl, c⟩ := HK.out k _ hkc
            have HKC := Lib.hid hkc
            have HC := Lib.hid c
            clear hkc
            obtain ⟨hu0, hu1⟩ := hu
            have hfew := kx_few KH.out
            have c1 := kcell HH.out.sub HC.out
            clear c
            go_upto_region 30 with (go_at_call 17; refine (o_crash HH.out sRK kv ⟨hu0, hu1⟩ (by omega)).mono ?_; rintro e w14 ⟨rfl, h14⟩; have H14 := Lib.hid h14; have c2 := kcell h14.sub HC.out; clear h14)
            have h7 : kv % 7 ≤ 9223372036854775807 := by omega
            have h70 : 0 ≤ kv % 7 := by omega
            go_upto_region 31 with (go_at_call 16; refine (o_power H14.out sRK (kv % 7) (by omega)).mono ?_; rintro e w15 ⟨rfl, h15⟩; have H15 := Lib.hid h15; clear h15)
            go_wp2_with (go_at_call 12; refine (e_openK H15.out sRK (sz_pow _ (sz_crash _ (kx_sz KH.out) kv) _) (by show 0 ≤ _; omega)).mono ?_; rintro e w16 ⟨⟨o16, r16, rfl⟩, h16⟩; have H16 := Lib.hid h16; clear h16)
            have hnx := Lib.hid (kx_round (by omega) (by omega) KH.out kv (kv % 7) h7)
            go_roundw
            case rel => exact ⟨k + 1, _, by omega, by omega, by go_num, hnx.out, H16.out⟩
            case measure => simp [intOf]; omega
          · have hcase : (¬ k < K.length) ∨ (k < K.length ∧ ¬ k < 20) := by omega
            clear hlt
            rcases hcase with c1 | ⟨c1, c2⟩
            all_goals
              go_wp2_with fail
              go_meet
              exact ⟨_, zz, by omega, KH.out, HH.out⟩
      case rest =>
        obtain ⟨m, zz, hm, hx, hh⟩ := hcut
        have HH := Lib.hid hh
        have KH := Lib.hid hx
        clear hh hx HX H13 HK HKU
        have hfew := kx_few KH.out
        obtain ⟨hl0, hcf, hend⟩ := kx_last (by omega) (by omega) KH.out
        have HEND := Lib.hid (whole_end hc hcf hend)
        have hLf := homeL_len false (openQ (crashZ zz 0)).2 [] 28
        have hLa := homeL_len false z [] 28
        have hLb := homeL_len false z st 28
        have HLF := Lib.hid hLf
        have HLA := Lib.hid hLa
        have HLB := Lib.hid hLb
        clear hLf hLa hLb hend hl0
        go_upto_region 33 with (go_at_call 17; refine (o_crash HH.out sRK 0 ⟨by omega, by omega⟩ (by omega)).mono ?_; rintro e w17 ⟨rfl, h17⟩; have H17 := Lib.hid h17; clear h17)
        go_upto_region 36 with (go_at_call 12; refine (e_openL (by omega) KH.out H17.out sRK).mono ?_; rintro e w18 ⟨lf, mf, rfl, h18⟩; have H18 := Lib.hid h18; clear h18)
        generalize (openQ (crashZ zz 0)).2 = zf at *
        go_upto_region 37 with (go_at_call 15; refine (o_homes H18.out sRK (by rw [hcf.still]; simp) 28 hcf.len).mono ?_; rintro e w19 ⟨gf, cf, rfl, h19⟩; have H19 := Lib.hid h19; clear h19)
        have sF : Stable (DL d zf lf mf [] false (Star (rowV (.slice (some ⟨gf, 0, none⟩) 28 cf) 28 (homeL false zf [] 28)) RK)) := stable_dl _ _ _ _ _ _ (stable_star (stable_row _ _ _ _ _) sRK)
        have P1 : Hid (∀ wq, Own wA wq (DL d zf lf mf [] false (Star (rowV (.slice (some ⟨gf, 0, none⟩) 28 cf) 28 (homeL false zf [] 28)) RK)) → Own wA wq (Star (rowV (.slice (some ⟨gf, 0, none⟩) 28 cf) 28 (homeL false zf [] 28)) emp) ∧ Own wA wq (Star (rowV (.slice (some ⟨gb, 0, none⟩) 28 cb) 28 (homeL false z st 28)) emp) ∧ Own wA wq (Star (rowV (.slice (some ⟨ga, 0, none⟩) 28 ca) 28 (homeL false z [] 28)) emp)) :=
          Lib.hid (fun wq h => by
            have h2 := h.right.right.right
            rw [HRK.out] at h2
            exact ⟨h.right.right.top1, h2.right.top1, h2.right.right⟩)
        have CS1 := Lib.hid (e_sameR HLF.out HLA.out (P1.out _ H19.out).1 (P1.out _ H19.out).2.2)
        generalize sameB (homeL false zf [] 28) (homeL false z [] 28) = s1 at *
        go_upto_region 38 with (go_at_call 18; refine CS1.out.mono ?_; rintro e w20 ⟨rfl, g20⟩; have H20 := Lib.hid (H19.out.gr sF g20); clear g20)
        have CS2 := Lib.hid (e_sameR HLF.out HLB.out (P1.out _ H20.out).1 (P1.out _ H20.out).2.1)
        generalize sameB (homeL false zf [] 28) (homeL false z st 28) = s2 at *
        go_upto_region 39 with (go_at_call 18; refine CS2.out.mono ?_; rintro e w21 ⟨rfl, g21⟩; have H21 := Lib.hid (H20.out.gr sF g21); clear g21)
        have hwq := HWON.out
        have hen := HEND.out
        by_cases hq1 : q1 = 0
        · subst hq1
          have : won = true := by rw [← hwq]; rfl
          subst this
          have e2 : s2 = true := by
            rcases hen with ⟨e, _⟩ | e
            · cases e
            · exact e
          subst e2
          clear hen hwq
          go_wp2_with fail
          go_ret
          exact ⟨rfl, gtrans GA.out H21.out.sub⟩
        · have hqb : (q1 == 0) = false := by simp [hq1]
          have hs : s1 = true ∨ s2 = true := by
            rcases hen with ⟨_, e⟩ | e
            · exact .inl e
            · exact .inr e
          clear hen hwq hq1
          rcases hs with rfl | rfl
          · go_wp2_with fail
            go_ret
            exact ⟨rfl, gtrans GA.out H21.out.sub⟩
          · cases s1
            all_goals
              go_wp2_with fail
              go_ret
              exact ⟨rfl, gtrans GA.out H21.out.sub⟩
end Go.Proofs.Ytgaibknhdaeidaa.P
