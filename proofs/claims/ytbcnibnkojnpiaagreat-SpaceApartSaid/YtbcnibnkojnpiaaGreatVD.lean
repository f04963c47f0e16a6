/- Stage 11: acts over both pools. No condition. -/
import Derived.Test.YtbcnibnkojnpiaaGreatVC
import Derived.Deep.CutBlock
set_option linter.unusedVariables false
set_option linter.unusedSimpArgs false
set_option maxRecDepth 100000
namespace Go.Proofs.YtbcnibnkojnpiaaGreat.P
open Go.RowKit Go.MuLone Go.Maps Go.Proofs.YtbcnibnkojnpiaaGreat.W
def SActs (w : World) (bl off len : Nat) (f : Nat → SAct) : Prop :=
  ∀ i, i < len → (f i).ok ∧ w.cell? ⟨bl, off + i * 7, none⟩ = some (.int .i64 (f i).kind) ∧ w.cell? ⟨bl, off + i * 7 + 1, none⟩ = some (.int .i64 (f i).which) ∧ w.cell? ⟨bl, off + i * 7 + 2, none⟩ = some (.int .i64 (f i).page) ∧ w.cell? ⟨bl, off + i * 7 + 3, none⟩ = some (.int .i64 (f i).n) ∧ w.cell? ⟨bl, off + i * 7 + 4, none⟩ = some (.int .u64 (f i).bits) ∧ w.cell? ⟨bl, off + i * 7 + 5, none⟩ = some (.int .u64 (f i).at_) ∧ w.cell? ⟨bl, off + i * 7 + 6, none⟩ = some (.string (f i).s)
theorem intInfo7 : (Tryz.prog.info? 3).map (fun i => (i.zero, i.size, i.bytes)) = some (some (.int .i64 0), 1, 8) := by kernel_rfl
set_option maxHeartbeats 25600000 in
theorem c_plays11 {w0 w : World} {pb b rp rb : Nat} {z0 : Sp} {N : Nat} {R : Asn} (h : Own w0 w (Star (plA pb b 0 z0.L z0.s) (Star (rpA rp rb 0 z0.L z0.s) R))) (hR : Stable R) (hp : Pl N z0 []) (oa : Option Addr) (len cap bl off : Nat) (f : Nat → SAct) (hlen : len ≤ maxLen) (hoa : 0 < len → oa = some ⟨bl, off, none⟩) (hl : SActs w0 bl off len f) :
    Calls Tryz.prog 8 #[.pointer (some ⟨pb, 0, none⟩), .pointer (some ⟨rp, 0, none⟩), .slice oa len cap] w fun e w' => ∃ (z : Sp) (rs : List Nat) (o : Option Addr) (c : Nat), e = .returned (.tuple #[.slice o rs.length c, .bool true]) ∧ Pl N z rs ∧ Own w0 w' (Star (plA pb b 0 z.L z.s) (Star (rpA rp rb 0 z.L z.s) (Star (rowA 3 1 (.slice o rs.length c) rs.length (tbI rs)) R))) := by
  have HR := Lib.hid hR
  have HA := Lib.hid hl
  have HOA := Lib.hid hoa
  have HP := Lib.hid hp
  unfold maxLen at hlen
  have SRP := Lib.hid (fun (x : Sp) => stable_rp rp rb 0 x.L x.s)
  have SPL := Lib.hid (fun (x : Sp) => stable_pl pb b 0 x.L x.s)
  obtain ⟨i0, hi0, hz0, hz1, hz2⟩ := info_parts intInfo7
  have A2 : RowKit.Hid (Own w0 w (Star (plA pb b 0 z0.L z0.s) (Star (rpA rp rb 0 z0.L z0.s) (Star (rowA 3 1 (.slice none 0 0) 0 []) R)))) := Lib.hid ((h.add (stable_star (SPL.out z0) (stable_star (SRP.out z0) HR.out)) (Gr.refl _) (A := rowA 3 1 (.slice none 0 0) 0 []) ⟨fun _ => False, ⟨⟨rfl, .inl ⟨rfl, rfl⟩⟩, fun b hb => by cases hb⟩, fun x hx => hx.elim⟩).rot3')
  clear h hR hl hoa hp
  go_enter Tryz.func8, Tryz.ntmps8
  go_wp2_with fail
  go_loopg [8, 9] (len + 1) (fun t v8 v9 wr => ∃ (k : Nat) (z : Sp) (rs : List Nat) (o : Option Addr) (c : Nat), k ≤ len ∧ t = len + 1 - k ∧ v9 = .int .i64 (k : Int) ∧ v8 = .slice o rs.length c ∧ Pl N z rs ∧ Own w0 wr (Star (plA pb b 0 z.L z.s) (Star (rpA rp rb 0 z.L z.s) (Star (rowA 3 1 (.slice o rs.length c) rs.length (tbI rs)) R))))
  case atStart => exact ⟨0, z0, [], none, 0, by omega, rfl, rfl, rfl, HP.out, A2.out⟩
  case round =>
    clear A2 HP
    obtain ⟨k, z, rs, o, c, hk, rfl, rfl, rfl, hpl, ho⟩ := hrel
    have HO := Lib.hid ho
    have HPL := Lib.hid hpl
    obtain ⟨rl256, _⟩ := hpl.len
    clear ho hpl
    have SB := Lib.hid (stable_star (stable_row 3 1 (.slice o rs.length c) rs.length (tbI rs)) HR.out)
    by_cases hlt : k < len
    · have hoa := HOA.out (by omega)
      subst hoa
      obtain ⟨hok, a0, a1, a2, a3, a4, a5, a6⟩ := HA.out k hlt
      have HOK := Lib.hid hok
      have C0 := Lib.hid a0
      have C1 := Lib.hid a1
      have CS := Lib.hid (show w0.cell? ⟨bl, off + k * 7 + 2, none⟩ = some (.int .i64 (f k).page) ∧ w0.cell? ⟨bl, off + k * 7 + 3, none⟩ = some (.int .i64 (f k).n) ∧ w0.cell? ⟨bl, off + k * 7 + 4, none⟩ = some (.int .u64 (f k).bits) ∧ w0.cell? ⟨bl, off + k * 7 + 5, none⟩ = some (.int .u64 (f k).at_) ∧ w0.cell? ⟨bl, off + k * 7 + 6, none⟩ = some (.string (f k).s) from ⟨a2, a3, a4, a5, a6⟩)
      have DOES := Lib.hid (fun w1 z own R hR h hw r hr hri => c_does11 (w0 := w0) (w := w1) (pb := pb) (b := b) (rp := rp) (rb := rb) (z := z) (own := own) (R := R) h hR hw r hr hri (f k) hok)
      have PDO := Lib.hid (fun r hr => HPL.out.does r hr (f k) hok)
      obtain ⟨a, ha⟩ : ∃ a, f k = a := ⟨_, rfl⟩
      rw [ha] at HOK C0 C1 CS DOES PDO
      clear hok a0 a1 a2 a3 a4 a5 a6 ha
      obtain ⟨kk, wh, pgn, nn, bts, ata, ss⟩ := a
      replace C0 : RowKit.Hid (w0.cell? ⟨bl, off + k * 7, none⟩ = some (.int .i64 kk)) := C0
      replace C1 : RowKit.Hid (w0.cell? ⟨bl, off + k * 7 + 1, none⟩ = some (.int .i64 wh)) := C1
      replace CS : RowKit.Hid (w0.cell? ⟨bl, off + k * 7 + 2, none⟩ = some (.int .i64 pgn) ∧ w0.cell? ⟨bl, off + k * 7 + 3, none⟩ = some (.int .i64 nn) ∧ w0.cell? ⟨bl, off + k * 7 + 4, none⟩ = some (.int .u64 bts) ∧ w0.cell? ⟨bl, off + k * 7 + 5, none⟩ = some (.int .u64 ata) ∧ w0.cell? ⟨bl, off + k * 7 + 6, none⟩ = some (.string ss)) := CS
      have m1 : (k : Int) < (len : Int) := by omega
      have m3 : 0 ≤ (k : Int) := by omega
      have m4 : (k : Int).toNat = k := by omega
      have e5 : IntKind.i64.wrap ((k : Int) + 1) = (k : Int) + 1 := wrapI _ (by omega) (by omega)
      have WH := Lib.hid (c_which rs o c wh rl256 wr HO.out.right.right.row)
      obtain ⟨RV, hRV⟩ : ∃ x, whichF rs wh = x := ⟨_, rfl⟩
      rw [hRV] at WH
      have HRV := Lib.hid hRV
      clear hRV
      have c0 := HO.out.cell C0.out
      have c1 := HO.out.cell C1.out
      go_upto_region 6 with (go_at_call 27; refine WH.out.mono ?_; rintro e wk ⟨rfl, hwk⟩; rw [hwk]; clear hwk wk)
      clear WH
      go_cut [11] (fun v11 wx => v11 = .bool (ownF rs wh) ∧ wx = wr)
      case first =>
        have hd : (0 ≤ wh ∧ wh < (rs.length : Int)) ∨ (0 ≤ wh ∧ ¬ wh < (rs.length : Int)) ∨ ¬ 0 ≤ wh := by omega
        rcases hd with ⟨d1, d2⟩ | ⟨d1, d2⟩ | d1
        · have e : ownF rs wh = true := by unfold ownF; rw [decide_eq_true d1, decide_eq_true d2]; rfl
          have HE := Lib.hid e
          clear e
          go_wp2_with fail
          go_meet
          exact ⟨by rw [HE.out], rfl⟩
        · have e : ownF rs wh = false := by unfold ownF; rw [decide_eq_false d2, Bool.and_false]
          have HE := Lib.hid e
          clear e
          go_wp2_with fail
          go_meet
          exact ⟨by rw [HE.out], rfl⟩
        · have e : ownF rs wh = false := by unfold ownF; rw [decide_eq_false d1, Bool.false_and]
          have HE := Lib.hid e
          clear e
          go_wp2_with fail
          go_meet
          exact ⟨by rw [HE.out], rfl⟩
      case rest =>
        obtain ⟨rfl, hwx⟩ := hcut
        rw [hwx]
        clear hwx
        obtain ⟨OB, hOB⟩ : ∃ x, ownF rs wh = x := ⟨_, rfl⟩
        have HOB := Lib.hid hOB
        rw [hOB]
        clear hOB
        by_cases d1 : kk = 1
        · subst d1
          have NWC : RowKit.Hid (∀ n e, takeN z.L 0 = n → takeE z.L 0 = e → Calls Tryz.prog 20 #[.pointer (some ⟨pb, 0, none⟩)] wr fun x w' => x = .returned (.tuple #[.int .i64 n, .int .i64 e]) ∧ Own w0 w' (Star (plA pb b 0 (takeX 0 z).L (takeX 0 z).s) (Star (rpA rp rb 0 z.L z.s) (Star (rowA 3 1 (.slice o rs.length c) rs.length (tbI rs)) R)))) := Lib.hid (fun n e hn he => o_snew HO.out (stable_star (SRP.out z) SB.out) n e hn he)
          have TKC : RowKit.Hid (∀ w1 Q n e, Stable Q → Own w0 w1 (Star (rpA rp rb 0 z.L z.s) Q) → takeN z.L 0 = n → takeE z.L 0 = e → Calls Tryz.prog 28 #[.pointer (some ⟨rp, 0, none⟩)] w1 fun x w' => x = .returned (.tuple #[.int .i64 n, .int .i64 e]) ∧ Own w0 w' (Star (rpA rp rb 0 (takeX 0 z).L (takeX 0 z).s) Q)) := Lib.hid (fun w1 Q n e hQ h hn he => o_qtake h hQ n e _ _ hn he rfl rfl)
          rcases HPL.out.take with ⟨n, t1, t2, t3⟩ | ⟨t1, t2, t3⟩
          · have NW := Lib.hid (NWC.out _ _ t1 t2)
            have TK := Lib.hid (fun w1 Q hQ h => TKC.out w1 Q _ _ hQ h t1 t2)
            have HPN := Lib.hid t3
            clear NWC TKC t1 t2 t3
            obtain ⟨zN, hzN⟩ : ∃ y, takeX 0 z = y := ⟨_, rfl⟩
            rw [hzN] at NW TK HPN
            clear hzN
            go_upto_region 13 with (go_at_call 20; refine NW.out.mono ?_; rintro e w3 ⟨rfl, h3⟩; have H3 := Lib.hid h3.swap2; clear h3)
            go_upto_region 17 with (go_at_call 28; refine (TK.out _ _ (stable_star (SPL.out zN) SB.out) H3.out).mono ?_; rintro e w4 ⟨rfl, h4⟩; have HX := Lib.hid h4.swap2; clear h4)
            clear NW TK H3 HO HPL
            have H5 := Lib.hid (HX.out.rot3.gr (stable_star (stable_row _ _ _ _ _) (stable_star (SPL.out zN) (stable_star (SRP.out zN) HR.out))) ((Gr.refl _).alloc (Nat.le_refl _) (.cells #[.int .i64 (n : Int)] 3)))
            have HROW := Lib.hid H5.out.row
            have hbl := tbI_len rs
            go_wp2_with (at_builtin; refine wpList_append_lies _ rfl _ _ _ rfl 0 3 i0 (.int .i64 0) 1 8 Tryz.underlying29 hi0 hz0 hz1 hz2 rfl (by omega) (.slice o rs.length c) rs.length (tbI rs) rfl HROW.out ⟨_, 0, none⟩ 1 1 [.int .i64 (n : Int)] rfl rfl (World.news_of_block (cs := #[.int .i64 (n : Int)]) (blk_new _ _)) (by simp [Value.oneCell']) (by omega) (by unfold maxLen; omega) (by omega) (by omega) (w4.heap.size + 1) (by simp) ?_; intro g2 cap2 w8 hown8 hgrow8 hat8 hlt8; have H9 := Lib.hid (H5.out.grown (g := g2) (stable_star (SPL.out zN) (stable_star (SRP.out zN) HR.out)) hown8 rfl hgrow8 (hat8.elim .inl (fun e => .inr (by simp; omega))) hlt8); clear hown8 hgrow8 hat8 hlt8)
            have e7 : (rs ++ [n]).length = rs.length + 1 := by simp
            go_roundg (len + 1 - (k + 1))
            case measure => omega
            case rel =>
              refine ⟨k + 1, zN, rs ++ [n], some ⟨g2, 0, none⟩, cap2, by omega, rfl, by go_num, by rw [e7], HPN.out, ?_⟩
              rw [e7, tbI_add]; exact H9.out.rot3'

          · have NW := Lib.hid (NWC.out _ _ t1 t2)
            have TK := Lib.hid (fun w1 Q hQ h => TKC.out w1 Q _ _ hQ h t1 t2)
            clear NWC TKC t1 t2
            rw [t3] at NW TK
            clear t3
            go_upto_region 13 with (go_at_call 20; refine NW.out.mono ?_; rintro e w3 ⟨rfl, h3⟩; have H3 := Lib.hid h3.swap2; clear h3)
            go_wp2_with (go_at_call 28; refine (TK.out _ _ (stable_star (SPL.out z) SB.out) H3.out).mono ?_; rintro e w4 ⟨rfl, h4⟩; have HX := Lib.hid h4.swap2; clear h4)
            go_roundg (len + 1 - (k + 1))
            case measure => omega
            case rel => exact ⟨k + 1, z, rs, o, c, by omega, rfl, by go_num, rfl, HPL.out, HX.out⟩

        · have f1 : (kk == 1) = false := by simpa using d1
          by_cases d3 : kk = 3
          · subst d3
            cases OB with
            | false =>
              go_wp2_with fail
              go_roundg (len + 1 - (k + 1))
              case measure => omega
              case rel => exact ⟨k + 1, z, rs, o, c, by omega, rfl, by go_num, rfl, HPL.out, HO.out⟩

            | true =>
              obtain ⟨i, r, rfl, hi, hri, hwv⟩ := which_own HOB.out
              obtain rfl : RV = (r : Int) := HRV.out.symm.trans hwv
              obtain ⟨⟨own, hw, p, j, hro⟩, hpn⟩ := HPL.out.free hri
              have hrl := (hw.lt hro).2.1
              have hhi := hw.sz.hi
              have HPN := Lib.hid hpn
              have FR := Lib.hid (o_free HO.out (stable_star (SRP.out z) SB.out) (r : Int) ⟨by omega, by omega⟩ (hw.tkn hro))
              have RF := Lib.hid (fun w1 Q hQ h => o_rfree (w0 := w0) (w := w1) (rp := rp) (rb := rb) (fi := 0) (z := z) (R := Q) h hQ hw hro)
              obtain ⟨zN, hzN⟩ : ∃ y, freeX 0 z r = y := ⟨_, rfl⟩
              rw [hzN] at HPN FR RF
              have HRI := Lib.hid hri
              clear hzN hpn hro hw hri hwv hrl hhi
              go_upto_region 21 with (go_at_call 23; refine FR.out.mono ?_; rintro e w3 ⟨rfl, h3⟩; have H3 := Lib.hid h3.swap2; clear h3)
              go_upto_region 24 with (go_at_call 29; refine (RF.out _ _ (stable_star (SPL.out zN) SB.out) H3.out).mono ?_; rintro e w4 ⟨rfl, h4⟩; have HX := Lib.hid h4.swap2; clear h4)
              clear FR RF H3 HO HPL
              have HY : RowKit.Hid (Own w0 w4 (Star (rowA 3 1 (.slice none 0 0) 0 []) (Star (plA pb b 0 zN.L zN.s) (Star (rpA rp rb 0 zN.L zN.s) (Star (rowA 3 1 (.slice o rs.length c) rs.length (tbI rs)) R))))) := Lib.hid (HX.out.add (stable_star (SPL.out zN) (stable_star (SRP.out zN) SB.out)) (Gr.refl _) (A := rowA 3 1 (.slice none 0 0) 0 []) ⟨fun _ => False, ⟨⟨rfl, .inl ⟨rfl, rfl⟩⟩, fun b hb => by cases hb⟩, fun x hx => hx.elim⟩)
              clear HX
              go_wp2_with fail
              go_loopg [17, 18] (rs.length + 1) (fun t v17 v18 wr => ∃ (q : Nat) (o2 : Option Addr) (c2 : Nat), q ≤ rs.length ∧ t = rs.length + 1 - q ∧ v18 = .int .i64 (q : Int) ∧ v17 = .slice o2 ((rs.take q).eraseIdx i).length c2 ∧ Own w0 wr (Star (rowA 3 1 (.slice o2 ((rs.take q).eraseIdx i).length c2) ((rs.take q).eraseIdx i).length (tbI ((rs.take q).eraseIdx i))) (Star (plA pb b 0 zN.L zN.s) (Star (rpA rp rb 0 zN.L zN.s) (Star (rowA 3 1 (.slice o rs.length c) rs.length (tbI rs)) R)))))
              case atStart => exact ⟨0, none, 0, by omega, rfl, rfl, rfl, HY.out⟩
              case round =>
                clear HY
                obtain ⟨q, o2, c2, hq, rfl, rfl, rfl, ho2⟩ := hrel
                have HY := Lib.hid ho2
                clear ho2
                by_cases hql : q < rs.length
                · have g1 : (q : Int) < (rs.length : Int) := by omega
                  have g3 : 0 ≤ (q : Int) := by omega
                  have g4 : (q : Int).toNat = q := by omega
                  have g5 : IntKind.i64.wrap ((q : Int) + 1) = (q : Int) + 1 := wrapI _ (by omega) (by omega)
                  obtain ⟨n, hn⟩ : ∃ n, rs[q]? = some n := ⟨_, List.getElem?_eq_getElem hql⟩
                  have hnx := rest_next (i := i) hn
                  have HRW := Lib.hid HY.out.right.right.right.row
                  obtain ⟨gr, hgr⟩ := row_some HRW.out (by omega)
                  subst hgr
                  have b0 := HY.out.cell C1.out
                  have b1 : wr.cell? ⟨gr, q, none⟩ = some (.int .i64 (n : Int)) := by
                    rw [World.ownsRow.cellAt HRW.out q (by omega)]; exact tbI_of rs q n hn
                  obtain ⟨X, hX⟩ : ∃ X, (rs.take q).eraseIdx i = X := ⟨_, rfl⟩
                  have hXl : X.length ≤ 256 := by
                    rw [← hX]
                    have := (List.eraseIdx_sublist (rs.take q) i).length_le
                    rw [List.length_take] at this; omega
                  rw [hX] at hnx HY ⊢
                  have HNX := Lib.hid hnx
                  clear HRW hn hX hnx
                  by_cases hqi : q = i
                  · subst hqi
                    go_wp2_with fail
                    go_roundg (rs.length + 1 - (q + 1))
                    case measure => omega
                    case rel =>
                      have e := HNX.out
                      simp only [if_true] at e
                      refine ⟨q + 1, o2, c2, by omega, rfl, by go_num, by rw [e], ?_⟩
                      rw [e]; exact HY.out
                  · have g6 : ((q : Int) != (i : Int)) = true := by
                      have : ¬ (q : Int) = i := by omega
                      simpa using this
                    have HNX2 : RowKit.Hid ((rs.take (q + 1)).eraseIdx i = X ++ [n]) := Lib.hid (by rw [HNX.out, if_neg hqi]; split <;> rfl)
                    clear HNX
                    have H5 := Lib.hid (HY.out.gr (stable_star (stable_row _ _ _ _ _) (stable_star (SPL.out zN) (stable_star (SRP.out zN) SB.out))) ((Gr.refl _).alloc (Nat.le_refl _) (.cells #[.int .i64 (n : Int)] 3)))
                    have HROW := Lib.hid H5.out.row
                    have hbl := tbI_len X
                    go_wp2_with (at_builtin; refine wpList_append_lies _ rfl _ _ _ rfl 0 3 i0 (.int .i64 0) 1 8 Tryz.underlying29 hi0 hz0 hz1 hz2 rfl (by omega) (.slice o2 X.length c2) X.length (tbI X) rfl HROW.out ⟨_, 0, none⟩ 1 1 [.int .i64 (n : Int)] rfl rfl (World.news_of_block (cs := #[.int .i64 (n : Int)]) (blk_new _ _)) (by simp [Value.oneCell']) (by omega) (by unfold maxLen; omega) (by omega) (by omega) (wr.heap.size + 1) (by simp) ?_; intro g2 cap2 w8 hown8 hgrow8 hat8 hlt8; have H9 := Lib.hid (H5.out.grown (g := g2) (stable_star (SPL.out zN) (stable_star (SRP.out zN) SB.out)) hown8 rfl hgrow8 (hat8.elim .inl (fun e => .inr (by simp; omega))) hlt8); clear hown8 hgrow8 hat8 hlt8)
                    have e7 : (X ++ [n]).length = X.length + 1 := by simp
                    go_roundg (rs.length + 1 - (q + 1))
                    case measure => omega
                    case rel =>
                      refine ⟨q + 1, some ⟨g2, 0, none⟩, cap2, by omega, rfl, by go_num, by rw [HNX2.out, e7], ?_⟩
                      rw [HNX2.out, e7, tbI_add]; exact H9.out
                · obtain rfl : q = rs.length := by omega
                  have g1 : ¬ (rs.length : Int) < (rs.length : Int) := by omega
                  have HZ : RowKit.Hid (Own w0 wr (Star (plA pb b 0 zN.L zN.s) (Star (rpA rp rb 0 zN.L zN.s) (Star (rowA 3 1 (.slice o2 (rs.eraseIdx i).length c2) (rs.eraseIdx i).length (tbI (rs.eraseIdx i))) R)))) := Lib.hid (by
                    have := HY.out
                    rw [List.take_length] at this
                    exact (this.mono (fun F h => star_mono_r (fun F h => star_mono_r (fun F h => star_drop2 h) h) h)).rot3')
                  rw [List.take_length]
                  clear HY
                  go_wp2_with fail
                  go_roundg (len + 1 - (k + 1))
                  case measure => omega
                  case rel => exact ⟨k + 1, zN, rs.eraseIdx i, o2, c2, by omega, rfl, by go_num, rfl, HPN.out, HZ.out⟩

          · have f3 : (kk == 3) = false := by simpa using d3
            by_cases d4 : kk = 4
            · subst d4
              cases OB with
              | false =>
                go_wp2_with fail
                go_roundg (len + 1 - (k + 1))
                case measure => omega
                case rel => exact ⟨k + 1, z, rs, o, c, by omega, rfl, by go_num, rfl, HPL.out, HO.out⟩

              | true =>
                obtain ⟨i, r, rfl, hi, hri, hwv⟩ := which_own HOB.out
                obtain rfl : RV = (r : Int) := HRV.out.symm.trans hwv
                obtain ⟨⟨own, hw, p, j, hro⟩, hcp⟩ := HPL.out.copy (List.mem_of_getElem? hri)
                have hrl := (hw.lt hro).2.1
                have hhi := hw.sz.hi
                have CPC := Lib.hid (fun n e hn he => o_copyC HO.out (stable_star (SRP.out z) SB.out) (r : Int) ⟨by omega, by omega⟩ n e hn he)
                have RCC := Lib.hid (fun w1 Q hQ h => o_rcopy (w0 := w0) (w := w1) (rp := rp) (rb := rb) (fi := 0) (z := z) (R := Q) h hQ hw hro)
                clear hro hw hri hwv hrl hhi
                rcases hcp with ⟨n, t1, t2, t3⟩ | ⟨t1, t2, t3⟩
                · have CP := Lib.hid (CPC.out _ _ t1 t2)
                  have HPN := Lib.hid t3
                  rw [t1, t2] at RCC
                  clear CPC t1 t2 t3
                  obtain ⟨zN, hzN⟩ : ∃ y, copyW 0 z r = y := ⟨_, rfl⟩
                  rw [hzN] at CP RCC HPN
                  clear hzN
                  go_upto_region 34 with (go_at_call 22; refine CP.out.mono ?_; rintro e w3 ⟨rfl, h3⟩; have H3 := Lib.hid h3.swap2; clear h3)
                  go_upto_region 38 with (go_at_call 30; refine (RCC.out _ _ (stable_star (SPL.out zN) SB.out) H3.out).mono ?_; rintro e w4 ⟨rfl, h4⟩; have HX := Lib.hid h4.swap2; clear h4)
                  clear CP RCC H3 HO HPL
                  have H5 := Lib.hid (HX.out.rot3.gr (stable_star (stable_row _ _ _ _ _) (stable_star (SPL.out zN) (stable_star (SRP.out zN) HR.out))) ((Gr.refl _).alloc (Nat.le_refl _) (.cells #[.int .i64 (n : Int)] 3)))
                  have HROW := Lib.hid H5.out.row
                  have hbl := tbI_len rs
                  go_wp2_with (at_builtin; refine wpList_append_lies _ rfl _ _ _ rfl 0 3 i0 (.int .i64 0) 1 8 Tryz.underlying29 hi0 hz0 hz1 hz2 rfl (by omega) (.slice o rs.length c) rs.length (tbI rs) rfl HROW.out ⟨_, 0, none⟩ 1 1 [.int .i64 (n : Int)] rfl rfl (World.news_of_block (cs := #[.int .i64 (n : Int)]) (blk_new _ _)) (by simp [Value.oneCell']) (by omega) (by unfold maxLen; omega) (by omega) (by omega) (w4.heap.size + 1) (by simp) ?_; intro g2 cap2 w8 hown8 hgrow8 hat8 hlt8; have H9 := Lib.hid (H5.out.grown (g := g2) (stable_star (SPL.out zN) (stable_star (SRP.out zN) HR.out)) hown8 rfl hgrow8 (hat8.elim .inl (fun e => .inr (by simp; omega))) hlt8); clear hown8 hgrow8 hat8 hlt8)
                  have e7 : (rs ++ [n]).length = rs.length + 1 := by simp
                  go_roundg (len + 1 - (k + 1))
                  case measure => omega
                  case rel =>
                    refine ⟨k + 1, zN, rs ++ [n], some ⟨g2, 0, none⟩, cap2, by omega, rfl, by go_num, by rw [e7], HPN.out, ?_⟩
                    rw [e7, tbI_add]; exact H9.out.rot3'

                · have CP := Lib.hid (CPC.out _ _ t1 t2)
                  rw [t1, t2] at RCC
                  rw [t3] at CP RCC
                  clear CPC t1 t2 t3
                  go_upto_region 34 with (go_at_call 22; refine CP.out.mono ?_; rintro e w3 ⟨rfl, h3⟩; have H3 := Lib.hid h3.swap2; clear h3)
                  go_wp2_with (go_at_call 30; refine (RCC.out _ _ (stable_star (SPL.out z) SB.out) H3.out).mono ?_; rintro e w4 ⟨rfl, h4⟩; have HX := Lib.hid h4.swap2; clear h4)
                  go_roundg (len + 1 - (k + 1))
                  case measure => omega
                  case rel => exact ⟨k + 1, z, rs, o, c, by omega, rfl, by go_num, rfl, HPL.out, HX.out⟩

            · have f4 : (kk == 4) = false := by simpa using d4
              cases OB with
              | true =>
                obtain ⟨i, r, hwi, hi, hri0, hwv⟩ := which_own HOB.out
                have hRr : RV = (r : Int) := HRV.out.symm.trans hwv
                have hr256 := HPL.out.len.2 r (List.mem_of_getElem? hri0)
                have hri : i64 RV := by
                  rw [hRr]; exact ⟨by omega, by omega⟩
                obtain ⟨⟨own, hw, hro⟩, hpn⟩ := PDO.out RV (.inl ⟨r, hRr, List.mem_of_getElem? hri0⟩)
                have DC := Lib.hid (DOES.out wr z own _ SB.out HO.out hw RV hro hri)
                have HPN := Lib.hid hpn
                obtain ⟨zN, hzN⟩ : ∃ y, doS z RV ⟨kk, wh, pgn, nn, bts, ata, ss⟩ = y := ⟨_, rfl⟩
                rw [hzN] at DC HPN
                clear hzN hpn hw hro hri hRr hwi hi hri0 hwv hr256
                obtain ⟨u2, u3, u4, u5, u6⟩ := CS.out
                have c2 := HO.out.cell u2
                have c3 := HO.out.cell u3
                have c4 := HO.out.cell u4
                have c5 := HO.out.cell u5
                have c6 := HO.out.cell u6
                clear u2 u3 u4 u5 u6
                go_wp2_with (go_at_call 31; refine DC.out.mono ?_; rintro e w3 ⟨rfl, h3⟩; have HX := Lib.hid h3; clear h3)
                go_roundg (len + 1 - (k + 1))
                case measure => omega
                case rel => exact ⟨k + 1, zN, rs, o, c, by omega, rfl, by go_num, rfl, HPN.out, HX.out⟩

              | false =>
                by_cases hneg : wh < 0
                · have hRr : RV = wh := HRV.out.symm.trans (which_not HOB.out)
                  have hri : i64 RV := by
                    rw [hRr]; exact HOK.out.2.1
                  obtain ⟨⟨own, hw, hro⟩, hpn⟩ := PDO.out RV (.inr (by rw [hRr]; exact hneg))
                  have DC := Lib.hid (DOES.out wr z own _ SB.out HO.out hw RV hro hri)
                  have HPN := Lib.hid hpn
                  obtain ⟨zN, hzN⟩ : ∃ y, doS z RV ⟨kk, wh, pgn, nn, bts, ata, ss⟩ = y := ⟨_, rfl⟩
                  rw [hzN] at DC HPN
                  clear hzN hpn hw hro hri hRr
                  obtain ⟨u2, u3, u4, u5, u6⟩ := CS.out
                  have c2 := HO.out.cell u2
                  have c3 := HO.out.cell u3
                  have c4 := HO.out.cell u4
                  have c5 := HO.out.cell u5
                  have c6 := HO.out.cell u6
                  clear u2 u3 u4 u5 u6
                  go_wp2_with (go_at_call 31; refine DC.out.mono ?_; rintro e w3 ⟨rfl, h3⟩; have HX := Lib.hid h3; clear h3)
                  go_roundg (len + 1 - (k + 1))
                  case measure => omega
                  case rel => exact ⟨k + 1, zN, rs, o, c, by omega, rfl, by go_num, rfl, HPN.out, HX.out⟩

                · go_wp2_with fail
                  go_roundg (len + 1 - (k + 1))
                  case measure => omega
                  case rel => exact ⟨k + 1, z, rs, o, c, by omega, rfl, by go_num, rfl, HPL.out, HO.out⟩

    · have m1 : ¬ (k : Int) < (len : Int) := by omega
      go_wp2_with fail
      go_ret2
      exact ⟨z, rs, o, c, rfl, HPL.out, HO.out⟩
end Go.Proofs.YtbcnibnkojnpiaaGreat.P
