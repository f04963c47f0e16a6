/- Stage 6: the document's Read and Flush. No condition. -/
import Derived.Test.YtgaibknhdaeidaaGreatJ1
import Derived.Test.YtgaibknhdaeidaaGreatI1
import Derived.StillTailTactics
set_option linter.unusedVariables false
set_option maxRecDepth 50000
namespace Go.Proofs.YtgaibknhdaeidaaGreat.P
open Go.RowKit
theorem RDiskO.waits {w : World} {d sb : Nat} {wb : Option Nat} {z : DState} (h : RDiskO w d sb wb z) {k : Nat} {x : Int × ByteArray} (hx : z.wait[k]? = some x) :
    ∃ g wc, wb = some g ∧ w.cell? ⟨d, 1, none⟩ = some (.slice (some ⟨g, 0, none⟩) z.wait.length wc) ∧ w.cell? ⟨g, k * 2, none⟩ = some (.int .i64 x.1) ∧ w.cell? ⟨g, k * 2 + 1, none⟩ = some (.string x.2) := by
  obtain ⟨sc, wo, wc, h0, hs, hw, hwb, h1, h2, h3⟩ := h
  have hk : k < z.wait.length := (List.getElem?_eq_some_iff.1 hx).1
  obtain ⟨_, ⟨hv, e0⟩ | ⟨g, cap', cur, hv, _, hg, _⟩⟩ := id hw
  · omega
  · injection hv with hv _ hcap
    subst hv
    subst hcap
    have e := wrs_get z.wait k x hx
    refine ⟨g, wc, hwb.symm, blk_cell h0 1 rfl, ?_, ?_⟩
    · rw [World.ownsRow.cellAt hw _ (by omega)]; exact e.1
    · rw [World.ownsRow.cellAt hw _ (by omega)]; exact e.2
theorem RDiskO.safes {w : World} {d sb : Nat} {wb : Option Nat} {z : DState} (h : RDiskO w d sb wb z) : ∃ sc, w.cell? ⟨d, 0, none⟩ = some (.slice (some ⟨sb, 0, none⟩) z.safe.length sc) ∧ (∀ j, w.frozen? ⟨sb, j, none⟩ = false) ∧ ∀ (q : Nat) (s : ByteArray), z.safe[q]? = some s → w.cell? ⟨sb, q, none⟩ = some (.string s) := by
  obtain ⟨sc, wo, wc, h0, hs, hw, hwb, h1, h2, h3⟩ := h
  refine ⟨sc, blk_cell h0 0 rfl, fun j => World.ownsRow.frozenAt hs j, fun q s hq => ?_⟩
  have hk : q < z.safe.length := (List.getElem?_eq_some_iff.1 hq).1
  rw [World.ownsRow.cellAt hs _ (by omega)]
  unfold strs
  rw [List.getElem?_map, hq]; rfl
theorem RDiskO.gr {w w' : World} {d sb : Nat} {wb : Option Nat} {z : DState} (h : RDiskO w d sb wb z) (g : Gr w w') : RDiskO w' d sb wb z := h.keep (S := fun _ => False) (Ch.of_gr g) (fun h => h) (fun h => h) (fun _ _ h => h)
theorem RDiskO.waitCell {w : World} {d sb : Nat} {wb : Option Nat} {z : DState} (h : RDiskO w d sb wb z) : ∃ wo wc, w.cell? ⟨d, 1, none⟩ = some (.slice wo z.wait.length wc) := by
  obtain ⟨sc, wo, wc, h0, hs, hw, hwb, h1, h2, h3⟩ := h
  exact ⟨wo, wc, blk_cell h0 1 rfl⟩
theorem RDiskO.setSafe {w : World} {d sb : Nat} {wb : Option Nat} {z : DState} (h : RDiskO w d sb wb z) (q : Nat) (s : ByteArray) : RDiskO (w.setCell ⟨sb, q, none⟩ (.string s)) d sb wb { z with safe := z.safe.set q s } := by
  obtain ⟨sc, wo, wc, h0, hs, hw, hwb, h1, h2, h3⟩ := h
  have hc : Ch (· = sb) w (w.setCell ⟨sb, q, none⟩ (.string s)) := Ch.setCell (S := (· = sb)) (Ch.refl _ w) (.inl rfl) _
  have hs2 := (World.ownsRow.stored hs q (.string s)).1
  rw [strs_set] at hs2
  refine ⟨sc, wo, wc, ?_, ?_, ownsRow_ch hw hc (fun x hx e => h3 (by rw [← hwb, hx, e])), hwb, h1, h2, h3⟩
  · rw [List.length_set]; exact hc.blk h0 (fun e => h1 e.symm)
  · rw [List.length_set]; exact hs2
theorem RDiskO.emptied {w : World} {d sb : Nat} {wb : Option Nat} {z : DState} (h : RDiskO w d sb wb z) : RDiskO (w.setCell ⟨d, 1, none⟩ (.slice none 0 0)) d sb none { z with wait := [] } := by
  obtain ⟨sc, wo, wc, h0, hs, hw, hwb, h1, h2, h3⟩ := h
  have hc : Ch (· = d) w (w.setCell ⟨d, 1, none⟩ (.slice none 0 0)) := Ch.setCell (S := (· = d)) (Ch.refl _ w) (.inl rfl) _
  refine ⟨sc, none, 0, ?_, ownsRow_ch hs hc (fun x hx e => by injection hx with hx; exact h1 (hx.trans e)), ⟨rfl, .inl ⟨rfl, rfl⟩⟩, rfl, h1, (fun e => by cases e), (fun e => by cases e)⟩
  rw [blk_set h0 1 _]; rfl
theorem e_read_no (w : World) (d sb : Nat) (wb : Option Nat) (z : DState) (h : RDiskO w d sb wb z) (i : Int) (hn : z.off = true ∨ hasB z i = false) :
    Calls Tryz.prog 31 #[.pointer (some ⟨d, 0, none⟩), .int .i64 i] w fun e w' => e = .returned (.tuple #[.string (readB z i), .int .i64 (readR z i)]) ∧ w' = w := by
  obtain ⟨sc, c0, _, _⟩ := h.safes
  obtain ⟨sv, wv, hb⟩ := h.cellsOf
  have c3 := blk_cell hb 3 (v := .bool z.off) rfl
  clear hb h
  cases ho : z.off with
  | true =>
    have e : readB z i = ⟨#[]⟩ ∧ readR z i = 7 := by unfold readB readR; rw [ho]; exact ⟨rfl, rfl⟩
    rw [e.1, e.2]
    rw [ho] at c3
    clear e hn ho
    go_enter Tryz.func31, Tryz.ntmps31
    go_wp2
    go_ret2
    exact ⟨rfl, rfl⟩
  | false =>
    have hh : hasB z i = false := by rcases hn with q | q; rw [ho] at q; cases q; exact q
    have e : readB z i = ⟨#[]⟩ ∧ readR z i = 1 := by unfold readB readR; rw [ho, hh]; exact ⟨rfl, rfl⟩
    rw [e.1, e.2]
    rw [ho] at c3
    have hc : i < 0 ∨ (0 ≤ i ∧ (z.safe.length : Int) ≤ i) := by unfold hasB at hh; simp at hh; omega
    clear e hn ho hh
    rcases hc with q1 | ⟨q1, q2⟩
    all_goals
      go_enter Tryz.func31, Tryz.ntmps31
      go_wp2
      go_ret2
      exact ⟨rfl, rfl⟩
set_option maxHeartbeats 1600000 in
theorem e_read_yes (w : World) (d sb : Nat) (wb : Option Nat) (z : DState) (h : RDiskO w d sb wb z) (ho : z.off = false) (q : Nat) (hq : q < z.safe.length) (hm : z.wait.length ≤ 4000000000000) :
    Calls Tryz.prog 31 #[.pointer (some ⟨d, 0, none⟩), .int .i64 (q : Int)] w fun e w' => e = .returned (.tuple #[.string (readS z q), .int .i64 0]) ∧ w' = w := by
  have H := Lib.hid h
  obtain ⟨sc, c0, _, scell⟩ := h.safes
  obtain ⟨sv, wv, hb⟩ := h.cellsOf
  obtain ⟨wo, wc, c1⟩ := h.waitCell
  have c3 := blk_cell hb 3 (v := .bool z.off) rfl
  rw [ho] at c3
  have s1 := scell q _ (List.getElem?_eq_getElem hq)
  have hini : z.safe[q] = getS z.safe q := by unfold getS; rw [List.getElem?_eq_getElem hq]; rfl
  rw [hini] at s1
  obtain ⟨m, hmm⟩ : ∃ m, m = z.wait.length := ⟨_, rfl⟩
  have HM := Lib.hid hmm
  rw [← hmm] at c1 hm
  have HO := Lib.hid ho
  obtain ⟨n, hn⟩ : ∃ n, n = z.safe.length := ⟨_, rfl⟩
  rw [← hn] at c0 hq
  clear hb h scell hini hmm hn ho
  have q0 : (0 : Int) ≤ q := by omega
  have qn : (q : Int) < n := by omega
  go_enter Tryz.func31, Tryz.ntmps31
  go_wp2_with fail
  go_loop [6, 7] (fun v6 v7 => ∃ k : Nat, k ≤ m ∧ v7 = .int .i64 k ∧ v6 = .string ((z.wait.take k).foldl (stepR q) (getS z.safe q))) (fun _ v7 => m - (intOf v7).toNat)
  case atStart => exact ⟨0, Nat.zero_le _, rfl, by rw [List.take_zero]; rfl⟩
  case round =>
    obtain ⟨k, hk, rfl, rfl⟩ := hrel
    by_cases hlt : k < m
    · have dl : decide (k < m) = true := decide_eq_true hlt
      have hkw : k < z.wait.length := by have := HM.out; omega
      have hx : z.wait[k]? = some (z.wait[k]'hkw) := List.getElem?_eq_getElem _
      obtain ⟨g, wc', hg, e0, e1, e2⟩ := H.out.waits hx
      have hwo : wo = some ⟨g, 0, none⟩ := by
        rw [c1] at e0
        injection e0 with e0
        injection e0 with e0 _ _
      subst hwo
      clear e0
      have hst : (z.wait.take (k + 1)).foldl (stepR q) (getS z.safe q) = stepR q ((z.wait.take k).foldl (stepR q) (getS z.safe q)) (z.wait[k]'hkw) := by
        rw [List.take_succ_eq_append_getElem hkw, List.foldl_append]; rfl
      generalize z.wait[k]'hkw = x at *
      obtain ⟨xi, xs⟩ := x
      dsimp only at e1 e2
      generalize (z.wait.take k).foldl (stepR q) (getS z.safe q) = acc at *
      by_cases hxq : xi = (q : Int)
      · subst hxq
        have HST : RowKit.Hid ((z.wait.take (k + 1)).foldl (stepR q) (getS z.safe q) = xs) := Lib.hid (by rw [hst]; unfold stepR; rw [decide_eq_true rfl]; rfl)
        clear hst hx
        go_wp2_with fail
        go_round
        case rel => exact ⟨k + 1, by omega, by go_num, by rw [HST.out]⟩
        case measure => simp [intOf]; omega
      · have HST : RowKit.Hid ((z.wait.take (k + 1)).foldl (stepR q) (getS z.safe q) = acc) := Lib.hid (by rw [hst]; unfold stepR; rw [decide_eq_false hxq]; rfl)
        have hxb : (xi == (q : Int)) = false := beq_eq_false_iff_ne.2 hxq
        clear hst hx hxq
        go_wp2_with fail
        go_round
        case rel => exact ⟨k + 1, by omega, by go_num, by rw [HST.out]⟩
        case measure => simp [intOf]; omega
    · obtain rfl : k = m := by omega
      have dl : decide (k < k) = false := decide_eq_false (by omega)
      have hst : (z.wait.take k).foldl (stepR q) (getS z.safe q) = readS z q := by rw [HM.out, List.take_of_length_le (Nat.le_refl _)]; rfl
      rw [hst]
      clear hst
      go_wp2_with fail
      go_ret2
      exact ⟨rfl, rfl⟩
theorem e_flush_no (w : World) (d sb : Nat) (wb : Option Nat) (z : DState) (h : RDiskO w d sb wb z) (hz : WZ z) (hn : z.off = true ∨ actB z = false) :
    Calls Tryz.prog 61 #[.pointer (some ⟨d, 0, none⟩)] w fun e w' => e = .returned (.int .i64 7) ∧ RDiskO w' d sb wb (flushZ z) ∧ Ch (· = d) w w' := by
  have H := Lib.hid h
  obtain ⟨sv, wv, hb⟩ := h.cellsOf
  have c3 := blk_cell hb 3 (v := .bool z.off) rfl
  cases ho : z.off with
  | true =>
    have e : flushZ z = z := by unfold flushZ; rw [ho]; rfl
    rw [e]
    rw [ho] at c3
    clear hb h e hn ho
    go_enter Tryz.func61, Tryz.ntmps61
    go_wp2
    go_ret
    exact ⟨rfl, H.out, Ch.refl _ _⟩
  | false =>
    have ha : actB z = false := by rcases hn with q | q; rw [ho] at q; cases q; exact q
    have e : flushZ z = actZ z := by unfold flushZ; rw [ho, ha]; rfl
    rw [e]
    rw [ho] at c3
    have CA := e_act w d sb wb z h hz.2.2.1 hz.2.2.2.1
    rw [ha] at CA
    clear hb h e hn ho ha
    go_enter Tryz.func61, Tryz.ntmps61
    go_wp2_with fail
    refine CA.mono ?_
    rintro e w2 ⟨rfl, h2, h3⟩
    have H2 := Lib.hid h2
    have H3 := Lib.hid h3
    clear h2 h3
    go_wp2_with fail
    go_ret
    exact ⟨rfl, H2.out, H3.out⟩
end Go.Proofs.YtgaibknhdaeidaaGreat.P
namespace Go.Proofs.YtgaibknhdaeidaaGreat.P
open Go.RowKit
set_option maxRecDepth 100000 in
set_option maxHeartbeats 4000000 in
theorem e_flush_ok (w : World) (d sb : Nat) (wb : Option Nat) (z : DState) (h : RDiskO w d sb wb z) (hz : WZ z) (ho : z.off = false) (ha : actB z = true) (hm : z.wait.length ≤ 4000000000000) :
    Calls Tryz.prog 61 #[.pointer (some ⟨d, 0, none⟩)] w fun e w' => e = .returned (.int .i64 0) ∧ RDiskO w' d sb none (flushZ z) ∧ Ch (fun x => x = d ∨ x = sb) w w' := by
  have hfl : flushZ z = { actZ z with safe := setN (fun _ => true) z.safe z.wait z.wait.length, wait := [] } := by unfold flushZ; rw [ho, ha]; rfl
  rw [hfl]
  obtain ⟨sv, wv, hb⟩ := h.cellsOf
  have c3 := blk_cell hb 3 (v := .bool z.off) rfl
  rw [ho] at c3
  have CA := e_act w d sb wb z h hz.2.2.1 hz.2.2.2.1
  rw [ha] at CA
  obtain ⟨k1, k2⟩ := actZ_keeps z
  have HW := Lib.hid hz.2.2.2.2
  have hn := hz.2.1
  generalize hy : actZ z = y at *
  clear hy hz ho ha hfl hb h
  have HK1 := Lib.hid k1
  have HK2 := Lib.hid k2
  obtain ⟨m, hmm⟩ : ∃ m, m = z.wait.length := ⟨_, rfl⟩
  have HM := Lib.hid hmm
  rw [← hmm] at hm ⊢
  obtain ⟨n, hnn⟩ : ∃ n, n = z.safe.length := ⟨_, rfl⟩
  have HN := Lib.hid hnn
  rw [← hnn] at hn
  clear k1 k2 hmm hnn
  go_enter Tryz.func61, Tryz.ntmps61
  go_wp2_with fail
  refine CA.mono ?_
  rintro e w2 ⟨rfl, h2, h3⟩
  have H2 := Lib.hid h2
  have H3 := Lib.hid (h3.mono (T := fun x => x = d ∨ x = sb) (fun x hx => .inl hx))
  clear h2 h3 c3
  go_wp2_with fail
  have hst : RowKit.Hid (RDiskO w2 d sb wb { y with safe := setN (fun _ => true) z.safe z.wait 0 }) := Lib.hid (by rw [setN, ← HK2.out]; exact H2.out)
  go_loopw [4] (fun v wr => ∃ k : Nat, k ≤ m ∧ v = .int .i64 k ∧ RDiskO wr d sb wb { y with safe := setN (fun _ => true) z.safe z.wait k } ∧ Ch (fun x => x = d ∨ x = sb) w wr) (fun v _ => m - (intOf v).toNat)
  case atStart => exact ⟨0, Nat.zero_le _, rfl, hst.out, H3.out⟩
  case round =>
    obtain ⟨k, hk, rfl, hd, hc⟩ := hrel
    have HD := Lib.hid hd
    have HC := Lib.hid hc
    obtain ⟨wo, wc, c1⟩ := hd.waitCell
    rw [show ({ y with safe := setN (fun _ => true) z.safe z.wait k } : DState).wait.length = m by show y.wait.length = m; rw [HK1.out, HM.out]] at c1
    clear hd hc
    by_cases hlt : k < m
    · have dl : decide (k < m) = true := decide_eq_true hlt
      have hkw : k < z.wait.length := by have := HM.out; omega
      have hx : z.wait[k]? = some (z.wait[k]'hkw) := List.getElem?_eq_getElem _
      obtain ⟨g, wc', hg, e0, e1, e2⟩ := HD.out.waits (k := k) (x := z.wait[k]'hkw) (by show y.wait[k]? = _; rw [HK1.out]; exact hx)
      have hwo : wo = some ⟨g, 0, none⟩ := by
        rw [c1] at e0
        injection e0 with e0
        injection e0 with e0 _ _
      subst hwo
      clear e0
      have hxw := HW.out _ (List.getElem_mem hkw)
      have hNx := setN_at (P := fun _ => true) (safe := z.safe) hx
      generalize z.wait[k]'hkw = x at *
      obtain ⟨xi, xs⟩ := x
      dsimp only at e1 e2 hxw hNx
      obtain ⟨q, rfl⟩ : ∃ q : Nat, xi = (q : Int) := ⟨xi.toNat, by omega⟩
      rw [Int.toNat_natCast] at hNx
      have HNX := Lib.hid hNx
      have hqn : q < z.safe.length := by omega
      obtain ⟨sc', s0, sf, scell⟩ := HD.out.safes
      have s1 := scell q _ (List.getElem?_eq_getElem (by show q < (setN (fun _ => true) z.safe z.wait k).length; rw [setN_len]; exact hqn))
      have sfq := sf q
      rw [show ({ y with safe := setN (fun _ => true) z.safe z.wait k } : DState).safe.length = n by show (setN _ _ _ _).length = n; rw [setN_len, HN.out]] at s0
      rw [← HN.out] at hqn
      have HS9 := Lib.hid ((HD.out.gr (Gr.drewN (Gr.refl _) 1)).setSafe q xs)
      have HC9 := Lib.hid ((HC.out.drew).setCell (p := ⟨sb, q, none⟩) (.inl (.inr rfl)) (.string xs))
      generalize (setN (fun _ => true) z.safe z.wait k)[q]'_ = old at *
      have hk0 : (0 : Int) ≤ k := by omega
      have hq0 : (0 : Int) ≤ q := by omega
      clear sf scell hxw hNx hx
      go_upto_region 9 with fail
      go_still_tail 21, (by kernel_rfl)
      go_wp2_with fail
      go_roundw
      case rel => exact ⟨k + 1, by omega, by go_num, by rw [HNX.out]; exact HS9.out, HC9.out⟩
      case measure => simp [intOf]; omega
    · obtain rfl : k = m := by omega
      have dl : decide (k < k) = false := decide_eq_false (by omega)
      obtain ⟨sv, wv, hcells⟩ := HD.out.cellsOf
      have f1 := blk_frozen hcells 1
      have HE := Lib.hid HD.out.emptied
      have HCF := Lib.hid (HC.out.setCell (p := ⟨d, 1, none⟩) (.inl (.inl rfl)) (.slice none 0 0))
      clear hcells
      go_wp2_with fail
      go_ret
      exact ⟨rfl, HE.out, HCF.out⟩
end Go.Proofs.YtgaibknhdaeidaaGreat.P
