/- Stage 6: the document's Read and Flush. No condition. -/
import Derived.Test.YtipnmffcfloglaaJ1
import Derived.Test.YtipnmffcfloglaaI1
import Derived.StillTailTactics
set_option linter.unusedVariables false
namespace Go.Proofs.Ytipnmffcfloglaa.P
open Go.RowKit
theorem RDiskO.waits {w : World} {d sb : Nat} {wb : Option Nat} {z : DState} (h : RDiskO w d sb wb z) {k : Nat} {x : Int × ByteArray} (hx : z.wait[k]? = some x) :
    ∃ g wc, wb = some g ∧ w.cell? ⟨d, 1, none⟩ = some (.slice (some ⟨g, 0, none⟩) z.wait.length wc) ∧ w.cell? ⟨g, k * 2, none⟩ = some (.int .i64 x.1) ∧ w.cell? ⟨g, k * 2 + 1, none⟩ = some (.string x.2) := by
  obtain ⟨sc, wo, wc, h0, hs, hw, hwb, h1, h2, h3⟩ := h
  have hk : k < z.wait.length := (List.getElem?_eq_some_iff.1 hx).1
  obtain ⟨_, ⟨hv, e0⟩ | ⟨g, cap', cur, hv, _, hg, _⟩⟩ := id hw
  · omega
  · injection hv with hv _ hcap
    subst hv
    subst hcap
    have e := wrs_get z.wait k x hx
    refine ⟨g, wc, hwb.symm, blk_cell h0 1 rfl, ?_, ?_⟩
    · rw [World.ownsRow.cellAt hw _ (by omega)]; exact e.1
    · rw [World.ownsRow.cellAt hw _ (by omega)]; exact e.2
theorem RDiskO.safes {w : World} {d sb : Nat} {wb : Option Nat} {z : DState} (h : RDiskO w d sb wb z) : ∃ sc, w.cell? ⟨d, 0, none⟩ = some (.slice (some ⟨sb, 0, none⟩) z.safe.length sc) ∧ (∀ j, w.frozen? ⟨sb, j, none⟩ = false) ∧ ∀ (q : Nat) (s : ByteArray), z.safe[q]? = some s → w.cell? ⟨sb, q, none⟩ = some (.string s) := by
  obtain ⟨sc, wo, wc, h0, hs, hw, hwb, h1, h2, h3⟩ := h
  refine ⟨sc, blk_cell h0 0 rfl, fun j => World.ownsRow.frozenAt hs j, fun q s hq => ?_⟩
  have hk : q < z.safe.length := (List.getElem?_eq_some_iff.1 hq).1
  rw [World.ownsRow.cellAt hs _ (by omega)]
  unfold strs
  rw [List.getElem?_map, hq]; rfl
theorem RDiskO.gr {w w' : World} {d sb : Nat} {wb : Option Nat} {z : DState} (h : RDiskO w d sb wb z) (g : Gr w w') : RDiskO w' d sb wb z := h.keep (S := fun _ => False) (Ch.of_gr g) (fun h => h) (fun h => h) (fun _ _ h => h)
theorem RDiskO.waitCell {w : World} {d sb : Nat} {wb : Option Nat} {z : DState} (h : RDiskO w d sb wb z) : ∃ wo wc, w.cell? ⟨d, 1, none⟩ = some (.slice wo z.wait.length wc) := by
  obtain ⟨sc, wo, wc, h0, hs, hw, hwb, h1, h2, h3⟩ := h
  exact ⟨wo, wc, blk_cell h0 1 rfl⟩
theorem RDiskO.setSafe {w : World} {d sb : Nat} {wb : Option Nat} {z : DState} (h : RDiskO w d sb wb z) (q : Nat) (s : ByteArray) : RDiskO (w.setCell ⟨sb, q, none⟩ (.string s)) d sb wb { z with safe := z.safe.set q s } := by
  obtain ⟨sc, wo, wc, h0, hs, hw, hwb, h1, h2, h3⟩ := h
  have hc : Ch (· = sb) w (w.setCell ⟨sb, q, none⟩ (.string s)) := Ch.setCell (S := (· = sb)) (Ch.refl _ w) (.inl rfl) _
  have hs2 := (World.ownsRow.stored hs q (.string s)).1
  rw [strs_set] at hs2
  refine ⟨sc, wo, wc, ?_, ?_, ownsRow_ch hw hc (fun x hx e => h3 (by rw [← hwb, hx, e])), hwb, h1, h2, h3⟩
  · rw [List.length_set]; exact hc.blk h0 (fun e => h1 e.symm)
  · rw [List.length_set]; exact hs2
theorem RDiskO.emptied {w : World} {d sb : Nat} {wb : Option Nat} {z : DState} (h : RDiskO w d sb wb z) : RDiskO (w.setCell ⟨d, 1, none⟩ (.slice none 0 0)) d sb none { z with wait := [] } := by
  obtain ⟨sc, wo, wc, h0, hs, hw, hwb, h1, h2, h3⟩ := h
  have hc : Ch (· = d) w (w.setCell ⟨d, 1, none⟩ (.slice none 0 0)) := Ch.setCell (S := (· = d)) (Ch.refl _ w) (.inl rfl) _
  refine ⟨sc, none, 0, ?_, ownsRow_ch hs hc (fun x hx e => by injection hx with hx; exact h1 (hx.trans e)), ⟨rfl, .inl ⟨rfl, rfl⟩⟩, rfl, h1, (fun e => by cases e), (fun e => by cases e)⟩
  rw [blk_set h0 1 _]; rfl
theorem e_read_no (w : World) (d sb : Nat) (wb : Option Nat) (z : DState) (h : RDiskO w d sb wb z) (i : Int) (hn : z.off = true ∨ hasB z i = false) :
    Calls Try.prog 30 #[.pointer (some ⟨d, 0, none⟩), .int .i64 i] w fun e w' => e = .returned (.tuple #[.string (readB z i), .int .i64 (readR z i)]) ∧ w' = w := by
  obtain ⟨sc, c0, _, _⟩ := h.safes
  obtain ⟨sv, wv, hb⟩ := h.cellsOf
  have c3 := blk_cell hb 3 (v := .bool z.off) rfl
  clear hb h
  cases ho : z.off with
  | true =>
    have e : readB z i = ⟨#[]⟩ ∧ readR z i = 7 := by unfold readB readR; rw [ho]; exact ⟨rfl, rfl⟩
    rw [e.1, e.2]
    rw [ho] at c3
    clear e hn ho
    go_enter Try.func30, Try.ntmps30
    go_wp2
    go_ret2
    exact ⟨rfl, rfl⟩
  | false =>
    have hh : hasB z i = false := by rcases hn with q | q; rw [ho] at q; cases q; exact q
    have e : readB z i = ⟨#[]⟩ ∧ readR z i = 1 := by unfold readB readR; rw [ho, hh]; exact ⟨rfl, rfl⟩
    rw [e.1, e.2]
    rw [ho] at c3
    have hc : i < 0 ∨ (0 ≤ i ∧ (z.safe.length : Int) ≤ i) := by unfold hasB at hh; simp at hh; omega
    clear e hn ho hh
    rcases hc with q1 | ⟨q1, q2⟩
    all_goals
      go_enter Try.func30, Try.ntmps30
      go_wp2
      go_ret2
      exact ⟨rfl, rfl⟩
set_option maxHeartbeats 1600000 in
theorem e_read_yes (w : World) (d sb : Nat) (wb : Option Nat) (z : DState) (h : RDiskO w d sb wb z) (ho : z.off = false) (q : Nat) (hq : q < z.safe.length) (hm : z.wait.length ≤ 4000000000000) :
    Calls Try.prog 30 #[.pointer (some ⟨d, 0, none⟩), .int .i64 (q : Int)] w fun e w' => e = .returned (.tuple #[.string (readS z q), .int .i64 0]) ∧ w' = w := by
  have H := Lib.hid h
  obtain ⟨sc, c0, _, scell⟩ := h.safes
  obtain ⟨sv, wv, hb⟩ := h.cellsOf
  obtain ⟨wo, wc, c1⟩ := h.waitCell
  have c3 := blk_cell hb 3 (v := .bool z.off) rfl
  rw [ho] at c3
  have s1 := scell q _ (List.getElem?_eq_getElem hq)
  have hini : z.safe[q] = getS z.safe q := by unfold getS; rw [List.getElem?_eq_getElem hq]; rfl
  rw [hini] at s1
  obtain ⟨m, hmm⟩ : ∃ m, m = z.wait.length := ⟨_, rfl⟩
  have HM := Lib.hid hmm
  rw [← hmm] at c1 hm
  have HO := Lib.hid ho
  obtain ⟨n, hn⟩ : ∃ n, n = z.safe.length := ⟨_, rfl⟩
  rw [← hn] at c0 hq
  clear hb h scell hini hmm hn ho
  have q0 : (0 : Int) ≤ q := by omega
  have qn : (q : Int) < n := by omega
  go_enter Try.func30, Try.ntmps30
  go_wp2_with fail
  go_loop [6, 7] (fun v6 v7 => ∃ k : Nat, k ≤ m ∧ v7 = .int .i64 k ∧ v6 = .string ((z.wait.take k).foldl (stepR q) (getS z.safe q))) (fun _ v7 => m - (intOf v7).toNat)
  case atStart => exact ⟨0, Nat.zero_le _, rfl, by rw [List.take_zero]; rfl⟩
  case round =>
    obtain ⟨k, hk, rfl, rfl⟩ := hrel
    by_cases hlt : k < m
    · have dl : decide (k < m) = true := decide_eq_true hlt
      have hkw : k < z.wait.length := by have := HM.out; omega
      have hx : z.wait[k]? = some (z.wait[k]'hkw) := List.getElem?_eq_getElem _
      obtain ⟨g, wc', hg, e0, e1, e2⟩ := H.out.waits hx
      have hwo : wo = some ⟨g, 0, none⟩ := by
        rw [c1] at e0
        injection e0 with e0
        injection e0 with e0 _ _
      subst hwo
      clear e0
      have hst : (z.wait.take (k + 1)).foldl (stepR q) (getS z.safe q) = stepR q ((z.wait.take k).foldl (stepR q) (getS z.safe q)) (z.wait[k]'hkw) := by
        rw [List.take_succ_eq_append_getElem hkw, List.foldl_append]; rfl
      generalize z.wait[k]'hkw = x at *
      obtain ⟨xi, xs⟩ := x
      dsimp only at e1 e2
      generalize (z.wait.take k).foldl (stepR q) (getS z.safe q) = acc at *
      by_cases hxq : xi = (q : Int)
      · subst hxq
        have HST : RowKit.Hid ((z.wait.take (k + 1)).foldl (stepR q) (getS z.safe q) = xs) := Lib.hid (by rw [hst]; unfold stepR; rw [decide_eq_true rfl]; rfl)
        clear hst hx
        go_wp2_with fail
        go_round
        case rel => exact ⟨k + 1, by omega, by go_num, by rw [HST.out]⟩
        case measure => simp [intOf]; omega
      · have HST : RowKit.Hid ((z.wait.take (k + 1)).foldl (stepR q) (getS z.safe q) = acc) := Lib.hid (by rw [hst]; unfold stepR; rw [decide_eq_false hxq]; rfl)
        have hxb : (xi == (q : Int)) = false := beq_eq_false_iff_ne.2 hxq
        clear hst hx hxq
        go_wp2_with fail
        go_round
        case rel => exact ⟨k + 1, by omega, by go_num, by rw [HST.out]⟩
        case measure => simp [intOf]; omega
    · obtain rfl : k = m := by omega
      have dl : decide (k < k) = false := decide_eq_false (by omega)
      have hst : (z.wait.take k).foldl (stepR q) (getS z.safe q) = readS z q := by rw [HM.out, List.take_of_length_le (Nat.le_refl _)]; rfl
      rw [hst]
      clear hst
      go_wp2_with fail
      go_ret2
      exact ⟨rfl, rfl⟩
theorem e_flush_no (w : World) (d sb : Nat) (wb : Option Nat) (z : DState) (h : RDiskO w d sb wb z) (hz : WZ z) (hn : z.off = true ∨ actB z = false) :
    Calls Try.prog 32 #[.pointer (some ⟨d, 0, none⟩)] w fun e w' => e = .returned (.int .i64 7) ∧ RDiskO w' d sb wb (flushZ z) ∧ Ch (· = d) w w' := by
  have H := Lib.hid h
  obtain ⟨sv, wv, hb⟩ := h.cellsOf
  have c3 := blk_cell hb 3 (v := .bool z.off) rfl
  cases ho : z.off with
  | true =>
    have e : flushZ z = z := by unfold flushZ; rw [ho]; rfl
    rw [e]
    rw [ho] at c3
    clear hb h e hn ho
    go_enter Try.func32, Try.ntmps32
    go_wp2
    go_ret
    exact ⟨rfl, H.out, Ch.refl _ _⟩
  | false =>
    have ha : actB z = false := by rcases hn with q | q; rw [ho] at q; cases q; exact q
    have e : flushZ z = actZ z := by unfold flushZ; rw [ho, ha]; rfl
    rw [e]
    rw [ho] at c3
    have CA := e_act w d sb wb z h hz.2.2.1 hz.2.2.2.1
    rw [ha] at CA
    clear hb h e hn ho ha
    go_enter Try.func32, Try.ntmps32
    go_wp2_with fail
    refine CA.mono ?_
    rintro e w2 ⟨rfl, h2, h3⟩
    have H2 := Lib.hid h2
    have H3 := Lib.hid h3
    clear h2 h3
    go_wp2_with fail
    go_ret
    exact ⟨rfl, H2.out, H3.out⟩
end Go.Proofs.Ytipnmffcfloglaa.P
