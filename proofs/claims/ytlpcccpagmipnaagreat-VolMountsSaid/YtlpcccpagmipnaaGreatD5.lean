/- Stage 6: what waits is made safe. No condition. -/
import Derived.Test.YtlpcccpagmipnaaGreatD4
import Derived.Laws.OwnMore
import Derived.StillTailTactics
import Derived.Deep.DeepCutAuto
set_option linter.unusedVariables false
set_option maxRecDepth 50000
namespace Go.Proofs.YtlpcccpagmipnaaGreat.P
open Go.RowKit
/-- The sectors after the first writes that are kept. -/
def setN (P : Nat → Bool) (safe : List ByteArray) (wait : List (Int × ByteArray)) : Nat → List ByteArray
  | 0 => safe
  | k + 1 => match wait[k]? with
    | some x => bif P k then (setN P safe wait k).set x.1.toNat x.2 else setN P safe wait k
    | none => setN P safe wait k
theorem setN_len (P : Nat → Bool) (safe : List ByteArray) (wait : List (Int × ByteArray)) : ∀ k, (setN P safe wait k).length = safe.length
  | 0 => rfl
  | k + 1 => by
    rw [setN]
    cases wait[k]? with
    | none => exact setN_len P safe wait k
    | some x => cases hp : P k with
      | true => simp only [cond_true, List.length_set]; exact setN_len P safe wait k
      | false => simp only [cond_false]; exact setN_len P safe wait k
theorem setN_at {P : Nat → Bool} {safe : List ByteArray} {wait : List (Int × ByteArray)} {k : Nat} {x : Int × ByteArray} (h : wait[k]? = some x) : setN P safe wait (k + 1) = bif P k then (setN P safe wait k).set x.1.toNat x.2 else setN P safe wait k := by
  rw [setN, h]
theorem wrs_get : ∀ (l : List (Int × ByteArray)) (k : Nat) (x : Int × ByteArray), l[k]? = some x → (wrs l)[k * 2]? = some (.int .i64 x.1) ∧ (wrs l)[k * 2 + 1]? = some (.string x.2)
  | [], k, x, h => by simp at h
  | y :: l, 0, x, h => by
    simp at h; subst h; exact ⟨rfl, rfl⟩
  | y :: l, k + 1, x, h => by
    have := wrs_get l k x (by simpa using h)
    rw [wrs, show (k + 1) * 2 = k * 2 + 1 + 1 by omega, show k * 2 + 1 + 1 + 1 = k * 2 + 1 + 1 + 1 from rfl]
    simpa using this
theorem DiskO.gr {w w' : World} {d sb : Nat} {wb : Option Nat} {z : DState} (h : DiskO w d sb wb z) (g : Gr w w') : DiskO w' d sb wb z := h.keep (S := fun _ => False) (Ch.of_gr g) (fun h => h) (fun h => h) (fun _ _ h => h)
theorem strs_set (l : List ByteArray) (q : Nat) (s : ByteArray) : (strs l).set q (.string s) = strs (l.set q s) := by unfold strs; rw [List.map_set]
theorem DiskO.setSafe {w : World} {d sb : Nat} {wb : Option Nat} {z : DState} (h : DiskO w d sb wb z) (q : Nat) (s : ByteArray) : DiskO (w.setCell ⟨sb, q, none⟩ (.string s)) d sb wb { z with safe := z.safe.set q s } := by
  obtain ⟨sc, wo, wc, h0, hs, hw, hwb, h1, h2, h3⟩ := h
  have hc : Ch (· = sb) w (w.setCell ⟨sb, q, none⟩ (.string s)) := Ch.setCell (S := (· = sb)) (Ch.refl _ w) (.inl rfl) _
  have hs2 := (World.ownsRow.stored hs q (.string s)).1
  rw [strs_set] at hs2
  refine ⟨sc, wo, wc, ?_, ?_, ownsRow_ch hw hc (fun x hx e => h3 (by rw [← hwb, hx, e])), hwb, h1, h2, h3⟩
  · rw [List.length_set]; exact hc.blk h0 (fun e => h1 e.symm)
  · rw [List.length_set]; exact hs2
theorem DiskO.emptied {w : World} {d sb : Nat} {wb : Option Nat} {z : DState} (h : DiskO w d sb wb z) : DiskO (w.setCell ⟨d, 1, none⟩ (.slice none 0 0)) d sb none { z with wait := [] } := by
  obtain ⟨sc, wo, wc, h0, hs, hw, hwb, h1, h2, h3⟩ := h
  have hc : Ch (· = d) w (w.setCell ⟨d, 1, none⟩ (.slice none 0 0)) := Ch.setCell (S := (· = d)) (Ch.refl _ w) (.inl rfl) _
  refine ⟨sc, none, 0, ?_, ownsRow_ch hs hc (fun x hx e => by injection hx with hx; exact h1 (hx.trans e)), ⟨rfl, .inl ⟨rfl, rfl⟩⟩, rfl, h1, (fun e => by cases e), (fun e => by cases e)⟩
  rw [blk_set h0 1 _]; rfl
/-- What the walk needs of the k-th that waits. -/
theorem DiskO.waits {w : World} {d sb : Nat} {wb : Option Nat} {z : DState} (h : DiskO w d sb wb z) {k : Nat} {x : Int × ByteArray} (hx : z.wait[k]? = some x) :
    ∃ g wc, wb = some g ∧ w.cell? ⟨d, 1, none⟩ = some (.slice (some ⟨g, 0, none⟩) z.wait.length wc) ∧ w.cell? ⟨g, k * 2, none⟩ = some (.int .i64 x.1) ∧ w.cell? ⟨g, k * 2 + 1, none⟩ = some (.string x.2) := by
  obtain ⟨sc, wo, wc, h0, hs, hw, hwb, h1, h2, h3⟩ := h
  have hk : k < z.wait.length := (List.getElem?_eq_some_iff.1 hx).1
  obtain ⟨_, ⟨hv, e0⟩ | ⟨g, cap', cur, hv, _, hg, _⟩⟩ := id hw
  · omega
  · injection hv with hv _ hcap
    subst hv
    subst hcap
    have e := wrs_get z.wait k x hx
    refine ⟨g, wc, hwb.symm, blk_cell h0 1 rfl, ?_, ?_⟩
    · rw [World.ownsRow.cellAt hw _ (by omega)]; exact e.1
    · rw [World.ownsRow.cellAt hw _ (by omega)]; exact e.2
theorem DiskO.safes {w : World} {d sb : Nat} {wb : Option Nat} {z : DState} (h : DiskO w d sb wb z) : ∃ sc, w.cell? ⟨d, 0, none⟩ = some (.slice (some ⟨sb, 0, none⟩) z.safe.length sc) ∧ (∀ j, w.frozen? ⟨sb, j, none⟩ = false) ∧ ∀ (q : Nat) (s : ByteArray), z.safe[q]? = some s → w.cell? ⟨sb, q, none⟩ = some (.string s) := by
  obtain ⟨sc, wo, wc, h0, hs, hw, hwb, h1, h2, h3⟩ := h
  refine ⟨sc, blk_cell h0 0 rfl, fun j => World.ownsRow.frozenAt hs j, fun q s hq => ?_⟩
  have hk : q < z.safe.length := (List.getElem?_eq_some_iff.1 hq).1
  rw [World.ownsRow.cellAt hs _ (by omega)]
  unfold strs
  rw [List.getElem?_map, hq]; rfl
theorem k_all (i : Int) (w : World) : Calls Tryz.prog 131 #[.int .i64 i] w fun e w' => e = .returned (.bool true) ∧ w' = w := by
  go_enter Tryz.func131, Tryz.ntmps131
  go_wp2
  go_ret
  exact ⟨rfl, rfl⟩
set_option maxRecDepth 100000 in
set_option maxHeartbeats 1600000 in
theorem settle_all (w : World) (d sb : Nat) (wb : Option Nat) (z : DState) (h : DiskO w d sb wb z) (hW : ∀ x ∈ z.wait, 0 ≤ x.1 ∧ x.1 < z.safe.length) (hm : z.wait.length ≤ 4000000000000) (hn : z.safe.length ≤ 4000000000000) :
    Calls Tryz.prog 130 #[.pointer (some ⟨d, 0, none⟩), .func (.func 131) #[] #[]] w fun e w' => e = .returned (.tuple #[]) ∧ DiskO w' d sb none { z with safe := setN (fun _ => true) z.safe z.wait z.wait.length, wait := [] } ∧ Ch (fun x => x = d ∨ x = sb) w w' := by
  have H := Lib.hid h
  obtain ⟨sc, wo, wc, hb, hr⟩ := h
  have c1 := blk_cell hb 1 (v := .slice wo z.wait.length wc) rfl
  have HWW := Lib.hid hW
  have HR := Lib.hid hr
  have HBL := Lib.hid (blk_lt hb)
  clear hb hr hW
  obtain ⟨m, hmm⟩ : ∃ m, m = z.wait.length := ⟨_, rfl⟩
  have HMM := Lib.hid hmm
  rw [← hmm] at c1 hm
  rw [show z.wait.length = m from hmm.symm]
  clear hmm
  go_enter Tryz.func130, Tryz.ntmps130
  go_wp2_with fail
  go_loopw [11] (fun v11 wr => ∃ k : Nat, k ≤ m ∧ v11 = .int .i64 k ∧ Ch (fun x => x = d ∨ x = sb) w wr ∧ DiskO wr d sb wb { z with safe := setN (fun _ => true) z.safe z.wait k }) (fun v11 _ => m - (intOf v11).toNat)
  case atStart => exact ⟨0, Nat.zero_le _, rfl, Ch.refl _ _, H.out⟩
  case round =>
    obtain ⟨k, hk, rfl, hc, hd⟩ := hrel
    have HC := Lib.hid hc
    have HD := Lib.hid hd
    clear hc hd
    by_cases hlt : k < m
    · obtain ⟨x, hx⟩ : ∃ x, z.wait[k]? = some x := ⟨z.wait[k]'(by have := HMM.out; omega), List.getElem?_eq_getElem _⟩
      obtain ⟨g, wc', hg, _, e1, e2⟩ := HD.out.waits (k := k) (x := x) hx
      have hwo : wo = some ⟨g, 0, none⟩ := by
        obtain ⟨_, ⟨hv, e0⟩ | ⟨g2, cap2, cur2, hv, _⟩⟩ := HR.out.2.1
        · have := HMM.out; omega
        · injection hv with hv _ _
          have h2 := HR.out.2.2.1
          rw [hv] at h2
          have h3 : some g2 = some g := h2.trans hg
          injection h3 with h3
          rw [hv, h3]
      subst hwo
      have hxw := HWW.out x (List.mem_of_getElem? hx)
      obtain ⟨q, hq⟩ : ∃ q : Nat, x.1 = (q : Int) := ⟨x.1.toNat, by omega⟩
      have hN := setN_at (P := fun _ => true) (safe := z.safe) hx
      rw [hq, Int.toNat_natCast] at hN
      have HNX := Lib.hid hN
      rw [hq] at e1
      have hqn : q < z.safe.length := by omega
      have hl := setN_len (fun _ => true) z.safe z.wait k
      have HL := Lib.hid hl
      clear hN hxw hl
      have HD2 := Lib.hid (HD.out.gr (Below.alloc (Below.refl _ _) (Nat.le_refl _) (.cells #[.int .i64 (q : Int), .string x.2] 165)))
      obtain ⟨sc', s0, sf, scell⟩ := HD2.out.safes
      have s1 := scell q _ (List.getElem?_eq_getElem (by show q < (setN (fun _ => true) z.safe z.wait k).length; rw [HL.out]; exact hqn))
      have sfq := sf q
      clear sf scell
      rw [show ({ z with safe := setN (fun _ => true) z.safe z.wait k } : DState).safe.length = z.safe.length from HL.out] at s0
      have HC2 := Lib.hid ((HC.out.alloc (.cells #[.int .i64 (q : Int), .string x.2] 165)).drew.setCell (p := ⟨sb, q, none⟩) (.inl (.inr rfl)) (.string x.2))
      have HD3 := Lib.hid (((HD2.out.gr (Below.drew (Below.refl _ _))).setSafe q x.2))
      generalize (setN (fun _ => true) z.safe z.wait k)[q]'_ = old at *
      have dl : decide (k < m) = true := decide_eq_true hlt
      have hk0 : (0 : Int) ≤ k := by omega
      generalize hX2 : x.2 = xs at *
      clear hX2
      obtain ⟨M, hM⟩ : ∃ M, M = z.safe.length := ⟨_, rfl⟩
      rw [← hM] at s0 hqn hn
      clear hM
      go_upto_region 4 with (go_at_call 131; refine (k_all _ _).mono ?_; rintro e w' ⟨rfl, rfl⟩)
      have v0 := blk_cell (blk_new wr (.cells #[.int .i64 (q : Int), .string xs] 165)) 0 (v := .int .i64 (q : Int)) rfl
      have v1 := blk_cell (blk_new wr (.cells #[.int .i64 (q : Int), .string xs] 165)) 1 (v := .string xs) rfl
      generalize wr.alloc (.cells #[.int .i64 (q : Int), .string xs] 165) = wv at *
      generalize wr.heap.size = vb at *
      go_still_tail 9, (by kernel_rfl)
      go_wp2_with fail
      go_roundw
      case rel => exact ⟨k + 1, by omega, by go_num, HC2.out, by rw [HNX.out]; exact HD3.out⟩
      case measure => simp [intOf]; omega
    · obtain rfl : k = m := by omega
      have dl : decide (k < k) = false := decide_eq_false (by omega)
      obtain ⟨sv, wv, hcells⟩ := HD.out.cellsOf
      have d1 := blk_cell hcells 1 (v := wv) rfl
      have f1 := blk_frozen hcells 1
      have HE := Lib.hid HD.out.emptied
      have HCF := Lib.hid (HC.out.setCell (p := ⟨d, 1, none⟩) (.inl (.inl rfl)) (.slice none 0 0))
      clear hcells
      go_wp2_with fail
      exact bodyPost_end (results_none rfl _ _ _) rfl ⟨rfl, HE.out, HCF.out⟩
end Go.Proofs.YtlpcccpagmipnaaGreat.P
