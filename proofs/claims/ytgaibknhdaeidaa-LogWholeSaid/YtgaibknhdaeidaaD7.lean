/- Stage 6: what a crash keeps is made safe. No condition. -/
import Derived.Test.YtgaibknhdaeidaaD6
set_option linter.unusedVariables false
set_option maxRecDepth 50000
namespace Go.Proofs.Ytgaibknhdaeidaa.P
open Go.RowKit
set_option maxRecDepth 100000 in
set_option maxHeartbeats 1600000 in
theorem settle_keep (w : World) (d sb : Nat) (wb : Option Nat) (z : DState) (h : DiskO w d sb wb z) (K : Int) (hK : u64 K) (kb : Nat) (hkb : w.heap[kb]? = some (.cells #[.int .u64 K] 43)) (hkd : kb ≠ d) (hks : kb ≠ sb) (hW : ∀ x ∈ z.wait, 0 ≤ x.1 ∧ x.1 < z.safe.length) (hm : z.wait.length ≤ 4000000000000) (hn : z.safe.length ≤ 4000000000000) :
    Calls Try.prog 36 #[.pointer (some ⟨d, 0, none⟩), .func (.func 37) #[] #[.pointer (some ⟨kb, 0, none⟩)]] w fun e w' => e = .returned (.tuple #[]) ∧ DiskO w' d sb none { z with safe := setN (keepB K) z.safe z.wait z.wait.length, wait := [] } ∧ Ch (fun x => x = d ∨ x = sb) w w' := by
  have H := Lib.hid h
  have HKB := Lib.hid hkb
  have HKN := Lib.hid (And.intro hK (And.intro hkd hks))
  clear hkb hK hkd hks
  obtain ⟨sc, wo, wc, hb, hr⟩ := h
  have c1 := blk_cell hb 1 (v := .slice wo z.wait.length wc) rfl
  have HWW := Lib.hid hW
  have HR := Lib.hid hr
  have HBL := Lib.hid (blk_lt hb)
  clear hb hr hW
  obtain ⟨m, hmm⟩ : ∃ m, m = z.wait.length := ⟨_, rfl⟩
  have HMM := Lib.hid hmm
  rw [← hmm] at c1 hm
  rw [show z.wait.length = m from hmm.symm]
  clear hmm
  go_enter Try.func36, Try.ntmps36
  go_wp2_with fail
  go_loopw [11] (fun v11 wr => ∃ k : Nat, k ≤ m ∧ v11 = .int .i64 k ∧ Ch (fun x => x = d ∨ x = sb) w wr ∧ DiskO wr d sb wb { z with safe := setN (keepB K) z.safe z.wait k }) (fun v11 _ => m - (intOf v11).toNat)
  case atStart => exact ⟨0, Nat.zero_le _, rfl, Ch.refl _ _, H.out⟩
  case round =>
    obtain ⟨k, hk, rfl, hc, hd⟩ := hrel
    have HC := Lib.hid hc
    have HD := Lib.hid hd
    clear hc hd
    by_cases hlt : k < m
    · obtain ⟨x, hx⟩ : ∃ x, z.wait[k]? = some x := ⟨z.wait[k]'(by have := HMM.out; omega), List.getElem?_eq_getElem _⟩
      obtain ⟨g, wc', hg, _, e1, e2⟩ := HD.out.waits (k := k) (x := x) hx
      have hwo : wo = some ⟨g, 0, none⟩ := by
        obtain ⟨_, ⟨hv, e0⟩ | ⟨g2, cap2, cur2, hv, _⟩⟩ := HR.out.2.1
        · have := HMM.out; omega
        · injection hv with hv _ _
          have h2 := HR.out.2.2.1
          rw [hv] at h2
          have h3 : some g2 = some g := h2.trans hg
          injection h3 with h3
          rw [hv, h3]
      subst hwo
      have hxw := HWW.out x (List.mem_of_getElem? hx)
      obtain ⟨q, hq⟩ : ∃ q : Nat, x.1 = (q : Int) := ⟨x.1.toNat, by omega⟩
      have hN := setN_at (P := keepB K) (safe := z.safe) hx
      rw [hq, Int.toNat_natCast] at hN
      have HNX := Lib.hid hN
      rw [hq] at e1
      have hqn : q < z.safe.length := by omega
      have hl := setN_len (keepB K) z.safe z.wait k
      have HL := Lib.hid hl
      clear hN hxw hl
      have HD2 := Lib.hid (HD.out.gr (Below.alloc (Below.refl _ _) (Nat.le_refl _) (.cells #[.int .i64 (q : Int), .string x.2] 94)))
      obtain ⟨sc', s0, sf, scell⟩ := HD2.out.safes
      have s1 := scell q _ (List.getElem?_eq_getElem (by show q < (setN (keepB K) z.safe z.wait k).length; rw [HL.out]; exact hqn))
      have sfq := sf q
      clear sf scell
      rw [show ({ z with safe := setN (keepB K) z.safe z.wait k } : DState).safe.length = z.safe.length from HL.out] at s0
      have hk1 := HKN.out.1
      have ckb := blk_alloc (.cells #[.int .i64 (q : Int), .string x.2] 94) (HC.out.blk HKB.out (fun e => by rcases e with e | e; exact HKN.out.2.1 e; exact HKN.out.2.2 e))
      have ck := blk_cell ckb 0 (v := .int .u64 K) rfl
      have CK := fun w' c => k_keep K hk1 kb k (by omega) w' c
      clear ckb hk1
      cases hP : keepB K k with
      | true =>
        rw [hP] at CK HNX
        have HC2 := Lib.hid ((HC.out.alloc (.cells #[.int .i64 (q : Int), .string x.2] 94)).drew.setCell (p := ⟨sb, q, none⟩) (.inl (.inr rfl)) (.string x.2))
        have HD3 := Lib.hid (((HD2.out.gr (Below.drew (Below.refl _ _))).setSafe q x.2))
        generalize (setN (keepB K) z.safe z.wait k)[q]'_ = old at *
        have dl : decide (k < m) = true := decide_eq_true hlt
        have hk0 : (0 : Int) ≤ k := by omega
        generalize hX2 : x.2 = xs at *
        clear hX2
        obtain ⟨M, hM⟩ : ∃ M, M = z.safe.length := ⟨_, rfl⟩
        rw [← hM] at s0 hqn hn
        clear hM
        go_upto_region 4 with (go_at_call 37; refine (CK _ ck).mono ?_; rintro e w' ⟨rfl, rfl⟩)
        have v0 := blk_cell (blk_new wr (.cells #[.int .i64 (q : Int), .string xs] 94)) 0 (v := .int .i64 (q : Int)) rfl
        have v1 := blk_cell (blk_new wr (.cells #[.int .i64 (q : Int), .string xs] 94)) 1 (v := .string xs) rfl
        generalize wr.alloc (.cells #[.int .i64 (q : Int), .string xs] 94) = wv at *
        generalize wr.heap.size = vb at *
        go_still_tail 9, (by kernel_rfl)
        go_wp2_with fail
        go_roundw
        case rel => exact ⟨k + 1, by omega, by go_num, HC2.out, by rw [HNX.out]; exact HD3.out⟩
        case measure => simp [intOf]; omega
      | false =>
        rw [hP] at CK HNX
        have dl : decide (k < m) = true := decide_eq_true hlt
        have hk0 : (0 : Int) ≤ k := by omega
        have HC2 := Lib.hid (HC.out.alloc (.cells #[.int .i64 (q : Int), .string x.2] 94))
        clear s0 s1 sfq
        go_wp2_with (go_at_call 37; refine (CK _ ck).mono ?_; rintro e w' ⟨rfl, rfl⟩)
        go_roundw
        case rel => exact ⟨k + 1, by omega, by go_num, HC2.out, by rw [HNX.out]; exact HD2.out⟩
        case measure => simp [intOf]; omega
    · obtain rfl : k = m := by omega
      have dl : decide (k < k) = false := decide_eq_false (by omega)
      obtain ⟨sv, wv, hcells⟩ := HD.out.cellsOf
      have d1 := blk_cell hcells 1 (v := wv) rfl
      have f1 := blk_frozen hcells 1
      have HE := Lib.hid HD.out.emptied
      have HCF := Lib.hid (HC.out.setCell (p := ⟨d, 1, none⟩) (.inl (.inl rfl)) (.slice none 0 0))
      clear hcells
      go_wp2_with fail
      exact bodyPost_end (results_none rfl _ _ _) rfl ⟨rfl, HE.out, HCF.out⟩
end Go.Proofs.Ytgaibknhdaeidaa.P
