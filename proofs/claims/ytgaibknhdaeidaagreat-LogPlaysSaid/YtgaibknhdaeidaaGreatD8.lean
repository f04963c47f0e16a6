/- Stage 6: Flush; which writes a crash keeps. No condition. -/
import Derived.Test.YtgaibknhdaeidaaGreatD5
import Derived.Test.YtgaibknhdaeidaaGreatW1
set_option linter.unusedVariables false
set_option maxRecDepth 50000
namespace Go.Proofs.YtgaibknhdaeidaaGreat.P
open Go.RowKit
theorem c_flush_off (w : World) (d sb : Nat) (wb : Option Nat) (z : DState) (h : DiskO w d sb wb z) (ho : z.off = true) :
    Calls Tryz.prog 57 #[.pointer (some ⟨d, 0, none⟩)] w fun e w' => e = .returned (.int .i64 7) ∧ w' = w := by
  obtain ⟨sv, wv, hb⟩ := h.cellsOf
  have c2 := blk_cell hb 2 (v := .bool z.off) rfl
  rw [ho] at c2
  clear hb h
  go_enter Tryz.func57, Tryz.ntmps57
  go_wp2
  go_ret
  exact ⟨rfl, rfl⟩
theorem c_flush_dead (w : World) (d sb : Nat) (wb : Option Nat) (z : DState) (h : DiskO w d sb wb z) (h0 : 0 ≤ z.acts) (h1 : z.acts ≤ 9223372036854775807) (ho : z.off = false) (ha : actB z = false) :
    Calls Tryz.prog 57 #[.pointer (some ⟨d, 0, none⟩)] w fun e w' => e = .returned (.int .i64 7) ∧ DiskO w' d sb wb (actZ z) ∧ Ch (· = d) w w' := by
  have CA := c_dact w d sb wb z h h0 h1
  rw [ha] at CA
  obtain ⟨sv, wv, hb⟩ := h.cellsOf
  have c2 := blk_cell hb 2 (v := .bool z.off) rfl
  rw [ho] at c2
  clear hb h h0 h1
  go_enter Tryz.func57, Tryz.ntmps57
  go_wp2_with fail
  refine CA.mono ?_; rintro e w2 ⟨rfl, h2, h3⟩
  have H2 := Lib.hid h2
  have H3 := Lib.hid h3
  clear h2 h3
  go_wp2_with fail
  go_ret
  exact ⟨rfl, H2.out, H3.out⟩
theorem actZ_keeps (z : DState) : (actZ z).wait = z.wait ∧ (actZ z).safe = z.safe := by
  unfold actZ; cases z.counted <;> cases decide (z.acts = 0) <;> exact ⟨rfl, rfl⟩
theorem c_flush_ok (w : World) (d sb : Nat) (wb : Option Nat) (z : DState) (h : DiskO w d sb wb z) (h0 : 0 ≤ z.acts) (h1 : z.acts ≤ 9223372036854775807) (ho : z.off = false) (ha : actB z = true) (hW : ∀ x ∈ z.wait, 0 ≤ x.1 ∧ x.1 < z.safe.length) (hm : z.wait.length ≤ 4000000000000) (hn : z.safe.length ≤ 4000000000000) :
    Calls Tryz.prog 57 #[.pointer (some ⟨d, 0, none⟩)] w fun e w' => e = .returned (.int .i64 0) ∧ DiskO w' d sb none { actZ z with safe := setN (fun _ => true) z.safe z.wait z.wait.length, wait := [] } ∧ Ch (fun x => x = d ∨ x = sb) w w' := by
  have CA := c_dact w d sb wb z h h0 h1
  rw [ha] at CA
  obtain ⟨k1, k2⟩ := actZ_keeps z
  obtain ⟨sv, wv, hb⟩ := h.cellsOf
  have c2 := blk_cell hb 2 (v := .bool z.off) rfl
  rw [ho] at c2
  have CS := fun (w2 : World) (h2 : DiskO w2 d sb wb (actZ z)) => settle_all w2 d sb wb (actZ z) h2 (by rw [k1, k2]; exact hW) (by rw [k1]; exact hm) (by rw [k2]; exact hn)
  rw [k1, k2] at CS
  clear hb h h0 h1 hW k1 k2 hm hn
  go_enter Tryz.func57, Tryz.ntmps57
  go_wp2_with fail
  refine CA.mono ?_; rintro e w2 ⟨rfl, h2, h3⟩
  have H2 := Lib.hid h2
  have H3 := Lib.hid h3
  clear h2 h3
  go_wp2_with fail
  refine (CS w2 H2.out).mono ?_; rintro e w3 ⟨rfl, h4, h5⟩
  have H4 := Lib.hid h4
  have H5 := Lib.hid h5
  clear h4 h5
  go_wp2_with fail
  go_ret
  exact ⟨rfl, H4.out, (H3.out.mono (fun x hx => .inl hx)).trans H5.out⟩
/-- Is the k-th kept? -/
def keepB (K : Int) (k : Nat) : Bool := decide (K / 2 ^ (k % 64) % 2 = 1)
theorem k_keep (K : Int) (hK : u64 K) (kb k : Nat) (hk : k ≤ 4000000000000) (w : World) (hc : w.cell? ⟨kb, 0, none⟩ = some (.int .u64 K)) : Calls Tryz.prog 35 #[.int .i64 (k : Int), .pointer (some ⟨kb, 0, none⟩)] w fun e w' => e = .returned (.bool (keepB K k)) ∧ w' = w := by
  obtain ⟨K0, K1⟩ := hK
  have e1 : (k : Int) % 64 = ((k % 64 : Nat) : Int) := by omega
  have e2 : k % 64 < 64 := by omega
  generalize hr : k % 64 = r at *
  have k0 : (0 : Int) ≤ k := by omega
  go_enter Tryz.func35, Tryz.ntmps35
  go_wp2
  go_ret
  have hp : (0 : Int) < 2 ^ r := W.pow_pos r
  have h0 : 0 ≤ K / 2 ^ r := Int.ediv_nonneg K0 (by omega)
  have h1 : K / 2 ^ r ≤ K := Int.ediv_le_self _ K0
  have e3 : bits .and .u64 (K / 2 ^ r) 1 = K / 2 ^ r % 2 := W.and_mask (K / 2 ^ r) 1 (by decide) ⟨h0, by omega⟩
  refine ⟨ret_b ?_, rfl⟩
  show (bits .and .u64 (K / 2 ^ r) 1 == 1) = keepB K k
  unfold keepB
  rw [e3, hr]
  rfl
end Go.Proofs.YtgaibknhdaeidaaGreat.P
namespace Go.Proofs.YtgaibknhdaeidaaGreat.P
open Go.RowKit
set_option maxRecDepth 100000 in
set_option maxHeartbeats 1600000 in
theorem settle_keep (w : World) (d sb : Nat) (wb : Option Nat) (z : DState) (h : DiskO w d sb wb z) (K : Int) (hK : u64 K) (kb : Nat) (hkb : w.heap[kb]? = some (.cells #[.int .u64 K] 36)) (hkd : kb ≠ d) (hks : kb ≠ sb) (hW : ∀ x ∈ z.wait, 0 ≤ x.1 ∧ x.1 < z.safe.length) (hm : z.wait.length ≤ 4000000000000) (hn : z.safe.length ≤ 4000000000000) :
    Calls Tryz.prog 34 #[.pointer (some ⟨d, 0, none⟩), .func (.func 35) #[] #[.pointer (some ⟨kb, 0, none⟩)]] w fun e w' => e = .returned (.tuple #[]) ∧ DiskO w' d sb none { z with safe := setN (keepB K) z.safe z.wait z.wait.length, wait := [] } ∧ Ch (fun x => x = d ∨ x = sb) w w' := by
  have H := Lib.hid h
  have HKB := Lib.hid hkb
  have HKN := Lib.hid (And.intro hK (And.intro hkd hks))
  clear hkb hK hkd hks
  obtain ⟨sc, wo, wc, hb, hr⟩ := h
  have c1 := blk_cell hb 1 (v := .slice wo z.wait.length wc) rfl
  have HWW := Lib.hid hW
  have HR := Lib.hid hr
  have HBL := Lib.hid (blk_lt hb)
  clear hb hr hW
  obtain ⟨m, hmm⟩ : ∃ m, m = z.wait.length := ⟨_, rfl⟩
  have HMM := Lib.hid hmm
  rw [← hmm] at c1 hm
  rw [show z.wait.length = m from hmm.symm]
  clear hmm
  go_enter Tryz.func34, Tryz.ntmps34
  go_wp2_with fail
  go_loopw [11] (fun v11 wr => ∃ k : Nat, k ≤ m ∧ v11 = .int .i64 k ∧ Ch (fun x => x = d ∨ x = sb) w wr ∧ DiskO wr d sb wb { z with safe := setN (keepB K) z.safe z.wait k }) (fun v11 _ => m - (intOf v11).toNat)
  case atStart => exact ⟨0, Nat.zero_le _, rfl, Ch.refl _ _, H.out⟩
  case round =>
    obtain ⟨k, hk, rfl, hc, hd⟩ := hrel
    have HC := Lib.hid hc
    have HD := Lib.hid hd
    clear hc hd
    by_cases hlt : k < m
    · obtain ⟨x, hx⟩ : ∃ x, z.wait[k]? = some x := ⟨z.wait[k]'(by have := HMM.out; omega), List.getElem?_eq_getElem _⟩
      obtain ⟨g, wc', hg, _, e1, e2⟩ := HD.out.waits (k := k) (x := x) hx
      have hwo : wo = some ⟨g, 0, none⟩ := by
        obtain ⟨_, ⟨hv, e0⟩ | ⟨g2, cap2, cur2, hv, _⟩⟩ := HR.out.2.1
        · have := HMM.out; omega
        · injection hv with hv _ _
          have h2 := HR.out.2.2.1
          rw [hv] at h2
          have h3 : some g2 = some g := h2.trans hg
          injection h3 with h3
          rw [hv, h3]
      subst hwo
      have hxw := HWW.out x (List.mem_of_getElem? hx)
      obtain ⟨q, hq⟩ : ∃ q : Nat, x.1 = (q : Int) := ⟨x.1.toNat, by omega⟩
      have hN := setN_at (P := keepB K) (safe := z.safe) hx
      rw [hq, Int.toNat_natCast] at hN
      have HNX := Lib.hid hN
      rw [hq] at e1
      have hqn : q < z.safe.length := by omega
      have hl := setN_len (keepB K) z.safe z.wait k
      have HL := Lib.hid hl
      clear hN hxw hl
      have HD2 := Lib.hid (HD.out.gr (Below.alloc (Below.refl _ _) (Nat.le_refl _) (.cells #[.int .i64 (q : Int), .string x.2] 96)))
      obtain ⟨sc', s0, sf, scell⟩ := HD2.out.safes
      have s1 := scell q _ (List.getElem?_eq_getElem (by show q < (setN (keepB K) z.safe z.wait k).length; rw [HL.out]; exact hqn))
      have sfq := sf q
      clear sf scell
      rw [show ({ z with safe := setN (keepB K) z.safe z.wait k } : DState).safe.length = z.safe.length from HL.out] at s0
      have hk1 := HKN.out.1
      have ckb := blk_alloc (.cells #[.int .i64 (q : Int), .string x.2] 96) (HC.out.blk HKB.out (fun e => by rcases e with e | e; exact HKN.out.2.1 e; exact HKN.out.2.2 e))
      have ck := blk_cell ckb 0 (v := .int .u64 K) rfl
      have CK := fun w' c => k_keep K hk1 kb k (by omega) w' c
      clear ckb hk1
      cases hP : keepB K k with
      | true =>
        rw [hP] at CK HNX
        have HC2 := Lib.hid ((HC.out.alloc (.cells #[.int .i64 (q : Int), .string x.2] 96)).drew.setCell (p := ⟨sb, q, none⟩) (.inl (.inr rfl)) (.string x.2))
        have HD3 := Lib.hid (((HD2.out.gr (Below.drew (Below.refl _ _))).setSafe q x.2))
        generalize (setN (keepB K) z.safe z.wait k)[q]'_ = old at *
        have dl : decide (k < m) = true := decide_eq_true hlt
        have hk0 : (0 : Int) ≤ k := by omega
        generalize hX2 : x.2 = xs at *
        clear hX2
        obtain ⟨M, hM⟩ : ∃ M, M = z.safe.length := ⟨_, rfl⟩
        rw [← hM] at s0 hqn hn
        clear hM
        go_upto_region 4 with (go_at_call 35; refine (CK _ ck).mono ?_; rintro e w' ⟨rfl, rfl⟩)
        have v0 := blk_cell (blk_new wr (.cells #[.int .i64 (q : Int), .string xs] 96)) 0 (v := .int .i64 (q : Int)) rfl
        have v1 := blk_cell (blk_new wr (.cells #[.int .i64 (q : Int), .string xs] 96)) 1 (v := .string xs) rfl
        generalize wr.alloc (.cells #[.int .i64 (q : Int), .string xs] 96) = wv at *
        generalize wr.heap.size = vb at *
        go_still_tail 9, (by kernel_rfl)
        go_wp2_with fail
        go_roundw
        case rel => exact ⟨k + 1, by omega, by go_num, HC2.out, by rw [HNX.out]; exact HD3.out⟩
        case measure => simp [intOf]; omega
      | false =>
        rw [hP] at CK HNX
        have dl : decide (k < m) = true := decide_eq_true hlt
        have hk0 : (0 : Int) ≤ k := by omega
        have HC2 := Lib.hid (HC.out.alloc (.cells #[.int .i64 (q : Int), .string x.2] 96))
        clear s0 s1 sfq
        go_wp2_with (go_at_call 35; refine (CK _ ck).mono ?_; rintro e w' ⟨rfl, rfl⟩)
        go_roundw
        case rel => exact ⟨k + 1, by omega, by go_num, HC2.out, by rw [HNX.out]; exact HD2.out⟩
        case measure => simp [intOf]; omega
    · obtain rfl : k = m := by omega
      have dl : decide (k < k) = false := decide_eq_false (by omega)
      obtain ⟨sv, wv, hcells⟩ := HD.out.cellsOf
      have d1 := blk_cell hcells 1 (v := wv) rfl
      have f1 := blk_frozen hcells 1
      have HE := Lib.hid HD.out.emptied
      have HCF := Lib.hid (HC.out.setCell (p := ⟨d, 1, none⟩) (.inl (.inl rfl)) (.slice none 0 0))
      clear hcells
      go_wp2_with fail
      exact bodyPost_end (results_none rfl _ _ _) rfl ⟨rfl, HE.out, HCF.out⟩
end Go.Proofs.YtgaibknhdaeidaaGreat.P
namespace Go.Proofs.YtgaibknhdaeidaaGreat.P
open Go.RowKit
set_option maxHeartbeats 800000 in
theorem c_dcrash (w : World) (d sb : Nat) (wb : Option Nat) (z : DState) (h : DiskO w d sb wb z) (K : Int) (hK : u64 K) (hW : ∀ x ∈ z.wait, 0 ≤ x.1 ∧ x.1 < z.safe.length) (hm : z.wait.length ≤ 4000000000000) (hn : z.safe.length ≤ 4000000000000) :
    Calls Tryz.prog 10 #[.pointer (some ⟨d, 0, none⟩), .int .u64 K] w fun e w' => e = .returned (.tuple #[]) ∧ DiskO w' d sb none ⟨setN (keepB K) z.safe z.wait z.wait.length, [], false, false, 0⟩ ∧ Ch (fun x => x = d ∨ x = sb) w w' := by
  have hd : d < w.heap.size := by obtain ⟨sv, wv, hb⟩ := h.cellsOf; exact blk_lt hb
  have hs : sb < w.heap.size := by obtain ⟨sc, wo, wc, h0, hs, hr⟩ := h; exact ownsRow_lt hs
  have CS := settle_keep (w.alloc (.cells #[.int .u64 K] 36)) d sb wb z (h.gr (Below.alloc (Below.refl _ _) (Nat.le_refl _) _)) K hK w.heap.size (blk_new w _) (by omega) (by omega) hW hm hn
  have HCA := Lib.hid (show Ch (fun x => x = d ∨ x = sb) w (w.alloc (.cells #[.int .u64 K] 36)) from (Ch.refl _ w).alloc _)
  clear h hW hK
  go_enter Tryz.func10, Tryz.ntmps10
  go_wp2_with fail
  refine CS.mono ?_; rintro e w2 ⟨rfl, h2, h3⟩
  have H2 := Lib.hid h2
  have H3 := Lib.hid (HCA.out.trans h3)
  obtain ⟨sv, wv, hb⟩ := h2.cellsOf
  have HB := Lib.hid hb
  have z2 := blk_frozen hb 2
  have z3 := blk_frozen hb 3
  have z4 := blk_frozen hb 4
  have c2 := blk_cell hb 2 rfl
  have c3 := blk_cell hb 3 rfl
  have c4 := blk_cell hb 4 rfl
  clear hb h2 h3
  go_wp2_with fail
  have hch : Ch (· = d) w2 (((w2.setCell ⟨d, 2, none⟩ (.bool false)).setCell ⟨d, 3, none⟩ (.bool false)).setCell ⟨d, 4, none⟩ (.int .i64 0)) := Ch.setCell (S := (· = d)) (Ch.setCell (S := (· = d)) (Ch.setCell (S := (· = d)) (Ch.refl _ w2) (p := ⟨d, 2, none⟩) (.inl rfl) _) (p := ⟨d, 3, none⟩) (.inl rfl) _) (p := ⟨d, 4, none⟩) (.inl rfl) _
  have hf := H2.out.cells hch false false 0 (fun a b hb => by rw [blk_set (blk_set (blk_set hb 2 _) 3 _) 4 _]; rfl)
  exact bodyPost_end (results_none rfl _ _ _) rfl ⟨rfl, hf, H3.out.trans (hch.mono (fun x hx => .inl hx))⟩
end Go.Proofs.YtgaibknhdaeidaaGreat.P
