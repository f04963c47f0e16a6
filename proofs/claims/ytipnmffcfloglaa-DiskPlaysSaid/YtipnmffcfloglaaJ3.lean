/- Stage 6: the document's Flush with power. No condition. -/
import Derived.Test.YtipnmffcfloglaaJ2
set_option linter.unusedVariables false
namespace Go.Proofs.Ytipnmffcfloglaa.P
open Go.RowKit
set_option maxRecDepth 100000 in
set_option maxHeartbeats 4000000 in
theorem e_flush_ok (w : World) (d sb : Nat) (wb : Option Nat) (z : DState) (h : RDiskO w d sb wb z) (hz : WZ z) (ho : z.off = false) (ha : actB z = true) (hm : z.wait.length ≤ 4000000000000) :
    Calls Try.prog 32 #[.pointer (some ⟨d, 0, none⟩)] w fun e w' => e = .returned (.int .i64 0) ∧ RDiskO w' d sb none (flushZ z) ∧ Ch (fun x => x = d ∨ x = sb) w w' := by
  have hfl : flushZ z = { actZ z with safe := setN (fun _ => true) z.safe z.wait z.wait.length, wait := [] } := by unfold flushZ; rw [ho, ha]; rfl
  rw [hfl]
  obtain ⟨sv, wv, hb⟩ := h.cellsOf
  have c3 := blk_cell hb 3 (v := .bool z.off) rfl
  rw [ho] at c3
  have CA := e_act w d sb wb z h hz.2.2.1 hz.2.2.2.1
  rw [ha] at CA
  obtain ⟨k1, k2⟩ := actZ_keeps z
  have HW := Lib.hid hz.2.2.2.2
  have hn := hz.2.1
  generalize hy : actZ z = y at *
  clear hy hz ho ha hfl hb h
  have HK1 := Lib.hid k1
  have HK2 := Lib.hid k2
  obtain ⟨m, hmm⟩ : ∃ m, m = z.wait.length := ⟨_, rfl⟩
  have HM := Lib.hid hmm
  rw [← hmm] at hm ⊢
  obtain ⟨n, hnn⟩ : ∃ n, n = z.safe.length := ⟨_, rfl⟩
  have HN := Lib.hid hnn
  rw [← hnn] at hn
  clear k1 k2 hmm hnn
  go_enter Try.func32, Try.ntmps32
  go_wp2_with fail
  refine CA.mono ?_
  rintro e w2 ⟨rfl, h2, h3⟩
  have H2 := Lib.hid h2
  have H3 := Lib.hid (h3.mono (T := fun x => x = d ∨ x = sb) (fun x hx => .inl hx))
  clear h2 h3 c3
  go_wp2_with fail
  have hst : RowKit.Hid (RDiskO w2 d sb wb { y with safe := setN (fun _ => true) z.safe z.wait 0 }) := Lib.hid (by rw [setN, ← HK2.out]; exact H2.out)
  go_loopw [4] (fun v wr => ∃ k : Nat, k ≤ m ∧ v = .int .i64 k ∧ RDiskO wr d sb wb { y with safe := setN (fun _ => true) z.safe z.wait k } ∧ Ch (fun x => x = d ∨ x = sb) w wr) (fun v _ => m - (intOf v).toNat)
  case atStart => exact ⟨0, Nat.zero_le _, rfl, hst.out, H3.out⟩
  case round =>
    obtain ⟨k, hk, rfl, hd, hc⟩ := hrel
    have HD := Lib.hid hd
    have HC := Lib.hid hc
    obtain ⟨wo, wc, c1⟩ := hd.waitCell
    rw [show ({ y with safe := setN (fun _ => true) z.safe z.wait k } : DState).wait.length = m by show y.wait.length = m; rw [HK1.out, HM.out]] at c1
    clear hd hc
    by_cases hlt : k < m
    · have dl : decide (k < m) = true := decide_eq_true hlt
      have hkw : k < z.wait.length := by have := HM.out; omega
      have hx : z.wait[k]? = some (z.wait[k]'hkw) := List.getElem?_eq_getElem _
      obtain ⟨g, wc', hg, e0, e1, e2⟩ := HD.out.waits (k := k) (x := z.wait[k]'hkw) (by show y.wait[k]? = _; rw [HK1.out]; exact hx)
      have hwo : wo = some ⟨g, 0, none⟩ := by
        rw [c1] at e0
        injection e0 with e0
        injection e0 with e0 _ _
      subst hwo
      clear e0
      have hxw := HW.out _ (List.getElem_mem hkw)
      have hNx := setN_at (P := fun _ => true) (safe := z.safe) hx
      generalize z.wait[k]'hkw = x at *
      obtain ⟨xi, xs⟩ := x
      dsimp only at e1 e2 hxw hNx
      obtain ⟨q, rfl⟩ : ∃ q : Nat, xi = (q : Int) := ⟨xi.toNat, by omega⟩
      rw [Int.toNat_natCast] at hNx
      have HNX := Lib.hid hNx
      have hqn : q < z.safe.length := by omega
      obtain ⟨sc', s0, sf, scell⟩ := HD.out.safes
      have s1 := scell q _ (List.getElem?_eq_getElem (by show q < (setN (fun _ => true) z.safe z.wait k).length; rw [setN_len]; exact hqn))
      have sfq := sf q
      rw [show ({ y with safe := setN (fun _ => true) z.safe z.wait k } : DState).safe.length = n by show (setN _ _ _ _).length = n; rw [setN_len, HN.out]] at s0
      rw [← HN.out] at hqn
      have HS9 := Lib.hid ((HD.out.gr (Gr.drewN (Gr.refl _) 1)).setSafe q xs)
      have HC9 := Lib.hid ((HC.out.drew).setCell (p := ⟨sb, q, none⟩) (.inl (.inr rfl)) (.string xs))
      generalize (setN (fun _ => true) z.safe z.wait k)[q]'_ = old at *
      have hk0 : (0 : Int) ≤ k := by omega
      have hq0 : (0 : Int) ≤ q := by omega
      clear sf scell hxw hNx hx
      go_upto_region 9 with fail
      go_still_tail 21, (by kernel_rfl)
      go_wp2_with fail
      go_roundw
      case rel => exact ⟨k + 1, by omega, by go_num, by rw [HNX.out]; exact HS9.out, HC9.out⟩
      case measure => simp [intOf]; omega
    · obtain rfl : k = m := by omega
      have dl : decide (k < k) = false := decide_eq_false (by omega)
      obtain ⟨sv, wv, hcells⟩ := HD.out.cellsOf
      have f1 := blk_frozen hcells 1
      have HE := Lib.hid HD.out.emptied
      have HCF := Lib.hid (HC.out.setCell (p := ⟨d, 1, none⟩) (.inl (.inl rfl)) (.slice none 0 0))
      clear hcells
      go_wp2_with fail
      go_ret
      exact ⟨rfl, HE.out, HCF.out⟩
end Go.Proofs.Ytipnmffcfloglaa.P
