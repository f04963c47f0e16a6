/- Stage 11: Text. No condition. -/
import Derived.Test.YtbcnibnkojnpiaaEK
set_option linter.unusedVariables false
set_option linter.unusedSimpArgs false
set_option maxRecDepth 100000
namespace Go.Proofs.Ytbcnibnkojnpiaa.P
open Go.RowKit Go.MuLone Go.Maps Go.Proofs.Ytbcnibnkojnpiaa.W
variable {w0 w : World} {pb b first : Nat} {z : Sp} {R : Asn}
/-- Text, from the byte i on, k of them left. -/
def textX (z : Sp) (r a : Int) : Nat → Nat → List UInt8 → ByteArray × Int
  | 0, _, _ => (⟨#[]⟩, 15)
  | k + 1, i, row =>
    bif decide (walkR z.L.length z.s r (IntKind.u64.wrap (a + i)) 1 = 0) then
      (bif decide (loadV z.s (walkV z.L.length z.s r (IntKind.u64.wrap (a + i)) 1) 1 = 0) then (⟨row.toArray⟩, 0)
        else textX z r a k (i + 1) (row ++ [UInt8.ofNat (loadV z.s (walkV z.L.length z.s r (IntKind.u64.wrap (a + i)) 1) 1).toNat]))
    else (⟨#[]⟩, walkR z.L.length z.s r (IntKind.u64.wrap (a + i)) 1)
theorem load1_bd (s : List UInt8) (p : Int) : 0 ≤ loadV s p 1 ∧ loadV s p 1 < 256 := by
  unfold loadV
  rw [if_pos (show sizedB 1 = true from rfl)]
  split
  · have h1 : (subB s p.toNat (1 : Int).toNat).size ≤ 1 := by
      show ((s.drop p.toNat).take 1).toArray.size ≤ 1
      rw [List.size_toArray, List.length_take]; omega
    unfold ofF
    have b := ofN_bd (subB s p.toNat (1 : Int).toNat) (min (subB s p.toNat (1 : Int).toNat).size 8)
    refine ⟨b.1, Int.lt_of_lt_of_le b.2 ?_⟩
    have : (2 : Int) ^ (8 * min (subB s p.toNat (1 : Int).toNat).size 8) ≤ 2 ^ 8 := pow_le _ _ (by omega)
    exact this
  · decide
theorem conv_row {o : Option Addr} {c : Nat} {l : List UInt8} (h : w.ownsRow 0 5 1 (.slice o l.length c) l.length (Lib.byteCells l)) :
    (convert 74 9 (.slice o l.length c)).run Try.prog w = .ok (.string ⟨l.toArray⟩) w := by
  rcases h.2 with ⟨hv, h0⟩ | ⟨g, cap, cur, hv, hb, hg, k⟩
  · have e0 := List.eq_nil_of_length_eq_zero h0
    subst e0
    injection hv with hv1 hv2 hv3
    subst hv1; subst hv3
    exact run_convert_bytes_nil (P := Try.prog) w 74 5 Try.underlying74 Try.underlying5 0 0 9 Try.underlying9
  · injection hv with hv1 hv2 hv3
    subst hv1; subst hv3
    have := Go.Lib.run_convert_whole (P := Try.prog) w 74 5 9 Try.underlying74 Try.underlying5 Try.underlying9 g 0 ⟨l.toArray⟩ (fun i hi => by
      have hi2 : i < l.length := by
        have e : (⟨l.toArray⟩ : ByteArray).size = l.length := List.size_toArray
        omega
      have h3 := h.cells (g := g) rfl i (.int .u8 (l[i]'hi2).toNat) (by
        rw [Lib.byteCells, List.getElem?_map, List.getElem?_eq_getElem hi2]; rfl)
      rw [show ((⟨l.toArray⟩ : ByteArray)[i]'hi) = l[i]'hi2 from rfl]
      rw [Addr.add_lit] at h3
      exact h3) c
    exact this
theorem o_text_bad (h : Own w0 w (Star (plA pb b first z.L z.s) R)) (hR : Stable R) (r a n : Int) (hr : i64 r) (hbad : movedBad first z r n = true) :
    Calls Try.prog 16 #[.pointer (some ⟨pb, 0, none⟩), .int .i64 r, .int .u64 a, .int .i64 n] w fun e w' => e = .returned (.tuple #[.string ⟨#[]⟩, .int .i64 1]) ∧ Own w0 w' (Star (plA pb b first z.L z.s) R) := by
  obtain ⟨tk, htk⟩ : ∃ t, tknB z.L first r = t := ⟨_, rfl⟩
  have TK := Lib.hid (o_ptaken h hR r hr tk htk)
  unfold movedBad at hbad
  rw [htk] at hbad
  clear h hR hr htk
  rcases (show tk = false ∨ (tk = true ∧ n < 0) ∨ (tk = true ∧ ¬ n < 0 ∧ 4096 < n) by
    cases tk
    · exact .inl rfl
    · simp only [Bool.not_true, Bool.false_or, Bool.or_eq_true, decide_eq_true_eq] at hbad
      rcases hbad with e | e
      · exact .inr (.inl ⟨rfl, e⟩)
      · exact .inr (.inr ⟨rfl, by omega, e⟩)) with rfl | ⟨rfl, e⟩ | ⟨rfl, e, e2⟩
  all_goals
    clear hbad
    go_enter Try.func16, Try.ntmps16
    go_wp2_with (go_at_call 23; refine TK.out.mono ?_; rintro e w2 ⟨rfl, h2⟩; have H2 := Lib.hid h2; clear h2)
    go_ret2
    exact ⟨rfl, H2.out⟩
set_option maxHeartbeats 1600000 in
theorem o_text_go (h : Own w0 w (Star (plA pb b first z.L z.s) R)) (hR : Stable R) (r a : Int) (m : Nat) (hr : i64 r) (ha : u64 a) (hbad : movedBad first z r m = false) (T : ByteArray) (E : Int) (hx : textX z r a (m + 1) 0 [] = (T, E)) :
    Calls Try.prog 16 #[.pointer (some ⟨pb, 0, none⟩), .int .i64 r, .int .u64 a, .int .i64 (m : Int)] w fun e w' => e = .returned (.tuple #[.string T, .int .i64 E]) ∧ Own w0 w' (Star (plA pb b first z.L z.s) R) := by
  have hb : tknB z.L first r = true ∧ ¬ (m : Int) < 0 ∧ ¬ 4096 < (m : Int) := by
    unfold movedBad at hbad
    cases q : tknB z.L first r
    · rw [q] at hbad; cases hbad
    · rw [q] at hbad
      simp only [Bool.not_true, Bool.false_or, Bool.or_eq_false_iff, decide_eq_false_iff_not] at hbad
      exact ⟨rfl, hbad⟩
  obtain ⟨htk, e1, e2⟩ := hb
  obtain ⟨a0, a1⟩ := ha
  have HR := Lib.hid hR
  have HRI := Lib.hid hr
  have TK := Lib.hid (o_ptaken h hR r hr true htk)
  have HSP := Lib.hid (stable_pl pb b first z.L z.s)
  have HX := Lib.hid hx
  have k0 : IntKind.i64.wrap ((m : Int) + 1) = (m : Int) + 1 := wrapI _ (by omega) (by omega)
  obtain ⟨i0, hi0, hz0, hz1, hz2⟩ := info_parts u8Info
  clear h hR hr htk hbad hx
  go_enter Try.func16, Try.ntmps16
  go_upto_region 4 with (go_at_call 23; refine TK.out.mono ?_; rintro e w2 ⟨rfl, h2⟩; have H2 := Lib.hid h2; clear h2)
  clear TK
  have A2 : RowKit.Hid (Own w0 w2 (Star (plA pb b first z.L z.s) (Star (rowA 5 1 (.slice none 0 0) 0 []) R))) := Lib.hid ((H2.out.add (stable_star HSP.out HR.out) (Gr.refl _) (A := rowA 5 1 (.slice none 0 0) 0 []) ⟨fun _ => False, ⟨⟨rfl, .inl ⟨rfl, rfl⟩⟩, fun b hb => by cases hb⟩, fun x hx => hx.elim⟩).swap2)
  clear H2
  go_wp2_with fail
  go_loopg [10, 30] (m + 2) (fun t v10 v30 wr => ∃ (k : Nat) (row : List UInt8) (o : Option Addr) (c : Nat), k ≤ m + 1 ∧ t = m + 2 - k ∧ v30 = .int .i64 (k : Int) ∧ v10 = .slice o row.length c ∧ row.length = k ∧ textX z r a (m + 1 - k) k row = (T, E) ∧ Own w0 wr (Star (plA pb b first z.L z.s) (Star (rowA 5 1 (.slice o row.length c) row.length (Lib.byteCells row)) R)))
  case atStart => exact ⟨0, [], none, 0, by omega, rfl, rfl, rfl, rfl, HX.out, A2.out⟩
  case round =>
    clear A2 HX
    obtain ⟨_, row, o, c, hk, ht, rfl, rfl, rfl, hy, ho⟩ := hrel
    have HO := Lib.hid ho
    clear ho
    by_cases hlt : row.length < m + 1
    · obtain ⟨F, hF⟩ : ∃ F, m + 1 - row.length = F + 1 := ⟨m - row.length, by omega⟩
      rw [hF, textX] at hy
      obtain ⟨V, hV⟩ : ∃ V, IntKind.u64.wrap (a + (row.length : Int)) = V := ⟨_, rfl⟩
      have hVb : 0 ≤ V ∧ V < 18446744073709551616 := by rw [← hV, IntKind.wrap_u64]; omega
      obtain ⟨v0, v1⟩ := hVb
      rw [hV] at hy
      have k1 : IntKind.u64.wrap (row.length : Int) = row.length := wrapU _ (by omega) (by omega)
      have k2 : IntKind.i64.wrap ((row.length : Int) + 1) = (row.length : Int) + 1 := wrapI _ (by omega) (by omega)
      have l1 : (row.length : Int) < (m : Int) + 1 := by omega
      obtain ⟨wr_, hwr⟩ : ∃ x, walkR z.L.length z.s r V 1 = x := ⟨_, rfl⟩
      obtain ⟨wv_, hwv⟩ : ∃ x, walkV z.L.length z.s r V 1 = x := ⟨_, rfl⟩
      have hwu := walkV_u64 z.L.length z.s r V 1 v0
      rw [hwr, hwv] at hy
      rw [hwv] at hwu
      have SB := Lib.hid (stable_star (stable_row 5 1 (.slice o row.length c) row.length (Lib.byteCells row)) HR.out)
      have WK := Lib.hid (o_pwalk HO.out SB.out r V 1 wv_ wr_ ⟨v0, by omega⟩ HRI.out hwv hwr)
      clear hwr hwv
      by_cases hw0 : wr_ = 0
      · subst hw0
        rw [decide_eq_true rfl, cond_true] at hy
        have hcb := load1_bd z.s wv_
        obtain ⟨CV, hCV⟩ : ∃ x, loadV z.s wv_ 1 = x := ⟨_, rfl⟩
        obtain ⟨CR, hCR⟩ : ∃ x, loadR z.s wv_ 1 = x := ⟨_, rfl⟩
        rw [hCV] at hy hcb
        have LD : RowKit.Hid (∀ w, Own w0 w (Star (plA pb b first z.L z.s) (Star (rowA 5 1 (.slice o row.length c) row.length (Lib.byteCells row)) R)) → _) := Lib.hid (fun w h => o_pload (w0 := w0) (w := w) h SB.out wv_ 1 CV CR hwu hCV hCR)
        clear hCV hCR hwu
        by_cases hc0 : CV = 0
        · subst hc0
          rw [decide_eq_true rfl, cond_true] at hy
          injection hy with hy1 hy2
          subst hy1; subst hy2
          go_upto_region 12 with (first
            | (go_at_call 25; refine (o_pmem (by first | exact H3.out | exact HO.out)).mono ?_; rintro e wm ⟨rfl, rfl⟩)
            | (go_at_call 52; refine WK.out.mono ?_; rintro e w3 ⟨rfl, h3⟩; have H3 := Lib.hid h3; clear h3)
            | (go_at_call 26; refine (LD.out _ H3.out).mono ?_; rintro e w4 ⟨rfl, h4⟩; have H4 := Lib.hid h4; clear h4))
          have hcv := conv_row H4.out.right.row
          go_wp2_with fail
          go_ret2
          exact ⟨rfl, H4.out.drop2⟩
        · have hcb1 : (CV == 0) = false := by simpa using hc0
          rw [decide_eq_false hc0, cond_false] at hy
          have k3 : IntKind.u8.wrap CV = CV := by rw [IntKind.wrap_u8]; omega
          have hbv : (Lib.byteCells [UInt8.ofNat CV.toNat]) = [.int .u8 CV] := by
            show [Value.int .u8 ((UInt8.ofNat CV.toNat).toNat : Int)] = _
            rw [UInt8.toNat_ofNat', Nat.mod_eq_of_lt (by omega), Int.toNat_of_nonneg hcb.1]
          have hlen : row.length ≤ 5000 := by omega
          have HY := Lib.hid hy
          have HBV := Lib.hid hbv
          clear hy hbv
          go_upto_region 13 with (first
            | (go_at_call 25; refine (o_pmem (by first | exact H3.out | exact HO.out)).mono ?_; rintro e wm ⟨rfl, rfl⟩)
            | (go_at_call 52; refine WK.out.mono ?_; rintro e w3 ⟨rfl, h3⟩; have H3 := Lib.hid h3; clear h3)
            | (go_at_call 26; refine (LD.out _ H3.out).mono ?_; rintro e w4 ⟨rfl, h4⟩; have H4 := Lib.hid h4; clear h4))
          have H5 := Lib.hid (H4.out.swap2.gr (stable_star (stable_row _ _ _ _ _) (stable_star HSP.out HR.out)) ((Gr.refl _).alloc (Nat.le_refl _) (.cells #[.int .u8 CV] 5)))
          have HROW := Lib.hid H5.out.row
          have hbl : (Lib.byteCells row).length = row.length := Lib.byteCells_length row
          go_wp2_with (at_builtin; refine wpList_append_lies _ rfl _ _ _ rfl 0 5 i0 (.int .u8 0) 1 1 Try.underlying74 hi0 hz0 hz1 hz2 rfl (by omega) (.slice o row.length c) row.length (Lib.byteCells row) rfl HROW.out ⟨_, 0, none⟩ 1 1 [.int .u8 CV] rfl rfl (World.news_of_block (cs := #[.int .u8 CV]) (blk_new _ _)) (by simp [Value.oneCell']) (by omega) (by unfold maxLen; omega) (by omega) (by omega) (w4.heap.size + 1) (by simp) ?_; intro g2 cap2 w8 hown8 hgrow8 hat8 hlt8; have H9 := Lib.hid (H5.out.grown (g := g2) (stable_star HSP.out HR.out) hown8 rfl hgrow8 (hat8.elim .inl (fun e => .inr (by simp; omega))) hlt8); clear hown8 hgrow8 hat8 hlt8)
          have e5 : (row ++ [UInt8.ofNat CV.toNat]).length = row.length + 1 := by simp
          go_roundg (m + 2 - (row.length + 1))
          case measure => omega
          case rel =>
            refine ⟨row.length + 1, row ++ [UInt8.ofNat CV.toNat], some ⟨g2, 0, none⟩, cap2, by omega, rfl, by go_num, by rw [e5], by omega, ?_, ?_⟩
            · rw [show m + 1 - (row.length + 1) = F by omega]; exact HY.out
            · rw [e5, byteCells_app, HBV.out]; exact H9.out.swap2
      · have hwb2 : (wr_ != 0) = true := by simpa using hw0
        rw [decide_eq_false hw0, cond_false] at hy
        injection hy with hy1 hy2
        subst hy1; subst hy2
        clear hwu
        go_wp2_with (first
          | (go_at_call 25; refine (o_pmem HO.out).mono ?_; rintro e wm ⟨rfl, rfl⟩)
          | (go_at_call 52; refine WK.out.mono ?_; rintro e w3 ⟨rfl, h3⟩; have H3 := Lib.hid h3; clear h3))
        go_ret2
        exact ⟨rfl, H3.out.drop2⟩
    · have hrm : row.length = m + 1 := by omega
      rw [show m + 1 - row.length = 0 by omega, textX] at hy
      injection hy with hy1 hy2
      subst hy1; subst hy2
      have l1 : ¬ (row.length : Int) < (m : Int) + 1 := by omega
      clear hrm
      go_wp2_with fail
      go_ret2
      exact ⟨rfl, HO.out.drop2⟩
end Go.Proofs.Ytbcnibnkojnpiaa.P
