/- Stage 6: the document's Write. No condition. -/
import Derived.Test.YtgaibknhdaeidaaGreatE1
import Derived.Test.YtgaibknhdaeidaaGreatD4
set_option linter.unusedVariables false
set_option maxRecDepth 50000
namespace Go.Proofs.YtgaibknhdaeidaaGreat.P
open Go.RowKit
theorem rwriteInfo : (Tryz.prog.info? 79).map (fun i => (i.zero, i.size, i.bytes)) = some (some (.agg #[.int .i64 0, .string ⟨#[]⟩]), 2, 24) := by kernel_rfl
def RWriteP (d sb : Nat) (wb : Option Nat) (z : DState) (r : Int) (w : World) (e : Ending) (w' : World) : Prop := e = .returned (.int .i64 r) ∧ ∃ wb', RDiskO w' d sb wb' z ∧ KeptD d wb w w' wb'
theorem e_write_no (w : World) (d sb : Nat) (wb : Option Nat) (z : DState) (h : RDiskO w d sb wb z) (i : Int) (s : ByteArray) (hn : z.off = true ∨ (hasB z i && decide (s.size = 64)) = false) :
    Calls Tryz.prog 60 #[.pointer (some ⟨d, 0, none⟩), .int .i64 i, .string s] w (RWriteP d sb wb z (writeR z i s) w) := by
  have H := Lib.hid h
  obtain ⟨sc, wo, wc, hb, hr⟩ := h
  have c3 := blk_cell hb 3 (v := .bool z.off) rfl
  have c0 := blk_cell hb 0 (v := .slice (some ⟨sb, 0, none⟩) z.safe.length sc) rfl
  clear hb hr
  cases ho : z.off with
  | true =>
    have e : writeR z i s = 7 := by unfold writeR; rw [ho]; rfl
    rw [e]
    rw [ho] at c3
    clear e hn ho
    go_enter Tryz.func60, Tryz.ntmps60
    go_wp2
    go_ret
    exact ⟨rfl, wb, H.out, Ch.refl _ _, .inl rfl⟩
  | false =>
    have hn2 : (hasB z i && decide (s.size = 64)) = false := by rcases hn with q | q; rw [ho] at q; cases q; exact q
    have e : writeR z i s = 1 := by unfold writeR; rw [ho, hn2]; rfl
    rw [e]
    rw [ho] at c3
    have hc : i < 0 ∨ (0 ≤ i ∧ (z.safe.length : Int) ≤ i) ∨ (0 ≤ i ∧ i < z.safe.length ∧ ¬ s.size = 64) := by
      unfold hasB at hn2
      by_cases q1 : 0 ≤ i
      · by_cases q2 : i < z.safe.length
        · rw [decide_eq_true q1, decide_eq_true q2] at hn2
          exact .inr (.inr ⟨q1, q2, of_decide_eq_false hn2⟩)
        · exact .inr (.inl ⟨q1, by omega⟩)
      · exact .inl (by omega)
    clear e hn ho hn2
    rcases hc with q1 | ⟨q1, q2⟩ | ⟨q1, q2, q3⟩
    · go_enter Tryz.func60, Tryz.ntmps60
      go_wp2
      go_ret
      exact ⟨rfl, wb, H.out, Ch.refl _ _, .inl rfl⟩
    · go_enter Tryz.func60, Tryz.ntmps60
      go_wp2
      go_ret
      exact ⟨rfl, wb, H.out, Ch.refl _ _, .inl rfl⟩
    · have hs4 : ¬ (s.size : Int) = 64 := by omega
      have hs3 : ((s.size : Int) != 64) = true := bne_iff_ne.2 hs4
      have hs2 : decide (s.size = 64) = false := decide_eq_false q3
      go_enter Tryz.func60, Tryz.ntmps60
      go_wp2
      go_ret
      exact ⟨rfl, wb, H.out, Ch.refl _ _, .inl rfl⟩
theorem hasB_out {z : DState} {i : Int} (h : hasB z i = true) : 0 ≤ i ∧ i < z.safe.length := by
  unfold hasB at h; simpa [Bool.and_eq_true, decide_eq_true_eq] using h
theorem e_write_dead (w : World) (d sb : Nat) (wb : Option Nat) (z : DState) (h : RDiskO w d sb wb z) (h0 : 0 ≤ z.acts) (h1 : z.acts ≤ 9223372036854775807) (i : Int) (s : ByteArray) (ho : z.off = false) (hh : hasB z i = true) (hs : s.size = 64) (ha : actB z = false) :
    Calls Tryz.prog 60 #[.pointer (some ⟨d, 0, none⟩), .int .i64 i, .string s] w (RWriteP d sb wb (actZ z) 7 w) := by
  have CA := e_act w d sb wb z h h0 h1
  obtain ⟨sc, wo, wc, hb, hr⟩ := h
  have c3 := blk_cell hb 3 (v := .bool z.off) rfl
  have c0 := blk_cell hb 0 (v := .slice (some ⟨sb, 0, none⟩) z.safe.length sc) rfl
  rw [ho] at c3
  rw [ha] at CA
  obtain ⟨q1, q2⟩ := hasB_out hh
  have hs2 : (s.size : Int) = 64 := by omega
  clear hb hr h0 h1 ho hh ha
  go_enter Tryz.func60, Tryz.ntmps60
  go_wp2_with fail
  refine CA.mono ?_; rintro e w2 ⟨rfl, h2, h3⟩
  have H2 := Lib.hid h2
  have H3 := Lib.hid h3
  clear h2 h3
  go_wp2_with fail
  go_ret
  exact ⟨rfl, wb, H2.out, H3.out.mono (fun x hx => .inl hx), .inl rfl⟩
set_option maxHeartbeats 800000 in
theorem e_write_ok (w : World) (d sb : Nat) (wb : Option Nat) (z : DState) (h : RDiskO w d sb wb z) (h0 : 0 ≤ z.acts) (h1 : z.acts ≤ 9223372036854775807) (i : Int) (s : ByteArray) (ho : z.off = false) (hh : hasB z i = true) (hs : s.size = 64) (ha : actB z = true) (hlen : z.wait.length ≤ 4000000000000) :
    Calls Tryz.prog 60 #[.pointer (some ⟨d, 0, none⟩), .int .i64 i, .string s] w (RWriteP d sb wb { actZ z with wait := (actZ z).wait ++ [(i, s)] } 0 w) := by
  have CA := e_act w d sb wb z h h0 h1
  have e2 : (actZ z).wait = z.wait := by unfold actZ; cases z.counted <;> cases decide (z.acts = 0) <;> rfl
  obtain ⟨i0, hi, hz0, hz1, hz2⟩ := info_parts rwriteInfo
  obtain ⟨sc, wo, wc, hb, hr⟩ := h
  have c3 := blk_cell hb 3 (v := .bool z.off) rfl
  have c0 := blk_cell hb 0 (v := .slice (some ⟨sb, 0, none⟩) z.safe.length sc) rfl
  rw [ho] at c3
  obtain ⟨q1, q2⟩ := hasB_out hh
  rw [ha] at CA
  rw [← e2] at hlen
  have hs2 : (s.size : Int) = 64 := by omega
  clear hb hr h0 h1 ho hh ha e2
  generalize actZ z = y at *
  go_enter Tryz.func60, Tryz.ntmps60
  go_wp2_with fail
  refine CA.mono ?_; rintro e w2 ⟨rfl, h2, h3⟩
  have H3 := Lib.hid h3
  have H2 := Lib.hid h2
  obtain ⟨sc, wo, wc, hb, hs0, hown, hwb, n1, n2, n3⟩ := h2
  have HB := Lib.hid hb
  have HS := Lib.hid hs0
  have HOWN := Lib.hid hown
  have HVB := Lib.hid hwb
  have HN := Lib.hid (And.intro n1 (And.intro n2 n3))
  have c1w := blk_cell hb 1 (v := .slice wo y.wait.length wc) rfl
  have c1 := blk_cell (blk_alloc (.cells #[.int .i64 i, .string s] 79) hb) 1 (v := .slice wo y.wait.length wc) rfl
  clear hb hs0 hown hwb n1 n2 n3 h3 CA
  have hl2 : y.wait.length ≤ 4000000000000 := hlen
  go_wp2_with (at_builtin; refine wpList_append_lies _ rfl _ _ _ rfl 0 79 i0 (.agg #[.int .i64 0, .string ⟨#[]⟩]) 2 24 Tryz.underlying44 hi hz0 hz1 hz2 rfl (by omega) (.slice wo y.wait.length wc) y.wait.length (wrs y.wait) rfl (HOWN.out.alloc _) ⟨w2.heap.size, 0, none⟩ 1 1 [.int .i64 i, .string s] rfl rfl (World.news_of_block (cs := #[.int .i64 i, .string s]) (blk_new _ _)) (by simp [Value.oneCell']) (by omega) (by unfold maxLen; omega) (by omega) (by omega) (w2.heap.size + 1) (by simp) ?_; intro g cap' w3 hown' hgrow hat hlt; have B1 := Lib.hid ((Ch.of_grown hgrow).blk (blk_alloc (.cells #[.int .i64 i, .string s] 79) HB.out) (fun e => HN.out.2.1 (HVB.out.symm.trans e))); have d1 := blk_cell B1.out 1 rfl; have z1 := blk_frozen B1.out 1; have HO1 := Lib.hid hown'; have HG1 := Lib.hid hgrow; have HA1 := Lib.hid hat; clear hown' hgrow hat)
  go_ret
  have hdl : d < w2.heap.size := blk_lt HB.out
  have hsl : sb < w2.heap.size := ownsRow_lt HS.out
  have hgd : g ≠ d := by
    rcases HA1.out with e | e
    · exact fun h => HN.out.2.1 (by rw [← HVB.out, e, h])
    · omega
  have hgs : g ≠ sb := by
    rcases HA1.out with e | e
    · exact fun h => HN.out.2.2 (by rw [← HVB.out, e, h])
    · omega
  have hC0 : Ch (fun x => x = d ∨ wb = some x) w2 w3 := ((Ch.refl _ w2).alloc _).trans2 (Ch.of_grown HG1.out) (fun x hx _ => .inr (HVB.out.symm.trans hx))
  have hC := hC0.setCell (p := ⟨d, 1, none⟩) (.inl (.inl rfl)) (.slice (some ⟨g, 0, none⟩) (y.wait.length + 1) cap')
  refine ⟨rfl, some g, ⟨sc, some ⟨g, 0, none⟩, cap', ?_, ?_, ?_, rfl, HN.out.1, fun e => hgd (by injection e), fun e => hgs (by injection e)⟩, (H3.out.mono (fun x hx => .inl hx)).trans hC, ?_⟩
  · rw [blk_set B1.out 1 _]; simp [powI]
  · exact ownsRow_ch HS.out hC (fun x hx e => by
      injection hx with hx
      rcases e with e | e
      · exact HN.out.1 (hx.trans e)
      · exact HN.out.2.2 (by rw [e]; exact congrArg some hx.symm))
  · have h1 := ownsRow_ch (S := (· = d)) HO1.out (Ch.setCell (S := (· = d)) (Ch.refl _ w3) (p := ⟨d, 1, none⟩) (.inl rfl) (.slice (some ⟨g, 0, none⟩) (y.wait.length + 1) cap')) (fun x hx e => hgd (by injection hx with hx; exact hx.trans e))
    show World.ownsRow _ 0 79 2 (.slice (some ⟨g, 0, none⟩) (y.wait ++ [(i, s)]).length cap') (y.wait ++ [(i, s)]).length (wrs (y.wait ++ [(i, s)]))
    rw [wrs_append, List.length_append]
    exact h1
  · rcases HA1.out with e | e
    · exact .inl (by rw [← e, HVB.out])
    · exact .inr ⟨g, rfl, by have := H3.out.size; omega⟩
end Go.Proofs.YtgaibknhdaeidaaGreat.P
