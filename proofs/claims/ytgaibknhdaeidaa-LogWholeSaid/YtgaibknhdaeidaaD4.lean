/- Stage 6: a write that waits. No condition. -/
import Derived.Test.YtgaibknhdaeidaaD3
set_option linter.unusedVariables false
set_option maxRecDepth 50000
namespace Go.Proofs.Ytgaibknhdaeidaa.P
open Go.RowKit
theorem Ch.of_grown {w w' : World} {row : Option Nat} (h : w.grownBy w' row) : Ch (fun x => row = some x) w w' := ⟨h.os, h.tape, h.output, h.size, fun k hk hs => h.block k hk (fun e => hs e.symm)⟩
theorem ownsRow_lt {w : World} {base : Nat} {e : TypeId} {size g : Nat} {n c : Nat} {xs : List Value} (h : w.ownsRow base e size (.slice (some ⟨g, 0, none⟩) n c) n xs) : g < w.heap.size := by
  obtain ⟨h1, h2 | ⟨k, cap, cur, e1, hb, hg, h3⟩⟩ := h
  · exact absurd h2.1 (by simp)
  · injection e1 with e1 _ _
    injection e1 with e1
    injection e1 with e1 _ _
    rw [e1]; exact blk_lt hg
theorem wrs_append : ∀ l (x : Int × ByteArray), wrs (l ++ [x]) = wrs l ++ [.int .i64 x.1, .string x.2]
  | [], x => rfl
  | y :: l, x => by rw [List.cons_append, wrs, wrs_append l x, wrs]; rfl
set_option maxHeartbeats 800000 in
theorem c_dwrite_ok (w : World) (d sb : Nat) (wb : Option Nat) (z : DState) (h : DiskO w d sb wb z) (h0 : 0 ≤ z.acts) (h1 : z.acts ≤ 9223372036854775807) (i : Int) (s : ByteArray) (ho : z.off = false) (hh : hasB z i = true) (hs : s.size = 64) (ha : actB z = true) (hlen : z.wait.length ≤ 4000000000000) :
    Calls Try.prog 52 #[.pointer (some ⟨d, 0, none⟩), .int .i64 i, .string s] w (DWriteP d sb wb { actZ z with wait := (actZ z).wait ++ [(i, s)] } 0 w) := by
  have CH := c_has w d sb wb z h i
  have CA := c_dact w d sb wb z h h0 h1
  have e2 : (actZ z).wait = z.wait := by unfold actZ; cases z.counted <;> cases decide (z.acts = 0) <;> rfl
  obtain ⟨i0, hi, hz0, hz1, hz2⟩ := info_parts writeInfo
  obtain ⟨sc, wo, wc, hb, hr⟩ := h
  have c2 := blk_cell hb 2 (v := .bool z.off) rfl
  rw [ho] at c2
  rw [hh] at CH
  rw [ha] at CA
  rw [← e2] at hlen
  have hs2 : (s.size : Int) = 64 := by omega
  clear hb hr h0 h1 ho hh ha e2
  generalize actZ z = y at *
  go_enter Try.func52, Try.ntmps52
  go_wp2_with (go_at_call 48; refine CH.mono ?_; rintro e w' ⟨rfl, rfl⟩)
  refine CA.mono ?_; rintro e w2 ⟨rfl, h2, h3⟩
  have H3 := Lib.hid h3
  have H2 := Lib.hid h2
  obtain ⟨sc, wo, wc, hb, hs0, hown, hwb, n1, n2, n3⟩ := h2
  have HB := Lib.hid hb
  have HS := Lib.hid hs0
  have HOWN := Lib.hid hown
  have HVB := Lib.hid hwb
  have HN := Lib.hid (And.intro n1 (And.intro n2 n3))
  have c1w := blk_cell hb 1 (v := .slice wo y.wait.length wc) rfl
  have c1 := blk_cell (blk_alloc (.cells #[.int .i64 i, .string s] 94) hb) 1 (v := .slice wo y.wait.length wc) rfl
  clear hb hs0 hown hwb n1 n2 n3 h3 CA CH
  have hl2 : y.wait.length ≤ 4000000000000 := hlen
  go_wp2_with (at_builtin; refine wpList_append_lies _ rfl _ _ _ rfl 0 94 i0 (.agg #[.int .i64 0, .string ⟨#[]⟩]) 2 24 Try.underlying59 hi hz0 hz1 hz2 rfl (by omega) (.slice wo y.wait.length wc) y.wait.length (wrs y.wait) rfl (HOWN.out.alloc _) ⟨w2.heap.size, 0, none⟩ 1 1 [.int .i64 i, .string s] rfl rfl (World.news_of_block (cs := #[.int .i64 i, .string s]) (blk_new _ _)) (by simp [Value.oneCell']) (by omega) (by unfold maxLen; omega) (by omega) (by omega) (w2.heap.size + 1) (by simp) ?_; intro g cap' w3 hown' hgrow hat hlt; have B1 := Lib.hid ((Ch.of_grown hgrow).blk (blk_alloc (.cells #[.int .i64 i, .string s] 94) HB.out) (fun e => HN.out.2.1 (HVB.out.symm.trans e))); have d1 := blk_cell B1.out 1 rfl; have z1 := blk_frozen B1.out 1; have HO1 := Lib.hid hown'; have HG1 := Lib.hid hgrow; have HA1 := Lib.hid hat; clear hown' hgrow hat)
  go_ret
  have hdl : d < w2.heap.size := blk_lt HB.out
  have hsl : sb < w2.heap.size := ownsRow_lt HS.out
  have hgd : g ≠ d := by
    rcases HA1.out with e | e
    · exact fun h => HN.out.2.1 (by rw [← HVB.out, e, h])
    · omega
  have hgs : g ≠ sb := by
    rcases HA1.out with e | e
    · exact fun h => HN.out.2.2 (by rw [← HVB.out, e, h])
    · omega
  have hC0 : Ch (fun x => x = d ∨ wb = some x) w2 w3 := ((Ch.refl _ w2).alloc _).trans2 (Ch.of_grown HG1.out) (fun x hx _ => .inr (HVB.out.symm.trans hx))
  have hC := hC0.setCell (p := ⟨d, 1, none⟩) (.inl (.inl rfl)) (.slice (some ⟨g, 0, none⟩) (y.wait.length + 1) cap')
  refine ⟨rfl, some g, ⟨sc, some ⟨g, 0, none⟩, cap', ?_, ?_, ?_, rfl, HN.out.1, fun e => hgd (by injection e), fun e => hgs (by injection e)⟩, (H3.out.mono (fun x hx => .inl hx)).trans hC, ?_⟩
  · rw [blk_set B1.out 1 _]; simp
  · exact ownsRow_ch HS.out hC (fun x hx e => by
      injection hx with hx
      rcases e with e | e
      · exact HN.out.1 (hx.trans e)
      · exact HN.out.2.2 (by rw [e]; exact congrArg some hx.symm))
  · have h1 := ownsRow_ch (S := (· = d)) HO1.out (Ch.setCell (S := (· = d)) (Ch.refl _ w3) (p := ⟨d, 1, none⟩) (.inl rfl) (.slice (some ⟨g, 0, none⟩) (y.wait.length + 1) cap')) (fun x hx e => hgd (by injection hx with hx; exact hx.trans e))
    show World.ownsRow _ 0 94 2 (.slice (some ⟨g, 0, none⟩) (y.wait ++ [(i, s)]).length cap') (y.wait ++ [(i, s)]).length (wrs (y.wait ++ [(i, s)]))
    rw [wrs_append, List.length_append]
    exact h1
  · rcases HA1.out with e | e
    · exact .inl (by rw [← e, HVB.out])
    · exact .inr ⟨g, rfl, by have := H3.out.size; omega⟩
end Go.Proofs.Ytgaibknhdaeidaa.P
