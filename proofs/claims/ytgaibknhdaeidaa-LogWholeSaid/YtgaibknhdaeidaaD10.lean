/- Stage 6: Image; Read. No condition. -/
import Derived.Test.YtgaibknhdaeidaaD9
set_option linter.unusedVariables false
set_option maxRecDepth 50000
namespace Go.Proofs.Ytgaibknhdaeidaa.P
open Go.RowKit
theorem c_dimage (w : World) (d sb : Nat) (wb : Option Nat) (z : DState) (h : DiskO w d sb wb z) (hn : 1 ≤ z.safe.length) (hn2 : z.safe.length ≤ 1000000) :
    Calls Try.prog 19 #[.pointer (some ⟨d, 0, none⟩)] w fun e w' => ∃ g cap, e = .returned (.slice (some ⟨g, 0, none⟩) z.safe.length cap) ∧ w'.ownsRow 0 9 1 (.slice (some ⟨g, 0, none⟩) z.safe.length cap) z.safe.length (strs z.safe) ∧ w.heap.size ≤ g ∧ Gr w w' := by
  obtain ⟨sc, wo, wc, hb, hs, hr⟩ := h
  have c0 := blk_cell hb 0 (v := .slice (some ⟨sb, 0, none⟩) z.safe.length sc) rfl
  have CC := c_clone w sb z.safe.length sc z.safe rfl hn hn2 (fun j u hu => by
    have hj := (List.getElem?_eq_some_iff.1 hu).1
    rw [World.ownsRow.cellAt hs j (by rw [strs_length] at hj; omega)]; exact hu)
  clear hb hs hr
  go_enter Try.func19, Try.ntmps19
  go_wp2_with fail
  refine CC.mono ?_; rintro e w2 ⟨g, cap, rfl, h1, h2, h3⟩
  have H1 := Lib.hid h1
  have H2 := Lib.hid h2
  have H3 := Lib.hid h3
  clear h1 h2 h3
  go_wp2_with fail
  go_ret
  exact ⟨g, cap, rfl, H1.out, H2.out, H3.out⟩
theorem c_dread_off (w : World) (d sb : Nat) (wb : Option Nat) (z : DState) (h : DiskO w d sb wb z) (ho : z.off = true) (i : Int) :
    Calls Try.prog 30 #[.pointer (some ⟨d, 0, none⟩), .int .i64 i] w fun e w' => e = .returned (.tuple #[.string ⟨#[]⟩, .int .i64 7]) ∧ Gr w w' := by
  obtain ⟨sv, wv, hb⟩ := h.cellsOf
  have c2 := blk_cell hb 2 (v := .bool z.off) rfl
  rw [ho] at c2
  have c2a := calloc (.cells #[.int .i64 0] 32) (calloc (.cells #[.string ⟨#[]⟩] 9) (calloc (.cells #[.int .i64 i] 3) c2))
  have hd := blk_lt hb
  clear hb h
  go_enter Try.func30, Try.ntmps30
  go_wp2
  refine bodyPost_ret (res_cc rfl _ _ _ _ _ _ _ rfl rfl (by go_simp) (by go_simp)) rfl ⟨rfl, ?_⟩
  go_grown
end Go.Proofs.Ytgaibknhdaeidaa.P
