/- Stage 6: Crash; slices.Clone, Image. No condition. -/
import Derived.Test.YtgaibknhdaeidaaD7
set_option linter.unusedVariables false
set_option maxRecDepth 50000
namespace Go.Proofs.Ytgaibknhdaeidaa.P
open Go.RowKit
set_option maxHeartbeats 800000 in
theorem c_dcrash (w : World) (d sb : Nat) (wb : Option Nat) (z : DState) (h : DiskO w d sb wb z) (K : Int) (hK : u64 K) (hW : ∀ x ∈ z.wait, 0 ≤ x.1 ∧ x.1 < z.safe.length) (hm : z.wait.length ≤ 4000000000000) (hn : z.safe.length ≤ 4000000000000) :
    Calls Try.prog 17 #[.pointer (some ⟨d, 0, none⟩), .int .u64 K] w fun e w' => e = .returned (.tuple #[]) ∧ DiskO w' d sb none ⟨setN (keepB K) z.safe z.wait z.wait.length, [], false, false, 0⟩ ∧ Ch (fun x => x = d ∨ x = sb) w w' := by
  have hd : d < w.heap.size := by obtain ⟨sv, wv, hb⟩ := h.cellsOf; exact blk_lt hb
  have hs : sb < w.heap.size := by obtain ⟨sc, wo, wc, h0, hs, hr⟩ := h; exact ownsRow_lt hs
  have CS := settle_keep (w.alloc (.cells #[.int .u64 K] 43)) d sb wb z (h.gr (Below.alloc (Below.refl _ _) (Nat.le_refl _) _)) K hK w.heap.size (blk_new w _) (by omega) (by omega) hW hm hn
  have HCA := Lib.hid (show Ch (fun x => x = d ∨ x = sb) w (w.alloc (.cells #[.int .u64 K] 43)) from (Ch.refl _ w).alloc _)
  clear h hW hK
  go_enter Try.func17, Try.ntmps17
  go_wp2_with fail
  refine CS.mono ?_; rintro e w2 ⟨rfl, h2, h3⟩
  have H2 := Lib.hid h2
  have H3 := Lib.hid (HCA.out.trans h3)
  obtain ⟨sv, wv, hb⟩ := h2.cellsOf
  have HB := Lib.hid hb
  have z2 := blk_frozen hb 2
  have z3 := blk_frozen hb 3
  have z4 := blk_frozen hb 4
  have c2 := blk_cell hb 2 rfl
  have c3 := blk_cell hb 3 rfl
  have c4 := blk_cell hb 4 rfl
  clear hb h2 h3
  go_wp2_with fail
  have hch : Ch (· = d) w2 (((w2.setCell ⟨d, 2, none⟩ (.bool false)).setCell ⟨d, 3, none⟩ (.bool false)).setCell ⟨d, 4, none⟩ (.int .i64 0)) := Ch.setCell (S := (· = d)) (Ch.setCell (S := (· = d)) (Ch.setCell (S := (· = d)) (Ch.refl _ w2) (p := ⟨d, 2, none⟩) (.inl rfl) _) (p := ⟨d, 3, none⟩) (.inl rfl) _) (p := ⟨d, 4, none⟩) (.inl rfl) _
  have hf := H2.out.cells hch false false 0 (fun a b hb => by rw [blk_set (blk_set (blk_set hb 2 _) 3 _) 4 _]; rfl)
  exact bodyPost_end (results_none rfl _ _ _) rfl ⟨rfl, hf, H3.out.trans (hch.mono (fun x hx => .inl hx))⟩
end Go.Proofs.Ytgaibknhdaeidaa.P
