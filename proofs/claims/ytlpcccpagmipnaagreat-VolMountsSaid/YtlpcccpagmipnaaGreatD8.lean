/- Stage 6: Flush; which writes a crash keeps. No condition. -/
import Derived.Test.YtlpcccpagmipnaaGreatD5
import Derived.Test.YtlpcccpagmipnaaGreatW1
set_option linter.unusedVariables false
set_option maxRecDepth 50000
namespace Go.Proofs.YtlpcccpagmipnaaGreat.P
open Go.RowKit
theorem c_flush_off (w : World) (d sb : Nat) (wb : Option Nat) (z : DState) (h : DiskO w d sb wb z) (ho : z.off = true) :
    Calls Tryz.prog 103 #[.pointer (some ⟨d, 0, none⟩)] w fun e w' => e = .returned (.int .i64 7) ∧ w' = w := by
  obtain ⟨sv, wv, hb⟩ := h.cellsOf
  have c2 := blk_cell hb 2 (v := .bool z.off) rfl
  rw [ho] at c2
  clear hb h
  go_enter Tryz.func103, Tryz.ntmps103
  go_wp2
  go_ret
  exact ⟨rfl, rfl⟩
theorem c_flush_dead (w : World) (d sb : Nat) (wb : Option Nat) (z : DState) (h : DiskO w d sb wb z) (h0 : 0 ≤ z.acts) (h1 : z.acts ≤ 9223372036854775807) (ho : z.off = false) (ha : actB z = false) :
    Calls Tryz.prog 103 #[.pointer (some ⟨d, 0, none⟩)] w fun e w' => e = .returned (.int .i64 7) ∧ DiskO w' d sb wb (actZ z) ∧ Ch (· = d) w w' := by
  have CA := c_dact w d sb wb z h h0 h1
  rw [ha] at CA
  obtain ⟨sv, wv, hb⟩ := h.cellsOf
  have c2 := blk_cell hb 2 (v := .bool z.off) rfl
  rw [ho] at c2
  clear hb h h0 h1
  go_enter Tryz.func103, Tryz.ntmps103
  go_wp2_with fail
  refine CA.mono ?_; rintro e w2 ⟨rfl, h2, h3⟩
  have H2 := Lib.hid h2
  have H3 := Lib.hid h3
  clear h2 h3
  go_wp2_with fail
  go_ret
  exact ⟨rfl, H2.out, H3.out⟩
theorem actZ_keeps (z : DState) : (actZ z).wait = z.wait ∧ (actZ z).safe = z.safe := by
  unfold actZ; cases z.counted <;> cases decide (z.acts = 0) <;> exact ⟨rfl, rfl⟩
theorem c_flush_ok (w : World) (d sb : Nat) (wb : Option Nat) (z : DState) (h : DiskO w d sb wb z) (h0 : 0 ≤ z.acts) (h1 : z.acts ≤ 9223372036854775807) (ho : z.off = false) (ha : actB z = true) (hW : ∀ x ∈ z.wait, 0 ≤ x.1 ∧ x.1 < z.safe.length) (hm : z.wait.length ≤ 4000000000000) (hn : z.safe.length ≤ 4000000000000) :
    Calls Tryz.prog 103 #[.pointer (some ⟨d, 0, none⟩)] w fun e w' => e = .returned (.int .i64 0) ∧ DiskO w' d sb none { actZ z with safe := setN (fun _ => true) z.safe z.wait z.wait.length, wait := [] } ∧ Ch (fun x => x = d ∨ x = sb) w w' := by
  have CA := c_dact w d sb wb z h h0 h1
  rw [ha] at CA
  obtain ⟨k1, k2⟩ := actZ_keeps z
  obtain ⟨sv, wv, hb⟩ := h.cellsOf
  have c2 := blk_cell hb 2 (v := .bool z.off) rfl
  rw [ho] at c2
  have CS := fun (w2 : World) (h2 : DiskO w2 d sb wb (actZ z)) => settle_all w2 d sb wb (actZ z) h2 (by rw [k1, k2]; exact hW) (by rw [k1]; exact hm) (by rw [k2]; exact hn)
  rw [k1, k2] at CS
  clear hb h h0 h1 hW k1 k2 hm hn
  go_enter Tryz.func103, Tryz.ntmps103
  go_wp2_with fail
  refine CA.mono ?_; rintro e w2 ⟨rfl, h2, h3⟩
  have H2 := Lib.hid h2
  have H3 := Lib.hid h3
  clear h2 h3
  go_wp2_with fail
  refine (CS w2 H2.out).mono ?_; rintro e w3 ⟨rfl, h4, h5⟩
  have H4 := Lib.hid h4
  have H5 := Lib.hid h5
  clear h4 h5
  go_wp2_with fail
  go_ret
  exact ⟨rfl, H4.out, (H3.out.mono (fun x hx => .inl hx)).trans H5.out⟩
/-- Is the k-th kept? -/
def keepB (K : Int) (k : Nat) : Bool := decide (K / 2 ^ (k % 64) % 2 = 1)
end Go.Proofs.YtlpcccpagmipnaaGreat.P
namespace Go.Proofs.YtlpcccpagmipnaaGreat.P
open Go.RowKit
end Go.Proofs.YtlpcccpagmipnaaGreat.P
namespace Go.Proofs.YtlpcccpagmipnaaGreat.P
open Go.RowKit
end Go.Proofs.YtlpcccpagmipnaaGreat.P
