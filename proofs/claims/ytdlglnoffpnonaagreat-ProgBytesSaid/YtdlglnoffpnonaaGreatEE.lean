/- Stage 11: New, Free. What Copy does with a page. No condition. -/
import Derived.Test.YtdlglnoffpnonaaGreatED
import Derived.Deep.DeepCutAuto
import Derived.Deep.RegionHeld3
set_option linter.unusedVariables false
set_option linter.unusedSimpArgs false
set_option maxRecDepth 100000
namespace Go.Proofs.YtdlglnoffpnonaaGreat.P
open Go.RowKit Go.MuLone Go.Maps
variable {w0 w : World} {pb b first : Nat} {z : Sp} {R : Asn}
theorem o_snew (h : Own w0 w (Star (plA pb b first z.L z.s) R)) (hR : Stable R) (n e : Int) (hn : takeN z.L first = n) (he : takeE z.L first = e) :
    Calls Tryz.prog 28 #[.pointer (some ⟨pb, 0, none⟩)] w fun x w' => x = .returned (.tuple #[.int .i64 n, .int .i64 e]) ∧ Own w0 w' (Star (plA pb b first (takeX first z).L (takeX first z).s) R) := by
  have T := Lib.hid (o_ptake h hR n e _ _ hn he rfl rfl)
  clear h hR hn he
  go_enter Tryz.func28, Tryz.ntmps28
  go_wp2_with (go_at_call 12; refine T.out.mono ?_; rintro e w2 ⟨rfl, h2⟩; have H2 := Lib.hid h2; clear h2)
  go_ret2
  exact ⟨rfl, H2.out⟩
theorem leafV_u64 (fr : Nat) (s : List UInt8) (r a : Int) : u64 (leafV fr s r a) := by
  have hp := part_bd a 0
  have he := ent_word s (leafA s r a / 1024 * 256 + partI a 1 * 8)
  have h0 := he.1
  have h1 := he.2
  unfold leafV leafC
  cases decide (leafR fr s r a = 0)
  · rw [cond_false]; exact ⟨by omega, by omega⟩
  · rw [cond_true]; exact ⟨by omega, by omega⟩
abbrev copyB (xq ob pb : Nat) (m : Int) : Asn := Star (blkA xq (.cells #[.pointer (some ⟨pb, 0, none⟩)] 36)) (blkA ob (.cells #[.int .i64 m] 3))
theorem stable_copyB (xq ob pb : Nat) (m : Int) : Stable (copyB xq ob pb m) := stable_star (stable_blk _ _) (stable_blk _ _)
theorem copyB_p {A : Asn} {xq ob : Nat} {m : Int} (h : Own w0 w (Star A (Star (copyB xq ob pb m) R))) : w.cell? ⟨xq, 0, none⟩ = some (.pointer (some ⟨pb, 0, none⟩)) :=
  blk_cell (h.mono (fun F h => star_assoc (star_swap2 h))).blk 0 rfl
theorem copyB_m {A : Asn} {xq ob : Nat} {m : Int} (h : Own w0 w (Star A (Star (copyB xq ob pb m) R))) : w.cell? ⟨ob, 0, none⟩ = some (.int .i64 m) :=
  blk_cell (h.mono (fun F h => star_swap2 (star_assoc (star_swap2 h)))).blk 0 rfl
theorem cell11_drew {w : World} {p : Addr} {v : Value} (h : w.cell? p = some v) : w.drew.cell? p = some v := h
end Go.Proofs.YtdlglnoffpnonaaGreat.P
