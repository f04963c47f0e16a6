/- Stage 11: New, Free. What Copy does with a page. No condition. -/
import Derived.Test.YtdlglnoffpnonaaED
import Derived.Deep.DeepCutAuto
import Derived.Deep.RegionHeld3
set_option linter.unusedVariables false
set_option linter.unusedSimpArgs false
set_option maxRecDepth 100000
namespace Go.Proofs.Ytdlglnoffpnonaa.P
open Go.RowKit Go.MuLone Go.Maps
variable {w0 w : World} {pb b first : Nat} {z : Sp} {R : Asn}
theorem o_snew (h : Own w0 w (Star (plA pb b first z.L z.s) R)) (hR : Stable R) (n e : Int) (hn : takeN z.L first = n) (he : takeE z.L first = e) :
    Calls Try.prog 33 #[.pointer (some ⟨pb, 0, none⟩)] w fun x w' => x = .returned (.tuple #[.int .i64 n, .int .i64 e]) ∧ Own w0 w' (Star (plA pb b first (takeX first z).L (takeX first z).s) R) := by
  have T := Lib.hid (o_ptake h hR n e _ _ hn he rfl rfl)
  clear h hR hn he
  go_enter Try.func33, Try.ntmps33
  go_wp2_with (go_at_call 48; refine T.out.mono ?_; rintro e w2 ⟨rfl, h2⟩; have H2 := Lib.hid h2; clear h2)
  go_ret2
  exact ⟨rfl, H2.out⟩
theorem o_free_bad (h : Own w0 w (Star (plA pb b first z.L z.s) R)) (hR : Stable R) (r : Int) (hr : i64 r) (ht : tknB z.L first r = false) :
    Calls Try.prog 21 #[.pointer (some ⟨pb, 0, none⟩), .int .i64 r] w fun e w' => e = .returned (.int .i64 1) ∧ Own w0 w' (Star (plA pb b first z.L z.s) R) := by
  have SP := stable_star (stable_pl pb b first z.L z.s) hR
  have K1 := h.alloc SP (.cells #[.pointer (some ⟨pb, 0, none⟩)] 41)
  have SB := stable_star (stable_blk w.heap.size (.cells #[.pointer (some ⟨pb, 0, none⟩)] 41)) hR
  have TK := Lib.hid (o_ptaken K1.swap2 SB r hr false ht)
  clear h hR SP SB hr ht K1
  go_enter Try.func21, Try.ntmps21
  go_wp2_with (go_at_call 35; refine TK.out.mono ?_; rintro e w2 ⟨rfl, h2⟩; have H2 := Lib.hid h2; clear h2)
  go_ret
  exact ⟨rfl, H2.out.drop2⟩
set_option maxHeartbeats 1600000 in
theorem o_free (h : Own w0 w (Star (plA pb b first z.L z.s) R)) (hR : Stable R) (r : Int) (hr : i64 r) (ht : tknB z.L first r = true) :
    Calls Try.prog 21 #[.pointer (some ⟨pb, 0, none⟩), .int .i64 r] w fun e w' => e = .returned (.int .i64 0) ∧ Own w0 w' (Star (plA pb b first (freeX first z r).L (freeX first z r).s) R) := by
  have hb := tkn_bd ht
  have hl := (o_plen h).2.2.1
  have SP := stable_star (stable_pl pb b first z.L z.s) hR
  have K1 := h.alloc SP (.cells #[.pointer (some ⟨pb, 0, none⟩)] 41)
  have SB := stable_star (stable_blk w.heap.size (.cells #[.pointer (some ⟨pb, 0, none⟩)] 41)) hR
  have TK := Lib.hid (o_ptaken K1.swap2 SB r hr true ht)
  have HR := Lib.hid hR
  have EA : RowKit.Hid (∀ (w : World) (xq gb : Nat), Own w0 w (Star (plA pb b first z.L z.s) (Star (freeB xq gb pb) R)) → Calls Try.prog 36 #[.pointer (some ⟨pb, 0, none⟩), .int .i64 r, .func (.func 41) #[] #[.pointer (some ⟨gb, 0, none⟩)], giveV xq] w fun e w' =>
      e = .returned (.tuple #[]) ∧ Own w0 w' (Star (plA pb b first (freeX first z r).L (freeX first z r).s) (Star (freeB xq gb pb) R))) := Lib.hid (fun w xq gb h => by
    refine (o_each (cbs_free w0 pb b first xq gb) z r w R hR trivial ⟨by omega, by omega⟩ h).mono ?_
    rintro e w' ⟨rfl, h', _⟩
    exact ⟨rfl, h'⟩)
  generalize (freeX first z r).L = L2 at *
  generalize (freeX first z r).s = s2 at *
  have SPL := Lib.hid (stable_pl pb b first z.L z.s)
  have HSB := Lib.hid SB
  have qs : ∀ (xq : Nat) (a : Addr) (w : World), (store a (giveV xq)).run Try.prog w = stored Try.prog w a (giveV xq) .plain := fun xq a w => run_store Try.prog w a _ .plain rfl
  clear h hR SP SB hr ht K1 hb hl
  go_enter Try.func21, Try.ntmps21
  go_upto_region 3 with (go_at_call 35; refine TK.out.mono ?_; rintro e w2 ⟨rfl, h2⟩; have H2 := Lib.hid h2; clear h2)
  clear TK
  generalize w.heap.size = xq at *
  go_upto_region 4 with fail
  have A1 := H2.out.alloc (stable_star SPL.out HSB.out) (.cells #[giveV xq] 94)
  have A3 : RowKit.Hid (Own w0 (w2.alloc (.cells #[giveV xq] 94)) (Star (plA pb b first z.L z.s) (Star (freeB xq w2.heap.size pb) R))) := Lib.hid (A1.mono (fun F h => by
    refine star_mono_r (fun F h => ?_) (star_swap2 h)
    exact star_unassoc (star_swap2 h)))
  clear A1 H2
  have c0 := blk_cell (A3.out.mono (fun F h => star_assoc (star_swap2 h))).blk 0 (v := .pointer (some ⟨pb, 0, none⟩)) rfl
  have c1 := blk_cell (A3.out.mono (fun F h => star_swap2 (star_assoc (star_swap2 h)))).blk 0 (v := giveV xq) rfl
  generalize (World.alloc w2 _) = w3 at *
  generalize w2.heap.size = gb at *
  have E3 := Lib.hid (EA.out w3 xq gb A3.out)
  clear EA
  go_wp2_with (go_at_call 36; refine E3.out.mono ?_; rintro e w4 ⟨rfl, h4⟩; have H4 := Lib.hid h4; clear h4)
  go_ret
  exact ⟨rfl, H4.out.drop2⟩
theorem leafV_u64 (fr : Nat) (s : List UInt8) (r a : Int) : u64 (leafV fr s r a) := by
  have hp := part_bd a 0
  have he := ent_word s (leafA s r a / 1024 * 256 + partI a 1 * 8)
  have h0 := he.1
  have h1 := he.2
  unfold leafV leafC
  cases decide (leafR fr s r a = 0)
  · rw [cond_false]; exact ⟨by omega, by omega⟩
  · rw [cond_true]; exact ⟨by omega, by omega⟩
abbrev copyB (xq ob pb : Nat) (m : Int) : Asn := Star (blkA xq (.cells #[.pointer (some ⟨pb, 0, none⟩)] 41)) (blkA ob (.cells #[.int .i64 m] 3))
theorem stable_copyB (xq ob pb : Nat) (m : Int) : Stable (copyB xq ob pb m) := stable_star (stable_blk _ _) (stable_blk _ _)
theorem copyB_p {A : Asn} {xq ob : Nat} {m : Int} (h : Own w0 w (Star A (Star (copyB xq ob pb m) R))) : w.cell? ⟨xq, 0, none⟩ = some (.pointer (some ⟨pb, 0, none⟩)) :=
  blk_cell (h.mono (fun F h => star_assoc (star_swap2 h))).blk 0 rfl
theorem copyB_m {A : Asn} {xq ob : Nat} {m : Int} (h : Own w0 w (Star A (Star (copyB xq ob pb m) R))) : w.cell? ⟨ob, 0, none⟩ = some (.int .i64 m) :=
  blk_cell (h.mono (fun F h => star_swap2 (star_assoc (star_swap2 h)))).blk 0 rfl
theorem cell11_drew {w : World} {p : Addr} {v : Value} (h : w.cell? p = some v) : w.drew.cell? p = some v := h
end Go.Proofs.Ytdlglnoffpnonaa.P
