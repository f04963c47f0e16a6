/- Stage 11: New, Free. What Copy does with a page. No condition. -/
import Derived.Test.YtbcnibnkojnpiaaGreatED
import Derived.Deep.DeepCutAuto
import Derived.Deep.RegionHeld3
set_option linter.unusedVariables false
set_option linter.unusedSimpArgs false
set_option maxRecDepth 100000
namespace Go.Proofs.YtbcnibnkojnpiaaGreat.P
open Go.RowKit Go.MuLone Go.Maps
variable {w0 w : World} {pb b first : Nat} {z : Sp} {R : Asn}
theorem o_snew (h : Own w0 w (Star (plA pb b first z.L z.s) R)) (hR : Stable R) (n e : Int) (hn : takeN z.L first = n) (he : takeE z.L first = e) :
    Calls Tryz.prog 20 #[.pointer (some ⟨pb, 0, none⟩)] w fun x w' => x = .returned (.tuple #[.int .i64 n, .int .i64 e]) ∧ Own w0 w' (Star (plA pb b first (takeX first z).L (takeX first z).s) R) := by
  have T := Lib.hid (o_ptake h hR n e _ _ hn he rfl rfl)
  clear h hR hn he
  go_enter Tryz.func20, Tryz.ntmps20
  go_wp2_with (go_at_call 50; refine T.out.mono ?_; rintro e w2 ⟨rfl, h2⟩; have H2 := Lib.hid h2; clear h2)
  go_ret2
  exact ⟨rfl, H2.out⟩
theorem o_free_bad (h : Own w0 w (Star (plA pb b first z.L z.s) R)) (hR : Stable R) (r : Int) (hr : i64 r) (ht : tknB z.L first r = false) :
    Calls Tryz.prog 23 #[.pointer (some ⟨pb, 0, none⟩), .int .i64 r] w fun e w' => e = .returned (.int .i64 1) ∧ Own w0 w' (Star (plA pb b first z.L z.s) R) := by
  have SP := stable_star (stable_pl pb b first z.L z.s) hR
  have K1 := h.alloc SP (.cells #[.pointer (some ⟨pb, 0, none⟩)] 25)
  have SB := stable_star (stable_blk w.heap.size (.cells #[.pointer (some ⟨pb, 0, none⟩)] 25)) hR
  have TK := Lib.hid (o_ptaken K1.swap2 SB r hr false ht)
  clear h hR SP SB hr ht K1
  go_enter Tryz.func23, Tryz.ntmps23
  go_wp2_with (go_at_call 32; refine TK.out.mono ?_; rintro e w2 ⟨rfl, h2⟩; have H2 := Lib.hid h2; clear h2)
  go_ret
  exact ⟨rfl, H2.out.drop2⟩
set_option maxHeartbeats 1600000 in
theorem o_free (h : Own w0 w (Star (plA pb b first z.L z.s) R)) (hR : Stable R) (r : Int) (hr : i64 r) (ht : tknB z.L first r = true) :
    Calls Tryz.prog 23 #[.pointer (some ⟨pb, 0, none⟩), .int .i64 r] w fun e w' => e = .returned (.int .i64 0) ∧ Own w0 w' (Star (plA pb b first (freeX first z r).L (freeX first z r).s) R) := by
  have hb := tkn_bd ht
  have hl := (o_plen h).2.2.1
  have SP := stable_star (stable_pl pb b first z.L z.s) hR
  have K1 := h.alloc SP (.cells #[.pointer (some ⟨pb, 0, none⟩)] 25)
  have SB := stable_star (stable_blk w.heap.size (.cells #[.pointer (some ⟨pb, 0, none⟩)] 25)) hR
  have TK := Lib.hid (o_ptaken K1.swap2 SB r hr true ht)
  have HR := Lib.hid hR
  have EA : RowKit.Hid (∀ (w : World) (xq gb : Nat), Own w0 w (Star (plA pb b first z.L z.s) (Star (freeB xq gb pb) R)) → Calls Tryz.prog 33 #[.pointer (some ⟨pb, 0, none⟩), .int .i64 r, .func (.func 65) #[] #[.pointer (some ⟨gb, 0, none⟩)], giveV xq] w fun e w' =>
      e = .returned (.tuple #[]) ∧ Own w0 w' (Star (plA pb b first (freeX first z r).L (freeX first z r).s) (Star (freeB xq gb pb) R))) := Lib.hid (fun w xq gb h => by
    refine (o_each (cbs_free w0 pb b first xq gb) z r w R hR trivial ⟨by omega, by omega⟩ h).mono ?_
    rintro e w' ⟨rfl, h', _⟩
    exact ⟨rfl, h'⟩)
  generalize (freeX first z r).L = L2 at *
  generalize (freeX first z r).s = s2 at *
  have SPL := Lib.hid (stable_pl pb b first z.L z.s)
  have HSB := Lib.hid SB
  have qs : ∀ (xq : Nat) (a : Addr) (w : World), (store a (giveV xq)).run Tryz.prog w = stored Tryz.prog w a (giveV xq) .plain := fun xq a w => run_store Tryz.prog w a _ .plain rfl
  clear h hR SP SB hr ht K1 hb hl
  go_enter Tryz.func23, Tryz.ntmps23
  go_upto_region 3 with (go_at_call 32; refine TK.out.mono ?_; rintro e w2 ⟨rfl, h2⟩; have H2 := Lib.hid h2; clear h2)
  clear TK
  generalize w.heap.size = xq at *
  go_upto_region 4 with fail
  have A1 := H2.out.alloc (stable_star SPL.out HSB.out) (.cells #[giveV xq] 85)
  have A3 : RowKit.Hid (Own w0 (w2.alloc (.cells #[giveV xq] 85)) (Star (plA pb b first z.L z.s) (Star (freeB xq w2.heap.size pb) R))) := Lib.hid (A1.mono (fun F h => by
    refine star_mono_r (fun F h => ?_) (star_swap2 h)
    exact star_unassoc (star_swap2 h)))
  clear A1 H2
  have c0 := blk_cell (A3.out.mono (fun F h => star_assoc (star_swap2 h))).blk 0 (v := .pointer (some ⟨pb, 0, none⟩)) rfl
  have c1 := blk_cell (A3.out.mono (fun F h => star_swap2 (star_assoc (star_swap2 h)))).blk 0 (v := giveV xq) rfl
  generalize (World.alloc w2 _) = w3 at *
  generalize w2.heap.size = gb at *
  have E3 := Lib.hid (EA.out w3 xq gb A3.out)
  clear EA
  go_wp2_with (go_at_call 33; refine E3.out.mono ?_; rintro e w4 ⟨rfl, h4⟩; have H4 := Lib.hid h4; clear h4)
  go_ret
  exact ⟨rfl, H4.out.drop2⟩
theorem leafV_u64 (fr : Nat) (s : List UInt8) (r a : Int) : u64 (leafV fr s r a) := by
  have hp := part_bd a 0
  have he := ent_word s (leafA s r a / 1024 * 256 + partI a 1 * 8)
  have h0 := he.1
  have h1 := he.2
  unfold leafV leafC
  cases decide (leafR fr s r a = 0)
  · rw [cond_false]; exact ⟨by omega, by omega⟩
  · rw [cond_true]; exact ⟨by omega, by omega⟩
abbrev copyB (xq ob pb : Nat) (m : Int) : Asn := Star (blkA xq (.cells #[.pointer (some ⟨pb, 0, none⟩)] 25)) (blkA ob (.cells #[.int .i64 m] 3))
theorem stable_copyB (xq ob pb : Nat) (m : Int) : Stable (copyB xq ob pb m) := stable_star (stable_blk _ _) (stable_blk _ _)
theorem copyB_p {A : Asn} {xq ob : Nat} {m : Int} (h : Own w0 w (Star A (Star (copyB xq ob pb m) R))) : w.cell? ⟨xq, 0, none⟩ = some (.pointer (some ⟨pb, 0, none⟩)) :=
  blk_cell (h.mono (fun F h => star_assoc (star_swap2 h))).blk 0 rfl
theorem copyB_m {A : Asn} {xq ob : Nat} {m : Int} (h : Own w0 w (Star A (Star (copyB xq ob pb m) R))) : w.cell? ⟨ob, 0, none⟩ = some (.int .i64 m) :=
  blk_cell (h.mono (fun F h => star_swap2 (star_assoc (star_swap2 h)))).blk 0 rfl
theorem cell11_drew {w : World} {p : Addr} {v : Value} (h : w.cell? p = some v) : w.drew.cell? p = some v := h
set_option maxHeartbeats 3200000 in
theorem o_copy3 {xq ob : Nat} {m : Int} (h : Own w0 w (Star (plA pb b first z.L z.s) (Star (copyB xq ob pb m) R))) (hR : Stable R) (hm : i64 m) (n f g : Int) (hn : 0 ≤ n ∧ n < 32768) (hf : i64 f) (hg : u64 g) :
    Calls Tryz.prog 59 #[.int .i64 n, .int .i64 f, .int .u64 g, .pointer (some ⟨xq, 0, none⟩), .pointer (some ⟨ob, 0, none⟩)] w fun e w' => e = .returned (.tuple #[]) ∧ Own w0 w' (Star (plA pb b first (copyPg first m n f g z).L (copyPg first m n f g z).s) (Star (copyB xq ob pb m) R)) := by
  have SB := stable_star (stable_copyB xq ob pb m) hR
  have c0 := copyB_p h
  have c1 := copyB_m h
  obtain ⟨E, hE⟩ : ∃ E, mapE first z m n g = E := ⟨_, rfl⟩
  have M := Lib.hid (o_map h SB m n g hm ⟨by omega, by omega⟩ hg E _ hE rfl)
  have eC : copyPg first m n f g z = bif validB (mapX first z m n g).s (leafV (mapX first z m n g).L.length (mapX first z m n g).s m (n * 256)) then ⟨(mapX first z m n g).L, copyS (mapX first z m n g).L.length (mapX first z m n g).s (validF (mapX first z m n g).s (leafV (mapX first z m n g).L.length (mapX first z m n g).s m (n * 256))) f⟩ else mapX first z m n g := rfl
  rw [eC]
  clear eC
  have M2 : RowKit.Hid (Calls Tryz.prog 21 #[.pointer (some ⟨pb, 0, none⟩), .int .i64 m, .int .i64 n, .int .u64 g] w fun x w' => x = .returned (.int .i64 E) ∧ Own w0 w' (Star (plA pb b first (mapX first z m n g).L (mapX first z m n g).s) (Star (copyB xq ob pb m) R))) := M
  clear M hE
  generalize mapX first z m n g = z1 at *
  obtain ⟨leaf, hlf⟩ : ∃ l, leafV z1.L.length z1.s m (n * 256) = l := ⟨_, rfl⟩
  obtain ⟨lr, hlr⟩ : ∃ l, leafR z1.L.length z1.s m (n * 256) = l := ⟨_, rfl⟩
  have hlu := leafV_u64 z1.L.length z1.s m (n * 256)
  rw [hlf] at hlu ⊢
  have k1 := wrapU n hn.1 (by omega)
  have k2 := wrapU (n * 256) (by omega) (by omega)
  have LF : RowKit.Hid (∀ w, Own w0 w (Star (plA pb b first z1.L z1.s) (Star (copyB xq ob pb m) R)) → Calls Tryz.prog 51 #[.pointer (some ⟨b, 0, none⟩), .int .i64 m, .int .u64 (n * 256)] w fun e w' => e = .returned (.tuple #[.int .u64 leaf, .int .i64 lr]) ∧ Own w0 w' (Star (plA pb b first z1.L z1.s) (Star (copyB xq ob pb m) R))) := Lib.hid (fun w h => o_pleaf h SB m (n * 256) leaf lr ⟨by omega, by omega⟩ hm hlf hlr)
  obtain ⟨F, hF⟩ : ∃ F, validF z1.s leaf = F := ⟨_, rfl⟩
  obtain ⟨G, hG⟩ : ∃ G, validG z1.s leaf = G := ⟨_, rfl⟩
  obtain ⟨V, hV⟩ : ∃ V, validB z1.s leaf = V := ⟨_, rfl⟩
  obtain ⟨CR, hCR⟩ : ∃ V, copyR z1.L.length F f = V := ⟨_, rfl⟩
  rw [hF, hV]
  have VL : RowKit.Hid (∀ w, Own w0 w (Star (plA pb b first z1.L z1.s) (Star (copyB xq ob pb m) R)) → _) := Lib.hid (fun w h => o_valid (w0 := w0) (w := w) h SB leaf hlu F G V hF hG hV)
  have CP : RowKit.Hid (∀ w, Own w0 w (Star (plA pb b first z1.L z1.s) (Star (copyB xq ob pb m) R)) → _) := Lib.hid (fun w h => o_pcopy (w0 := w0) (w := w) h SB F f CR _ rfl hCR)
  have HS := Lib.hid (stable_star (stable_pl pb b first z1.L z1.s) SB)
  clear h hR hm hn hf hg SB hlf hlr hlu hF hG hV hCR
  go_enter Tryz.func59, Tryz.ntmps59
  go_upto_region 1 with (go_at_call 21; refine M2.out.mono ?_; rintro e w2 ⟨rfl, h2⟩; have H2 := Lib.hid h2; clear h2)
  clear M2 c0 c1
  go_cut [8] (fun s8 wx => s8 = .int .u64 leaf ∧ Own w0 wx (Star (plA pb b first z1.L z1.s) (Star (copyB xq ob pb m) R)))
  case first =>
    have hS : Own w0 w2 (Star (plA pb b first z1.L z1.s) (Star (copyB xq ob pb m) R)) := H2.out
    have hc0 := copyB_p hS
    have hc1 := copyB_m hS
    have hS1 := hS.drew HS.out
    go_region_held3 (fun w' => Own w0 w' (Star (plA pb b first z1.L z1.s) (Star (copyB xq ob pb m) R)) ∧ w'.cell? ⟨xq, 0, none⟩ = some (.pointer (some ⟨pb, 0, none⟩)) ∧ w'.cell? ⟨ob, 0, none⟩ = some (.int .i64 m))
      ((refine ⟨?_, ?_, ?_⟩ <;> first | (with_reducible assumption) | (with_reducible exact Own.drew (by assumption) HS.out) | (with_reducible exact cell11_drew (by assumption))))
      (first
        | (go_at_call 42; refine (o_pmem (by assumption : Own w0 _ (Star (plA pb b first z1.L z1.s) (Star (copyB xq ob pb m) R)))).mono ?_; rintro e w3 ⟨rfl, rfl⟩)
        | (go_at_call 51; refine (LF.out _ (by assumption)).mono ?_; rintro e w3 ⟨rfl, h3⟩; have hc30 := copyB_p h3; have hc31 := copyB_m h3))
    all_goals
      go_wp2_with fail
      go_meet
      exact ⟨rfl, by assumption⟩
  case rest =>
    obtain ⟨rfl, hr⟩ := hcut
    have HX := Lib.hid hr
    have c0 := copyB_p hr
    clear hr H2
    cases V with
    | false =>
      go_wp2_with (go_at_call 60; refine (VL.out _ HX.out).mono ?_; rintro e w4 ⟨rfl, h4⟩; have H4 := Lib.hid h4; clear h4)
      go_end0
      exact ⟨rfl, H4.out⟩
    | true =>
      go_wp2_with (first
        | (go_at_call 60; refine (VL.out _ HX.out).mono ?_; rintro e w4 ⟨rfl, h4⟩; have H4 := Lib.hid h4; have c4 := copyB_p h4; clear h4)
        | (go_at_call 42; refine (o_pmem H4.out).mono ?_; rintro e w5 ⟨rfl, rfl⟩)
        | (go_at_call 61; refine (CP.out _ H4.out).mono ?_; rintro e w6 ⟨rfl, h6⟩; have H6 := Lib.hid h6; clear h6))
      go_end0
      exact ⟨rfl, H6.out⟩
end Go.Proofs.YtbcnibnkojnpiaaGreat.P
