/- Stage 11: Copy. No condition. -/
import Derived.Test.YtbcnibnkojnpiaaEE
set_option linter.unusedVariables false
set_option linter.unusedSimpArgs false
set_option maxRecDepth 100000
namespace Go.Proofs.Ytbcnibnkojnpiaa.P
open Go.RowKit Go.MuLone Go.Maps
variable {w0 w : World} {pb b first : Nat} {z : Sp} {R : Asn}
theorem o_copy4 (w : World) (f : Int) : Calls Try.prog 38 #[.int .i64 f] w fun e w' => e = .returned (.tuple #[]) ∧ w' = w := by
  go_enter Try.func38, Try.ntmps38
  go_wp2_with fail
  go_end0
  exact ⟨rfl, rfl⟩
theorem cbs_copy (w0 : World) (pb b fi xq ob : Nat) (m : Int) (hm : i64 m) : Cbs (X := Sp) id (fun x => copyB xq ob pb m) (fun k x => True) pb b fi (fun n f g x => copyPg fi m n f g x) (fun _ x => x) 35 38 #[.pointer (some ⟨xq, 0, none⟩), .pointer (some ⟨ob, 0, none⟩)] #[] w0 := by
  refine ⟨fun x => stable_copyB _ _ _ _, fun _ _ _ _ _ => trivial, fun _ _ _ _ _ _ _ => trivial, fun _ _ _ _ _ => trivial, ?_, ?_, ?_, ?_⟩
  · intro n f g w; simp [go_sem]
  · intro f w; simp [go_sem]
  · intro k x n f g w R hR hk hk2 hn hf hg h
    exact o_copy3 h hR hm n f g hn ⟨by omega, by omega⟩ ⟨by omega, by omega⟩
  · intro k x f w R hR hk hk2 hf h
    refine (o_copy4 w f).mono ?_
    rintro e w' ⟨rfl, rfl⟩
    exact ⟨rfl, h⟩
theorem o_copy_bad (h : Own w0 w (Star (plA pb b first z.L z.s) R)) (hR : Stable R) (r : Int) (hr : i64 r) (ht : tknB z.L first r = false) :
    Calls Try.prog 11 #[.pointer (some ⟨pb, 0, none⟩), .int .i64 r] w fun e w' => e = .returned (.tuple #[.int .i64 0, .int .i64 1]) ∧ Own w0 w' (Star (plA pb b first z.L z.s) R) := by
  have SP := stable_star (stable_pl pb b first z.L z.s) hR
  have K1 := h.alloc SP (.cells #[.pointer (some ⟨pb, 0, none⟩)] 26)
  have SB := stable_star (stable_blk w.heap.size (.cells #[.pointer (some ⟨pb, 0, none⟩)] 26)) hR
  have TK := Lib.hid (o_ptaken K1.swap2 SB r hr false ht)
  clear h hR SP SB hr ht K1
  go_enter Try.func11, Try.ntmps11
  go_wp2_with (go_at_call 23; refine TK.out.mono ?_; rintro e w2 ⟨rfl, h2⟩; have H2 := Lib.hid h2; clear h2)
  go_ret2
  exact ⟨rfl, H2.out.drop2⟩
abbrev cntB (xq nb pb : Nat) (c : Int) (R : Asn) : Asn := Star (blkA nb (.cells #[.int .i64 c] 3)) (Star (blkA xq (.cells #[.pointer (some ⟨pb, 0, none⟩)] 26)) R)
theorem stable_cntB (xq nb pb : Nat) (c : Int) {R : Asn} (hR : Stable R) : Stable (cntB xq nb pb c R) := stable_star (stable_blk _ _) (stable_star (stable_blk _ _) hR)
theorem cntB_c {A : Asn} {xq nb : Nat} {c : Int} (h : Own w0 w (Star A (cntB xq nb pb c R))) : w.cell? ⟨nb, 0, none⟩ = some (.int .i64 c) := blk_cell h.right.blk 0 rfl
theorem cntB_p {A : Asn} {xq nb : Nat} {c : Int} (h : Own w0 w (Star A (cntB xq nb pb c R))) : w.cell? ⟨xq, 0, none⟩ = some (.pointer (some ⟨pb, 0, none⟩)) := blk_cell h.right.right.blk 0 rfl
set_option maxHeartbeats 3200000 in
theorem o_copy_go (h : Own w0 w (Star (plA pb b first z.L z.s) R)) (hR : Stable R) (r : Int) (hr : i64 r) (ht : tknB z.L first r = true) (d : Bool) (hd : decide (leftX first z < (countX first z r).2) = d) :
    Calls Try.prog 11 #[.pointer (some ⟨pb, 0, none⟩), .int .i64 r] w fun e w' => e = .returned (.tuple #[.int .i64 (bif d then 0 else takeN z.L first), .int .i64 (bif d then 4 else 0)]) ∧
      Own w0 w' (Star (plA pb b first (bif d then z else copyZ first (takeX first z) r (takeN z.L first)).L (bif d then z else copyZ first (takeX first z) r (takeN z.L first)).s) R) := by
  have hb := tkn_bd ht
  have hl := (o_plen h).2.2.1
  have SP := stable_star (stable_pl pb b first z.L z.s) hR
  have K1 := h.alloc SP (.cells #[.pointer (some ⟨pb, 0, none⟩)] 26)
  have SB := stable_star (stable_blk w.heap.size (.cells #[.pointer (some ⟨pb, 0, none⟩)] 26)) hR
  have TK := Lib.hid (o_ptaken K1.swap2 SB r hr true ht)
  have HR := Lib.hid hR
  have HSP := Lib.hid (stable_pl pb b first z.L z.s)
  have EA : RowKit.Hid (∀ (w : World) (xq nb : Nat), Own w0 w (Star (plA pb b first z.L z.s) (cntB xq nb pb 0 R)) → Calls Try.prog 32 #[.pointer (some ⟨pb, 0, none⟩), .int .i64 r, .func (.func 33) #[] #[.pointer (some ⟨nb, 0, none⟩)], .func (.func 34) #[] #[.pointer (some ⟨nb, 0, none⟩)]] w fun e w' =>
      e = .returned (.tuple #[]) ∧ Own w0 w' (Star (plA pb b first z.L z.s) (cntB xq nb pb (countX first z r).2 R))) := Lib.hid (fun w xq nb h => by
    refine (o_each (cbs_count w0 pb b first nb) (z, 0) r w _ (stable_star (stable_blk xq (.cells #[.pointer (some ⟨pb, 0, none⟩)] 26)) hR) trivial ⟨by omega, by omega⟩ h).mono ?_
    rintro e w' ⟨rfl, h', _⟩
    have e1 := count_same first z r
    have h' : Own w0 w' (Star (plA pb b first (countX first z r).1.L (countX first z r).1.s) (cntB xq nb pb (countX first z r).2 R)) := h'
    rw [e1] at h'
    exact ⟨rfl, h'⟩)
  generalize (countX first z r).2 = C at *
  obtain ⟨lf, hlf⟩ : ∃ lf, leftX first z = lf := ⟨_, rfl⟩
  rw [hlf] at hd
  have LF : RowKit.Hid (∀ (w : World) (xq nb : Nat), Own w0 w (Star (plA pb b first z.L z.s) (cntB xq nb pb C R)) → Calls Try.prog 8 #[.pointer (some ⟨pb, 0, none⟩)] w fun e w' => e = .returned (.int .i64 lf) ∧ w' = w) := Lib.hid (fun w xq nb h => o_pleft h lf hlf)
  obtain ⟨N, hN⟩ : ∃ N, takeN z.L first = N := ⟨_, rfl⟩
  obtain ⟨E, hE⟩ : ∃ E, takeE z.L first = E := ⟨_, rfl⟩
  have NW : RowKit.Hid (∀ (w : World) (xq nb : Nat), Own w0 w (Star (plA pb b first z.L z.s) (cntB xq nb pb C R)) → _) := Lib.hid (fun w xq nb h => o_snew (w0 := w0) (w := w) h (stable_cntB xq nb pb C hR) N E hN hE)
  have hnb := take_bd z.L first hl
  rw [hN] at hnb ⊢
  have EC : RowKit.Hid (∀ (w : World) (xq ob : Nat) (R2 : Asn), Stable R2 → Own w0 w (Star (plA pb b first (takeX first z).L (takeX first z).s) (Star (copyB xq ob pb N) R2)) → Calls Try.prog 32 #[.pointer (some ⟨pb, 0, none⟩), .int .i64 r, .func (.func 35) #[] #[.pointer (some ⟨xq, 0, none⟩), .pointer (some ⟨ob, 0, none⟩)], .func (.func 38) #[] #[]] w fun e w' =>
      e = .returned (.tuple #[]) ∧ Own w0 w' (Star (plA pb b first (copyZ first (takeX first z) r N).L (copyZ first (takeX first z) r N).s) (Star (copyB xq ob pb N) R2))) := Lib.hid (fun w xq ob R2 hR2 h => by
    refine (o_each (cbs_copy w0 pb b first xq ob N ⟨by omega, by omega⟩) (takeX first z) r w R2 hR2 trivial ⟨by omega, by omega⟩ h).mono ?_
    rintro e w' ⟨rfl, h', _⟩
    exact ⟨rfl, h'⟩)
  generalize copyZ first (takeX first z) r N = z3 at *
  generalize takeX first z = z2 at *
  have HSB := Lib.hid SB
  clear h hR SP SB hr ht K1 hb hl hlf hN hE hnb
  go_enter Try.func11, Try.ntmps11
  go_upto_region 3 with (go_at_call 23; refine TK.out.mono ?_; rintro e w2 ⟨rfl, h2⟩; have H2 := Lib.hid h2; clear h2)
  clear TK
  generalize w.heap.size = xq at *
  go_upto_region 4 with fail
  have A1 := H2.out.alloc (stable_star HSP.out HSB.out) (.cells #[.int .i64 0] 3)
  have A2 : RowKit.Hid (Own w0 (w2.alloc (.cells #[.int .i64 0] 3)) (Star (plA pb b first z.L z.s) (cntB xq w2.heap.size pb 0 R))) := Lib.hid A1.swap2
  clear A1 H2
  have c0 := cntB_p A2.out
  generalize (World.alloc w2 _) = w3 at *
  generalize w2.heap.size = nb at *
  have E3 := Lib.hid (EA.out w3 xq nb A2.out)
  clear EA
  go_upto_region 5 with (go_at_call 32; refine E3.out.mono ?_; rintro e w4 ⟨rfl, h4⟩; have H4 := Lib.hid h4; clear h4)
  clear E3 A2 c0
  have HS4 := Lib.hid (stable_star HSP.out (stable_cntB xq nb pb C HR.out))
  go_cut [21] (fun s21 wx => s21 = .bool d ∧ Own w0 wx (Star (plA pb b first z.L z.s) (cntB xq nb pb C R)))
  case first =>
    have hS : Own w0 w4 (Star (plA pb b first z.L z.s) (cntB xq nb pb C R)) := H4.out
    have hc0 := cntB_p hS
    have hc1 := cntB_c hS
    have hS1 := hS.drew HS4.out
    go_region_held3 (fun w' => Own w0 w' (Star (plA pb b first z.L z.s) (cntB xq nb pb C R)) ∧ w'.cell? ⟨xq, 0, none⟩ = some (.pointer (some ⟨pb, 0, none⟩)) ∧ w'.cell? ⟨nb, 0, none⟩ = some (.int .i64 C))
      ((refine ⟨?_, ?_, ?_⟩ <;> first | (with_reducible assumption) | (with_reducible exact Own.drew (by assumption) HS4.out) | (with_reducible exact cell11_drew (by assumption))))
      (first | (go_at_call 8; refine (LF.out _ xq nb (by assumption)).mono ?_; rintro e w5 ⟨rfl, rfl⟩))
    all_goals
      go_wp2_with fail
      go_meet
      exact ⟨by rw [← hd], by assumption⟩
  case rest =>
    obtain ⟨rfl, hr⟩ := hcut
    have HX := Lib.hid hr
    have c0 := cntB_p hr
    clear hr H4 LF hd
    cases d with
    | true =>
      go_wp2_with fail
      go_ret2
      exact ⟨rfl, HX.out.drop2.drop2⟩
    | false =>
      go_upto_region 8 with (go_at_call 9; refine (NW.out _ xq nb HX.out).mono ?_; rintro e w6 ⟨rfl, h6⟩; have H6 := Lib.hid h6; clear h6)
      clear HX NW c0
      have S6 := stable_star (stable_pl pb b first z2.L z2.s) (stable_cntB xq nb pb C HR.out)
      have B1 := H6.out.alloc S6 (.cells #[.int .i64 N] 3)
      have B2 : RowKit.Hid (Own w0 (w6.alloc (.cells #[.int .i64 N] 3)) (Star (plA pb b first z2.L z2.s) (Star (copyB xq w6.heap.size pb N) (Star (blkA nb (.cells #[.int .i64 C] 3)) R)))) := Lib.hid (B1.mono (fun F h => by
        -- ob, pool, nb, xq, R
        refine star_mono_r (fun F h => ?_) (star_swap2 h)
        -- ob, nb, xq, R
        exact star_unassoc (st3 h)))
      clear B1 S6 H6
      have c0 := copyB_p B2.out
      have c1 := copyB_m B2.out
      generalize (World.alloc w6 _) = w7 at *
      generalize w6.heap.size = ob at *
      have E7 := Lib.hid (EC.out w7 xq ob _ (stable_star (stable_blk nb (.cells #[.int .i64 C] 3)) HR.out) B2.out)
      clear EC
      go_upto_region 9 with (go_at_call 32; refine E7.out.mono ?_; rintro e w8 ⟨rfl, h8⟩; have H8 := Lib.hid h8; clear h8)
      have c1 := copyB_m H8.out
      go_wp2_with fail
      go_ret2
      exact ⟨rfl, H8.out.drop2.drop2⟩
theorem o_copyC (h : Own w0 w (Star (plA pb b first z.L z.s) R)) (hR : Stable R) (r : Int) (hr : i64 r) (n e : Int) (hn : copyN first z r = n) (he : copyE first z r = e) :
    Calls Try.prog 11 #[.pointer (some ⟨pb, 0, none⟩), .int .i64 r] w fun x w' => x = .returned (.tuple #[.int .i64 n, .int .i64 e]) ∧ Own w0 w' (Star (plA pb b first (copyW first z r).L (copyW first z r).s) R) := by
  subst hn; subst he
  cases ht : tknB z.L first r with
  | false =>
    have e1 : copyE first z r = 1 := by unfold copyE; rw [ht]; rfl
    have e2 : copyN first z r = 0 := by unfold copyN; rw [e1]; rfl
    have e3 : copyW first z r = z := by unfold copyW; rw [e1]; rfl
    rw [e1, e2, e3]
    exact o_copy_bad h hR r hr ht
  | true =>
    have H := o_copy_go h hR r hr ht _ rfl
    cases hd : decide (leftX first z < (countX first z r).2) with
    | true =>
      have e1 : copyE first z r = 4 := by unfold copyE; rw [ht, hd]; rfl
      have e2 : copyN first z r = 0 := by unfold copyN; rw [e1]; rfl
      have e3 : copyW first z r = z := by unfold copyW; rw [e1]; rfl
      rw [e1, e2, e3]
      rw [hd] at H
      exact H
    | false =>
      have e1 : copyE first z r = 0 := by unfold copyE; rw [ht, hd]; rfl
      have e2 : copyN first z r = takeN z.L first := by unfold copyN; rw [e1]; rfl
      have e3 : copyW first z r = copyZ first (takeX first z) r (takeN z.L first) := by unfold copyW; rw [e1]; rfl
      rw [e1, e2, e3]
      rw [hd] at H
      exact H
end Go.Proofs.Ytbcnibnkojnpiaa.P
