/- Stage 11: Pages, Free; counting. No condition. -/
import Derived.Test.YtdlglnoffpnonaaEC
set_option linter.unusedVariables false
set_option linter.unusedSimpArgs false
set_option maxRecDepth 100000
namespace Go.Proofs.Ytdlglnoffpnonaa.P
open Go.RowKit Go.MuLone Go.Maps
theorem rnd_inv {X : Type} {rd : X → Sp} {fi : Nat} {I : X → Prop} {fr fst : Int} {f : Int → Int → Int → X → X} (hf : ∀ n k g x, I x → I (f n k g x)) (i : Nat) (x : X) (h : I x) : I (rndX rd fi fr fst f i x) := by
  unfold rndX
  cases (validB (rd x).s (fr * 256 + i * 8) && tknB (rd x).L fi (validF (rd x).s (fr * 256 + i * 8)))
  · exact h
  · exact hf _ _ _ _ h
theorem lp_inv {X : Type} {rd : X → Sp} {fi : Nat} {I : X → Prop} {fr fst : Int} {f : Int → Int → Int → X → X} (hf : ∀ n k g x, I x → I (f n k g x)) : ∀ (k : Nat) (x : X), I x → I (lpX rd fi fr fst f k x)
  | 0, x, h => h
  | k + 1, x, h => rnd_inv hf k _ (lp_inv hf k x h)
theorem visX_inv {X : Type} {rd : X → Sp} {fi : Nat} {I : X → Prop} {pg : Int → Int → Int → X → X} {tb : Int → X → X} (hp : ∀ n f g x, I x → I (pg n f g x)) (ht : ∀ f x, I x → I (tb f x)) : ∀ (l : Nat) (fr fst : Int) (x : X), I x → I (visX rd fi pg tb l fr fst x)
  | 0, fr, fst, x, h => ht _ _ (lp_inv hp 32 x h)
  | l + 1, fr, fst, x, h => ht _ _ (lp_inv (fun n f g x h => visX_inv hp ht l f n x h) 32 x h)
theorem pages_same (fi : Nat) (z : Sp) (root : Int) : (pagesX fi z root).1 = z := by
  unfold pagesX
  generalize 2 = l
  refine visX_inv (I := fun x : Sp × List Int => x.1 = z) (fun n f g x h => ?_) (fun f x h => ?_) l root 0 (z, []) rfl <;> exact h
theorem count_same (fi : Nat) (z : Sp) (root : Int) : (countX fi z root).1 = z := by
  unfold countX
  generalize 2 = l
  refine visX_inv (I := fun x : Sp × Int => x.1 = z) (fun n f g x h => ?_) (fun f x h => ?_) l root 0 (z, 0) rfl <;> exact h
variable {w0 w : World} {pb b first : Nat} {z : Sp} {R : Asn}
/-- The answer of Pages: a slice, its row one's own. -/
def PagesP (w0 : World) (A : Asn) (l : List Int) (R : Asn) (e : Ending) (w' : World) : Prop :=
  ∃ (o : Option Addr) (c : Nat), e = .returned (.tuple #[.slice o l.length c, .int .i64 0]) ∧ Own w0 w' (Star A (Star (rowA 3 1 (.slice o l.length c) l.length (ints l)) R))
theorem o_pages (h : Own w0 w (Star (plA pb b first z.L z.s) R)) (hR : Stable R) (r : Int) (hr : i64 r) (ht : tknB z.L first r = true) :
    Calls Try.prog 19 #[.pointer (some ⟨pb, 0, none⟩), .int .i64 r] w (PagesP w0 (plA pb b first z.L z.s) (pagesX first z r).2 R) := by
  have hb := tkn_bd ht
  have hl := (o_plen h).2.2.1
  have TK := Lib.hid (o_ptaken h hR r hr true ht)
  have HR := Lib.hid hR
  have EA : RowKit.Hid (∀ (w : World) (ob : Nat), Own w0 w (Star (plA pb b first z.L z.s) (Star (outA ob []) R)) → Calls Try.prog 36 #[.pointer (some ⟨pb, 0, none⟩), .int .i64 r, .func (.func 37) #[] #[.pointer (some ⟨ob, 0, none⟩)], .func (.func 38) #[] #[]] w fun e w' =>
      e = .returned (.tuple #[]) ∧ Own w0 w' (Star (plA pb b first z.L z.s) (Star (outA ob (pagesX first z r).2) R))) := Lib.hid (fun w ob h => by
    refine (o_each (cbs_pages w0 pb b first ob) (z, []) r w R hR (Nat.zero_le _) ⟨by omega, by omega⟩ h).mono ?_
    rintro e w' ⟨rfl, h', _⟩
    have e1 := pages_same first z r
    have h' : Own w0 w' (Star (plA pb b first (pagesX first z r).1.L (pagesX first z r).1.s) (Star (outA ob (pagesX first z r).2) R)) := h'
    rw [e1] at h'
    exact ⟨rfl, h'⟩)
  generalize (pagesX first z r).2 = l at *
  have SP := Lib.hid (stable_star (stable_pl pb b first z.L z.s) hR)
  clear h hR hr ht hb hl
  go_enter Try.func19, Try.ntmps19
  go_upto_region 3 with (go_at_call 35; refine TK.out.mono ?_; rintro e w2 ⟨rfl, h2⟩; have H2 := Lib.hid h2; clear h2)
  clear TK
  go_upto_region 4 with fail
  have A1 := H2.out.alloc SP.out (.cells #[.slice none 0 0] 50)
  have A2 : RowKit.Hid (Own w0 (w2.alloc (.cells #[.slice none 0 0] 50)) (Star (plA pb b first z.L z.s) (Star (outA w2.heap.size []) R))) := Lib.hid (by
    have a := (A1.add (stable_star (stable_blk _ _) SP.out) (Gr.refl _) (A := rowA 3 1 (.slice none 0 0) 0 []) ⟨fun _ => False, ⟨⟨rfl, .inl ⟨rfl, rfl⟩⟩, fun b hb => by cases hb⟩, fun x hx => hx.elim⟩)
    refine a.mono (fun F h => star_mono_r (fun F h => ?_) (st3 h))
    obtain ⟨F1, F2, a, b, d, s1, s2⟩ := star_unassoc (star_swap2 h)
    exact ⟨F1, F2, ⟨none, 0, a⟩, b, d, s1, s2⟩)
  clear A1 H2
  generalize (World.alloc w2 _) = w3 at *
  generalize w2.heap.size = ob at *
  have E3 := Lib.hid (EA.out w3 ob A2.out)
  clear EA
  go_upto_region 5 with (go_at_call 36; refine E3.out.mono ?_; rintro e w4 ⟨rfl, h4⟩; have H4 := Lib.hid h4; clear h4)
  obtain ⟨o, c, h5⟩ := own_ex2 (A := fun o c => Star (blkA ob (.cells #[.slice o l.length c] 50)) (rowA 3 1 (.slice o l.length c) l.length (ints l))) H4.out
  have h6 : Own w0 w4 (Star (blkA ob (.cells #[.slice o l.length c] 50)) (Star (plA pb b first z.L z.s) (Star (rowA 3 1 (.slice o l.length c) l.length (ints l)) R))) := h5.mono (fun F h => star_swap2 (star_mono_r (fun F h => star_assoc h) h))
  have c0 := blk_cell h6.blk 0 (v := .slice o l.length c) rfl
  have H6 := Lib.hid h6.right
  clear h5 h6
  go_wp2_with fail
  go_ret2
  exact ⟨o, c, rfl, H6.out⟩
theorem o_pages_bad (h : Own w0 w (Star (plA pb b first z.L z.s) R)) (hR : Stable R) (r : Int) (hr : i64 r) (ht : tknB z.L first r = false) :
    Calls Try.prog 19 #[.pointer (some ⟨pb, 0, none⟩), .int .i64 r] w fun e w' => e = .returned (.tuple #[.slice none 0 0, .int .i64 1]) ∧ Own w0 w' (Star (plA pb b first z.L z.s) R) := by
  have TK := Lib.hid (o_ptaken h hR r hr false ht)
  clear h hR hr ht
  go_enter Try.func19, Try.ntmps19
  go_wp2_with (go_at_call 35; refine TK.out.mono ?_; rintro e w2 ⟨rfl, h2⟩; have H2 := Lib.hid h2; clear h2)
  go_ret2
  exact ⟨rfl, H2.out⟩
-- Free
abbrev giveV (xq : Nat) : Value := .func (.func 39) #[] #[.pointer (some ⟨xq, 0, none⟩)]
abbrev freeB (xq gb pb : Nat) : Asn := Star (blkA xq (.cells #[.pointer (some ⟨pb, 0, none⟩)] 41)) (blkA gb (.cells #[giveV xq] 94))
theorem o_free1 {xq gb : Nat} (h : Own w0 w (Star (plA pb b first z.L z.s) (Star (freeB xq gb pb) R))) (hR : Stable R) (f : Int) (hf : i64 f) :
    Calls Try.prog 39 #[.int .i64 f, .pointer (some ⟨xq, 0, none⟩)] w fun e w' => e = .returned (.tuple #[]) ∧ Own w0 w' (Star (plA pb b first (giveX first f z).L (giveX first f z).s) (Star (freeB xq gb pb) R)) := by
  have SB := stable_star (stable_star (stable_blk xq (.cells #[.pointer (some ⟨pb, 0, none⟩)] 41)) (stable_blk gb (.cells #[giveV xq] 94))) hR
  have c0 := blk_cell (h.mono (fun F h => star_assoc (star_swap2 h))).blk 0 (v := .pointer (some ⟨pb, 0, none⟩)) rfl
  obtain ⟨E, hE⟩ : ∃ E, giveE z.L first f = E := ⟨_, rfl⟩
  have G := Lib.hid (o_pgive h SB f hf E _ _ hE rfl rfl)
  clear h SB hR hf hE
  go_enter Try.func39, Try.ntmps39
  go_wp2_with (go_at_call 40; refine G.out.mono ?_; rintro e w2 ⟨rfl, h2⟩; have H2 := Lib.hid h2; clear h2)
  go_end0
  exact ⟨rfl, H2.out⟩
theorem o_free2 {xq gb : Nat} (h : Own w0 w (Star (plA pb b first z.L z.s) (Star (freeB xq gb pb) R))) (hR : Stable R) (n f g : Int) (hf : i64 f) :
    Calls Try.prog 41 #[.int .i64 n, .int .i64 f, .int .u64 g, .pointer (some ⟨gb, 0, none⟩)] w fun e w' => e = .returned (.tuple #[]) ∧ Own w0 w' (Star (plA pb b first (giveX first f z).L (giveX first f z).s) (Star (freeB xq gb pb) R)) := by
  have c0 := blk_cell (h.mono (fun F h => star_swap2 (star_assoc (star_swap2 h)))).blk 0 (v := giveV xq) rfl
  have G := Lib.hid (o_free1 h hR f hf)
  clear h hR hf
  go_enter Try.func41, Try.ntmps41
  go_wp2_with (go_at_call 39; refine G.out.mono ?_; rintro e w2 ⟨rfl, h2⟩; have H2 := Lib.hid h2; clear h2)
  go_end0
  exact ⟨rfl, H2.out⟩
theorem cbs_free (w0 : World) (pb b fi xq gb : Nat) : Cbs (X := Sp) id (fun x => freeB xq gb pb) (fun k x => True) pb b fi (fun _ f _ x => giveX fi f x) (fun f x => giveX fi f x) 41 39 #[.pointer (some ⟨gb, 0, none⟩)] #[.pointer (some ⟨xq, 0, none⟩)] w0 := by
  refine ⟨fun x => stable_star (stable_blk _ _) (stable_blk _ _), fun _ _ _ _ _ => trivial, fun _ _ _ _ _ _ _ => trivial, fun _ _ _ _ _ => trivial, ?_, ?_, ?_, ?_⟩
  · intro n f g w; simp [go_sem]
  · intro f w; simp [go_sem]
  · intro k x n f g w R hR hk hk2 _ hf _ h
    exact o_free2 h hR n f g ⟨by omega, by omega⟩
  · intro k x f w R hR hk hk2 hf h
    exact o_free1 h hR f ⟨by omega, by omega⟩
-- counting
end Go.Proofs.Ytdlglnoffpnonaa.P
