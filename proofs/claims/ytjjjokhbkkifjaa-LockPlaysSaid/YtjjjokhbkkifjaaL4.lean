/- Stage 15: a lock of the call's own; the document's example; LockNil. No condition. -/
import Derived.Test.YtjjjokhbkkifjaaL3
set_option linter.unusedVariables false
namespace Go.Proofs.Ytjjjokhbkkifjaa.P
open Go.RowKit Go.MuLone Go.Maps
/-- From w0 to w only new memory turned, and block b of it is a lock. -/
def LG (w0 w : World) (b : Nat) (D : DataW Unit) (n : Nat) (wide g p : Int) : Prop := Gr w0 w ∧ w0.heap.size ≤ b ∧ ∃ m, (∀ x, m = some x → w0.heap.size ≤ x) ∧ LockO w b m D n wide g p 0
theorem LG.step {w0 w w' : World} {b : Nat} {m m' : Option Nat} (g : Gr w0 w) (hb : w0.heap.size ≤ b) (hm : ∀ x, m = some x → w0.heap.size ≤ x) (k : KeptL b m w w' m') : Gr w0 w' ∧ ∀ x, m' = some x → w0.heap.size ≤ x := by
  refine ⟨gr_ch g k.1 (fun x hx => ?_), fun x hx => ?_⟩
  · rcases hx with rfl | hx
    · exact hb
    · exact hm x hx
  · rcases k.2 with e | ⟨e, bm, e2, e3⟩
    · exact hm x (by rw [← e, hx])
    · rw [e2] at hx; injection hx with hx; have := g.size; omega
theorem LG.keep {w0 w w' : World} {b : Nat} {D : DataW Unit} {n : Nat} {wide g p : Int} (h : LG w0 w b D n wide g p) (k : Gr w w') : LG w0 w' b D n wide g p := by
  obtain ⟨g0, hb, m, hm, hL⟩ := h
  exact ⟨gtrans g0 k, hb, m, hm, hL.keep (S := fun _ => False) (Ch.of_gr k) (fun h => h) (fun _ _ h => h)⟩
theorem lg_new (w0 : World) (wide : Int) (h1 : 1 ≤ wide) (h2 : wide ≤ 64) (w : World) (g0 : Gr w0 w) : Calls Try.prog 7 #[.int .i64 wide] w fun e w' => ∃ b, e = .returned (.tuple #[.pointer (some ⟨b, 0, none⟩), .int .i64 0]) ∧ LG w0 w' b (.map []) 0 wide 0 0 := by
  refine (c_new wide h1 h2 w).mono ?_
  rintro e w' ⟨b, rfl, hL, hb, hg⟩
  exact ⟨b, rfl, gtrans g0 hg, by have := g0.size; omega, none, fun _ h => (by cases h), hL⟩
theorem lg_ask {w0 : World} {b : Nat} {D : DataW Unit} {n : Nat} {wide g p : Int} {w : World} (h : LG w0 w b D n wide g p) (h1 : 0 ≤ g) (h2 : g < 4611686018427387904) :
    Calls Try.prog 9 #[.pointer (some ⟨b, 0, none⟩)] w fun e w' => e = .returned (.tuple #[.int .u64 g, .int .i64 0]) ∧ LG w0 w' b D n wide (g + 1) p := by
  obtain ⟨g0, hb, m, hm, hL⟩ := h
  refine (c_ask b m D n wide g p w hL h1 h2).mono ?_
  rintro e w' ⟨rfl, hL', hC⟩
  exact ⟨rfl, gr_ch g0 hC (fun x hx => by omega), hb, m, hm, hL'⟩
theorem lg_has {w0 : World} {b : Nat} {D : DataW Unit} {n : Nat} {wide g p t : Int} {w : World} (x : Bool) (h : LG w0 w b D n wide g p) (ht : (Lit.int .u64 t).wf = true) (h1 : 0 ≤ p) (h2 : p ≤ 4611686018427387904) (h3 : 0 ≤ wide) (h4 : wide ≤ 64) (hx : hasB D wide g p t = x) :
    Calls Try.prog 13 #[.pointer (some ⟨b, 0, none⟩), .int .u64 t] w fun e w' => e = .returned (.bool x) ∧ LG w0 w' b D n wide g p := by
  obtain ⟨g0, hb, m, hm, hL⟩ := h
  refine (c_Has b m D n wide g p t w hL ht h1 h2 h3 h4).mono ?_
  rintro e w' ⟨rfl, m', hL', hC⟩
  obtain ⟨k1, k2⟩ := LG.step g0 hb hm hC
  exact ⟨by rw [hx], k1, hb, m', k2, hL'⟩
theorem lg_pass_no {w0 : World} {b : Nat} {D : DataW Unit} {n : Nat} {wide g p t : Int} {w : World} (h : LG w0 w b D n wide g p) (ht : (Lit.int .u64 t).wf = true) (h1 : 0 ≤ p) (h2 : p ≤ 4611686018427387904) (h3 : 0 ≤ wide) (h4 : wide ≤ 64) (hx : hasB D wide g p t = false) :
    Calls Try.prog 11 #[.pointer (some ⟨b, 0, none⟩), .int .u64 t] w fun e w' => e = .returned (.int .i64 1) ∧ LG w0 w' b D n wide g p := by
  obtain ⟨g0, hb, m, hm, hL⟩ := h
  refine (c_pass_no b m D n wide g p t w hL ht h1 h2 h3 h4 hx).mono ?_
  rintro e w' ⟨rfl, m', hL', hC⟩
  obtain ⟨k1, k2⟩ := LG.step g0 hb hm hC
  exact ⟨rfl, k1, hb, m', k2, hL'⟩
theorem lg_pass_yes {w0 : World} {b : Nat} {D : DataW Unit} {n : Nat} {wide g p t : Int} {w : World} (h : LG w0 w b D n wide g p) (ht : (Lit.int .u64 t).wf = true) (h1 : 0 ≤ p) (h2 : p < 4611686018427387904) (h3 : 0 ≤ wide) (h4 : wide ≤ 64) (hx : hasB D wide g p t = true) (hn : n < maxLen) :
    Calls Try.prog 11 #[.pointer (some ⟨b, 0, none⟩), .int .u64 t] w fun e w' => e = .returned (.int .i64 0) ∧ LG w0 w' b (D.put (.int .u64 t) u0) (n + 1) wide g (p + 1) := by
  obtain ⟨g0, hb, m, hm, hL⟩ := h
  refine (c_pass_yes b m D n wide g p t w hL ht h1 h2 h3 h4 hx hn).mono ?_
  rintro e w' ⟨rfl, m', hL', hC⟩
  obtain ⟨k1, k2⟩ := LG.step g0 hb hm hC
  exact ⟨rfl, k1, hb, m', k2, hL'⟩
theorem lg_let {w0 : World} {b : Nat} {D : DataW Unit} {n : Nat} {wide g p : Int} {w : World} (h : LG w0 w b D n wide g p) (h1 : 0 ≤ p) (h2 : p ≤ 4611686018427387904) (h3 : 0 ≤ wide) (h4 : wide ≤ 64) (x : Int) (hx : letF wide g p = x) :
    Calls Try.prog 17 #[.pointer (some ⟨b, 0, none⟩)] w fun e w' => e = .returned (.int .u64 x) ∧ LG w0 w' b D n wide g p := by
  have h0 := h
  obtain ⟨g0, hb, m, hm, hL⟩ := h0
  refine (c_let b wide g p 0 _ _ w hL.blk h1 h2 h3 h4).mono ?_
  rintro e w' ⟨rfl, hC⟩
  exact ⟨by rw [hx], h.keep hC⟩
theorem lg_waiting {w0 : World} {b : Nat} {D : DataW Unit} {n : Nat} {wide g p : Int} {w : World} (h : LG w0 w b D n wide g p) (h1 : 0 ≤ p) (h2 : p ≤ g) (h3 : g ≤ 4611686018427387904) (x : Int) (hx : g - p = x) :
    Calls Try.prog 15 #[.pointer (some ⟨b, 0, none⟩)] w fun e w' => e = .returned (.int .u64 x) ∧ LG w0 w' b D n wide g p := by
  have h0 := h
  obtain ⟨g0, hb, m, hm, hL⟩ := h0
  refine (c_waiting b wide g p 0 _ _ w hL.blk h1 h2 h3).mono ?_
  rintro e w' ⟨rfl, hC⟩
  exact ⟨by rw [hx], h.keep hC⟩
set_option maxHeartbeats 1600000 in
theorem c_shown (w : World) : Calls Try.prog 6 #[] w fun e w' => e = .returned (.bool true) ∧ Gr w w' := by
  go_enter Try.func6, Try.ntmps6
  go_wp2_with fail
  refine (lg_new w 1 (by decide) (by decide) _ (Gr.refl w)).mono ?_; rintro e w1 ⟨b, rfl, h⟩
  have H1 := Lib.hid h; clear h
  go_wp2_with fail
  refine (lg_ask H1.out (by decide) (by decide)).mono ?_; rintro e w2 ⟨rfl, h⟩
  have H2 : RowKit.Hid (LG w w2 b (.map []) 0 1 1 0) := h
  clear h
  go_wp2_with fail
  refine (lg_ask H2.out (by decide) (by decide)).mono ?_; rintro e w3 ⟨rfl, h⟩
  have H3 : RowKit.Hid (LG w w3 b (.map []) 0 1 2 0) := h
  clear h
  go_wp2_with fail
  refine (lg_has true H3.out (by decide) (by decide) (by decide) (by decide) (by decide) (by decide)).mono ?_; rintro e w4 ⟨rfl, h⟩
  have H4 := Lib.hid h; clear h
  go_wp2_with fail
  refine (lg_has false H4.out (by decide) (by decide) (by decide) (by decide) (by decide) (by decide)).mono ?_; rintro e w5 ⟨rfl, h⟩
  have H5 := Lib.hid h; clear h
  go_wp2_with fail
  refine (lg_pass_no H5.out (by decide) (by decide) (by decide) (by decide) (by decide) (by decide)).mono ?_; rintro e w6 ⟨rfl, h⟩
  have H6 := Lib.hid h; clear h
  go_wp2_with fail
  refine (lg_pass_yes H6.out (by decide) (by decide) (by decide) (by decide) (by decide) (by decide) (by unfold maxLen; omega)).mono ?_; rintro e w7 ⟨rfl, h⟩
  have H7 : RowKit.Hid (LG w w7 b ((DataW.map []).put (.int .u64 0) u0) 1 1 2 1) := h
  clear h
  go_wp2_with fail
  refine (lg_has true H7.out (by decide) (by decide) (by decide) (by decide) (by decide) (by decide)).mono ?_; rintro e w8 ⟨rfl, h⟩
  have H8 := Lib.hid h; clear h
  go_wp2_with fail
  refine (lg_waiting H8.out (by decide) (by decide) (by decide) 1 (by decide)).mono ?_; rintro e w9 ⟨rfl, h⟩
  have H9 := Lib.hid h; clear h
  go_wp2_with fail
  refine (lg_let H9.out (by decide) (by decide) (by decide) (by decide) 2 (by decide)).mono ?_; rintro e w10 ⟨rfl, h⟩
  have H10 := Lib.hid h; clear h
  go_wp2_with fail
  go_ret
  exact ⟨rfl, H10.out.1⟩
theorem l_nil (t : Int) (w : World) : Calls Try.prog 4 #[.int .u64 t] w fun e w' => e = .returned (.bool true) ∧ Gr w w' := by
  go_enter Try.func4, Try.ntmps4
  go_wp2_with fail
  refine (c_shown _).mono ?_; rintro e w1 ⟨rfl, g⟩
  have G := Lib.hid g; clear g
  go_wp2_with (first
    | (go_at_call 9; refine (n_ask _).mono ?_; rintro e w' ⟨rfl, rfl⟩)
    | (go_at_call 11; refine (n_pass _ _).mono ?_; rintro e w' ⟨rfl, rfl⟩)
    | (go_at_call 13; refine (n_has _ _).mono ?_; rintro e w' ⟨rfl, rfl⟩)
    | (go_at_call 15; refine (n_waiting _).mono ?_; rintro e w' ⟨rfl, rfl⟩)
    | (go_at_call 17; refine (n_let _).mono ?_; rintro e w' ⟨rfl, rfl⟩))
  go_ret
  exact ⟨rfl, G.out⟩
end Go.Proofs.Ytjjjokhbkkifjaa.P
