/- Stage 15: Pass, Ask, New, and all calls of a lock that is nil. No condition. -/
import Derived.Test.YtjjjokhbkkifjaaL2
set_option linter.unusedVariables false
namespace Go.Proofs.Ytjjjokhbkkifjaa.P
open Go.RowKit Go.MuLone Go.Maps
theorem Ch.of_grown {w w' : World} {row : Option Nat} (h : w.grownBy w' row) : Ch (fun x => row = some x) w w' := ⟨h.os, h.tape, h.output, h.size, fun k hk hs => h.block k hk (fun e => hs e.symm)⟩
def u0 : DataW Unit := .agg []
def PassP (b : Nat) (m : Option Nat) (D : DataW Unit) (n : Nat) (wide g p r : Int) (w : World) (e : Ending) (w' : World) : Prop :=
  e = .returned (.int .i64 r) ∧ ∃ m', LockO w' b m' D n wide g p 0 ∧ KeptL b m w w' m'
set_option maxHeartbeats 800000 in
theorem c_pass_no (b : Nat) (m : Option Nat) (D : DataW Unit) (n : Nat) (wide g p t : Int) (w : World) (h : LockO w b m D n wide g p 0) (ht : (Lit.int .u64 t).wf = true) (h1 : 0 ≤ p) (h2 : p ≤ 4611686018427387904) (h3 : 0 ≤ wide) (h4 : wide ≤ 64) (hh : hasB D wide g p t = false) :
    Calls Try.prog 11 #[.pointer (some ⟨b, 0, none⟩), .int .u64 t] w (PassP b m D n wide g p 1 w) := by
  have HB := Lib.hid h.blk
  have H := Lib.hid h
  have hl := blk_lt h.blk
  clear h
  go_enter_defers Try.func11, Try.ntmps11
  go_wp2_with (go_at_call 20; refine (lock_free Try.muLib ⟨b, 3, none⟩ _ (blk_cell HB.out 3 rfl) (blk_frozen HB.out 3)).mono ?_; rintro e w' ⟨rfl, rfl⟩)
  have C1 : RowKit.Hid (Ch (· = b) w (w.setCell ⟨b, 3, none⟩ (.int .i32 1))) := Lib.hid (Ch.setCell (S := (· = b)) (Ch.refl _ w) (.inl rfl) _)
  have L1 := Lib.hid (H.out.turn (g' := g) (p' := p) (s' := 1) C1.out (by rw [blk_set HB.out 3 (.int .i32 1), lk_mu]))
  refine (c_has b m D n wide g p 1 t _ L1.out ht h1 h2 h3 h4).mono ?_
  rintro e w2 ⟨rfl, m', hL, hK⟩
  have HL := Lib.hid hL
  have HK := Lib.hid hK
  have HB2 := Lib.hid hL.blk
  clear hL hK
  go_wp2_with fail
  refine leaves_cons (f := 21) (args := #[.pointer (some ⟨b, 3, none⟩)]) (by simp) (by simp [go_sem]) ?_
  refine (unlock_deferred Try.muLib ⟨b, 3, none⟩ .returning _ (blk_cell HB2.out 3 rfl) (blk_frozen HB2.out 3)).mono ?_
  rintro e u' w'' ⟨rfl, rfl, rfl⟩
  refine ⟨_, results_tmp rfl _ _ _, rfl, ?_⟩
  refine ⟨m', HL.out.turn (Ch.setCell (S := (· = b)) (Ch.refl _ w2) (.inl rfl) _) (by rw [blk_set HB2.out 3 (.int .i32 0), lk_mu]), ?_⟩
  refine ⟨((C1.out.mono (fun x hx => .inl hx)).trans HK.out.1).setCell (.inl (.inl rfl)) _, ?_⟩
  rcases HK.out.2 with hm | ⟨hm, bm, hm2, hm3⟩
  · exact .inl hm
  · exact .inr ⟨hm, bm, hm2, by rwa [size_setCell] at hm3⟩
theorem lk_p (wide g p s d x : Int) (v : Value) : (lk wide g p s d v).setIfInBounds 2 (.int .u64 x) = lk wide g x s d v := rfl
theorem lk_g (wide g p s d x : Int) (v : Value) : (lk wide g p s d v).setIfInBounds 1 (.int .u64 x) = lk wide x p s d v := rfl
set_option maxHeartbeats 1600000 in
theorem c_pass_yes (b : Nat) (m : Option Nat) (D : DataW Unit) (n : Nat) (wide g p t : Int) (w : World) (h : LockO w b m D n wide g p 0) (ht : (Lit.int .u64 t).wf = true) (h1 : 0 ≤ p) (h2 : p < 4611686018427387904) (h3 : 0 ≤ wide) (h4 : wide ≤ 64) (hh : hasB D wide g p t = true) (hn : n < maxLen) :
    Calls Try.prog 11 #[.pointer (some ⟨b, 0, none⟩), .int .u64 t] w (PassP b m (D.put (.int .u64 t) u0) (n + 1) wide g (p + 1) 0 w) := by
  have hkey := keyOf_int_mk Try.underlying33 ht
  have law := int_keyed (P := Try.prog) Try.underlying33
  have hs : IntKind.u64.wrap (p + 1) = p + 1 := by rw [IntKind.wrap_u64]; omega
  have HB := Lib.hid h.blk
  have H := Lib.hid h
  have hl := blk_lt h.blk
  clear h
  go_enter_defers Try.func11, Try.ntmps11
  go_wp2_with (go_at_call 20; refine (lock_free Try.muLib ⟨b, 3, none⟩ _ (blk_cell HB.out 3 rfl) (blk_frozen HB.out 3)).mono ?_; rintro e w' ⟨rfl, rfl⟩)
  have C1 : RowKit.Hid (Ch (· = b) w (w.setCell ⟨b, 3, none⟩ (.int .i32 1))) := Lib.hid (Ch.setCell (S := (· = b)) (Ch.refl _ w) (.inl rfl) _)
  have L1 := Lib.hid (H.out.turn (g' := g) (p' := p) (s' := 1) C1.out (by rw [blk_set HB.out 3 (.int .i32 1), lk_mu]))
  refine (c_has b m D n wide g p 1 t _ L1.out ht h1 (by omega) h3 h4).mono ?_
  rintro e w2 ⟨rfl, m', hL, hK⟩
  have HL := Lib.hid hL
  have HK := Lib.hid hK
  clear hL hK
  go_wp2_with fail
  refine (c_handed b m' D n wide g p 1 _ HL.out).mono ?_
  rintro e w3 ⟨bm, rfl, hL3, hC3, hm3⟩
  have HL3 := Lib.hid hL3
  have HC3 := Lib.hid hC3
  have HM3 := Lib.hid hm3
  have hown := hL3.2.2
  clear hL3 hC3 hm3
  go_wp2_with (at_mapUpdate; refine wpList_mapUpdate_own _ rfl _ _ _ 59 rfl 33 44 law Try.underlying59 unitElem bm n D rfl hown hn _ _ (.int .u64 t) rfl rfl hkey (.agg []) [] unitElem_mk ?_; intro w4 hown4 hgrow4)
  have HC4 := Lib.hid (Ch.of_grown hgrow4)
  have HO4 := Lib.hid hown4
  have HB4 := Lib.hid ((Ch.of_grown hgrow4).blk HL3.out.1 (fun e => HL3.out.2.1 (by injection e)))
  clear hown hown4 hgrow4
  refine (a_add ⟨b, 2, none⟩ p 1 _ (blk_cell HB4.out 2 rfl) (blk_frozen HB4.out 2)).mono ?_
  rintro e w5 ⟨rfl, rfl⟩
  rw [hs]
  have HB5 : RowKit.Hid ((w4.setCell ⟨b, 2, none⟩ (.int .u64 (p + 1))).heap[b]? = some (.cells (lk wide g (p + 1) 1 1 (.map (some bm))) 61)) := Lib.hid (by rw [blk_set HB4.out 2 (.int .u64 (p + 1)), lk_p])
  have HO5 := Lib.hid (HO4.out.setCell (a := ⟨b, 2, none⟩) HL3.out.2.1 (.int .u64 (p + 1)))
  go_wp2_with fail
  refine leaves_cons (f := 21) (args := #[.pointer (some ⟨b, 3, none⟩)]) (by simp) (by simp [go_sem]) ?_
  refine (unlock_deferred Try.muLib ⟨b, 3, none⟩ .returning _ (blk_cell HB5.out 3 rfl) (blk_frozen HB5.out 3)).mono ?_
  rintro e u' w'' ⟨rfl, rfl, rfl⟩
  refine ⟨_, results_tmp rfl _ _ _, rfl, ?_⟩
  have hl1 := C1.out.size
  have hl2 := HK.out.1.size
  have hl3 := HC3.out.size
  refine ⟨some bm, ⟨by rw [blk_set HB5.out 3 (.int .i32 0), lk_mu], HL3.out.2.1, HO5.out.setCell (a := ⟨b, 3, none⟩) HL3.out.2.1 _⟩, ?_, ?_⟩
  · have k1 : Ch (fun x => x = b ∨ m = some x) w w2 := (C1.out.mono (fun x hx => .inl hx)).trans HK.out.1
    have k2 : Ch (fun x => x = b ∨ m = some x) w w3 := k1.trans (HC3.out.mono (fun x hx => .inl hx))
    have k3 : Ch (fun x => x = b ∨ m = some x) w w4 := k2.trans2 HC4.out (fun x hx hlt => by
      injection hx with hx
      subst hx
      rcases HM3.out with e | ⟨e, e2⟩
      · rcases HK.out.2 with e3 | ⟨e3, bm', e4, e5⟩
        · exact .inr (by rw [← e3, e])
        · rw [e4] at e; injection e with e; rw [size_setCell] at e5; omega
      · omega)
    exact (k3.setCell (.inl (.inl rfl)) _).setCell (.inl (.inl rfl)) _
  · rcases HM3.out with e | ⟨e, e2⟩
    · rcases HK.out.2 with e3 | ⟨e3, bm', e4, e5⟩
      · exact .inl (by rw [← e3, e])
      · exact .inr ⟨e3, bm, rfl, by rw [e4] at e; injection e with e; rw [size_setCell] at e5; omega⟩
    · rcases HK.out.2 with e3 | ⟨e3, bm', e4, e5⟩
      · exact .inr ⟨by rw [← e3, e], bm, rfl, by omega⟩
      · rw [e4] at e; cases e
def AskP (b : Nat) (m : Option Nat) (D : DataW Unit) (n : Nat) (wide g p : Int) (w : World) (e : Ending) (w' : World) : Prop :=
  e = .returned (.tuple #[.int .u64 g, .int .i64 0]) ∧ LockO w' b m D n wide (g + 1) p 0 ∧ Ch (· = b) w w'
theorem c_ask (b : Nat) (m : Option Nat) (D : DataW Unit) (n : Nat) (wide g p : Int) (w : World) (h : LockO w b m D n wide g p 0) (h1 : 0 ≤ g) (h2 : g < 4611686018427387904) :
    Calls Try.prog 9 #[.pointer (some ⟨b, 0, none⟩)] w (AskP b m D n wide g p w) := by
  have HB := Lib.hid h.blk
  have H := Lib.hid h
  have hs : IntKind.u64.wrap (g + 1) = g + 1 := by rw [IntKind.wrap_u64]; omega
  have hs' : IntKind.u64.wrap (g + 1 - 1) = g := by rw [IntKind.wrap_u64]; omega
  have hg : ¬ 4611686018427387904 ≤ g := by omega
  clear h
  go_enter Try.func9, Try.ntmps9
  go_wp2_with fail
  refine (a_add ⟨b, 1, none⟩ g 1 _ (blk_cell HB.out 1 rfl) (blk_frozen HB.out 1)).mono ?_
  rintro e w5 ⟨rfl, rfl⟩
  rw [hs]
  have hc : Ch (· = b) w (w.setCell ⟨b, 1, none⟩ (.int .u64 (g + 1))) := Ch.setCell (S := (· = b)) (Ch.refl _ w) (.inl rfl) _
  have HC := Lib.hid hc
  clear hc
  go_wp2_with fail
  go_ret2
  exact ⟨rfl, H.out.turn HC.out (by rw [blk_set HB.out 1 (.int .u64 (g + 1)), lk_g]), HC.out⟩
def NewP (wide : Int) (w : World) (e : Ending) (w' : World) : Prop :=
  ∃ b, e = .returned (.tuple #[.pointer (some ⟨b, 0, none⟩), .int .i64 0]) ∧ LockO w' b none (.map []) 0 wide 0 0 0 ∧ w.heap.size ≤ b ∧ Gr w w'
theorem c_new (wide : Int) (h1 : 1 ≤ wide) (h2 : wide ≤ 64) (w : World) : Calls Try.prog 7 #[.int .i64 wide] w (NewP wide w) := by
  have hs : IntKind.u64.wrap wide = wide := by rw [IntKind.wrap_u64]; omega
  go_enter Try.func7, Try.ntmps7
  go_wp2
  go_ret2
  exact ⟨_, rfl, ⟨blk_new' _ _ _ rfl, rfl⟩, Nat.le_refl _, (Gr.refl w).alloc (Nat.le_refl _) _⟩
theorem c_new_no (wide : Int) (h : ¬ (1 ≤ wide ∧ wide ≤ 64)) (w : World) : Calls Try.prog 7 #[.int .i64 wide] w fun e w' => e = .returned (.tuple #[.pointer none, .int .i64 1]) ∧ w' = w := by
  by_cases h1 : wide < 1
  · go_enter Try.func7, Try.ntmps7
    go_wp2
    go_ret2
    exact ⟨rfl, rfl⟩
  · have h2 : 64 < wide := by omega
    go_enter Try.func7, Try.ntmps7
    go_wp2
    go_ret2
    exact ⟨rfl, rfl⟩
theorem n_ask (w : World) : Calls Try.prog 9 #[.pointer none] w fun e w' => e = .returned (.tuple #[.int .u64 0, .int .i64 1]) ∧ w' = w := by
  go_enter Try.func9, Try.ntmps9
  go_wp2
  go_ret2
  exact ⟨rfl, rfl⟩
theorem n_pass (t : Int) (w : World) : Calls Try.prog 11 #[.pointer none, .int .u64 t] w fun e w' => e = .returned (.int .i64 1) ∧ w' = w := by
  go_enter_defers Try.func11, Try.ntmps11
  go_wp2
  exact ⟨_, results_tmp rfl _ _ _, rfl, rfl⟩
theorem n_has (t : Int) (w : World) : Calls Try.prog 13 #[.pointer none, .int .u64 t] w fun e w' => e = .returned (.bool false) ∧ w' = w := by
  go_enter_defers Try.func13, Try.ntmps13
  go_wp2
  exact ⟨_, results_tmp rfl _ _ _, rfl, rfl⟩
theorem n_waiting (w : World) : Calls Try.prog 15 #[.pointer none] w fun e w' => e = .returned (.int .u64 0) ∧ w' = w := by
  go_enter Try.func15, Try.ntmps15
  go_wp2
  go_ret
  exact ⟨rfl, rfl⟩
theorem n_let (w : World) : Calls Try.prog 17 #[.pointer none] w fun e w' => e = .returned (.int .u64 0) ∧ w' = w := by
  go_enter Try.func17, Try.ntmps17
  go_wp2
  go_ret
  exact ⟨rfl, rfl⟩
end Go.Proofs.Ytjjjokhbkkifjaa.P
