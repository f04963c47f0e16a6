/- Stage 15: Let, Waiting, has, Has. No condition. -/
import Derived.Test.YtjjjokhbkkifjaaL1
set_option linter.unusedVariables false
namespace Go.Proofs.Ytjjjokhbkkifjaa.P
open Go.RowKit Go.MuLone Go.Maps
theorem ret_u {a b : Int} (h : a = b) : Ending.returned (.int .u64 a) = .returned (.int .u64 b) := by rw [h]
def letF (wide g p : Int) : Int := if g ≤ p + wide then g else p + wide
def doneOf : Option Nat → Int | none => 0 | some _ => 1
def backOf : Option Nat → Value | none => .map none | some bm => .map (some bm)
theorem LockO.blk {w : World} {b : Nat} {m : Option Nat} {D : DataW Unit} {n : Nat} {wide g p s : Int} (h : LockO w b m D n wide g p s) :
    w.heap[b]? = some (.cells (lk wide g p s (doneOf m) (backOf m)) 61) := by
  cases m with
  | none => exact h.1
  | some bm => exact h.1
/-- Only the lock's own block turned, and holds other numbers. -/
theorem LockO.turn {w w' : World} {b : Nat} {m : Option Nat} {D : DataW Unit} {n : Nat} {wide g p s : Int} (h : LockO w b m D n wide g p s) (hc : Ch (· = b) w w') {g' p' s' : Int}
    (hb : w'.heap[b]? = some (.cells (lk wide g' p' s' (doneOf m) (backOf m)) 61)) : LockO w' b m D n wide g' p' s' := by
  cases m with
  | none => exact ⟨hb, h.2⟩
  | some bm =>
    refine ⟨hb, h.2.1, ?_⟩
    obtain ⟨es, cl, h1, h2, h3, h4⟩ := h.2.2
    exact ⟨es, cl, hc.blk h1 h.2.1, h2, h3, h4⟩
/-- What turns nothing of the lock leaves it. -/
theorem LockO.keep {w w' : World} {b : Nat} {m : Option Nat} {D : DataW Unit} {n : Nat} {wide g p s : Int} {S : Nat → Prop} (h : LockO w b m D n wide g p s) (hc : Ch S w w') (h1 : ¬ S b) (h2 : ∀ bm, m = some bm → ¬ S bm) : LockO w' b m D n wide g p s := by
  cases m with
  | none => exact ⟨hc.blk h.1 h1, h.2⟩
  | some bm =>
    obtain ⟨es, cl, h3, h4, h5, h6⟩ := h.2.2
    exact ⟨hc.blk h.1 h1, h.2.1, es, cl, hc.blk h3 (h2 bm rfl), h4, h5, h6⟩
theorem c_let (b : Nat) (wide g p s d : Int) (v : Value) (w : World) (h : w.heap[b]? = some (.cells (lk wide g p s d v) 61)) (h1 : 0 ≤ p) (h2 : p ≤ 4611686018427387904) (h3 : 0 ≤ wide) (h4 : wide ≤ 64) :
    Calls Try.prog 17 #[.pointer (some ⟨b, 0, none⟩)] w fun e w' => e = .returned (.int .u64 (letF wide g p)) ∧ Gr w w' := by
  have c0 := blk_cell h 0 (v := .int .u64 wide) rfl
  have c1 := blk_cell h 1 (v := .int .u64 g) rfl
  have c2 := blk_cell h 2 (v := .int .u64 p) rfl
  have hs : IntKind.u64.wrap (p + wide) = p + wide := by rw [IntKind.wrap_u64]; omega
  clear h
  go_enter Try.func17, Try.ntmps17
  go_wp2
  go_quiet ((first | (go_at_call 24; exact Calls.quiet_of_same (a_load _ g _ c1)) | (go_at_call 24; exact Calls.quiet_of_same (a_load _ p _ c2))))
  go_wp2
  all_goals
    go_ret
    exact ⟨ret_u (by unfold letF; split <;> omega), (Gr.refl w).drewN _⟩
theorem c_waiting (b : Nat) (wide g p s d : Int) (v : Value) (w : World) (h : w.heap[b]? = some (.cells (lk wide g p s d v) 61)) (h1 : 0 ≤ p) (h2 : p ≤ g) (h3 : g ≤ 4611686018427387904) :
    Calls Try.prog 15 #[.pointer (some ⟨b, 0, none⟩)] w fun e w' => e = .returned (.int .u64 (g - p)) ∧ Gr w w' := by
  have c1 := blk_cell h 1 (v := .int .u64 g) rfl
  have c2 := blk_cell h 2 (v := .int .u64 p) rfl
  have hs : IntKind.u64.wrap (g - p) = g - p := by rw [IntKind.wrap_u64]; omega
  clear h
  go_enter Try.func15, Try.ntmps15
  go_wp2
  go_quiet ((first | (go_at_call 24; exact Calls.quiet_of_same (a_load _ g _ c1)) | (go_at_call 24; exact Calls.quiet_of_same (a_load _ p _ c2))))
  go_wp2
  go_ret
  exact ⟨rfl, (Gr.refl w).drewN _⟩
def hasB (D : DataW Unit) (wide g p t : Int) : Bool := !(Maps.has D (.int .u64 t)) && decide (t < letF wide g p)
/-- What a call leaves of a lock: its map may be made. -/
def KeptL (b : Nat) (m : Option Nat) (w w' : World) (m' : Option Nat) : Prop := Ch (fun x => x = b ∨ m = some x) w w' ∧ (m' = m ∨ (m = none ∧ ∃ bm, m' = some bm ∧ w.heap.size ≤ bm))
def HasP (b : Nat) (m : Option Nat) (D : DataW Unit) (n : Nat) (wide g p s t : Int) (w : World) (e : Ending) (w' : World) : Prop :=
  e = .returned (.bool (hasB D wide g p t)) ∧ ∃ m', LockO w' b m' D n wide g p s ∧ KeptL b m w w' m'
set_option maxHeartbeats 800000 in
theorem c_has (b : Nat) (m : Option Nat) (D : DataW Unit) (n : Nat) (wide g p s t : Int) (w : World) (h : LockO w b m D n wide g p s) (ht : (Lit.int .u64 t).wf = true) (h1 : 0 ≤ p) (h2 : p ≤ 4611686018427387904) (h3 : 0 ≤ wide) (h4 : wide ≤ 64) :
    Calls Try.prog 22 #[.pointer (some ⟨b, 0, none⟩), .int .u64 t] w (HasP b m D n wide g p s t w) := by
  have hkey := keyOf_int_mk Try.underlying33 ht
  have law := int_keyed (P := Try.prog) Try.underlying33
  have hx : Maps.has D (.int .u64 t) = true ∨ Maps.has D (.int .u64 t) = false := by cases Maps.has D (.int .u64 t) <;> simp
  go_enter Try.func22, Try.ntmps22
  go_wp2_with fail
  refine (c_handed b m D n wide g p s w h).mono ?_
  rintro e w1 ⟨bm, rfl, hL, hC, hm⟩
  have hown := hL.2.2
  have HL := Lib.hid hL
  have HC := Lib.hid hC
  have HM := Lib.hid hm
  clear hL hC hm h
  rcases hx with hx | hx
  · go_wp2_with (at_lookup; refine wpList_lookup_own_unit _ rfl _ _ 59 rfl 33 44 law Try.underlying59 (Try.zeroValue44 _) bm n D rfl hown _ _ rfl hkey ?_)
    go_ret
    refine ⟨ret_b (by unfold hasB; rw [hx]; rfl), some bm, HL.out.keep (S := fun _ => False) (Ch.alloc (Ch.refl _ _) _) (fun h => h) (fun _ _ h => h), ((HC.out.mono (fun x hx => .inl hx)).alloc _), ?_⟩
    rcases HM.out with hm | ⟨hm, hm2⟩
    · exact .inl hm.symm
    · exact .inr ⟨hm, bm, rfl, hm2⟩
  · go_wp2_with (at_lookup; refine wpList_lookup_own_unit _ rfl _ _ 59 rfl 33 44 law Try.underlying59 (Try.zeroValue44 _) bm n D rfl hown _ _ rfl hkey ?_)
    refine (c_let b wide g p s 1 (.map (some bm)) _ (blk_alloc _ HL.out.1) h1 h2 h3 h4).mono ?_
    rintro e w2 ⟨rfl, g2⟩
    have G2 := Lib.hid g2
    clear g2
    go_wp2_with fail
    go_ret
    have hC2 : Ch (fun _ => False) w1 w2 := ((Ch.refl _ w1).alloc _).trans (Ch.of_gr G2.out)
    refine ⟨ret_b (by unfold hasB; rw [hx]; rfl), some bm, HL.out.keep hC2 (fun h => h) (fun _ _ h => h), (HC.out.mono (fun x hx => .inl hx)).trans (hC2.mono (fun x hx => hx.elim)), ?_⟩
    rcases HM.out with hm | ⟨hm, hm2⟩
    · exact .inl hm.symm
    · exact .inr ⟨hm, bm, rfl, hm2⟩
theorem lk_mu (wide g p s d x : Int) (v : Value) : (lk wide g p s d v).setIfInBounds 3 (.int .i32 x) = lk wide g p x d v := rfl
set_option maxHeartbeats 800000 in
theorem c_Has (b : Nat) (m : Option Nat) (D : DataW Unit) (n : Nat) (wide g p t : Int) (w : World) (h : LockO w b m D n wide g p 0) (ht : (Lit.int .u64 t).wf = true) (h1 : 0 ≤ p) (h2 : p ≤ 4611686018427387904) (h3 : 0 ≤ wide) (h4 : wide ≤ 64) :
    Calls Try.prog 13 #[.pointer (some ⟨b, 0, none⟩), .int .u64 t] w (HasP b m D n wide g p 0 t w) := by
  have HB := Lib.hid h.blk
  have H := Lib.hid h
  have hl := blk_lt h.blk
  clear h
  go_enter_defers Try.func13, Try.ntmps13
  go_wp2_with (go_at_call 20; refine (lock_free Try.muLib ⟨b, 3, none⟩ _ (blk_cell HB.out 3 rfl) (blk_frozen HB.out 3)).mono ?_; rintro e w' ⟨rfl, rfl⟩)
  have C1 : RowKit.Hid (Ch (· = b) w (w.setCell ⟨b, 3, none⟩ (.int .i32 1))) := Lib.hid (Ch.setCell (S := (· = b)) (Ch.refl _ w) (.inl rfl) _)
  have L1 := Lib.hid (H.out.turn (g' := g) (p' := p) (s' := 1) C1.out (by rw [blk_set HB.out 3 (.int .i32 1), lk_mu]))
  refine (c_has b m D n wide g p 1 t _ L1.out ht h1 h2 h3 h4).mono ?_
  rintro e w2 ⟨rfl, m', hL, hK⟩
  have HL := Lib.hid hL
  have HK := Lib.hid hK
  have HB2 := Lib.hid hL.blk
  clear hL hK
  go_wp2_with fail
  refine leaves_cons (f := 21) (args := #[.pointer (some ⟨b, 3, none⟩)]) (by simp) (by simp [go_sem]) ?_
  refine (unlock_deferred Try.muLib ⟨b, 3, none⟩ .returning _ (blk_cell HB2.out 3 rfl) (blk_frozen HB2.out 3)).mono ?_
  rintro e u' w'' ⟨rfl, rfl, rfl⟩
  refine ⟨_, results_tmp rfl _ _ _, rfl, ?_⟩
  refine ⟨m', HL.out.turn (Ch.setCell (S := (· = b)) (Ch.refl _ w2) (.inl rfl) _) (by rw [blk_set HB2.out 3 (.int .i32 0), lk_mu]), ?_⟩
  refine ⟨((C1.out.mono (fun x hx => .inl hx)).trans HK.out.1).setCell (.inl (.inl rfl)) _, ?_⟩
  rcases HK.out.2 with hm | ⟨hm, bm, hm2, hm3⟩
  · exact .inl hm
  · exact .inr ⟨hm, bm, hm2, by rwa [size_setCell] at hm3⟩
end Go.Proofs.Ytjjjokhbkkifjaa.P
