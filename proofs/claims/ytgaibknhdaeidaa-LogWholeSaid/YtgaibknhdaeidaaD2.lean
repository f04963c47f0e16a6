/- Stage 6: power; the document's numbers. No condition. -/
import Derived.Test.YtgaibknhdaeidaaD1
set_option linter.unusedVariables false
namespace Go.Proofs.Ytgaibknhdaeidaa.P
open Go.RowKit
theorem ownsRow_ch {S : Nat → Prop} {w w' : World} {base : Nat} {e : TypeId} {size : Nat} {v : Value} {n : Nat} {xs : List Value} (h : w.ownsRow base e size v n xs) (hc : Ch S w w') (hn : ∀ x, v.ownBlock = some x → ¬ S x) : w'.ownsRow base e size v n xs := by
  obtain ⟨h1, h2 | ⟨g, cap, cur, rfl, hb, hg, h3⟩⟩ := h
  · exact ⟨h1, .inl h2⟩
  · exact ⟨h1, .inr ⟨g, cap, cur, rfl, hb, hc.blk hg (hn g rfl), h3⟩⟩
theorem DiskO.keep {S : Nat → Prop} {w w' : World} {d sb : Nat} {wb : Option Nat} {z : DState} (h : DiskO w d sb wb z) (hc : Ch S w w') (h1 : ¬ S d) (h2 : ¬ S sb) (h3 : ∀ x, wb = some x → ¬ S x) : DiskO w' d sb wb z := by
  obtain ⟨sc, wo, wc, hb, hs, hw, hwb, hr⟩ := h
  exact ⟨sc, wo, wc, hc.blk hb h1, ownsRow_ch hs hc (fun x hx => by injection hx with hx; rw [← hx]; exact h2), ownsRow_ch hw hc (fun x hx => h3 x (by rw [← hwb, hx])), hwb, hr⟩
/-- Only its own cells turned. -/
theorem DiskO.cells {w w' : World} {d sb : Nat} {wb : Option Nat} {z : DState} (h : DiskO w d sb wb z) (hc : Ch (· = d) w w') (off counted : Bool) (acts : Int)
    (hb : ∀ a b, w.heap[d]? = some (.cells #[a, b, .bool z.off, .bool z.counted, .int .i64 z.acts] 61) → w'.heap[d]? = some (.cells #[a, b, .bool off, .bool counted, .int .i64 acts] 61)) :
    DiskO w' d sb wb { z with off := off, counted := counted, acts := acts } := by
  obtain ⟨sc, wo, wc, h0, hs, hw, hwb, h1, h2, h3⟩ := h
  exact ⟨sc, wo, wc, hb _ _ h0, ownsRow_ch hs hc (fun x hx e => by injection hx with hx; exact h1 (hx.trans e)), ownsRow_ch hw hc (fun x hx e => h2 (by rw [← hwb, hx, e])), hwb, h1, h2, h3⟩
def actB (z : DState) : Bool := !(z.counted && decide (z.acts = 0))
def actZ (z : DState) : DState := bif z.counted then (bif decide (z.acts = 0) then { z with off := true } else { z with acts := z.acts - 1 }) else z
theorem c_dact (w : World) (d sb : Nat) (wb : Option Nat) (z : DState) (h : DiskO w d sb wb z) (h0 : 0 ≤ z.acts) (h1 : z.acts ≤ 9223372036854775807) :
    Calls Try.prog 69 #[.pointer (some ⟨d, 0, none⟩)] w fun e w' => e = .returned (.bool (actB z)) ∧ DiskO w' d sb wb (actZ z) ∧ Ch (· = d) w w' := by
  have H := Lib.hid h
  obtain ⟨sc, wo, wc, hb, hr⟩ := h
  have c3 := blk_cell hb 3 (v := .bool z.counted) rfl
  have c4 := blk_cell hb 4 (v := .int .i64 z.acts) rfl
  have c2 := blk_cell hb 2 (v := .bool z.off) rfl
  have z2 := blk_frozen hb 2
  have z4 := blk_frozen hb 4
  have hchd := fun (p : Nat) (v : Value) => (Ch.setCell (S := (· = d)) (Ch.refl _ w) (p := ⟨d, p, none⟩) (.inl rfl) v)
  have HCH := Lib.hid hchd
  clear hb hr hchd
  unfold actB actZ
  cases hcn : z.counted with
  | false =>
    rw [hcn] at c3
    go_enter Try.func69, Try.ntmps69
    go_wp2
    go_ret
    exact ⟨rfl, H.out, Ch.refl _ _⟩
  | true =>
    rw [hcn] at c3
    by_cases ha : z.acts = 0
    · rw [ha] at c4
      rw [decide_eq_true ha]
      have HA := Lib.hid ha
      clear ha h0 h1
      go_enter Try.func69, Try.ntmps69
      go_wp2
      go_ret
      refine ⟨rfl, ?_, HCH.out 2 _⟩
      have := H.out.cells (HCH.out 2 (.bool true)) true z.counted z.acts (fun a b hb => by rw [blk_set hb 2 _]; rfl)
      rw [hcn] at this
      exact this
    · rw [decide_eq_false ha]
      have ha2 : (z.acts == 0) = false := by simpa using ha
      have ha3 : decide (z.acts = 0) = false := decide_eq_false ha
      have ha4 : 1 ≤ z.acts := by omega
      generalize hA : z.acts = A at *
      have HA := Lib.hid hA
      clear hA ha
      go_enter Try.func69, Try.ntmps69
      go_wp2
      go_ret
      refine ⟨rfl, ?_, HCH.out 4 _⟩
      have := H.out.cells (HCH.out 4 (.int .i64 (A - 1))) z.off z.counted (A - 1) (fun a b hb => by rw [blk_set hb 4 _]; rfl)
      rw [hcn] at this
      exact this
theorem c_dpower (w : World) (d sb : Nat) (wb : Option Nat) (z : DState) (h : DiskO w d sb wb z) (k : Int) :
    Calls Try.prog 16 #[.pointer (some ⟨d, 0, none⟩), .int .i64 k] w fun e w' => e = .returned (.tuple #[]) ∧ DiskO w' d sb wb { z with counted := decide (0 ≤ k), acts := max k 0 } ∧ Ch (· = d) w w' := by
  have H := Lib.hid h
  obtain ⟨sc, wo, wc, hb, hr⟩ := h
  have c3 := blk_cell hb 3 (v := .bool z.counted) rfl
  have c4 := blk_cell hb 4 (v := .int .i64 z.acts) rfl
  have z3 := blk_frozen hb 3
  have z4 := blk_frozen hb 4
  clear hb hr
  by_cases hk : 0 ≤ k
  · rw [decide_eq_true hk, show max k 0 = k by omega]
    go_enter Try.func16, Try.ntmps16
    go_wp2
    refine bodyPost_end (results_none rfl _ _ _) rfl ⟨rfl, ?_, (Ch.setCell (S := (· = d)) (Ch.refl _ w) (.inl rfl) _).setCell (.inl rfl) _⟩
    have := H.out.cells ((Ch.setCell (S := (· = d)) (Ch.refl _ w) (p := ⟨d, 3, none⟩) (.inl rfl) (.bool true)).setCell (p := ⟨d, 4, none⟩) (.inl rfl) (.int .i64 k)) z.off true k (fun a b hb => by rw [blk_set (blk_set hb 3 _) 4 _]; rfl)
    exact this
  · rw [decide_eq_false hk, show max k 0 = 0 by omega]
    have hk2 : k < 0 := by omega
    go_enter Try.func16, Try.ntmps16
    go_wp2
    refine bodyPost_end (results_none rfl _ _ _) rfl ⟨rfl, ?_, (Ch.setCell (S := (· = d)) (Ch.refl _ w) (.inl rfl) _).setCell (.inl rfl) _⟩
    have := H.out.cells ((Ch.setCell (S := (· = d)) (Ch.refl _ w) (p := ⟨d, 3, none⟩) (.inl rfl) (.bool false)).setCell (p := ⟨d, 4, none⟩) (.inl rfl) (.int .i64 0)) z.off false 0 (fun a b hb => by rw [blk_set (blk_set hb 3 _) 4 _]; rfl)
    exact this
theorem n_dpower (k : Int) (w : World) : Calls Try.prog 16 #[.pointer none, .int .i64 k] w fun e w' => e = .returned (.tuple #[]) ∧ w' = w := by
  go_enter Try.func16, Try.ntmps16
  go_wp2
  exact bodyPost_end (results_none rfl _ _ _) rfl ⟨rfl, rfl⟩
theorem n_dcrash (k : Int) (w : World) : Calls Try.prog 17 #[.pointer none, .int .u64 k] w fun e w' => e = .returned (.tuple #[]) ∧ Gr w w' := by
  go_enter Try.func17, Try.ntmps17
  go_wp2
  exact bodyPost_ret (results_none rfl _ _ _) rfl ⟨rfl, (Gr.refl w).alloc (Nat.le_refl _) _⟩
end Go.Proofs.Ytgaibknhdaeidaa.P
