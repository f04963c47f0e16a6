/- Stage 6: the document's disk in memory: numbers, power. No condition. -/
import Derived.Test.YtgaibknhdaeidaaGreatD4
set_option linter.unusedVariables false
set_option maxRecDepth 50000
namespace Go.Proofs.YtgaibknhdaeidaaGreat.P
open Go.RowKit
theorem e_takes (n : Int) (w : World) : Calls Tryz.prog 51 #[.int .i64 n] w fun e w' => e = .returned (.bool (decide (48 ≤ n) && decide (n ≤ 544))) ∧ w' = w := by
  by_cases h1 : 48 ≤ n
  · rw [decide_eq_true h1, Bool.true_and]
    go_enter Tryz.func51, Tryz.ntmps51
    go_wp2
    go_ret
    exact ⟨rfl, rfl⟩
  · rw [decide_eq_false h1, Bool.false_and]
    go_enter Tryz.func51, Tryz.ntmps51
    go_wp2
    go_ret
    exact ⟨rfl, rfl⟩
theorem c_may (n : Int) (w : World) : Calls Tryz.prog 43 #[.int .i64 n] w fun e w' => e = .returned (.bool (decide (48 ≤ n) && decide (n ≤ 544))) ∧ w' = w := by
  by_cases h1 : 48 ≤ n
  · rw [decide_eq_true h1, Bool.true_and]
    go_enter Tryz.func43, Tryz.ntmps43
    go_wp2
    go_ret
    exact ⟨rfl, rfl⟩
  · rw [decide_eq_false h1, Bool.false_and]
    go_enter Tryz.func43, Tryz.ntmps43
    go_wp2
    go_ret
    exact ⟨rfl, rfl⟩
def powI (z : DState) : Int := bif z.counted then z.acts else -1
/-- The document's disk at r. -/
def RDiskO (w : World) (r sb : Nat) (wb : Option Nat) (z : DState) : Prop :=
  ∃ (sc : Nat) (wo : Option Addr) (wc : Nat), w.heap[r]? = some (.cells #[.slice (some ⟨sb, 0, none⟩) z.safe.length sc, .slice wo z.wait.length wc, .int .i64 (powI z), .bool z.off] 46) ∧
    w.ownsRow 0 9 1 (.slice (some ⟨sb, 0, none⟩) z.safe.length sc) z.safe.length (strs z.safe) ∧
    w.ownsRow 0 79 2 (.slice wo z.wait.length wc) z.wait.length (wrs z.wait) ∧ (Value.slice wo z.wait.length wc).ownBlock = wb ∧ sb ≠ r ∧ wb ≠ some r ∧ wb ≠ some sb
theorem RDiskO.keep {S : Nat → Prop} {w w' : World} {d sb : Nat} {wb : Option Nat} {z : DState} (h : RDiskO w d sb wb z) (hc : Ch S w w') (h1 : ¬ S d) (h2 : ¬ S sb) (h3 : ∀ x, wb = some x → ¬ S x) : RDiskO w' d sb wb z := by
  obtain ⟨sc, wo, wc, hb, hs, hw, hwb, hr⟩ := h
  exact ⟨sc, wo, wc, hc.blk hb h1, ownsRow_ch hs hc (fun x hx => by injection hx with hx; rw [← hx]; exact h2), ownsRow_ch hw hc (fun x hx => h3 x (by rw [← hwb, hx])), hwb, hr⟩
theorem RDiskO.cellsOf {w : World} {d sb : Nat} {wb : Option Nat} {z : DState} (h : RDiskO w d sb wb z) : ∃ sv wv, w.heap[d]? = some (.cells #[sv, wv, .int .i64 (powI z), .bool z.off] 46) := by
  obtain ⟨sc, wo, wc, hb, hr⟩ := h
  exact ⟨_, _, hb⟩
theorem RDiskO.cells {w w' : World} {d sb : Nat} {wb : Option Nat} {z : DState} (h : RDiskO w d sb wb z) (hc : Ch (· = d) w w') (off counted : Bool) (acts : Int)
    (hb : ∀ a b, w.heap[d]? = some (.cells #[a, b, .int .i64 (powI z), .bool z.off] 46) → w'.heap[d]? = some (.cells #[a, b, .int .i64 (bif counted then acts else -1), .bool off] 46)) :
    RDiskO w' d sb wb { z with off := off, counted := counted, acts := acts } := by
  obtain ⟨sc, wo, wc, h0, hs, hw, hwb, h1, h2, h3⟩ := h
  exact ⟨sc, wo, wc, hb _ _ h0, ownsRow_ch hs hc (fun x hx e => by injection hx with hx; exact h1 (hx.trans e)), ownsRow_ch hw hc (fun x hx e => h2 (by rw [← hwb, hx, e])), hwb, h1, h2, h3⟩
theorem e_power (w : World) (d sb : Nat) (wb : Option Nat) (z : DState) (h : RDiskO w d sb wb z) (k : Int) :
    Calls Tryz.prog 9 #[.pointer (some ⟨d, 0, none⟩), .int .i64 k] w fun e w' => e = .returned (.tuple #[]) ∧ RDiskO w' d sb wb { z with counted := decide (0 ≤ k), acts := max k 0 } ∧ Ch (· = d) w w' := by
  have H := Lib.hid h
  obtain ⟨sv, wv, hb⟩ := h.cellsOf
  have c2 := blk_cell hb 2 (v := .int .i64 (powI z)) rfl
  have z2 := blk_frozen hb 2
  clear hb h
  by_cases hk : 0 ≤ k
  · rw [decide_eq_true hk, show max k 0 = k by omega]
    have hk2 : decide (k < 0) = false := decide_eq_false (by omega)
    go_enter Tryz.func9, Tryz.ntmps9
    go_wp2
    refine bodyPost_end (results_none rfl _ _ _) rfl ⟨rfl, ?_, Ch.setCell (S := (· = d)) (Ch.refl _ w) (p := ⟨d, 2, none⟩) (.inl rfl) _⟩
    exact H.out.cells (Ch.setCell (S := (· = d)) (Ch.refl _ w) (p := ⟨d, 2, none⟩) (.inl rfl) (.int .i64 k)) z.off true k (fun a b hb => by rw [blk_set hb 2 _]; rfl)
  · rw [decide_eq_false hk, show max k 0 = 0 by omega]
    have hk2 : k < 0 := by omega
    go_enter Tryz.func9, Tryz.ntmps9
    go_wp2
    refine bodyPost_end (results_none rfl _ _ _) rfl ⟨rfl, ?_, Ch.setCell (S := (· = d)) (Ch.setCell (S := (· = d)) (Ch.refl _ w) (p := ⟨d, 2, none⟩) (.inl rfl) _) (p := ⟨d, 2, none⟩) (.inl rfl) _⟩
    exact H.out.cells (Ch.setCell (S := (· = d)) (Ch.setCell (S := (· = d)) (Ch.refl _ w) (p := ⟨d, 2, none⟩) (.inl rfl) (.int .i64 k)) (p := ⟨d, 2, none⟩) (.inl rfl) (.int .i64 (-1))) z.off false 0 (fun a b hb => by rw [blk_set (blk_set hb 2 _) 2 _]; rfl)
theorem e_act (w : World) (d sb : Nat) (wb : Option Nat) (z : DState) (h : RDiskO w d sb wb z) (h0 : 0 ≤ z.acts) (h1 : z.acts ≤ 9223372036854775807) :
    Calls Tryz.prog 81 #[.pointer (some ⟨d, 0, none⟩)] w fun e w' => e = .returned (.bool (actB z)) ∧ RDiskO w' d sb wb (actZ z) ∧ Ch (· = d) w w' := by
  have H := Lib.hid h
  obtain ⟨sv, wv, hb⟩ := h.cellsOf
  have c2 := blk_cell hb 2 (v := .int .i64 (powI z)) rfl
  have c3 := blk_cell hb 3 (v := .bool z.off) rfl
  have z2 := blk_frozen hb 2
  have z3 := blk_frozen hb 3
  clear hb h
  unfold actB actZ
  cases hcn : z.counted with
  | false =>
    have hp : powI z = -1 := by unfold powI; rw [hcn]; rfl
    rw [hp] at c2
    clear hp
    go_enter Tryz.func81, Tryz.ntmps81
    go_wp2
    go_ret
    exact ⟨rfl, H.out, Ch.refl _ _⟩
  | true =>
    have hp : powI z = z.acts := by unfold powI; rw [hcn]; rfl
    rw [hp] at c2
    by_cases ha : z.acts = 0
    · rw [ha] at c2
      rw [decide_eq_true ha]
      have HA := Lib.hid ha
      clear ha h0 h1 hp
      go_enter Tryz.func81, Tryz.ntmps81
      go_wp2
      go_ret
      refine ⟨rfl, ?_, Ch.setCell (S := (· = d)) (Ch.refl _ w) (p := ⟨d, 3, none⟩) (.inl rfl) _⟩
      have := H.out.cells (Ch.setCell (S := (· = d)) (Ch.refl _ w) (p := ⟨d, 3, none⟩) (.inl rfl) (.bool true)) true z.counted z.acts (fun a b hb => by rw [blk_set hb 3 _]; rfl)
      rw [hcn] at this
      exact this
    · rw [decide_eq_false ha]
      have ha2 : (z.acts == 0) = false := by simpa using ha
      have ha3 : decide (z.acts = 0) = false := decide_eq_false ha
      have ha4 : 1 ≤ z.acts := by omega
      have HP := Lib.hid hp
      generalize hA : z.acts = A at *
      have HA := Lib.hid hA
      clear hA ha hp
      go_enter Tryz.func81, Tryz.ntmps81
      go_wp2
      go_ret
      refine ⟨rfl, ?_, Ch.setCell (S := (· = d)) (Ch.refl _ w) (p := ⟨d, 2, none⟩) (.inl rfl) _⟩
      have := H.out.cells (Ch.setCell (S := (· = d)) (Ch.refl _ w) (p := ⟨d, 2, none⟩) (.inl rfl) (.int .i64 (A - 1))) z.off z.counted (A - 1) (fun a b hb => by rw [blk_set hb 2 _, hcn]; rfl)
      rw [hcn] at this
      exact this
end Go.Proofs.YtgaibknhdaeidaaGreat.P
