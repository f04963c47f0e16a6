/- Stage 6: the document's disk among other objects: each call in one contract; an act on both. No condition. -/
import Derived.Test.YtgaibknhdaeidaaGreatA0
import Derived.Test.YtgaibknhdaeidaaGreatJ4
import Derived.Test.YtgaibknhdaeidaaGreatI2
set_option linter.unusedVariables false
namespace Go.Proofs.YtgaibknhdaeidaaGreat.P
open Go.RowKit
theorem rout {w w' : World} {d sb : Nat} {wb wb' : Option Nat} {z' : DState} {F : Nat → Prop} (hz : WZ z') (hF : ∀ x, (x = d ∨ x = sb ∨ wb = some x) → F x) (h : RDiskO w' d sb wb' z') (hc : Ch F w w') (hb : wb' = wb ∨ wb' = none ∨ ∃ g, wb' = some g ∧ w.heap.size ≤ g) : Out (rdk d z') w w' F := by
  refine ⟨fun x => x = d ∨ x = sb ∨ wb' = some x, ⟨hz, sb, wb', h, fun x hx => hx⟩, fun x hx => ⟨?_, h.lts x hx⟩, hc⟩
  rcases hx with hx | hx | hx
  · exact .inl (hF x (.inl hx))
  · exact .inl (hF x (.inr (.inl hx)))
  · rcases hb with e | e | ⟨g, e, hg⟩
    · exact .inl (hF x (.inr (.inr (by rw [← e]; exact hx))))
    · rw [e] at hx; cases hx
    · rw [e] at hx; injection hx with hx; exact .inr (by omega)
theorem r_write {w0 w : World} {R : Asn} {d : Nat} {z : DState} (h : Own w0 w (Star (rdk d z) R)) (hs : Stable R) (i : Int) (s : ByteArray) (hl : z.wait.length ≤ 4000000000000) :
    Calls Tryz.prog 60 #[.pointer (some ⟨d, 0, none⟩), .int .i64 i, .string s] w fun e w' => e = .returned (.int .i64 (writeR z i s)) ∧ Own w0 w' (Star (rdk d (writeZ z i s)) R) := by
  refine h.call hs fun F hF => ?_
  obtain ⟨hz, sb, wb, ho, hFF⟩ := hF
  have hd := hFF d (.inl rfl)
  have hsub : ∀ x, (x = d ∨ wb = some x) → F x := fun x hx => hx.elim (fun e => by rw [e]; exact hd) (fun e => hFF x (.inr (.inr e)))
  have hwz := wz_write z hz i s
  cases hoff : z.off with
  | true =>
    have e : writeZ z i s = z := by unfold writeZ; rw [hoff]; rfl
    rw [e] at hwz ⊢
    refine (e_write_no w d sb wb z ho i s (.inl hoff)).mono ?_
    rintro e w' ⟨rfl, wb', h1, h2, h3⟩
    exact ⟨rfl, rout hwz hFF h1 (h2.mono hsub) (h3.elim .inl (fun h => .inr (.inr h)))⟩
  | false =>
    cases hh : (hasB z i && decide (s.size = 64)) with
    | false =>
      have e : writeZ z i s = z := by unfold writeZ; rw [hoff, hh]; rfl
      rw [e] at hwz ⊢
      refine (e_write_no w d sb wb z ho i s (.inr hh)).mono ?_
      rintro e w' ⟨rfl, wb', h1, h2, h3⟩
      exact ⟨rfl, rout hwz hFF h1 (h2.mono hsub) (h3.elim .inl (fun h => .inr (.inr h)))⟩
    | true =>
      obtain ⟨hh1, hh2⟩ := Bool.and_eq_true_iff.1 hh
      cases ha : actB z with
      | false =>
        have e : writeZ z i s = actZ z := by unfold writeZ; rw [hoff, hh, ha]; rfl
        have e2 : writeR z i s = 7 := by unfold writeR; rw [hoff, hh, ha]; rfl
        rw [e] at hwz
        rw [e, e2]
        refine (e_write_dead w d sb wb z ho hz.2.2.1 hz.2.2.2.1 i s hoff hh1 (of_decide_eq_true hh2) ha).mono ?_
        rintro e w' ⟨rfl, wb', h1, h2, h3⟩
        exact ⟨rfl, rout hwz hFF h1 (h2.mono hsub) (h3.elim .inl (fun h => .inr (.inr h)))⟩
      | true =>
        have e : writeZ z i s = { actZ z with wait := (actZ z).wait ++ [(i, s)] } := by unfold writeZ; rw [hoff, hh, ha]; rfl
        have e2 : writeR z i s = 0 := by unfold writeR; rw [hoff, hh, ha]; rfl
        rw [e] at hwz
        rw [e, e2]
        refine (e_write_ok w d sb wb z ho hz.2.2.1 hz.2.2.2.1 i s hoff hh1 (of_decide_eq_true hh2) ha hl).mono ?_
        rintro e w' ⟨rfl, wb', h1, h2, h3⟩
        exact ⟨rfl, rout hwz hFF h1 (h2.mono hsub) (h3.elim .inl (fun h => .inr (.inr h)))⟩
theorem r_read {w0 w : World} {R : Asn} {d : Nat} {z : DState} (h : Own w0 w (Star (rdk d z) R)) (i : Int) (hl : z.wait.length ≤ 4000000000000) :
    Calls Tryz.prog 31 #[.pointer (some ⟨d, 0, none⟩), .int .i64 i] w fun e w' => e = .returned (.tuple #[.string (readB z i), .int .i64 (readR z i)]) ∧ w' = w := by
  obtain ⟨F, hz, sb, wb, ho, hFF⟩ := h.left.get
  cases hoff : z.off with
  | true => exact e_read_no w d sb wb z ho i (.inl hoff)
  | false =>
    cases hh : hasB z i with
    | false => exact e_read_no w d sb wb z ho i (.inr hh)
    | true =>
      have h2 := hh
      unfold hasB at h2
      simp only [Bool.and_eq_true, decide_eq_true_eq] at h2
      obtain ⟨q, rfl⟩ : ∃ q : Nat, i = (q : Int) := ⟨i.toNat, by omega⟩
      have e : readB z (q : Int) = readS z q ∧ readR z (q : Int) = 0 := by unfold readB readR; rw [hoff, hh, Int.toNat_natCast]; exact ⟨rfl, rfl⟩
      rw [e.1, e.2]
      exact e_read_yes w d sb wb z ho hoff q (by omega) hl
theorem r_flush {w0 w : World} {R : Asn} {d : Nat} {z : DState} (h : Own w0 w (Star (rdk d z) R)) (hs : Stable R) (hl : z.wait.length ≤ 4000000000000) :
    Calls Tryz.prog 61 #[.pointer (some ⟨d, 0, none⟩)] w fun e w' => e = .returned (.int .i64 (flushR z)) ∧ Own w0 w' (Star (rdk d (flushZ z)) R) := by
  refine h.call hs fun F hF => ?_
  obtain ⟨hz, sb, wb, ho, hFF⟩ := hF
  have hd := hFF d (.inl rfl)
  have hsb := hFF sb (.inr (.inl rfl))
  have hwz := wz_flush z hz
  cases hoff : z.off with
  | true =>
    have e : flushR z = 7 := by unfold flushR; rw [hoff]; rfl
    rw [e]
    refine (e_flush_no w d sb wb z ho hz (.inl hoff)).mono ?_
    rintro e w' ⟨rfl, h1, h2⟩
    exact ⟨rfl, rout hwz hFF h1 (h2.mono (fun x hx => by rw [hx]; exact hd)) (.inl rfl)⟩
  | false =>
    cases ha : actB z with
    | false =>
      have e : flushR z = 7 := by unfold flushR; rw [hoff, ha]; rfl
      rw [e]
      refine (e_flush_no w d sb wb z ho hz (.inr ha)).mono ?_
      rintro e w' ⟨rfl, h1, h2⟩
      exact ⟨rfl, rout hwz hFF h1 (h2.mono (fun x hx => by rw [hx]; exact hd)) (.inl rfl)⟩
    | true =>
      have e : flushR z = 0 := by unfold flushR; rw [hoff, ha]; rfl
      rw [e]
      refine (e_flush_ok w d sb wb z ho hz hoff ha hl).mono ?_
      rintro e w' ⟨rfl, h1, h2⟩
      exact ⟨rfl, rout hwz hFF h1 (h2.mono (fun x hx => hx.elim (fun e => by rw [e]; exact hd) (fun e => by rw [e]; exact hsb))) (.inr (.inl rfl))⟩
theorem r_crash {w0 w : World} {R : Asn} {d : Nat} {z : DState} (h : Own w0 w (Star (rdk d z) R)) (hs : Stable R) (K : Int) (hK : u64 K) (hl : z.wait.length ≤ 4000000000000) :
    Calls Tryz.prog 11 #[.pointer (some ⟨d, 0, none⟩), .int .u64 K] w fun e w' => e = .returned (.tuple #[]) ∧ Own w0 w' (Star (rdk d (crashZ z K)) R) := by
  refine h.call hs fun F hF => ?_
  obtain ⟨hz, sb, wb, ho, hFF⟩ := hF
  have hd := hFF d (.inl rfl)
  have hsb := hFF sb (.inr (.inl rfl))
  refine (e_crash w d sb wb z ho hz K hK hl).mono ?_
  rintro e w' ⟨rfl, h1, h2⟩
  exact ⟨rfl, rout (wz_crash z hz K) hFF h1 (h2.mono (fun x hx => hx.elim (fun e => by rw [e]; exact hd) (fun e => by rw [e]; exact hsb))) (.inr (.inl rfl))⟩
theorem r_power {w0 w : World} {R : Asn} {d : Nat} {z : DState} (h : Own w0 w (Star (rdk d z) R)) (hs : Stable R) (k : Int) (hk : k ≤ 9223372036854775807) :
    Calls Tryz.prog 9 #[.pointer (some ⟨d, 0, none⟩), .int .i64 k] w fun e w' => e = .returned (.tuple #[]) ∧ Own w0 w' (Star (rdk d (powZ z k)) R) := by
  refine h.call hs fun F hF => ?_
  obtain ⟨hz, sb, wb, ho, hFF⟩ := hF
  have hd := hFF d (.inl rfl)
  refine (e_power w d sb wb z ho k).mono ?_
  rintro e w' ⟨rfl, h1, h2⟩
  exact ⟨rfl, rout ⟨hz.1, hz.2.1, by show 0 ≤ max k 0; omega, by show max k 0 ≤ _; omega, hz.2.2.2.2⟩ hFF h1 (h2.mono (fun x hx => by rw [hx]; exact hd)) (.inl rfl)⟩
def doZ (z : DState) (kind i : Int) (s : ByteArray) (K : Int) : DState :=
  if kind = 2 then writeZ z i (secF s) else if kind = 3 then flushZ z else if kind = 4 then powZ z i else if kind = 5 then crashZ z K else if kind = 6 then writeZ z i s else z
end Go.Proofs.YtgaibknhdaeidaaGreat.P
