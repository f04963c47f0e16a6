/- Stage 6: a disk with its blocks in a set: each call in one contract. No condition. -/
import Derived.Test.YtlpcccpagmipnaaGreatE5
import Derived.Test.YtlpcccpagmipnaaGreatD12
set_option linter.unusedVariables false
set_option maxRecDepth 50000
namespace Go.Proofs.YtlpcccpagmipnaaGreat.P
open Go.RowKit
/-- A state that can be. -/
def WZ (z : DState) : Prop := 48 ≤ z.safe.length ∧ z.safe.length ≤ 544 ∧ 0 ≤ z.acts ∧ z.acts ≤ 9223372036854775807 ∧ ∀ x ∈ z.wait, 0 ≤ x.1 ∧ x.1 < z.safe.length
/-- A disk at d, all its blocks in F. -/
def DD (w : World) (d : Nat) (z : DState) (F : Nat → Prop) : Prop := WZ z ∧ ∃ sb wb, DiskO w d sb wb z ∧ ∀ x, (x = d ∨ x = sb ∨ wb = some x) → F x
/-- What became of a disk and its blocks. -/
def DOut (w w' : World) (d : Nat) (z : DState) (F : Nat → Prop) : Prop := ∃ F' : Nat → Prop, DD w' d z F' ∧ (∀ x, F' x → (F x ∨ w.heap.size ≤ x) ∧ x < w'.heap.size) ∧ Ch F w w'
theorem DiskO.lts {w : World} {d sb : Nat} {wb : Option Nat} {z : DState} (h : DiskO w d sb wb z) : ∀ x, (x = d ∨ x = sb ∨ wb = some x) → x < w.heap.size := by
  obtain ⟨sc, wo, wc, hb, hs, hw, hwb, hr⟩ := h
  rintro x (rfl | rfl | rfl)
  · exact blk_lt hb
  · exact ownsRow_lt hs
  · exact (hw.lt x hwb).2
theorem DD.keep {w w' : World} {d : Nat} {z : DState} {F G : Nat → Prop} (h : DD w d z F) (hc : Ch G w w') (hd : ∀ x, F x → ¬ G x) : DD w' d z F := by
  obtain ⟨h1, sb, wb, h2, h3⟩ := h
  exact ⟨h1, sb, wb, h2.keep hc (hd _ (h3 _ (.inl rfl))) (hd _ (h3 _ (.inr (.inl rfl)))) (fun x hx => hd _ (h3 _ (.inr (.inr hx)))), h3⟩
theorem DD.gr {w w' : World} {d : Nat} {z : DState} {F : Nat → Prop} (h : DD w d z F) (g : Gr w w') : DD w' d z F := h.keep (G := fun _ => False) (Ch.of_gr g) (fun _ _ h => h)
/-- Out of a contract over blocks. -/
theorem dout {w w' : World} {d sb : Nat} {wb wb' : Option Nat} {z' : DState} {F : Nat → Prop} (hz : WZ z') (hF : ∀ x, (x = d ∨ x = sb ∨ wb = some x) → F x) (h : DiskO w' d sb wb' z') (hc : Ch F w w') (hb : wb' = wb ∨ wb' = none ∨ ∃ g, wb' = some g ∧ w.heap.size ≤ g) : DOut w w' d z' F := by
  refine ⟨fun x => x = d ∨ x = sb ∨ wb' = some x, ⟨hz, sb, wb', h, fun x hx => hx⟩, fun x hx => ⟨?_, h.lts x hx⟩, hc⟩
  rcases hx with hx | hx | hx
  · exact .inl (hF x (.inl hx))
  · exact .inl (hF x (.inr (.inl hx)))
  · rcases hb with e | e | ⟨g, e, hg⟩
    · exact .inl (hF x (.inr (.inr (by rw [← e]; exact hx))))
    · rw [e] at hx; cases hx
    · rw [e] at hx; injection hx with hx; exact .inr (by omega)
theorem DOut.same {w w' : World} {d : Nat} {z : DState} {F : Nat → Prop} (h : DD w d z F) (g : Gr w w') : DOut w w' d z F := by
  obtain ⟨h1, sb, wb, h2, h3⟩ := h
  exact dout h1 h3 (h2.gr g) (Ch.of_gr g) (.inl rfl)
theorem WZ.act {z : DState} (h : WZ z) (ha : actB z = true ∨ True) : WZ (actZ z) := by
  obtain ⟨h1, h2, h3, h4, h5⟩ := h
  unfold actZ
  cases z.counted with
  | false => exact ⟨h1, h2, h3, h4, h5⟩
  | true =>
    by_cases h0 : z.acts = 0
    · rw [decide_eq_true h0]; exact ⟨h1, h2, h3, h4, h5⟩
    · rw [decide_eq_false h0]; exact ⟨h1, h2, by show 0 ≤ z.acts - 1; omega, by show z.acts - 1 ≤ _; omega, h5⟩
theorem w_write (w : World) (d : Nat) (z : DState) (F : Nat → Prop) (h : DD w d z F) (i : Int) (s : ByteArray) (hl : z.wait.length ≤ 4000000000000) :
    Calls Tryz.prog 102 #[.pointer (some ⟨d, 0, none⟩), .int .i64 i, .string s] w fun e w' => e = .returned (.int .i64 (writeR z i s)) ∧ DOut w w' d (writeZ z i s) F := by
  obtain ⟨hz, sb, wb, ho, hF⟩ := h
  have hd := hF d (.inl rfl)
  have hwb : ∀ x, wb = some x → F x := fun x hx => hF x (.inr (.inr hx))
  have hsub : ∀ x, (x = d ∨ wb = some x) → F x := fun x hx => hx.elim (fun e => by rw [e]; exact hd) (hwb x)
  cases hoff : z.off with
  | true =>
    have e : writeZ z i s = z := by unfold writeZ; rw [hoff]; rfl
    rw [e]
    refine (c_dwrite_no w d sb wb z ho i s (.inl hoff)).mono ?_
    rintro e w' ⟨rfl, wb', h1, h2, h3⟩
    exact ⟨rfl, dout hz hF h1 (h2.mono hsub) (h3.elim .inl (fun h => .inr (.inr h)))⟩
  | false =>
    cases hh : (hasB z i && decide (s.size = 64)) with
    | false =>
      have e : writeZ z i s = z := by unfold writeZ; rw [hoff, hh]; rfl
      rw [e]
      refine (c_dwrite_no w d sb wb z ho i s (.inr hh)).mono ?_
      rintro e w' ⟨rfl, wb', h1, h2, h3⟩
      exact ⟨rfl, dout hz hF h1 (h2.mono hsub) (h3.elim .inl (fun h => .inr (.inr h)))⟩
    | true =>
      obtain ⟨hh1, hh2⟩ := Bool.and_eq_true_iff.1 hh
      cases ha : actB z with
      | false =>
        have e : writeZ z i s = actZ z := by unfold writeZ; rw [hoff, hh, ha]; rfl
        have e2 : writeR z i s = 7 := by unfold writeR; rw [hoff, hh, ha]; rfl
        rw [e, e2]
        refine (c_dwrite_dead w d sb wb z ho hz.2.2.1 hz.2.2.2.1 i s hoff hh1 (of_decide_eq_true hh2) ha).mono ?_
        rintro e w' ⟨rfl, wb', h1, h2, h3⟩
        exact ⟨rfl, dout (hz.act (.inr trivial)) hF h1 (h2.mono hsub) (h3.elim .inl (fun h => .inr (.inr h)))⟩
      | true =>
        have e : writeZ z i s = { actZ z with wait := (actZ z).wait ++ [(i, s)] } := by unfold writeZ; rw [hoff, hh, ha]; rfl
        have e2 : writeR z i s = 0 := by unfold writeR; rw [hoff, hh, ha]; rfl
        rw [e, e2]
        have hzz := hz.act (.inr trivial)
        refine (c_dwrite_ok w d sb wb z ho hz.2.2.1 hz.2.2.2.1 i s hoff hh1 (of_decide_eq_true hh2) ha hl).mono ?_
        rintro e w' ⟨rfl, wb', h1, h2, h3⟩
        refine ⟨rfl, dout ?_ hF h1 (h2.mono hsub) (h3.elim .inl (fun h => .inr (.inr h)))⟩
        refine ⟨hzz.1, hzz.2.1, hzz.2.2.1, hzz.2.2.2.1, fun x hx => ?_⟩
        rcases List.mem_append.1 hx with hx | hx
        · exact hzz.2.2.2.2 x hx
        · rw [List.mem_singleton.1 hx]
          have e3 := (actZ_keeps z).2
          show 0 ≤ i ∧ i < (actZ z).safe.length
          rw [e3]
          unfold hasB at hh1
          simpa [Bool.and_eq_true, decide_eq_true_eq] using hh1
def readR (z : DState) (i : Int) : Int := bif z.off then 7 else bif hasB z i then 0 else 1
def readB (z : DState) (i : Int) : ByteArray := bif z.off then ⟨#[]⟩ else bif hasB z i then readS z i.toNat else ⟨#[]⟩
theorem w_read (w : World) (d : Nat) (z : DState) (F : Nat → Prop) (h : DD w d z F) (i : Int) (hl : z.wait.length ≤ 4000000000000) :
    Calls Tryz.prog 65 #[.pointer (some ⟨d, 0, none⟩), .int .i64 i] w fun e w' => e = .returned (.tuple #[.string (readB z i), .int .i64 (readR z i)]) ∧ Gr w w' := by
  obtain ⟨hz, sb, wb, ho, hF⟩ := h
  unfold readB readR
  cases hoff : z.off with
  | true => exact c_dread_off w d sb wb z ho hoff i
  | false =>
    cases hh : hasB z i with
    | false => exact c_dread_no w d sb wb z ho hoff i hh
    | true =>
      have h2 := hh
      unfold hasB at h2
      simp only [Bool.and_eq_true, decide_eq_true_eq] at h2
      obtain ⟨q, rfl⟩ : ∃ q : Nat, i = (q : Int) := ⟨i.toNat, by omega⟩
      rw [Int.toNat_natCast]
      exact c_dread w d sb wb z ho hoff q (by omega) hl
def flushR (z : DState) : Int := bif z.off then 7 else bif actB z then 0 else 7
def flushZ (z : DState) : DState := bif z.off then z else bif actB z then { actZ z with safe := setN (fun _ => true) z.safe z.wait z.wait.length, wait := [] } else actZ z
theorem w_flush (w : World) (d : Nat) (z : DState) (F : Nat → Prop) (h : DD w d z F) (hl : z.wait.length ≤ 4000000000000) :
    Calls Tryz.prog 103 #[.pointer (some ⟨d, 0, none⟩)] w fun e w' => e = .returned (.int .i64 (flushR z)) ∧ DOut w w' d (flushZ z) F := by
  obtain ⟨hz, sb, wb, ho, hF⟩ := h
  have hd := hF d (.inl rfl)
  have hs := hF sb (.inr (.inl rfl))
  unfold flushR flushZ
  cases hoff : z.off with
  | true =>
    refine (c_flush_off w d sb wb z ho hoff).mono ?_
    rintro e w' ⟨rfl, rfl⟩
    exact ⟨rfl, dout hz hF ho (Ch.refl _ _) (.inl rfl)⟩
  | false =>
    cases ha : actB z with
    | false =>
      refine (c_flush_dead w d sb wb z ho hz.2.2.1 hz.2.2.2.1 hoff ha).mono ?_
      rintro e w' ⟨rfl, h1, h2⟩
      exact ⟨rfl, dout (hz.act (.inr trivial)) hF h1 (h2.mono (fun x hx => by rw [hx]; exact hd)) (.inl rfl)⟩
    | true =>
      refine (c_flush_ok w d sb wb z ho hz.2.2.1 hz.2.2.2.1 hoff ha hz.2.2.2.2 hl (by have := hz.2.1; omega)).mono ?_
      rintro e w' ⟨rfl, h1, h2⟩
      have hzz := hz.act (.inr trivial)
      refine ⟨rfl, dout ?_ hF h1 (h2.mono (fun x hx => hx.elim (fun e => by rw [e]; exact hd) (fun e => by rw [e]; exact hs))) (.inr (.inl rfl))⟩
      exact ⟨by show 48 ≤ (setN _ _ _ _).length; rw [setN_len]; exact hz.1, by show (setN _ _ _ _).length ≤ 544; rw [setN_len]; exact hz.2.1, hzz.2.2.1, hzz.2.2.2.1, fun x hx => by cases hx⟩
def crashZ (z : DState) (K : Int) : DState := ⟨setN (keepB K) z.safe z.wait z.wait.length, [], false, false, 0⟩
def powZ (z : DState) (k : Int) : DState := { z with counted := decide (0 ≤ k), acts := max k 0 }
theorem w_image (w : World) (d : Nat) (z : DState) (F : Nat → Prop) (h : DD w d z F) :
    Calls Tryz.prog 56 #[.pointer (some ⟨d, 0, none⟩)] w fun e w' => ∃ g cap, e = .returned (.slice (some ⟨g, 0, none⟩) z.safe.length cap) ∧ w'.ownsRow 0 9 1 (.slice (some ⟨g, 0, none⟩) z.safe.length cap) z.safe.length (strs z.safe) ∧ w.heap.size ≤ g ∧ Gr w w' := by
  obtain ⟨hz, sb, wb, ho, hF⟩ := h
  exact c_dimage w d sb wb z ho (by have := hz.1; omega) (by have := hz.2.1; omega)
theorem w_sectors (w : World) (d : Nat) (z : DState) (F : Nat → Prop) (h : DD w d z F) :
    Calls Tryz.prog 49 #[.pointer (some ⟨d, 0, none⟩)] w fun e w' => e = .returned (.int .i64 z.safe.length) ∧ w' = w := by
  obtain ⟨hz, sb, wb, ho, hF⟩ := h
  exact c_sectors w d sb wb z ho
def MadeD (l : List ByteArray) (w : World) (e : Ending) (w' : World) : Prop := ∃ d, ∃ F : Nat → Prop, e = .returned (.tuple #[.pointer (some ⟨d, 0, none⟩), .int .i64 0]) ∧ DD w' d (newZ l) F ∧ (∀ x, F x → w.heap.size ≤ x ∧ x < w'.heap.size) ∧ Gr w w'
theorem newZ_wz (l : List ByteArray) (h1 : 48 ≤ l.length) (h2 : l.length ≤ 544) : WZ (newZ l) := ⟨h1, h2, Int.le_refl _, (by show (0 : Int) ≤ _; omega), fun x hx => by cases hx⟩
theorem w_new (n : Nat) (h1 : 48 ≤ n) (h2 : n ≤ 544) (w : World) : Calls Tryz.prog 42 #[.int .i64 (n : Int)] w (MadeD (List.replicate n z64) w) := by
  refine (c_new n h1 h2 w).mono ?_
  rintro e w' ⟨d, sb, rfl, h3, h4, h5, h6⟩
  refine ⟨d, fun x => x = d ∨ x = sb, rfl, ⟨newZ_wz _ (by rw [List.length_replicate]; exact h1) (by rw [List.length_replicate]; exact h2), sb, none, h3, fun x hx => ?_⟩, fun x hx => ⟨?_, h3.lts x (hx.elim .inl (fun e => .inr (.inl e)))⟩, h6⟩
  · rcases hx with hx | hx | hx
    · exact .inl hx
    · exact .inr hx
    · cases hx
  · rcases hx with hx | hx <;> omega
end Go.Proofs.YtlpcccpagmipnaaGreat.P
