/- Stage 7: what a disk stays: plain facts. No condition. -/
import Derived.Test.YtgaibknhdaeidaaI3
set_option linter.unusedVariables false
namespace Go.Proofs.Ytgaibknhdaeidaa.P
open Go.RowKit
theorem wz_write (z : DState) (hz : WZ z) (i : Int) (s : ByteArray) : WZ (writeZ z i s) := by
  unfold writeZ
  cases z.off with
  | true => exact hz
  | false =>
    cases hh : (hasB z i && decide (s.size = 64)) with
    | false => exact hz
    | true =>
      have hzz := hz.act (.inr trivial)
      cases actB z with
      | false => exact hzz
      | true =>
        obtain ⟨hh1, hh2⟩ := Bool.and_eq_true_iff.1 hh
        refine ⟨hzz.1, hzz.2.1, hzz.2.2.1, hzz.2.2.2.1, fun x hx => ?_⟩
        rcases List.mem_append.1 hx with hx | hx
        · exact hzz.2.2.2.2 x hx
        · rw [List.mem_singleton.1 hx]
          have e3 := (actZ_keeps z).2
          show 0 ≤ i ∧ i < (actZ z).safe.length
          rw [e3]
          unfold hasB at hh1
          simpa [Bool.and_eq_true, decide_eq_true_eq] using hh1
theorem wz_flush (z : DState) (hz : WZ z) : WZ (flushZ z) := by
  unfold flushZ
  cases z.off with
  | true => exact hz
  | false =>
    have hzz := hz.act (.inr trivial)
    cases actB z with
    | false => exact hzz
    | true => exact ⟨by show 48 ≤ (setN _ _ _ _).length; rw [setN_len]; exact hz.1, by show (setN _ _ _ _).length ≤ 544; rw [setN_len]; exact hz.2.1, hzz.2.2.1, hzz.2.2.2.1, fun x hx => by cases hx⟩
theorem wz_crash (z : DState) (hz : WZ z) (K : Int) : WZ (crashZ z K) :=
  ⟨by show 48 ≤ (setN _ _ _ _).length; rw [setN_len]; exact hz.1, by show (setN _ _ _ _).length ≤ 544; rw [setN_len]; exact hz.2.1, Int.le_refl _, (show (0 : Int) ≤ _ by omega), fun x hx => by cases hx⟩
def SZ (z : DState) : Prop := (∀ s ∈ z.safe, s.size = 64) ∧ ∀ x ∈ z.wait, x.2.size = 64
theorem sz_new (n : Nat) : SZ (newZ (List.replicate n z64)) := ⟨fun s hs => by rw [List.eq_of_mem_replicate hs]; exact z64_size, fun x hx => by cases hx⟩
theorem sz_write (z : DState) (hl : Live z) (h : SZ z) (i : Int) (s : ByteArray) : SZ (writeZ z i s) := by
  refine ⟨fun x hx => by rw [write_safe] at hx; exact h.1 x hx, fun x hx => ?_⟩
  rw [hl.writeZ] at hx
  cases hh : (hasB z i && decide (s.size = 64)) with
  | false => rw [hh] at hx; exact h.2 x hx
  | true =>
    rw [hh] at hx
    rcases List.mem_append.1 hx with hx | hx
    · exact h.2 x hx
    · rw [List.mem_singleton.1 hx]; exact of_decide_eq_true (Bool.and_eq_true_iff.1 hh).2
theorem sz_set (P : Nat → Bool) (safe : List ByteArray) (wait : List (Int × ByteArray)) (h : ∀ s ∈ safe, s.size = 64) (h2 : ∀ x ∈ wait, x.2.size = 64) : ∀ k, ∀ s ∈ setN P safe wait k, s.size = 64
  | 0 => h
  | k + 1 => by
    have ih := sz_set P safe wait h h2 k
    rw [setN]
    cases hx : wait[k]? with
    | none => exact ih
    | some x =>
      cases P k with
      | false => exact ih
      | true =>
        intro s hs
        rcases List.mem_or_eq_of_mem_set hs with hs | hs
        · exact ih s hs
        · rw [hs]; exact h2 x (List.mem_of_getElem? hx)
theorem sz_flush (z : DState) (hl : Live z) (h : SZ z) : SZ (flushZ z) := by
  rw [hl.flushZ]; exact ⟨sz_set _ _ _ h.1 h.2 _, fun x hx => by cases hx⟩
theorem keep_all (k : Nat) : keepB 18446744073709551615 k = true := by
  unfold keepB
  have h : ∀ r, r < 64 → decide ((18446744073709551615 : Int) / 2 ^ r % 2 = 1) = true := by decide
  exact h _ (by omega)
theorem keep_none (k : Nat) : keepB 0 k = false := by
  unfold keepB; rw [Int.zero_ediv]; rfl
theorem setN_no (P : Nat → Bool) (hP : ∀ k, P k = false) (safe : List ByteArray) (wait : List (Int × ByteArray)) : ∀ k, setN P safe wait k = safe
  | 0 => rfl
  | k + 1 => by
    rw [setN]
    cases wait[k]? with
    | none => exact setN_no P hP safe wait k
    | some x => rw [hP k]; exact setN_no P hP safe wait k
theorem crash_all (z : DState) (hl : Live z) : (crashZ z 18446744073709551615).safe = (flushZ z).safe := by
  rw [hl.flushZ]
  show setN (keepB 18446744073709551615) _ _ _ = setN _ _ _ _
  rw [show keepB 18446744073709551615 = fun _ => true from funext keep_all]
theorem crash_none (z : DState) : (crashZ z 0).safe = z.safe := setN_no _ keep_none _ _ _
theorem secF_nil : secF ⟨#[]⟩ = z64 := by decide +kernel
end Go.Proofs.Ytgaibknhdaeidaa.P
