/- Stage 6: a disk among other objects; what was seen and what is sure: plain facts. No condition. -/
import Derived.Test.YtlpcccpagmipnaaGreatI1
import Derived.Test.YtlpcccpagmipnaaGreatY
import Derived.Laws.Closers25b
set_option linter.unusedVariables false
set_option maxRecDepth 50000
namespace Go.Proofs.YtlpcccpagmipnaaGreat.P
open Go.RowKit
def dsk (d : Nat) (z : DState) : Asn := fun w F => DD w d z F
theorem stable_dsk (d : Nat) (z : DState) : Stable (dsk d z) := fun w w' F G h hc hd => DD.keep h hc hd
theorem o_write {w0 w : World} {R : Asn} {d : Nat} {z : DState} (h : Own w0 w (Star (dsk d z) R)) (hs : Stable R) (i : Int) (s : ByteArray) (hl : z.wait.length ≤ 4000000000000) :
    Calls Tryz.prog 102 #[.pointer (some ⟨d, 0, none⟩), .int .i64 i, .string s] w fun e w' => e = .returned (.int .i64 (writeR z i s)) ∧ Own w0 w' (Star (dsk d (writeZ z i s)) R) :=
  h.call hs fun F hF => w_write w d z F hF i s hl
theorem o_read {w0 w : World} {R : Asn} {d : Nat} {z : DState} (h : Own w0 w (Star (dsk d z) R)) (hs : Stable R) (i : Int) (hl : z.wait.length ≤ 4000000000000) :
    Calls Tryz.prog 65 #[.pointer (some ⟨d, 0, none⟩), .int .i64 i] w fun e w' => e = .returned (.tuple #[.string (readB z i), .int .i64 (readR z i)]) ∧ Own w0 w' (Star (dsk d z) R) := by
  obtain ⟨F, hF⟩ := h.left.get
  exact (w_read w d z F hF i hl).mono fun e w' k => ⟨k.1, h.gr (stable_star (stable_dsk d z) hs) k.2⟩
theorem o_flush {w0 w : World} {R : Asn} {d : Nat} {z : DState} (h : Own w0 w (Star (dsk d z) R)) (hs : Stable R) (hl : z.wait.length ≤ 4000000000000) :
    Calls Tryz.prog 103 #[.pointer (some ⟨d, 0, none⟩)] w fun e w' => e = .returned (.int .i64 (flushR z)) ∧ Own w0 w' (Star (dsk d (flushZ z)) R) :=
  h.call hs fun F hF => w_flush w d z F hF hl
def NewO (w0 : World) (n : Nat) (R : Asn) (e : Ending) (w' : World) : Prop := ∃ d, e = .returned (.tuple #[.pointer (some ⟨d, 0, none⟩), .int .i64 0]) ∧ Own w0 w' (Star (dsk d (newZ (List.replicate n z64))) R)
theorem o_new {w0 w : World} {R : Asn} (h : Own w0 w R) (hs : Stable R) (n : Nat) (h1 : 48 ≤ n) (h2 : n ≤ 544) : Calls Tryz.prog 42 #[.int .i64 (n : Int)] w (NewO w0 n R) := by
  refine (w_new n h1 h2 w).mono ?_
  rintro e w' ⟨d, F, rfl, h3, h4, h5⟩
  exact ⟨d, rfl, h.add hs h5 ⟨F, h3, h4⟩⟩
def ImgO (w0 : World) (d : Nat) (z : DState) (R : Asn) (e : Ending) (w' : World) : Prop := ∃ g cap, e = .returned (.slice (some ⟨g, 0, none⟩) z.safe.length cap) ∧ Own w0 w' (Star (rowA 9 1 (.slice (some ⟨g, 0, none⟩) z.safe.length cap) z.safe.length (strs z.safe)) (Star (dsk d z) R))
theorem o_image {w0 w : World} {R : Asn} {d : Nat} {z : DState} (h : Own w0 w (Star (dsk d z) R)) (hs : Stable R) : Calls Tryz.prog 56 #[.pointer (some ⟨d, 0, none⟩)] w (ImgO w0 d z R) := by
  obtain ⟨F, hF⟩ := h.left.get
  refine (w_image w d z F hF).mono ?_
  rintro e w' ⟨g, cap, rfl, h1, h2, h3⟩
  exact ⟨g, cap, rfl, h.add (stable_star (stable_dsk d z) hs) h3 ⟨fun x => x = g, ⟨h1, fun b hb => by injection hb with hb; exact hb.symm⟩, fun x hx => ⟨by omega, by rw [hx]; exact ownsRow_lt h1⟩⟩⟩
theorem o_sectors {w0 w : World} {R : Asn} {d : Nat} {z : DState} (h : Own w0 w (Star (dsk d z) R)) : Calls Tryz.prog 49 #[.pointer (some ⟨d, 0, none⟩)] w fun e w' => e = .returned (.int .i64 z.safe.length) ∧ w' = w := by
  obtain ⟨F, hF⟩ := h.left.get
  exact w_sectors w d z F hF
theorem own_wz {w0 w : World} {R : Asn} {d : Nat} {z : DState} (h : Own w0 w (Star (dsk d z) R)) : WZ z := by
  obtain ⟨F, hF⟩ := h.left.get
  exact hF.1
/-! DiskSafe -/
def SeenOK (z : DState) (i : Int) (L : List ByteArray) : Prop := (∀ q : Nat, i = (q : Int) → q < 48 → getS z.safe q ∈ L) ∧ ∀ x ∈ z.wait, x.1 = i → x.2 ∈ L
def SureOK (z : DState) (i : Int) (u : ByteArray) : Prop := u = ⟨#[]⟩ ∨ ∃ q : Nat, i = (q : Int) ∧ q < 48 ∧ getS z.safe q = u ∧ ∀ x ∈ z.wait, x.1 ≠ i
theorem setN_seen (P : Nat → Bool) (safe : List ByteArray) (wait : List (Int × ByteArray)) (hW : ∀ x ∈ wait, 0 ≤ x.1 ∧ x.1 < safe.length) (q : Nat) (hq : q < safe.length) (L : List ByteArray) (h0 : getS safe q ∈ L) (h1 : ∀ x ∈ wait, x.1 = (q : Int) → x.2 ∈ L) : ∀ k, getS (setN P safe wait k) q ∈ L
  | 0 => h0
  | k + 1 => by
    have ih := setN_seen P safe wait hW q hq L h0 h1 k
    cases hx : wait[k]? with
    | none => rw [setN, hx]; exact ih
    | some x =>
      have hm := List.mem_of_getElem? hx
      rw [setN_at hx]
      cases P k with
      | false => exact ih
      | true =>
        rw [cond_true, getS_set _ _ _ _ (by rw [setN_len]; exact hq)]
        by_cases e : x.1.toNat = q
        · rw [if_pos e]; exact h1 x hm (by have := hW x hm; omega)
        · rw [if_neg e]; exact ih
theorem setN_none (P : Nat → Bool) (safe : List ByteArray) (wait : List (Int × ByteArray)) (hW : ∀ x ∈ wait, 0 ≤ x.1 ∧ x.1 < safe.length) (q : Nat) (hq : q < safe.length) (h1 : ∀ x ∈ wait, x.1 ≠ (q : Int)) : ∀ k, getS (setN P safe wait k) q = getS safe q
  | 0 => rfl
  | k + 1 => by
    have ih := setN_none P safe wait hW q hq h1 k
    cases hx : wait[k]? with
    | none => rw [setN, hx]; exact ih
    | some x =>
      have hm := List.mem_of_getElem? hx
      rw [setN_at hx]
      cases P k with
      | false => exact ih
      | true =>
        rw [cond_true, getS_set _ _ _ _ (by rw [setN_len]; exact hq), if_neg (by have := hW x hm; have := h1 x hm; omega)]
        exact ih
theorem seen_set (P : Nat → Bool) (z : DState) (hz : WZ z) (h48 : z.safe.length = 48) (i : Int) (L : List ByteArray) (h : SeenOK z i L) : SeenOK ⟨setN P z.safe z.wait z.wait.length, [], false, false, z.acts⟩ i L :=
  ⟨fun q hi hq => setN_seen P z.safe z.wait hz.2.2.2.2 q (by omega) L (h.1 q hi hq) (fun x hx e => h.2 x hx (by rw [hi]; exact e)) _, fun x hx => by cases hx⟩
theorem seen_crash (z : DState) (hz : WZ z) (h48 : z.safe.length = 48) (i K : Int) (L : List ByteArray) (h : SeenOK z i L) : SeenOK (crashZ z K) i L := seen_set (keepB K) z hz h48 i L h
theorem seen_flush (z : DState) (hl : Live z) (hz : WZ z) (h48 : z.safe.length = 48) (i : Int) (L : List ByteArray) (h : SeenOK z i L) : SeenOK (flushZ z) i L := by
  rw [hl.flushZ]; exact seen_set (fun _ => true) z hz h48 i L h
theorem sure_crash (z : DState) (hz : WZ z) (h48 : z.safe.length = 48) (i K : Int) (u : ByteArray) (h : SureOK z i u) : SureOK (crashZ z K) i u := by
  rcases h with h | ⟨q, hi, hq, h1, h2⟩
  · exact .inl h
  · refine .inr ⟨q, hi, hq, ?_, fun x hx => by cases hx⟩
    exact (setN_none _ _ _ hz.2.2.2.2 q (by omega) (fun x hx => by rw [← hi]; exact h2 x hx) _).trans h1
/-- A write of another sector, or one that is refused. -/
theorem seen_write (z : DState) (hl : Live z) (i j : Int) (s : ByteArray) (L : List ByteArray) (hj : j ≠ i) (h : SeenOK z i L) : SeenOK (writeZ z j s) i L := by
  refine ⟨fun q hi hq => by rw [write_safe]; exact h.1 q hi hq, fun x hx e => ?_⟩
  rw [hl.writeZ] at hx
  cases hh : (hasB z j && decide (s.size = 64)) with
  | false => rw [hh] at hx; exact h.2 x hx e
  | true =>
    rw [hh] at hx
    rcases List.mem_append.1 hx with hx | hx
    · exact h.2 x hx e
    · rw [List.mem_singleton.1 hx] at e; exact absurd e hj
theorem sure_write (z : DState) (hl : Live z) (i j : Int) (s : ByteArray) (u : ByteArray) (hj : j ≠ i) (h : SureOK z i u) : SureOK (writeZ z j s) i u := by
  rcases h with h | ⟨q, hi, hq, h1, h2⟩
  · exact .inl h
  · refine .inr ⟨q, hi, hq, by rw [write_safe]; exact h1, fun x hx e => ?_⟩
    rw [hl.writeZ] at hx
    cases hh : (hasB z j && decide (s.size = 64)) with
    | false => rw [hh] at hx; exact h2 x hx e
    | true =>
      rw [hh] at hx
      rcases List.mem_append.1 hx with hx | hx
      · exact h2 x hx e
      · rw [List.mem_singleton.1 hx] at e; exact hj e
theorem seen_mine (z : DState) (hl : Live z) (i : Int) (s : ByteArray) (L : List ByteArray) (h : SeenOK z i L) : SeenOK (writeZ z i s) i (L ++ [s]) := by
  refine ⟨fun q hi hq => by rw [write_safe]; exact List.mem_append.2 (.inl (h.1 q hi hq)), fun x hx e => ?_⟩
  rw [hl.writeZ] at hx
  cases hh : (hasB z i && decide (s.size = 64)) with
  | false => rw [hh] at hx; exact List.mem_append.2 (.inl (h.2 x hx e))
  | true =>
    rw [hh] at hx
    rcases List.mem_append.1 hx with hx | hx
    · exact List.mem_append.2 (.inl (h.2 x hx e))
    · rw [List.mem_singleton.1 hx]; exact List.mem_append.2 (.inr (List.mem_singleton.2 rfl))
theorem write_no (z : DState) (hl : Live z) (i : Int) (s : ByteArray) (hh : hasB z i = false) : writeZ z i s = z ∧ writeR z i s = 1 := by
  rw [hl.writeZ, hl.writeR, hh]; exact ⟨rfl, rfl⟩
theorem write_yes (z : DState) (hl : Live z) (i : Int) (s : ByteArray) (hh : hasB z i = true) (hs : s.size = 64) : writeR z i s = 0 := by
  rw [hl.writeR, hh, decide_eq_true hs]; rfl
theorem sure_flush (z : DState) (hl : Live z) (hz : WZ z) (h48 : z.safe.length = 48) (q : Nat) (hq : q < 48) : SureOK (flushZ z) (q : Int) (readS (flushZ z) q) := by
  refine .inr ⟨q, rfl, hq, ?_, ?_⟩
  · rw [hl.flushZ]; rfl
  · rw [hl.flushZ]; exact fun x hx => by cases hx
theorem strs_append (a b : List ByteArray) : strs (a ++ b) = strs a ++ strs b := List.map_append
theorem tl_ne {x s : ByteArray} (h : x ≠ s) : (x.toList == s.toList) = false :=
  beq_eq_false_iff_ne.2 (fun e => h (by rw [Go.ByteArray.toList_eq, Go.ByteArray.toList_eq] at e; exact ByteArray.ext (Array.toList_inj.1 e)))
theorem sure_get (z : DState) (q : Nat) (u : ByteArray) (h : SureOK z (q : Int) u) : u = ⟨#[]⟩ ∨ getS z.safe q = u := by
  rcases h with h | ⟨q2, e, _, h, _⟩
  · exact .inl h
  · have : q2 = q := by omega
    subst this; exact .inr h
theorem seen_new (i : Int) : SeenOK (newZ (List.replicate 48 z64)) i [secF ⟨#[]⟩] := by
  refine ⟨fun q _ hq => ?_, fun x hx => by cases hx⟩
  have e : secF ⟨#[]⟩ = z64 := by decide +kernel
  rw [e]
  show getS (List.replicate 48 z64) q ∈ _
  unfold getS; rw [List.getElem?_replicate, if_pos hq]; exact List.mem_singleton.2 rfl
end Go.Proofs.YtlpcccpagmipnaaGreat.P
namespace Go.Proofs.YtlpcccpagmipnaaGreat.P
open Go.RowKit
theorem wz_write (z : DState) (hz : WZ z) (i : Int) (s : ByteArray) : WZ (writeZ z i s) := by
  unfold writeZ
  cases z.off with
  | true => exact hz
  | false =>
    cases hh : (hasB z i && decide (s.size = 64)) with
    | false => exact hz
    | true =>
      have hzz := hz.act (.inr trivial)
      cases actB z with
      | false => exact hzz
      | true =>
        obtain ⟨hh1, hh2⟩ := Bool.and_eq_true_iff.1 hh
        refine ⟨hzz.1, hzz.2.1, hzz.2.2.1, hzz.2.2.2.1, fun x hx => ?_⟩
        rcases List.mem_append.1 hx with hx | hx
        · exact hzz.2.2.2.2 x hx
        · rw [List.mem_singleton.1 hx]
          have e3 := (actZ_keeps z).2
          show 0 ≤ i ∧ i < (actZ z).safe.length
          rw [e3]
          unfold hasB at hh1
          simpa [Bool.and_eq_true, decide_eq_true_eq] using hh1
theorem wz_flush (z : DState) (hz : WZ z) : WZ (flushZ z) := by
  unfold flushZ
  cases z.off with
  | true => exact hz
  | false =>
    have hzz := hz.act (.inr trivial)
    cases actB z with
    | false => exact hzz
    | true => exact ⟨by show 48 ≤ (setN _ _ _ _).length; rw [setN_len]; exact hz.1, by show (setN _ _ _ _).length ≤ 544; rw [setN_len]; exact hz.2.1, hzz.2.2.1, hzz.2.2.2.1, fun x hx => by cases hx⟩
theorem wz_crash (z : DState) (hz : WZ z) (K : Int) : WZ (crashZ z K) :=
  ⟨by show 48 ≤ (setN _ _ _ _).length; rw [setN_len]; exact hz.1, by show (setN _ _ _ _).length ≤ 544; rw [setN_len]; exact hz.2.1, Int.le_refl _, (show (0 : Int) ≤ _ by omega), fun x hx => by cases hx⟩
def SZ (z : DState) : Prop := (∀ s ∈ z.safe, s.size = 64) ∧ ∀ x ∈ z.wait, x.2.size = 64
theorem sz_new (n : Nat) : SZ (newZ (List.replicate n z64)) := ⟨fun s hs => by rw [List.eq_of_mem_replicate hs]; exact z64_size, fun x hx => by cases hx⟩
theorem sz_write (z : DState) (hl : Live z) (h : SZ z) (i : Int) (s : ByteArray) : SZ (writeZ z i s) := by
  refine ⟨fun x hx => by rw [write_safe] at hx; exact h.1 x hx, fun x hx => ?_⟩
  rw [hl.writeZ] at hx
  cases hh : (hasB z i && decide (s.size = 64)) with
  | false => rw [hh] at hx; exact h.2 x hx
  | true =>
    rw [hh] at hx
    rcases List.mem_append.1 hx with hx | hx
    · exact h.2 x hx
    · rw [List.mem_singleton.1 hx]; exact of_decide_eq_true (Bool.and_eq_true_iff.1 hh).2
theorem sz_set (P : Nat → Bool) (safe : List ByteArray) (wait : List (Int × ByteArray)) (h : ∀ s ∈ safe, s.size = 64) (h2 : ∀ x ∈ wait, x.2.size = 64) : ∀ k, ∀ s ∈ setN P safe wait k, s.size = 64
  | 0 => h
  | k + 1 => by
    have ih := sz_set P safe wait h h2 k
    rw [setN]
    cases hx : wait[k]? with
    | none => exact ih
    | some x =>
      cases P k with
      | false => exact ih
      | true =>
        intro s hs
        rcases List.mem_or_eq_of_mem_set hs with hs | hs
        · exact ih s hs
        · rw [hs]; exact h2 x (List.mem_of_getElem? hx)
theorem sz_flush (z : DState) (hl : Live z) (h : SZ z) : SZ (flushZ z) := by
  rw [hl.flushZ]; exact ⟨sz_set _ _ _ h.1 h.2 _, fun x hx => by cases hx⟩
theorem keep_all (k : Nat) : keepB 18446744073709551615 k = true := by
  unfold keepB
  have h : ∀ r, r < 64 → decide ((18446744073709551615 : Int) / 2 ^ r % 2 = 1) = true := by decide
  exact h _ (by omega)
theorem keep_none (k : Nat) : keepB 0 k = false := by
  unfold keepB; rw [Int.zero_ediv]; rfl
theorem setN_no (P : Nat → Bool) (hP : ∀ k, P k = false) (safe : List ByteArray) (wait : List (Int × ByteArray)) : ∀ k, setN P safe wait k = safe
  | 0 => rfl
  | k + 1 => by
    rw [setN]
    cases wait[k]? with
    | none => exact setN_no P hP safe wait k
    | some x => rw [hP k]; exact setN_no P hP safe wait k
theorem crash_all (z : DState) (hl : Live z) : (crashZ z 18446744073709551615).safe = (flushZ z).safe := by
  rw [hl.flushZ]
  show setN (keepB 18446744073709551615) _ _ _ = setN _ _ _ _
  rw [show keepB 18446744073709551615 = fun _ => true from funext keep_all]
theorem crash_none (z : DState) : (crashZ z 0).safe = z.safe := setN_no _ keep_none _ _ _
theorem secF_nil : secF ⟨#[]⟩ = z64 := by decide +kernel
end Go.Proofs.YtlpcccpagmipnaaGreat.P
