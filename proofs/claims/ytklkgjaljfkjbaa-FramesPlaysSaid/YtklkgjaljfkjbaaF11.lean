/- Stage 10: the document's pool. No condition. -/
import Derived.Test.YtklkgjaljfkjbaaF9
import Derived.Test.YtklkgjaljfkjbaaF7A
set_option linter.unusedVariables false
namespace Go.Proofs.Ytklkgjaljfkjbaa.P
open Go.RowKit Go.MuLone Go.Maps
/-- Which are free, out of which are not taken. -/
def Rel (first : Nat) (L H : List Bool) : Prop := L.length = H.length ∧ ∀ k : Nat, isL L k = (decide (first ≤ k) && isL H k)
theorem Rel.set {first : Nat} {L H : List Bool} (h : Rel first L H) (n : Nat) (v : Bool) (h1 : first ≤ n) (h2 : n < L.length) : Rel first (L.set n v) (H.set n v) := by
  refine ⟨by rw [List.length_set, List.length_set]; exact h.1, fun k => ?_⟩
  rw [isL_set _ _ _ _ h2, isL_set _ _ _ _ (by rw [← h.1]; exact h2), h.2 k]
  by_cases e : k = n
  · subst e; rw [if_pos rfl, if_pos rfl, decide_eq_true h1, Bool.true_and]
  · rw [if_neg e, if_neg e]
theorem Rel.at {first : Nat} {L H : List Bool} (h : Rel first L H) (k : Nat) (h1 : first ≤ k) : isL H k = isL L k := by rw [h.2 k, decide_eq_true h1, Bool.true_and]
theorem fresh_rel (fr first : Nat) : Rel first (freshL fr first) (List.replicate fr true) := by
  refine ⟨by rw [fresh_len, List.length_replicate], fun k => ?_⟩
  rw [fresh_is]
  unfold isL
  by_cases h : k < fr
  · simp [List.getD, h]
  · simp [List.getD, h]
def RPO (w : World) (rp ib rb vb first : Nat) (H : List Bool) (s : List UInt8) (t : Int) : Prop :=
  w.heap[rp]? = some (.cells #[.pointer (some ⟨rb, 0, none⟩), .int .i64 first, .slice (some ⟨ib, 0, none⟩) H.length H.length] 48) ∧ w.heap[ib]? = some (.cells (hadB H) 4) ∧ RMemO w rb vb s t ∧
    (ib ≠ rp ∧ rb ≠ rp ∧ vb ≠ rp ∧ rb ≠ ib ∧ vb ≠ ib) ∧ s.length = H.length * 256 ∧ H.length ≤ 256 ∧ first ≤ H.length
theorem RPO.keep {S : Nat → Prop} {w w' : World} {rp ib rb vb first : Nat} {H : List Bool} {s : List UInt8} {t : Int} (h : RPO w rp ib rb vb first H s t) (hc : Ch S w w') (h1 : ¬ S rp) (h2 : ¬ S ib) (h3 : ¬ S rb) (h4 : ¬ S vb) : RPO w' rp ib rb vb first H s t := by
  obtain ⟨a1, a2, a3, a4⟩ := h
  exact ⟨hc.blk a1 h1, hc.blk a2 h2, a3.keep hc h3 h4, a4⟩
/-- What the document's call leaves. -/
def RPP (rp ib rb vb first : Nat) (H : List Bool) (s : List UInt8) (t : Int) (v : Value) (w : World) (e : Ending) (w' : World) : Prop :=
  e = .returned v ∧ RPO w' rp ib rb vb first H s t ∧ Ch (fun x => x = ib ∨ x = rb ∨ x = vb) w w'
def takeH (L H : List Bool) (first : Nat) : List Bool := bif takeB L first then H.set (nextL L first (L.length - first)) false else H
def giveH (L H : List Bool) (first : Nat) (k : Int) : List Bool := bif tknB L first k then H.set k.toNat true else H
theorem q_taken (rp ib rb vb first : Nat) (L H : List Bool) (s : List UInt8) (t : Int) (w : World) (h : RPO w rp ib rb vb first H s t) (hr : Rel first L H) (k : Int) :
    Calls Try.prog 22 #[.pointer (some ⟨rp, 0, none⟩), .int .i64 k] w fun e w' => e = .returned (.bool (tknB L first k)) ∧ w' = w := by
  have c1 := blk_cell h.1 1 (v := .int .i64 first) rfl
  have c2 := blk_cell h.1 2 (v := .slice (some ⟨ib, 0, none⟩) H.length H.length) rfl
  have hg := fun (j : Nat) (hj : j < H.length) => blk_cell h.2.1 j (had_get H j hj)
  have hfl := h.2.2.2.2.2.2
  have hfl2 := h.2.2.2.2.2.1
  have HG := Lib.hid hg
  clear h hg
  by_cases h1 : k < first
  · have e : tknB L first k = false := by unfold tknB; rw [decide_eq_false (by omega)]; rfl
    rw [e]
    have d1 : decide ((first : Int) ≤ k) = false := decide_eq_false (by omega)
    clear e
    generalize H.length = n at *
    go_enter Try.func22, Try.ntmps22
    go_wp2_with fail
    go_ret
    exact ⟨rfl, rfl⟩
  · obtain ⟨j, rfl⟩ : ∃ j : Nat, k = (j : Int) := ⟨k.toNat, by omega⟩
    have d1 : decide (first ≤ j) = true := decide_eq_true (by omega)
    by_cases h2 : j < H.length
    · have cj := HG.out j h2
      have e : tknB L first (j : Int) = !isL H j := by
        unfold tknB
        rw [decide_eq_true (show (first : Int) ≤ (j : Int) by omega), decide_eq_true (show (j : Int) < L.length by rw [hr.1]; omega), Int.toNat_natCast, hr.at j (by omega)]; rfl
      rw [e]
      have d2 : decide (j < H.length) = true := decide_eq_true h2
      clear e h1
      generalize isL H j = q at *
      generalize H.length = n at *
      go_enter Try.func22, Try.ntmps22
      go_wp2_with fail
      go_ret
      exact ⟨rfl, rfl⟩
    · have e : tknB L first (j : Int) = false := by unfold tknB; rw [decide_eq_false (show ¬ (j : Int) < L.length by rw [hr.1]; omega), Bool.and_false]; rfl
      rw [e]
      have d2 : decide (j < H.length) = false := decide_eq_false h2
      clear e h1
      generalize H.length = n at *
      go_enter Try.func22, Try.ntmps22
      go_wp2_with fail
      go_ret
      exact ⟨rfl, rfl⟩
theorem cntL_le (L : List Bool) (a : Nat) : ∀ n, cntL L a n ≤ n
  | 0 => Nat.le_refl _
  | n + 1 => by have := cntL_le L a n; unfold cntL; split <;> omega
theorem q_left (rp ib rb vb first : Nat) (L H : List Bool) (s : List UInt8) (t : Int) (w : World) (h : RPO w rp ib rb vb first H s t) (hr : Rel first L H) :
    Calls Try.prog 20 #[.pointer (some ⟨rp, 0, none⟩)] w fun e w' => e = .returned (.int .i64 (cntL L first (L.length - first) : Nat)) ∧ w' = w := by
  have c1 := blk_cell h.1 1 (v := .int .i64 first) rfl
  have c2 := blk_cell h.1 2 (v := .slice (some ⟨ib, 0, none⟩) H.length H.length) rfl
  have HG := Lib.hid (fun (j : Nat) (hj : j < H.length) => blk_cell h.2.1 j (had_get H j hj))
  have hfl := h.2.2.2.2.2.2
  have hfl2 := h.2.2.2.2.2.1
  have HR := Lib.hid hr
  rw [hr.1]
  clear h hr
  obtain ⟨N, hN⟩ : ∃ N, N = H.length := ⟨_, rfl⟩
  have HN := Lib.hid hN
  rw [← hN] at c2 hfl hfl2 ⊢
  clear hN
  go_enter Try.func20, Try.ntmps20
  go_wp2_with fail
  go_loopw [3, 4] (fun vn vf wr => ∃ j : Nat, first ≤ j ∧ j ≤ N ∧ vf = .int .i64 j ∧ vn = .int .i64 (cntL L first (j - first) : Nat) ∧ wr = w) (fun vn vf _ => N - (intOf vf).toNat)
  case atStart => exact ⟨first, Nat.le_refl _, hfl, rfl, by rw [Nat.sub_self]; rfl, rfl⟩
  case round =>
    obtain ⟨j, hj1, hj2, rfl, rfl, rfl⟩ := hrel
    have hcl := cntL_le L first (j - first)
    have hc256 : cntL L first (j - first) ≤ 256 := by omega
    have hst : cntL L first (j + 1 - first) = cntL L first (j - first) + (if isL L j = true then 1 else 0) := by
      rw [show j + 1 - first = (j - first) + 1 by omega, cntL, show first + (j - first) = j by omega]
    have HST := Lib.hid hst
    clear hst hcl
    by_cases hlt : j < N
    · have dl : decide (j < N) = true := decide_eq_true hlt
      have cj := HG.out j (by rw [← HN.out]; exact hlt)
      rw [HR.out.at j hj1] at cj
      cases hv : isL L j with
      | true =>
        rw [hv] at cj
        have HV := Lib.hid hv
        clear hv
        generalize hC : cntL L first (j - first) = C at *
        go_wp2_with fail
        go_roundw
        case rel => exact ⟨j + 1, by omega, by omega, by go_num, by rw [HST.out, HV.out, if_pos rfl]; go_num, by first | rfl | trivial⟩
        case measure => simp [intOf]; omega
      | false =>
        rw [hv] at cj
        have HV := Lib.hid hv
        clear hv
        generalize hC : cntL L first (j - first) = C at *
        go_wp2_with fail
        go_roundw
        case rel => exact ⟨j + 1, by omega, by omega, by go_num, by rw [HST.out, HV.out, if_neg (by decide)]; rfl, by first | rfl | trivial⟩
        case measure => simp [intOf]; omega
    · obtain rfl : j = N := by omega
      have dl : decide (j < j) = false := decide_eq_false (by omega)
      go_wp2_with fail
      go_ret
      exact ⟨rfl, rfl⟩
theorem RPO.set {w : World} {rp ib rb vb first : Nat} {H : List Bool} {s : List UInt8} {t : Int} (h : RPO w rp ib rb vb first H s t) (n : Nat) (v : Bool) : RPO (w.setCell ⟨ib, n, none⟩ (.bool v)) rp ib rb vb first (H.set n (!v)) s t := by
  have hc : Ch (· = ib) w (w.setCell ⟨ib, n, none⟩ (.bool v)) := Ch.setCell (S := (· = ib)) (Ch.refl _ w) (.inl rfl) _
  obtain ⟨a1, a2, a3, ⟨n1, n2, n3, n4, n5⟩, a5, a6, a7⟩ := h
  refine ⟨?_, by rw [blk_set a2 n _, had_set], a3.keep hc n4 n5, ⟨n1, n2, n3, n4, n5⟩, ?_, ?_, ?_⟩
  · rw [List.length_set]; exact hc.blk a1 (fun e => n1 e.symm)
  · rw [List.length_set]; exact a5
  · rw [List.length_set]; exact a6
  · rw [List.length_set]; exact a7
theorem RPO.copied {w w' : World} {rp ib rb vb first : Nat} {H : List Bool} {s s' : List UInt8} {t : Int} (h : RPO w rp ib rb vb first H s t) (hR : RMemO w' rb vb s' t) (hl : s'.length = s.length) (hc : Ch (fun x => x = rb ∨ some vb = some x) w w') : RPO w' rp ib rb vb first H s' t := by
  obtain ⟨a1, a2, a3, ⟨n1, n2, n3, n4, n5⟩, a5, a6, a7⟩ := h
  refine ⟨hc.blk a1 (fun e => ?_), hc.blk a2 (fun e => ?_), hR, ⟨n1, n2, n3, n4, n5⟩, by rw [hl]; exact a5, a6, a7⟩
  · rcases e with e | e
    · exact n2 e.symm
    · injection e with e; exact n3 e
  · rcases e with e | e
    · exact n4 e.symm
    · injection e with e; exact n5 e
theorem rcopy_clear (fr : Nat) (s : List UInt8) (n : Nat) (h : n < fr) : rcopyS fr s n (-1) = clearS fr s n ∧ rcopyR fr n (-1) = 0 := by
  unfold rcopyS rcopyR
  rw [if_pos (by decide), if_pos (frB_t ⟨by omega, by omega⟩), if_pos (by omega)]
  exact ⟨rfl, rfl⟩
theorem clear_len (fr : Nat) (s : List UInt8) (n : Nat) (h : n < fr) (hs : s.length = fr * 256) : (clearS fr s n).length = s.length := by
  unfold clearS; split
  · exact putL_len _ _ _ (by rw [List.length_replicate]; omega)
  · rfl
/-- One frame is cleared. -/
theorem q_clear (rp ib rb vb first : Nat) (H : List Bool) (s : List UInt8) (t : Int) (w : World) (h : RPO w rp ib rb vb first H s t) (n : Nat) (hn : n < H.length) :
    Calls Try.prog 27 #[.pointer (some ⟨rb, 0, none⟩), .int .i64 (n : Int), .int .i64 (-1)] w fun e w' => e = .returned (.int .i64 0) ∧ RPO w' rp ib rb vb first H (clearS H.length s n) t ∧ Ch (fun x => x = rb ∨ x = vb) w w' := by
  have h5 := h.2.2.2.2.1
  refine (r_copy rb vb H.length s t w h.2.2.1 h5 h.2.2.2.2.2.1 n (-1)).mono ?_
  rintro e w' ⟨rfl, hR, hc⟩
  rw [(rcopy_clear H.length s n hn).2]
  rw [(rcopy_clear H.length s n hn).1] at hR
  exact ⟨rfl, h.copied hR (clear_len _ s n hn h5) hc, hc.mono (fun x hx => by rcases hx with e | e; exact .inl e; injection e with e; exact .inr e.symm)⟩
end Go.Proofs.Ytklkgjaljfkjbaa.P
