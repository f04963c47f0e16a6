/- Stage 7: a log in memory beside its disk: Home, refuses, Staged. No condition. -/
import Derived.Test.YtgaibknhdaeidaaA6
import Derived.Test.YtgaibknhdaeidaaI3
set_option linter.unusedVariables false
set_option maxRecDepth 50000
namespace Go.Proofs.Ytgaibknhdaeidaa.P
open Go.RowKit
/-- A log at l of the disk d, what is staged in the map mb. -/
def lgA (l d mb : Nat) (st : List (Int × ByteArray)) (dead : Bool) : Asn := fun w F => F l ∧ F mb ∧ l ≠ mb ∧ Rising st ∧ w.heap[l]? = some (.cells #[.pointer (some ⟨d, 0, none⟩), .map (some mb), .bool dead] 64) ∧ w.ownsMap Try.prog 3 secElem mb st.length (mapD st)
theorem stable_lg (l d mb : Nat) (st : List (Int × ByteArray)) (dead : Bool) : Stable (lgA l d mb st dead) := by
  rintro w w' F G ⟨h1, h2, h3, h4, h5, h6⟩ hc hd
  obtain ⟨es, clock, hb, k⟩ := h6
  exact ⟨h1, h2, h3, h4, hc.blk h5 (hd l h1), es, clock, hc.blk hb (hd mb h2), k⟩
abbrev DL (d : Nat) (z : DState) (l mb : Nat) (st : List (Int × ByteArray)) (dead : Bool) (R : Asn) : Asn := Star (dsk d z) (Star (lgA l d mb st dead) R)
theorem stable_dl (d : Nat) (z : DState) (l mb : Nat) (st : List (Int × ByteArray)) (dead : Bool) {R : Asn} (hs : Stable R) : Stable (DL d z l mb st dead R) := stable_star (stable_dsk _ _) (stable_star (stable_lg _ _ _ _ _) hs)
theorem Own.log {w0 w : World} {d : Nat} {z : DState} {l mb : Nat} {st : List (Int × ByteArray)} {dead : Bool} {R : Asn} (h : Own w0 w (DL d z l mb st dead R)) :
    w.heap[l]? = some (.cells #[.pointer (some ⟨d, 0, none⟩), .map (some mb), .bool dead] 64) ∧ w.ownsMap Try.prog 3 secElem mb st.length (mapD st) ∧ Rising st ∧ l ≠ mb := by
  obtain ⟨F, k1, k2, k3, k4, k5, k6⟩ := h.right.left.get
  exact ⟨k5, k6, k4, k3⟩
theorem o_home {w0 w : World} {d : Nat} {z : DState} {l mb : Nat} {st : List (Int × ByteArray)} {dead : Bool} {R : Asn} (h : Own w0 w (DL d z l mb st dead R)) :
    Calls Try.prog 25 #[.pointer (some ⟨l, 0, none⟩)] w fun e w' => e = .returned (.int .i64 ((z.safe.length : Int) - 32)) ∧ w' = w := by
  have HS := o_sectors h
  have hw := own_wz h
  have h1 := hw.1
  have h2 := hw.2.1
  have c0 := blk_cell h.log.1 0 (v := .pointer (some ⟨d, 0, none⟩)) rfl
  clear hw h
  go_enter Try.func25, Try.ntmps25
  go_wp2_with (go_at_call 40; refine HS.mono ?_; rintro e w' ⟨rfl, rfl⟩)
  go_ret
  exact ⟨rfl, rfl⟩
def refF (dead : Bool) (n : Nat) (i : Int) : Int := bif dead then 7 else bif decide (0 ≤ i) && decide (i < (n : Int) - 32) then 0 else 1
theorem o_refuses {w0 w : World} {d : Nat} {z : DState} {l mb : Nat} {st : List (Int × ByteArray)} {dead : Bool} {R : Asn} (h : Own w0 w (DL d z l mb st dead R)) (i : Int) :
    Calls Try.prog 39 #[.pointer (some ⟨l, 0, none⟩), .int .i64 i] w fun e w' => e = .returned (.int .i64 (refF dead z.safe.length i)) ∧ w' = w := by
  have HH := o_home h
  have c2 := blk_cell h.log.1 2 (v := .bool dead) rfl
  clear h
  unfold refF
  cases dead with
  | true =>
    clear HH
    go_enter Try.func39, Try.ntmps39
    go_wp2
    go_ret
    exact ⟨rfl, rfl⟩
  | false =>
    rw [cond_false]
    by_cases h0 : 0 ≤ i
    · rw [decide_eq_true h0, Bool.true_and]
      by_cases h1 : i < (z.safe.length : Int) - 32
      · rw [decide_eq_true h1, cond_true]
        go_enter Try.func39, Try.ntmps39
        go_wp2_with (go_at_call 25; refine HH.mono ?_; rintro e w' ⟨rfl, rfl⟩)
        go_ret
        exact ⟨rfl, rfl⟩
      · rw [decide_eq_false h1, cond_false]
        go_enter Try.func39, Try.ntmps39
        go_wp2_with (go_at_call 25; refine HH.mono ?_; rintro e w' ⟨rfl, rfl⟩)
        go_ret
        exact ⟨rfl, rfl⟩
    · rw [decide_eq_false h0, Bool.false_and, cond_false]
      go_enter Try.func39, Try.ntmps39
      go_wp2_with (go_at_call 25; refine HH.mono ?_; rintro e w' ⟨rfl, rfl⟩)
      go_ret
      exact ⟨rfl, rfl⟩
theorem o_staged {w0 w : World} {d : Nat} {z : DState} {l mb : Nat} {st : List (Int × ByteArray)} {dead : Bool} {R : Asn} (h : Own w0 w (DL d z l mb st dead R)) :
    Calls Try.prog 23 #[.pointer (some ⟨l, 0, none⟩)] w fun e w' => e = .returned (.int .i64 (st.length : Int)) ∧ w' = w := by
  obtain ⟨hb, hm, hr, hne⟩ := h.log
  have c1 := blk_cell hb 1 (v := .map (some mb)) rfl
  have HM := Lib.hid hm
  rw [← mapD_size st]
  clear h hb hm
  go_enter Try.func23, Try.ntmps23
  go_wp2_with (at_len; refine wpList_len_own _ rfl _ 62 rfl 3 73 Try.underlying62 _ mb _ _ rfl HM.out ?_)
  go_ret
  exact ⟨rfl, rfl⟩
end Go.Proofs.Ytgaibknhdaeidaa.P
