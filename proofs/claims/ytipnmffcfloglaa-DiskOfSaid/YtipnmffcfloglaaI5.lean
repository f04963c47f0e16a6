/- Stage 6: rows of texts held against each other; Of. No condition. -/
import Derived.Test.YtipnmffcfloglaaI3
import Derived.Deep.QuietTactic
import Derived.BigQuiet
set_option linter.unusedVariables false
namespace Go.Proofs.Ytipnmffcfloglaa.P
open Go.RowKit
/-- A slice whose elements are such texts. -/
def RowS (w : World) (o : Option Addr) (A : List ByteArray) : Prop := ∀ j s, A[j]? = some s → ∃ b off, o = some ⟨b, off, none⟩ ∧ w.cell? ⟨b, off + j, none⟩ = some (.string s)
theorem RowS.gr {w w' : World} {o : Option Addr} {A : List ByteArray} (h : RowS w o A) (g : Gr w w') : RowS w' o A := fun j s hj => by
  obtain ⟨b, off, e, hc⟩ := h j s hj
  exact ⟨b, off, e, kcell g hc⟩
theorem rowS_own {w : World} {g c : Nat} {A : List ByteArray} (h : w.ownsRow 0 9 1 (.slice (some ⟨g, 0, none⟩) A.length c) A.length (strs A)) : RowS w (some ⟨g, 0, none⟩) A := fun j s hj => by
  refine ⟨g, 0, rfl, ?_⟩
  have hl : j < A.length := (List.getElem?_eq_some_iff.1 hj).1
  rw [Nat.zero_add, World.ownsRow.cellAt h j (by omega)]
  unfold strs; rw [List.getElem?_map, hj]; rfl
theorem beq_of {x s : ByteArray} (h : x = s) : (x.toList == s.toList) = true := by rw [h]; exact beq_self_eq_true _
def sameB (A B : List ByteArray) : Bool := decide (A = B)
theorem same_step (A B : List ByteArray) (hl : A.length = B.length) (h : ∀ j, j < A.length → A[j]? = B[j]?) : sameB A B = true := by
  unfold sameB
  refine decide_eq_true (List.ext_getElem? fun j => ?_)
  rcases Nat.lt_or_ge j A.length with hj | hj
  · exact h j hj
  · rw [List.getElem?_eq_none hj, List.getElem?_eq_none (by omega)]
set_option maxHeartbeats 1600000 in
theorem e_same (w : World) (oa ob : Option Addr) (ca cb : Nat) (A B : List ByteArray) (hA : RowS w oa A) (hB : RowS w ob B) (hla : A.length ≤ 4000000000000000) :
    Calls Try.prog 15 #[.slice oa A.length ca, .slice ob B.length cb] w fun e w' => e = .returned (.bool (sameB A B)) ∧ Gr w w' := by
  by_cases hl : A.length = B.length
  · have HA := Lib.hid hA
    have HB := Lib.hid hB
    have HL := Lib.hid hl
    obtain ⟨n, hn⟩ : ∃ n, n = A.length := ⟨_, rfl⟩
    have HN := Lib.hid hn
    rw [← hl, ← hn]
    rw [← hn] at hla
    clear hA hB hl hn
    go_enter Try.func15, Try.ntmps15
    go_wp2_with fail
    go_loopw [5] (fun v wr => ∃ k : Nat, k ≤ n ∧ v = .int .i64 k ∧ (∀ j, j < k → A[j]? = B[j]?) ∧ Gr w wr) (fun v _ => n - (intOf v).toNat)
    case atStart => exact ⟨0, Nat.zero_le _, rfl, fun j h => absurd h (by omega), Gr.refl _⟩
    case round =>
      obtain ⟨k, hk, rfl, hj, hg⟩ := hrel
      have HJ := Lib.hid hj
      have HG := Lib.hid hg
      clear hj hg
      by_cases hlt : k < n
      · have dl : decide (k < n) = true := decide_eq_true hlt
        have ha : A[k]? = some (A[k]'(by have := HN.out; omega)) := List.getElem?_eq_getElem _
        have hb : B[k]? = some (B[k]'(by have := HN.out; have := HL.out; omega)) := List.getElem?_eq_getElem _
        obtain ⟨b1, o1, rfl, ca1⟩ := (HA.out.gr HG.out) k _ ha
        obtain ⟨b2, o2, rfl, ca2⟩ := (HB.out.gr HG.out) k _ hb
        generalize A[k]'_ = x at *
        generalize B[k]'_ = y at *
        have H1 := Lib.hid ha
        have H2 := Lib.hid hb
        clear ha hb
        by_cases hxy : x = y
        · subst hxy
          go_upto_region 6 with fail
          go_quiet (fail)
          go_wp2_with fail
          go_roundw
          case rel => exact ⟨k + 1, by omega, by go_num, fun j hj => by
            rcases Nat.lt_or_ge j k with h | h
            · exact HJ.out j h
            · have : j = k := by omega
              subst this; rw [H1.out, H2.out], HG.out.drewN _⟩
          case measure => simp [intOf]; omega
        · have hne := tl_ne hxy
          have HXY : RowKit.Hid (sameB A B = false) := Lib.hid (by
            unfold sameB; refine decide_eq_false (fun e => hxy ?_)
            have := H1.out; rw [e, H2.out] at this; injection this with this; exact this.symm)
          clear hxy
          go_upto_region 6 with fail
          go_quiet (fail)
          go_wp2_with fail
          go_ret
          exact ⟨by rw [HXY.out]; rfl, HG.out.drewN _⟩
      · obtain rfl : k = n := by omega
        have dl : decide (k < k) = false := decide_eq_false (by omega)
        go_wp2_with fail
        go_ret
        exact ⟨by rw [same_step A B HL.out (fun j h => HJ.out j (by have := HN.out; omega))]; rfl, HG.out⟩
  · have HXY : RowKit.Hid (sameB A B = false) := Lib.hid (decide_eq_false (fun e => hl (by rw [e])))
    have hl2 : ((A.length : Int) == (B.length : Int)) = false := beq_eq_false_iff_ne.2 (by omega)
    have hl3 : ((A.length : Int) != (B.length : Int)) = true := bne_iff_ne.2 (by omega)
    have hl4 : ¬ (A.length : Int) = (B.length : Int) := by omega
    go_enter Try.func15, Try.ntmps15
    go_wp2_with fail
    go_ret
    exact ⟨by rw [HXY.out]; rfl, Gr.refl _⟩
end Go.Proofs.Ytipnmffcfloglaa.P
