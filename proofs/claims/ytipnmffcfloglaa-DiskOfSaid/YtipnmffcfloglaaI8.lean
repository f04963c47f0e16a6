/- Stage 6: Of refused; the document's Of. No condition. -/
import Derived.Test.YtipnmffcfloglaaI6
import Derived.Test.YtipnmffcfloglaaE1
set_option linter.unusedVariables false
namespace Go.Proofs.Ytipnmffcfloglaa.P
open Go.RowKit
theorem wpList_append_run {P : Program} {w : World} {ops : Array Oper} {rest : List Oper} {o : Oper} {a : Act} {Q : Exit → Act → World → Prop} (hg : o.guard = none) (s x : Operand) (t : TypeId)
    (hop : o.op = Op.call { callee := Callee.builtin Builtin.append, args := #[s, x], argTypes := #[t, t] }) (v1 v2 r : Value) (w' : World) (hs : a.eval s = v1) (hx : a.eval x = v2)
    (hrun : (Builtin.append_ #[t, t] o.type #[v1, v2]).run P w = .ok r w') (h : wpList P ops Q rest (a.put o.dst r) w') : wpList P ops Q (o :: rest) a w := by
  refine wpList_plain hg fun K hK => ?_
  unfold Oper.wp
  simp [execOp, hop, resolve, invoke, builtin, hs, hx, hrun, Result.andThen]
  exact hK _ _ h
theorem run_append_empty {P : Program} (w : World) (t ty e : TypeId) (i : TypeInfo) (ht : P.underlying t = some (.slice e)) (hi : P.info? e = some i) (a : Addr) (n cap : Nat) (h : n ≤ cap) (o : Option Addr) (c : Nat) :
    (Builtin.append_ #[t, t] ty #[.slice (some a) n cap, .slice o 0 c]).run P w = .ok (.slice (some a) n cap) w := by
  cases o <;> simp [Builtin.append_, run_underlying ht, sizeOf, typeInfo, hi, Builtin.lenOf, Builtin.firstCells, h, storeCells, loadCells, loadCellsFrom]
/-- May it be a disk's sectors? -/
def okRow (A : List ByteArray) : Bool := decide (48 ≤ A.length) && decide (A.length ≤ 544) && A.all (fun s => decide (s.size = 64))
theorem all_take (A : List ByteArray) (k : Nat) (x : ByteArray) (hx : A[k]? = some x) : (A.take (k + 1)).all (fun s => decide (s.size = 64)) = ((A.take k).all (fun s => decide (s.size = 64)) && decide (x.size = 64)) := by
  obtain ⟨hk, e⟩ := List.getElem?_eq_some_iff.1 hx
  rw [List.take_succ_eq_append_getElem hk, List.all_append, e]
  simp
set_option maxHeartbeats 1600000 in
theorem c_of_no (w : World) (o : Option Addr) (c : Nat) (A : List ByteArray) (hl : A.length ≤ 4000000000000000) (hA : RowS w o A) (hn : okRow A = false) :
    Calls Try.prog 18 #[.slice o A.length c] w fun e w' => e = .returned (.tuple #[.pointer none, .int .i64 1]) ∧ Gr w w' := by
  have CM := Lib.hid (c_may (A.length : Int) w)
  cases hm : (decide (48 ≤ (A.length : Int)) && decide ((A.length : Int) ≤ 544)) with
  | false =>
    rw [hm] at CM
    clear hm hn hA
    go_enter Try.func18, Try.ntmps18
    go_wp2_with fail
    refine CM.out.mono ?_
    rintro e w' ⟨rfl, h9⟩
    subst h9
    go_wp2_with fail
    go_ret2
    exact ⟨rfl, Gr.refl _⟩
  | true =>
    rw [hm] at CM
    have hb : A.all (fun s => decide (s.size = 64)) = false := by
      unfold okRow at hn
      rw [Bool.and_eq_true, decide_eq_true_eq, decide_eq_true_eq] at hm
      rw [decide_eq_true (by omega), decide_eq_true (by omega)] at hn
      simpa using hn
    have HA := Lib.hid hA
    have HB := Lib.hid hb
    obtain ⟨n, hn⟩ : ∃ n, n = A.length := ⟨_, rfl⟩
    have HN := Lib.hid hn
    rw [← hn] at CM hl
    rw [show A.length = n from hn.symm]
    clear hn hm hb hA
    go_enter Try.func18, Try.ntmps18
    go_wp2_with fail
    refine CM.out.mono ?_
    rintro e w' ⟨rfl, h9⟩
    subst h9
    go_wp2_with fail
    go_loop [12] (fun v => ∃ k : Nat, k ≤ n ∧ v = .int .i64 k ∧ (A.take k).all (fun s => decide (s.size = 64)) = true) (fun v => n - (intOf v).toNat)
    case atStart => exact ⟨0, Nat.zero_le _, rfl, by rw [List.take_zero]; rfl⟩
    case round =>
      obtain ⟨k, hk, rfl, hall⟩ := hrel
      have HALL := Lib.hid hall
      clear hall
      by_cases hlt : k < n
      · have dl : decide (k < n) = true := decide_eq_true hlt
        have hx : A[k]? = some (A[k]'(by have := HN.out; omega)) := List.getElem?_eq_getElem _
        obtain ⟨b, off, rfl, hc⟩ := HA.out k _ hx
        have hat := all_take A k _ hx
        generalize A[k]'_ = x at *
        have HAT := Lib.hid hat
        clear hx hat
        by_cases hs : x.size = 64
        · have hs4 : (x.size : Int) = 64 := by omega
          have hd : decide (x.size = 64) = true := decide_eq_true hs
          rw [hd, HALL.out] at HAT
          clear hs hd
          go_wp2_with fail
          go_round
          case rel => exact ⟨k + 1, by omega, by go_num, HAT.out⟩
          case measure => simp [intOf]; omega
        · have hs4 : ¬ (x.size : Int) = 64 := by omega
          have hs3 : ((x.size : Int) != 64) = true := bne_iff_ne.2 hs4
          clear hs
          go_wp2_with fail
          go_ret2
          exact ⟨rfl, Gr.refl _⟩
      · obtain rfl : k = n := by omega
        exfalso
        have h1 := HALL.out
        rw [HN.out, List.take_of_length_le (Nat.le_refl _), HB.out] at h1
        cases h1
set_option maxHeartbeats 1600000 in
theorem e_of_no (w : World) (o : Option Addr) (c : Nat) (A : List ByteArray) (hl : A.length ≤ 4000000000000000) (hA : RowS w o A) (hn : okRow A = false) :
    Calls Try.prog 19 #[.slice o A.length c] w fun e w' => e = .returned (.pointer none) ∧ Gr w w' := by
  have CM := Lib.hid (e_takes (A.length : Int) w)
  obtain ⟨b0, hb0⟩ : ∃ b0, b0 = (decide (48 ≤ (A.length : Int)) && decide ((A.length : Int) ≤ 544)) := ⟨_, rfl⟩
  rw [← hb0] at CM
  have hb : (b0 && A.all (fun s => decide (s.size = 64))) = false := by
    rw [hb0]
    have e1 : decide (48 ≤ (A.length : Int)) = decide (48 ≤ A.length) := by rw [decide_eq_decide]; omega
    have e2 : decide ((A.length : Int) ≤ 544) = decide (A.length ≤ 544) := by rw [decide_eq_decide]; omega
    rw [e1, e2]; exact hn
  have HA := Lib.hid hA
  have HB := Lib.hid hb
  obtain ⟨n, hnn⟩ : ∃ n, n = A.length := ⟨_, rfl⟩
  have HN := Lib.hid hnn
  rw [← hnn] at CM hl
  rw [show A.length = n from hnn.symm]
  clear hnn hb hA hb0 hn
  go_enter Try.func19, Try.ntmps19
  go_wp2_with fail
  refine CM.out.mono ?_
  rintro e w' ⟨rfl, h9⟩
  subst h9
  go_wp2_with fail
  go_loop [3, 4] (fun v3 v4 => ∃ (k : Nat) (b : Bool), k ≤ n ∧ v4 = .int .i64 k ∧ v3 = .bool b ∧ b = (b0 && (A.take k).all (fun s => decide (s.size = 64)))) (fun _ v4 => n - (intOf v4).toNat)
  case atStart => exact ⟨0, b0, Nat.zero_le _, rfl, rfl, by rw [List.take_zero]; simp⟩
  case round =>
    obtain ⟨k, b, hk, rfl, rfl, hall⟩ := hrel
    have HALL := Lib.hid hall
    clear hall
    by_cases hlt : k < n
    · have dl : decide (k < n) = true := decide_eq_true hlt
      have hx : A[k]? = some (A[k]'(by have := HN.out; omega)) := List.getElem?_eq_getElem _
      obtain ⟨b, off, rfl, hc⟩ := HA.out k _ hx
      have hat := all_take A k _ hx
      generalize A[k]'_ = x at *
      have HAT := Lib.hid hat
      clear hx hat
      rename_i bb
      cases bb with
      | false =>
        go_wp2_with fail
        go_round
        case rel => exact ⟨k + 1, false, by omega, by go_num, rfl, by rw [HAT.out, ← Bool.and_assoc, ← HALL.out]; rfl⟩
        case measure => simp [intOf]; omega
      | true =>
        by_cases hs : x.size = 64
        · have hs4 : (x.size : Int) = 64 := by omega
          have hd : decide (x.size = 64) = true := decide_eq_true hs
          rw [hd] at HAT
          clear hs hd
          go_wp2_with fail
          go_round
          case rel => exact ⟨k + 1, true, by omega, by go_num, rfl, by rw [HAT.out, ← Bool.and_assoc, ← HALL.out]; rfl⟩
          case measure => simp [intOf]; omega
        · have hs4 : ¬ (x.size : Int) = 64 := by omega
          have hd : decide (x.size = 64) = false := decide_eq_false hs
          rw [hd] at HAT
          have hs3 : ((x.size : Int) == 64) = false := beq_eq_false_iff_ne.2 hs4
          clear hs hd
          go_wp2_with fail
          go_round
          case rel => exact ⟨k + 1, false, by omega, by go_num, rfl, by rw [HAT.out, ← Bool.and_assoc, ← HALL.out]; rfl⟩
          case measure => simp [intOf]; omega
    · obtain rfl : k = n := by omega
      have dl : decide (k < k) = false := decide_eq_false (by omega)
      obtain rfl : b = false := by
        have h1 := HALL.out
        rw [HN.out, List.take_of_length_le (Nat.le_refl _), HB.out] at h1
        exact h1
      go_wp2_with fail
      go_ret
      exact ⟨rfl, Gr.refl _⟩
end Go.Proofs.Ytipnmffcfloglaa.P
