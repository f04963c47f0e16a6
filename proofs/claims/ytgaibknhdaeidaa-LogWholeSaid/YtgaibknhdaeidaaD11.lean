/- Stage 6: slices.Backward of the writes that wait: its contract for a range over it. No condition. -/
import Derived.Test.YtgaibknhdaeidaaD9
import Derived.RangeFuncNested
import Derived.RangeFuncBox
import Derived.RangeFuncLeaves
import Derived.Shelf.Abstract
import Derived.OwnWalkIn
import Derived.TacticsInMore
import Derived.LoopNIn
import Derived.LoopIn
set_option linter.unusedVariables false
set_option maxRecDepth 50000
namespace Go.Proofs.Ytgaibknhdaeidaa.P
open Go.RowKit Go.Shelf
attribute [local go_sem] Oper.semAt_some
abbrev WI := (Int × ByteArray) × Nat
def encW (x : WI) : Array Value := #[.int .i64 (x.2 : Int), .agg #[.int .i64 x.1.1, .string x.1.2]]
/-- What has come when m are still left. -/
def backs (ys : List WI) (m : Nat) : List WI := (ys.drop m).reverse
theorem backs_all (ys : List WI) : backs ys ys.length = [] := by unfold backs; simp
theorem backs_step (ys : List WI) (m : Nat) (x : WI) (h : ys[m]? = some x) : backs ys m = backs ys (m + 1) ++ [x] := by
  obtain ⟨hm, e⟩ := List.getElem?_eq_some_iff.1 h
  unfold backs
  rw [List.drop_eq_getElem_cons hm, List.reverse_cons, e]
theorem backs_len (ys : List WI) (m : Nat) : (backs ys m).length = ys.length - m := by unfold backs; simp
/-- They lie there. -/
def LieW (n₀ : Nat) (W : World) (wo : Option Addr) (ys : List WI) : Prop :=
  ∀ m x, ys[m]? = some x → x.2 = m ∧ ∃ b, wo = some ⟨b, 0, none⟩ ∧ b < n₀ ∧ W.cell? ⟨b, m * 2, none⟩ = some (.int .i64 x.1.1) ∧ W.cell? ⟨b, m * 2 + 1, none⟩ = some (.string x.1.2)
theorem LieW.below {n₀ : Nat} {A B : World} (h : Below n₀ A B) {wo : Option Addr} {ys : List WI} (hl : LieW n₀ A wo ys) : LieW n₀ B wo ys := fun m x hx => by
  obtain ⟨e, b, hb, h0, h1, h2⟩ := hl m x hx
  exact ⟨e, b, hb, h0, (h.cell (p := ⟨b, m * 2, none⟩) h0).trans h1, (h.cell (p := ⟨b, m * 2 + 1, none⟩) h0).trans h2⟩
set_option maxHeartbeats 1000000 in
theorem back_in (F : Fence) (n : Nat) (h5 : F.fn 49) (hro : F.round = none) (a : Option Addr) (len cap : Nat) (w : World) :
    CallsIn F n Try.prog 49 #[.slice a len cap] w fun e w' => e = .returned (.func (.func 66) #[] #[.pointer (some ⟨w.heap.size, 0, none⟩)]) ∧ w' = w.alloc (.cells #[.slice a len cap] 59) := by
  refine callsIn_of_wp Try.func49 rfl h5 ?_ hro
  simp only [Try.ntmps49, List.size_toArray, List.length_cons, List.length_nil, Nat.reduceAdd, Nat.reduceSub, Array.replicate_succ, Array.replicate_zero, List.push_toArray, List.append_toArray, List.nil_append, List.cons_append]
  gi_wp2
  go_ret
  exact ⟨rfl, rfl⟩
set_option maxRecDepth 100000 in
set_option maxHeartbeats 2000000 in
theorem back1_in (F : Fence) (n : Nat) (h8 : F.fn 66) (hro : F.round = none) (hn : 1 ≤ n) (l Bs n₀ : Nat) (wo : Option Addr) (cap : Nat) (ys : List WI) (hreach : ys.length ≤ 4000000000000) (J Jx : List WI → World → Prop)
    (hY : ∀ pre x W, J pre W → pre.length < ys.length → YieldAt F (n - 1) Try.prog l (encW x) W fun e W' =>
      (e = .returned (.bool true) ∧ J (pre ++ [x]) W' ∧ Below n₀ W W') ∨ (e = .returned (.bool false) ∧ Jx (pre ++ [x]) W'))
    (W : World) (hBs : W.cell? ⟨Bs, 0, none⟩ = some (.slice wo ys.length cap)) (hBn : Bs < n₀) (hc : LieW n₀ W wo ys) (h0 : J [] W) :
    CallsIn F n Try.prog 66 #[.func (.yield l) #[] #[], .pointer (some ⟨Bs, 0, none⟩)] W fun e W' => (∃ v, e = .returned v) ∧
      ((∃ xs, xs = backs ys 0 ∧ J xs W') ∨ (∃ pre, (∃ m, m ≤ ys.length ∧ pre = backs ys m) ∧ Jx pre W')) := by
  refine callsIn_of_wp Try.func66 rfl h8 ?_ hro
  simp only [Try.ntmps66, List.size_toArray, List.length_cons, List.length_nil, Nat.reduceAdd, Nat.reduceSub, Array.replicate_succ, Array.replicate_zero, List.push_toArray, List.append_toArray, List.nil_append, List.cons_append]
  gi_wp2
  gi_loopw [3] (fun i wr => ∃ m : Nat, m ≤ ys.length ∧ i = .int .i64 ((m : Int) - 1) ∧ J (backs ys m) wr ∧ Below n₀ W wr)
    (fun i _ => (intOf i + 1).toNat)
  case atStart => exact ⟨ys.length, Nat.le_refl _, rfl, by rw [backs_all]; exact h0, Below.refl _ _⟩
  case round =>
    obtain ⟨m, hm, rfl, hJs, hnx⟩ := hrel
    cases m with
    | succ m =>
      obtain ⟨x, hx⟩ : ∃ x, ys[m]? = some x := ⟨ys[m]'(by omega), List.getElem?_eq_getElem _⟩
      obtain ⟨e2, b, rfl, hb, c1, c2⟩ := (hc.below hnx) m x hx
      have cs := (hnx.cell (p := ⟨Bs, 0, none⟩) hBn).trans hBs
      obtain ⟨fn, tmps, assign, body, hy, hR⟩ := hY _ x wr hJs (by rw [backs_len]; omega)
      rw [← backs_step ys m x hx] at hR
      have HNX := Lib.hid hnx
      have hml : m < ys.length := by omega
      have ei : ((m + 1 : Nat) : Int) - 1 = (m : Int) := by omega
      rw [ei]
      unfold encW at hy
      rw [e2] at hy
      generalize hN : ys.length = N at *
      have HN := Lib.hid hN
      clear hN hJs hnx hc hx e2 hBs hY h0
      obtain ⟨⟨xq, xs⟩, xi⟩ := x
      dsimp only at c1 c2 hy
      have hm0 : (0 : Int) ≤ m := by omega
      have hmN : (m : Int) < 4000000000001 := by omega
      gi_wp2
      refine hR.mono ?_
      rintro e W3 (⟨rfl, hJ3, hk3⟩ | ⟨rfl, hJx3⟩)
      · have HB3 := Lib.hid (HNX.out.trans hk3)
        clear hk3
        gi_wp2
        go_roundw
        case rel => exact ⟨m, by omega, rfl, hJ3, HB3.out⟩
        case measure => simp [intOf]
      · gi_wp2
        refine bodyPost_ret (results_none rfl _ _ _) rfl ?_
        exact ⟨⟨_, rfl⟩, .inr ⟨_, ⟨m, by rw [HN.out]; omega, rfl⟩, hJx3⟩⟩
    | zero =>
      have ei : ((0 : Nat) : Int) - 1 = -1 := by omega
      rw [ei]
      gi_wp2
      go_end0
      exact ⟨⟨_, rfl⟩, .inl ⟨_, rfl, hJs⟩⟩
theorem back_stops (F : Fence) (n : Nat) (h8 : F.fn 66) (hro : F.round = none) (hn : 1 ≤ n) (Bs n₀ : Nat) (wo : Option Addr) (cap : Nat) (ys : List WI) (hreach : ys.length ≤ 4000000000000) (w : World) (hBs : Bs < n₀) (hn₀ : n₀ ≤ w.heap.size)
    (hc : w.cell? ⟨Bs, 0, none⟩ = some (.slice wo ys.length cap)) (hI : LieW n₀ w wo ys) :
    SeqStopsK F n Try.prog 66 #[.pointer (some ⟨Bs, 0, none⟩)] encW (Below n₀) (fun xs => xs = backs ys 0) (fun pre => ∃ m, m ≤ ys.length ∧ pre = backs ys m) ys.length w := fun l J Jx W hW _ _ hY h0 =>
  back1_in F n h8 hro hn l Bs n₀ wo cap ys hreach J Jx hY W ((hW.cell (p := ⟨Bs, 0, none⟩) (by show Bs < _; omega)).trans hc) hBs (hI.below (hW.mono hn₀)) h0
end Go.Proofs.Ytgaibknhdaeidaa.P
