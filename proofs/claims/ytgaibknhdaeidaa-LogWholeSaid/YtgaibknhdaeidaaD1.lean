/- Stage 6: a disk in memory: the calls that make none; a disk that is nil. No condition. -/
import Derived.Test.YtgaibknhdaeidaaM
import Derived.Laws.AppendOwn
set_option linter.unusedVariables false
namespace Go.Proofs.Ytgaibknhdaeidaa.P
open Go.RowKit
structure DState where
  safe : List ByteArray
  wait : List (Int × ByteArray)
  off : Bool
  counted : Bool
  acts : Int
def strs (l : List ByteArray) : List Value := l.map Value.string
def wrs : List (Int × ByteArray) → List Value
  | [] => []
  | x :: l => .int .i64 x.1 :: .string x.2 :: wrs l
theorem wrs_length : ∀ l, (wrs l).length = l.length * 2
  | [] => rfl
  | x :: l => by rw [wrs, List.length_cons, List.length_cons, wrs_length l, List.length_cons]; omega
/-- A disk at d, its safe sectors in block sb, what waits in block wb (or nowhere). -/
def DiskO (w : World) (d sb : Nat) (wb : Option Nat) (z : DState) : Prop :=
  ∃ (sc : Nat) (wo : Option Addr) (wc : Nat), w.heap[d]? = some (.cells #[.slice (some ⟨sb, 0, none⟩) z.safe.length sc, .slice wo z.wait.length wc, .bool z.off, .bool z.counted, .int .i64 z.acts] 61) ∧
    w.ownsRow 0 9 1 (.slice (some ⟨sb, 0, none⟩) z.safe.length sc) z.safe.length (strs z.safe) ∧
    w.ownsRow 0 94 2 (.slice wo z.wait.length wc) z.wait.length (wrs z.wait) ∧ (Value.slice wo z.wait.length wc).ownBlock = wb ∧ sb ≠ d ∧ wb ≠ some d ∧ wb ≠ some sb
theorem c_sectors (w : World) (d sb : Nat) (wb : Option Nat) (z : DState) (h : DiskO w d sb wb z) :
    Calls Try.prog 40 #[.pointer (some ⟨d, 0, none⟩)] w fun e w' => e = .returned (.int .i64 z.safe.length) ∧ w' = w := by
  obtain ⟨sc, wo, wc, hb, hr⟩ := h
  have c0 := blk_cell hb 0 (v := .slice (some ⟨sb, 0, none⟩) z.safe.length sc) rfl
  clear hb hr
  go_enter Try.func40, Try.ntmps40
  go_wp2
  go_ret
  exact ⟨rfl, rfl⟩
theorem c_waiting (w : World) (d sb : Nat) (wb : Option Nat) (z : DState) (h : DiskO w d sb wb z) :
    Calls Try.prog 21 #[.pointer (some ⟨d, 0, none⟩)] w fun e w' => e = .returned (.int .i64 z.wait.length) ∧ w' = w := by
  obtain ⟨sc, wo, wc, hb, hr⟩ := h
  have c1 := blk_cell hb 1 (v := .slice wo z.wait.length wc) rfl
  clear hb hr
  go_enter Try.func21, Try.ntmps21
  go_wp2
  go_ret
  exact ⟨rfl, rfl⟩
def hasB (z : DState) (i : Int) : Bool := decide (0 ≤ i) && decide (i < z.safe.length)
theorem c_has (w : World) (d sb : Nat) (wb : Option Nat) (z : DState) (h : DiskO w d sb wb z) (i : Int) :
    Calls Try.prog 48 #[.pointer (some ⟨d, 0, none⟩), .int .i64 i] w fun e w' => e = .returned (.bool (hasB z i)) ∧ w' = w := by
  obtain ⟨sc, wo, wc, hb, hr⟩ := h
  have c0 := blk_cell hb 0 (v := .slice (some ⟨sb, 0, none⟩) z.safe.length sc) rfl
  clear hb hr
  unfold hasB
  by_cases h0 : 0 ≤ i
  · rw [decide_eq_true h0, Bool.true_and]
    go_enter Try.func48, Try.ntmps48
    go_wp2
    go_ret
    exact ⟨rfl, rfl⟩
  · rw [decide_eq_false h0, Bool.false_and]
    go_enter Try.func48, Try.ntmps48
    go_wp2
    go_ret
    exact ⟨rfl, rfl⟩
theorem n_dsectors (w : World) : Calls Try.prog 40 #[.pointer none] w fun e w' => e = .returned (.int .i64 0) ∧ w' = w := by
  go_enter Try.func40, Try.ntmps40
  go_wp2
  go_ret
  exact ⟨rfl, rfl⟩
theorem n_dwaiting (w : World) : Calls Try.prog 21 #[.pointer none] w fun e w' => e = .returned (.int .i64 0) ∧ w' = w := by
  go_enter Try.func21, Try.ntmps21
  go_wp2
  go_ret
  exact ⟨rfl, rfl⟩
theorem res_cc {fn : Func} {p q : Tmp} {ty uy : TypeId} (h : fn.results = #[.cell p ty, .cell q uy]) (tmps : Array Value) (P : Program) (w : World) (a b : Addr) (v0 v1 : Value)
    (hp : tmps.getD p undef = .pointer (some a)) (hq : tmps.getD q undef = .pointer (some b)) (l0 : (loadVar ty a).run P w = .ok v0 w) (l1 : (loadVar uy b).run P w = .ok v1 w) :
    (results fn tmps).run P w = .ok (.tuple #[v0, v1]) w := by
  have hp' : tmps[p]?.getD undef = .pointer (some a) := by simpa using hp
  have hq' : tmps[q]?.getD undef = .pointer (some b) := by simpa using hq
  simp [results, h, hp', hq', asAddr, l0, l1]
theorem n_dread (i : Int) (w : World) : Calls Try.prog 30 #[.pointer none, .int .i64 i] w fun e w' => e = .returned (.tuple #[.string ⟨#[]⟩, .int .i64 1]) ∧ Gr w w' := by
  go_enter Try.func30, Try.ntmps30
  go_wp2
  refine bodyPost_ret (res_cc rfl _ _ _ _ _ _ _ rfl rfl (by go_simp) (by go_simp)) rfl ⟨rfl, ?_⟩
  go_grown
theorem n_dwrite (i : Int) (s : ByteArray) (w : World) : Calls Try.prog 52 #[.pointer none, .int .i64 i, .string s] w fun e w' => e = .returned (.int .i64 1) ∧ w' = w := by
  go_enter Try.func52, Try.ntmps52
  go_wp2
  go_ret
  exact ⟨rfl, rfl⟩
theorem n_dflush (w : World) : Calls Try.prog 53 #[.pointer none] w fun e w' => e = .returned (.int .i64 1) ∧ w' = w := by
  go_enter Try.func53, Try.ntmps53
  go_wp2
  go_ret
  exact ⟨rfl, rfl⟩
theorem n_dimage (w : World) : Calls Try.prog 19 #[.pointer none] w fun e w' => e = .returned (.slice none 0 0) ∧ w' = w := by
  go_enter Try.func19, Try.ntmps19
  go_wp2
  go_ret
  exact ⟨rfl, rfl⟩
end Go.Proofs.Ytgaibknhdaeidaa.P
