/- Stage 14: tables as cells, and the contracts of lives. No condition. -/
import Derived.Test.YtfegnppilhfghaaG
import Derived.Laws.Rows
import Derived.Laws.CopyOwn
import Derived.Laws.ResultCell
set_option linter.unusedVariables false
namespace Go.Proofs.Ytfegnppilhfghaa.P
open Go.RowKit
structure RowV where
  st : Int
  pa : Int
  su : Int
  ki : Bool
def rc (r : RowV) : List Value := [.int .i64 r.st, .int .i64 r.pa, .int .i64 r.su, .bool r.ki]
def tc (T : Nat → RowV) : Array Value := ⟨rc (T 0) ++ rc (T 1) ++ rc (T 2) ++ rc (T 3) ++ rc (T 4) ++ rc (T 5) ++ rc (T 6) ++ rc (T 7)⟩
def up (T : Nat → RowV) (i : Nat) (r : RowV) : Nat → RowV := fun j => if j = i then r else T j
theorem tc_size (T : Nat → RowV) : (tc T).size = 32 := rfl
theorem eight {p : Nat → Prop} (h0 : p 0) (h1 : p 1) (h2 : p 2) (h3 : p 3) (h4 : p 4) (h5 : p 5) (h6 : p 6) (h7 : p 7) : ∀ i, i < 8 → p i
  | 0, _ => h0 | 1, _ => h1 | 2, _ => h2 | 3, _ => h3 | 4, _ => h4 | 5, _ => h5 | 6, _ => h6 | 7, _ => h7
  | n + 8, h => absurd h (by omega)
theorem tc_st (T : Nat → RowV) (i : Nat) (h : i < 8) : (tc T)[i * 4]? = some (.int .i64 (T i).st) := eight (p := fun i => (tc T)[i * 4]? = some (.int .i64 (T i).st)) rfl rfl rfl rfl rfl rfl rfl rfl i h
theorem tc_pa (T : Nat → RowV) (i : Nat) (h : i < 8) : (tc T)[i * 4 + 1]? = some (.int .i64 (T i).pa) := eight (p := fun i => (tc T)[i * 4 + 1]? = some (.int .i64 (T i).pa)) rfl rfl rfl rfl rfl rfl rfl rfl i h
theorem tc_su (T : Nat → RowV) (i : Nat) (h : i < 8) : (tc T)[i * 4 + 2]? = some (.int .i64 (T i).su) := eight (p := fun i => (tc T)[i * 4 + 2]? = some (.int .i64 (T i).su)) rfl rfl rfl rfl rfl rfl rfl rfl i h
theorem tc_ki (T : Nat → RowV) (i : Nat) (h : i < 8) : (tc T)[i * 4 + 3]? = some (.bool (T i).ki) := eight (p := fun i => (tc T)[i * 4 + 3]? = some (.bool (T i).ki)) rfl rfl rfl rfl rfl rfl rfl rfl i h
theorem set_st (T : Nat → RowV) (x : Int) (i : Nat) (h : i < 8) : (tc T).setIfInBounds (i * 4) (.int .i64 x) = tc (up T i { T i with st := x }) :=
  eight (p := fun i => (tc T).setIfInBounds (i * 4) (.int .i64 x) = tc (up T i { T i with st := x })) rfl rfl rfl rfl rfl rfl rfl rfl i h
theorem set_ki (T : Nat → RowV) (x : Bool) (i : Nat) (h : i < 8) : (tc T).setIfInBounds (i * 4 + 3) (.bool x) = tc (up T i { T i with ki := x }) :=
  eight (p := fun i => (tc T).setIfInBounds (i * 4 + 3) (.bool x) = tc (up T i { T i with ki := x })) rfl rfl rfl rfl rfl rfl rfl rfl i h
theorem tc_one (T : Nat → RowV) : (tc T).all (·.oneCell') = true := by simp [tc, rc, Value.oneCell']
theorem tc_szs (T U : Nat → RowV) : (tc T).size = (tc U).size := rfl
theorem tc_info (T : Nat → RowV) : (Try.prog.info? 25).map (·.size) = some (tc T).size := by kernel_rfl
def Z0 : Nat → RowV := fun _ => ⟨0, 0, 0, false⟩
theorem ld {w : World} {g : Nat} {T : Nat → RowV} (hg : w.heap[g]? = some (.cells (tc T) 25)) : (loadVar 25 ⟨g, 0, none⟩).run Try.prog w = .ok (.agg (tc T)) w :=
  run_loadVar_row w g 25 25 _ (0, 0) _ hg Try.underlying25 rfl (by kernel_rfl)
/-- A function's results: a table out of its cell, and numbers. -/
theorem res1 {fn : Func} {p : Tmp} {ty : TypeId} (h : fn.results = #[.cell p ty]) (tmps : Array Value) (P : Program) (w : World) (g : Nat) (v0 : Value)
    (hp : tmps.getD p undef = .pointer (some ⟨g, 0, none⟩)) (hl : (loadVar ty ⟨g, 0, none⟩).run P w = .ok v0 w) :
    (results fn tmps).run P w = .ok v0 w := by
  have hp' : tmps[p]?.getD undef = .pointer (some ⟨g, 0, none⟩) := by simpa using hp
  simp [results, h, hp', asAddr, hl]
theorem res2 {fn : Func} {p u : Tmp} {ty : TypeId} (h : fn.results = #[.cell p ty, .tmp u]) (tmps : Array Value) (P : Program) (w : World) (g : Nat) (v0 : Value)
    (hp : tmps.getD p undef = .pointer (some ⟨g, 0, none⟩)) (hl : (loadVar ty ⟨g, 0, none⟩).run P w = .ok v0 w) :
    (results fn tmps).run P w = .ok (.tuple #[v0, tmps.getD u undef]) w := by
  have hp' : tmps[p]?.getD undef = .pointer (some ⟨g, 0, none⟩) := by simpa using hp
  simp [results, h, hp', asAddr, hl]
theorem res3 {fn : Func} {p u v : Tmp} {ty : TypeId} (h : fn.results = #[.cell p ty, .tmp u, .tmp v]) (tmps : Array Value) (P : Program) (w : World) (g : Nat) (v0 : Value)
    (hp : tmps.getD p undef = .pointer (some ⟨g, 0, none⟩)) (hl : (loadVar ty ⟨g, 0, none⟩).run P w = .ok v0 w) :
    (results fn tmps).run P w = .ok (.tuple #[v0, tmps.getD u undef, tmps.getD v undef]) w := by
  have hp' : tmps[p]?.getD undef = .pointer (some ⟨g, 0, none⟩) := by simpa using hp
  simp [results, h, hp', asAddr, hl]
theorem res4 {fn : Func} {p u v x : Tmp} {ty : TypeId} (h : fn.results = #[.cell p ty, .tmp u, .tmp v, .tmp x]) (tmps : Array Value) (P : Program) (w : World) (g : Nat) (v0 : Value)
    (hp : tmps.getD p undef = .pointer (some ⟨g, 0, none⟩)) (hl : (loadVar ty ⟨g, 0, none⟩).run P w = .ok v0 w) :
    (results fn tmps).run P w = .ok (.tuple #[v0, tmps.getD u undef, tmps.getD v undef, tmps.getD x undef]) w := by
  have hp' : tmps[p]?.getD undef = .pointer (some ⟨g, 0, none⟩) := by simpa using hp
  simp [results, h, hp', asAddr, hl]
def livesB (T : Nat → RowV) (p : Int) : Bool := decide (0 ≤ p ∧ p < 8) && (T p.toNat).st == 1
theorem l_lives (T : Nat → RowV) (p : Int) (w : World) : Calls Try.prog 21 #[.agg (tc T), .int .i64 p] w fun e w' => e = .returned (.bool (livesB T p)) ∧ Gr w w' := by
  have hc := tc_size T
  by_cases h1 : p < 0
  · go_enter Try.func21, Try.ntmps21
    go_wp2_with fail
    go_ret
    exact ⟨ret_b (by unfold livesB; simp; omega), by go_grown⟩
  · by_cases h2 : 8 ≤ p
    · go_enter Try.func21, Try.ntmps21
      go_wp2_with fail
      go_ret
      exact ⟨ret_b (by unfold livesB; simp; omega), by go_grown⟩
    · obtain ⟨n, rfl⟩ : ∃ n : Nat, p = (n : Int) := ⟨p.toNat, by omega⟩
      have hn : n < 8 := by omega
      have c0 := blk_cell (blk_new w (.cells (tc T) 25)) (n * 4) (tc_st T n hn)
      have e : livesB T n = ((T n).st == 1) := by unfold livesB; simp; omega
      have E := Lib.hid e
      clear e
      go_enter Try.func21, Try.ntmps21
      go_wp2_with fail
      go_ret
      exact ⟨ret_b E.out.symm, by go_grown⟩
end Go.Proofs.Ytfegnppilhfghaa.P
