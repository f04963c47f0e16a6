/- Stage 15: the lock in memory; atomics; the map that is made when it is first asked for. No condition. -/
import Derived.Test.YtjjjokhbkkifjaaO
import Derived.Maps.OwnSet
import Derived.Maps.OwnOps
import Derived.Deep.QuietTactic
import Derived.BigQuiet
import Derived.WalkLawsBesides
set_option linter.unusedVariables false
namespace Go.Proofs.Ytjjjokhbkkifjaa.P
open Go.RowKit Go.MuLone Go.Maps
def lk (wide g p s d : Int) (back : Value) : Array Value := #[.int .u64 wide, .int .u64 g, .int .u64 p, .int .i32 s, .int .u32 0, .int .u32 d, .int .i32 0, .int .u32 0, back]
/-- A lock at block b: its map at block m, if it was made; which tickets were handed back (D). -/
def LockO (w : World) (b : Nat) (m : Option Nat) (D : DataW Unit) (n : Nat) (wide g p s : Int) : Prop :=
  match m with
  | none => w.heap[b]? = some (.cells (lk wide g p s 0 (.map none)) 61) ∧ D = .map []
  | some bm => w.heap[b]? = some (.cells (lk wide g p s 1 (.map (some bm))) 61) ∧ bm ≠ b ∧ w.ownsMap Try.prog 33 unitElem bm n D
theorem a_add (a : Addr) (x y : Int) (w : World) (h0 : w.cell? a = some (.int .u64 x)) (hz : w.frozen? a = false) :
    Calls Try.prog 19 #[.pointer (some a), .int .u64 y] w fun e w' => e = .returned (.int .u64 (IntKind.u64.wrap (x + y))) ∧ w' = w.setCell a (.int .u64 (IntKind.u64.wrap (x + y))) := by
  have hl := run_call_add (P := Try.prog) Try.func25 (by kernel_rfl) (by kernel_rfl) (by kernel_rfl) .u64 (by kernel_rfl) (y := y) (s := IntKind.u64.wrap (x + y)) h0 hz (by simp [go_sem])
  go_enter Try.func19, Try.ntmps19
  go_wp2
  go_ret
  exact ⟨rfl, rfl⟩
theorem a_load (a : Addr) (x : Int) (w : World) (h0 : w.cell? a = some (.int .u64 x)) :
    Calls Try.prog 24 #[.pointer (some a)] w fun e w' => e = .returned (.int .u64 x) ∧ w' = w := by
  have hl := run_call_load (P := Try.prog) Try.func30 (by kernel_rfl) (by kernel_rfl) (by kernel_rfl) .u64 (by kernel_rfl) h0
  go_enter Try.func24, Try.ntmps24
  go_wp2
  go_ret
  exact ⟨rfl, rfl⟩
theorem own_empty {P : Program} {k : TypeId} {R : Value → Option (DataW Unit × List MemPlace)} {w : World} {b : Nat} (h : w.heap[b]? = some (.map #[] 0)) : w.ownsMap P k R b 0 (.map []) :=
  ⟨#[], 0, h, ⟨by simp, Go.MapKept.stamped_empty 0, by simp⟩, Nat.le_refl _, rfl⟩
def RNew (b : Nat) (wide g p s : Int) (w1 w2 : World) (c2 : Array Value) : Prop :=
  ∃ bm, bm = w1.heap.size ∧ c2 = (lk wide g p s 0 (.map (some bm))).setIfInBounds 6 (.int .i32 1) ∧ w2.heap[bm]? = some (.map #[] 0) ∧ Ch (· = b) w1 w2
theorem c_made (b pl : Nat) (wide g p s : Int) (w : World) (hp : w.cell? ⟨pl, 0, none⟩ = some (.pointer (some ⟨b, 0, none⟩)))
    (hb : w.heap[b]? = some (.cells ((lk wide g p s 0 (.map none)).setIfInBounds 6 (.int .i32 1)) 61)) :
    Calls Try.prog 29 #[.pointer (some ⟨pl, 0, none⟩)] w (Kept1 b 5 61 (RNew b wide g p s) w) := by
  have HB := Lib.hid hb
  have hl := blk_lt hb
  have HB1 := Lib.hid (blk_alloc (.map #[] 0) hb)
  have HN := Lib.hid (blk_new w (.map #[] 0))
  clear hb
  have c8 := blk_cell HB1.out 8 (v := .map none) rfl
  have z8 := blk_frozen HB1.out 8
  have hmm := @run_makeMap Try.prog
  go_enter Try.func29, Try.ntmps29
  go_wp2
  go_end0
  refine ⟨rfl, _, blk_alloc _ (blk_set HB.out 8 (.map (some w.heap.size))), rfl, rfl, w.heap.size, rfl, rfl, blk_new' _ _ _ (by rw [size_setCell]), ?_⟩
  exact Ch.alloc (Ch.setCell (S := (· = b)) (Ch.refl _ w) (p := ⟨b, 8, none⟩) (.inl rfl) _) _
/-- The lock's map: made now, or there already. -/
def HandedP (b : Nat) (m : Option Nat) (D : DataW Unit) (n : Nat) (wide g p s : Int) (w : World) (e : Ending) (w' : World) : Prop :=
  ∃ bm, e = .returned (.map (some bm)) ∧ LockO w' b (some bm) D n wide g p s ∧ Ch (· = b) w w' ∧ (m = some bm ∨ (m = none ∧ w.heap.size ≤ bm))
theorem c_handed (b : Nat) (m : Option Nat) (D : DataW Unit) (n : Nat) (wide g p s : Int) (w : World) (h : LockO w b m D n wide g p s) :
    Calls Try.prog 23 #[.pointer (some ⟨b, 0, none⟩)] w (HandedP b m D n wide g p s w) := by
  have hmf : ∀ (fn : Fn) (first cap : Array Value) (w : World), (Instr.makeFunc fn first cap).run Try.prog w = .ok (.func fn first cap) w := fun _ _ _ _ => rfl
  cases m with
  | none =>
    obtain ⟨hb, rfl⟩ := h
    have hl := blk_lt hb
    have HB := Lib.hid (blk_alloc (.cells #[.pointer (some ⟨b, 0, none⟩)] 24) hb)
    have HV := Lib.hid (blk_new w (.cells #[.pointer (some ⟨b, 0, none⟩)] 24))
    clear hb
    go_enter Try.func23, Try.ntmps23
    go_wp2_with fail
    refine (o_first b 5 61 _ _ _ (RNew b wide g p s) _ HB.out (fun _ => by kernel_rfl) rfl rfl (fun w1 hc h1 => ?_)).mono ?_
    · exact c_made b w.heap.size wide g p s w1 (blk_cell (hc.blk HV.out (by omega)) 0 rfl) h1
    · rintro e w' ⟨rfl, w1, w2, c2, hc1, ⟨bm, hbm, rfl, hm2, hc2⟩, h3, hc3⟩
      have s1 := hc1.size
      have s2 := hc2.size
      have hlm := blk_lt hm2
      simp only [World.alloc, Array.size_push] at s1
      have HV3 := Lib.hid (hc3.blk (hc2.blk (hc1.blk HV.out (by omega)) (by omega)) (show ¬ w.heap.size = b by omega))
      have H3 := Lib.hid h3
      have HM3 := Lib.hid (hc3.blk hm2 (by omega))
      have C3 := Lib.hid (((Ch.alloc (Ch.refl (· = b) w) (.cells #[.pointer (some ⟨b, 0, none⟩)] 24)).trans hc1).trans (hc2.trans hc3))
      have hne : bm ≠ b := by omega
      have HBM := Lib.hid hbm
      clear hbm
      clear h3 hm2 hc1 hc2 hc3
      have v0 := blk_cell HV3.out 0 rfl
      have c8 := blk_cell H3.out 8 (v := .map (some bm)) rfl
      go_wp2_with fail
      go_ret
      exact ⟨bm, rfl, ⟨H3.out, hne, (own_empty HM3.out).mono (Nat.zero_le _)⟩, C3.out, .inr ⟨rfl, by have := HBM.out; omega⟩⟩
  | some bm =>
    obtain ⟨hb, hne, hown⟩ := h
    have hl := blk_lt hb
    have HB := Lib.hid (blk_alloc (.cells #[.pointer (some ⟨b, 0, none⟩)] 24) hb)
    have HV := Lib.hid (blk_new w (.cells #[.pointer (some ⟨b, 0, none⟩)] 24))
    have HO := Lib.hid (hown.alloc (.cells #[.pointer (some ⟨b, 0, none⟩)] 24))
    clear hb hown
    have v0 := blk_cell HV.out 0 rfl
    have c8 := blk_cell HB.out 8 (v := .map (some bm)) rfl
    go_enter Try.func23, Try.ntmps23
    go_wp2_with fail
    refine (o_done _ 1 (by decide) _ _ (blk_cell HB.out 5 rfl)).mono ?_
    rintro e w' ⟨rfl, rfl⟩
    go_wp2_with fail
    go_ret
    exact ⟨bm, rfl, ⟨HB.out, hne, HO.out⟩, Ch.alloc (Ch.refl _ w) _, .inl rfl⟩
end Go.Proofs.Ytjjjokhbkkifjaa.P
