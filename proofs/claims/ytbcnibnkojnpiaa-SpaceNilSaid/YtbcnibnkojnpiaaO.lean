/- sync.Once in a run of one goroutine: the first call of Do, its function given by a contract; a later one. No condition. -/
import Derived.Test.YtbcnibnkojnpiaaM
import Derived.Test.YtbcnibnkojnpiaaMu
import Derived.Defers
import Derived.Laws.Pointers
import Derived.Laws.LoneSync
import Derived.RegionTactic
import Derived.RegionCalls
import Derived.WalkKit
set_option linter.unusedVariables false
namespace Go.Proofs.Ytbcnibnkojnpiaa.P
open Go.RowKit Go.MuLone
theorem o_not (x : Bool) (w : World) : (Op.unary .not (.bool x)).run Try.prog w = .ok (.bool (!x)) w := rfl
theorem o_bload (a : Addr) (d : Int) (w : World) (h0 : w.cell? a = some (.int .u32 d)) :
    Calls Try.prog 73 #[.pointer (some a)] w fun e w' => e = .returned (.bool (d != 0)) ∧ w' = w := by
  have hl := run_call_load (P := Try.prog) Try.func75 (by kernel_rfl) (by kernel_rfl) (by kernel_rfl) .u32 (by kernel_rfl) h0
  go_enter Try.func73, Try.ntmps73
  go_wp2
  go_ret
  exact ⟨rfl, rfl⟩
theorem o_store (a : Addr) (x : Value) (u : FrameMode) (w : World) (hc : w.cell? a = some x) (hz : w.frozen? a = false) :
    CallsD Try.prog 78 #[.pointer (some a), .bool true] u w fun e u' w' => u' = u ∧ (e = .returned (.tuple #[]) ∧ w' = w.drew.setCell a (.int .u32 1)) := by
  have hc' : w.drew.cell? a = some x := by go_simp
  have hz' : w.drew.frozen? a = false := by go_simp
  have hst := run_call_store (P := Try.prog) Try.func81 (by kernel_rfl) (by kernel_rfl) (by kernel_rfl) (by kernel_rfl) (k := .u32) (y := 1) hc' hz'
  go_enter_d Try.func78, Try.ntmps78
  go_wp2
  go_region_calls
  all_goals (go_end0; exact ⟨rfl, rfl⟩)
/-- Do, done already. -/
theorem o_done (a : Addr) (d : Int) (hd : (d != 0) = true) (fv : Value) (w : World) (h0 : w.cell? a = some (.int .u32 d)) :
    Calls Try.prog 71 #[.pointer (some a), fv] w fun e w' => e = .returned (.tuple #[]) ∧ w' = w := by
  have hnot := o_not
  go_enter Try.func71, Try.ntmps71
  go_wp2_with (go_at_call 73; refine (o_bload _ d _ h0).mono ?_; rintro e w' ⟨rfl, rfl⟩)
  go_end0
  exact ⟨rfl, rfl⟩
/-- What the function given to Do must keep: the block of the Once stays there, its own cells as they were. -/
def Kept1 (b off : Nat) (T : TypeId) (R : World → World → Array Value → Prop) (w1 : World) (e : Ending) (w2 : World) : Prop :=
  e = .returned (.tuple #[]) ∧ ∃ c2, w2.heap[b]? = some (.cells c2 T) ∧ c2[off]? = some (.int .u32 0) ∧ c2[off + 1]? = some (.int .i32 1) ∧ R w1 w2 c2
def Once1 (b off : Nat) (T : TypeId) (R : World → World → Array Value → Prop) (w : World) (e : Ending) (w' : World) : Prop :=
  e = .returned (.tuple #[]) ∧ ∃ w1 w2 c2, Ch (· = b) w w1 ∧ R w1 w2 c2 ∧ w'.heap[b]? = some (.cells ((c2.setIfInBounds off (.int .u32 1)).setIfInBounds (off + 1) (.int .i32 0)) T) ∧ Ch (· = b) w2 w'
set_option maxRecDepth 100000 in
set_option maxHeartbeats 1600000 in
theorem o_slow (b off : Nat) (T : TypeId) (c : Array Value) (g : FuncId) (caps : Array Value) (R : World → World → Array Value → Prop) (w : World) (hb : w.heap[b]? = some (.cells c T))
    (hg : ∀ w, (callFunc g caps).run Try.prog w = .ok (.enter g caps) w) (h0 : c[off]? = some (.int .u32 0)) (h1 : c[off + 1]? = some (.int .i32 0))
    (hcl : ∀ w1, Ch (· = b) w w1 → w1.heap[b]? = some (.cells (c.setIfInBounds (off + 1) (.int .i32 1)) T) → Calls Try.prog g caps w1 (Kept1 b off T R w1)) :
    Calls Try.prog 74 #[.pointer (some ⟨b, off, none⟩), .func (.func g) #[] caps] w (Once1 b off T R w) := by
  have hnot := o_not
  have HB := Lib.hid hb
  have HC := Lib.hid hcl
  have H0 := Lib.hid h0
  have H1 := Lib.hid h1
  clear hb hcl h0 h1
  go_enter_defers Try.func74, Try.ntmps74
  go_wp2_with (go_at_call 76; refine (lock_free Try.muLib ⟨b, off + 1, none⟩ _ (blk_cell HB.out _ H1.out) (blk_frozen HB.out _)).mono ?_; rintro e w' ⟨rfl, rfl⟩)
  have B1 := Lib.hid (blk_set HB.out (off + 1) (.int .i32 1))
  have C1 : RowKit.Hid (Ch (· = b) w (w.setCell ⟨b, off + 1, none⟩ (.int .i32 1))) := Lib.hid (Ch.setCell (S := (· = b)) (Ch.refl _ w) (.inl rfl) _)
  have e0 : (c.setIfInBounds (off + 1) (.int .i32 1))[off]? = some (.int .u32 0) := by
    rw [Array.getElem?_setIfInBounds_ne (by omega)]; exact H0.out
  have E0 := Lib.hid e0
  clear e0
  refine (o_bload _ 0 _ (blk_cell B1.out _ E0.out)).mono ?_; rintro e w' ⟨rfl, rfl⟩
  go_wp2_with fail
  refine (HC.out _ C1.out B1.out).mono ?_
  rintro e w2 ⟨rfl, c2, hb2, k0, k1, hR⟩
  have B2 := Lib.hid hb2
  have K0 := Lib.hid k0
  have K1 := Lib.hid k1
  have HR := Lib.hid hR
  clear hb2 k0 k1 hR
  go_wp2_with fail
  refine leaves_cons (f := 78) (args := #[.pointer (some ⟨b, off, none⟩), .bool true]) (by simp) (by simp [go_sem]) ?_
  refine (o_store ⟨b, off, none⟩ (.int .u32 0) .returning _ (blk_cell B2.out _ K0.out) (blk_frozen B2.out _)).mono ?_
  rintro e u' w'' ⟨rfl, rfl, rfl⟩
  have B3 := Lib.hid (blk_set (blk_drew B2.out) off (.int .u32 1))
  have k1 : (c2.setIfInBounds off (.int .u32 1))[off + 1]? = some (.int .i32 1) := by rw [Array.getElem?_setIfInBounds_ne (by omega)]; exact K1.out
  refine leaves_cons (f := 77) (args := #[.pointer (some ⟨b, off + 1, none⟩)]) (by simp [settle]) (by simp [go_sem]) ?_
  refine (unlock_deferred Try.muLib ⟨b, off + 1, none⟩ _ _ (blk_cell B3.out _ k1) (blk_frozen B3.out _)).mono ?_
  rintro e u' w'' ⟨rfl, rfl, rfl⟩
  have B4 := blk_set B3.out (off + 1) (.int .i32 0)
  have C4 : Ch (· = b) w2 ((w2.drew.setCell ⟨b, off, none⟩ (.int .u32 1)).setCell ⟨b, off + 1, none⟩ (.int .i32 0)) := Ch.setCell (S := (· = b)) (Ch.setCell (S := (· = b)) ((Ch.refl _ w2).drew) (.inl rfl) _) (.inl rfl) _
  have fin : Once1 b off T R w (.returned (.tuple #[])) ((w2.drew.setCell ⟨b, off, none⟩ (.int .u32 1)).setCell ⟨b, off + 1, none⟩ (.int .i32 0)) := ⟨rfl, _, w2, c2, C1.out, HR.out, B4, C4⟩
  have FIN := Lib.hid fin
  clear fin B4 C4
  simp [Leaves, settle, results, Try.results74]
  exact FIN.out
/-- Do, for the first time, the Once's own lock free. -/
theorem o_first (b off : Nat) (T : TypeId) (c : Array Value) (g : FuncId) (caps : Array Value) (R : World → World → Array Value → Prop) (w : World) (hb : w.heap[b]? = some (.cells c T))
    (hg : ∀ w, (callFunc g caps).run Try.prog w = .ok (.enter g caps) w) (h0 : c[off]? = some (.int .u32 0)) (h1 : c[off + 1]? = some (.int .i32 0))
    (hcl : ∀ w1, Ch (· = b) w w1 → w1.heap[b]? = some (.cells (c.setIfInBounds (off + 1) (.int .i32 1)) T) → Calls Try.prog g caps w1 (Kept1 b off T R w1)) :
    Calls Try.prog 71 #[.pointer (some ⟨b, off, none⟩), .func (.func g) #[] caps] w (Once1 b off T R w) := by
  have hnot := o_not
  have HB := Lib.hid hb
  have HC := Lib.hid hcl
  have H0 := Lib.hid h0
  have H1 := Lib.hid h1
  clear hb hcl h0 h1
  go_enter Try.func71, Try.ntmps71
  go_wp2_with (go_at_call 73; refine (o_bload _ 0 _ (blk_cell HB.out _ H0.out)).mono ?_; rintro e w' ⟨rfl, rfl⟩)
  refine (o_slow b off T c g caps R _ HB.out hg H0.out H1.out HC.out).mono ?_
  rintro e w' ⟨rfl, hp⟩
  have HP : RowKit.Hid (Once1 b off T R _ (.returned (.tuple #[])) w') := Lib.hid ⟨rfl, hp⟩
  clear hp
  go_wp2_with fail
  go_end0
  exact HP.out
end Go.Proofs.Ytbcnibnkojnpiaa.P
