/- Stage 6: New. No condition. -/
import Derived.Test.YtgaibknhdaeidaaE4
import Derived.Test.YtgaibknhdaeidaaE1
set_option linter.unusedVariables false
set_option maxRecDepth 50000
namespace Go.Proofs.Ytgaibknhdaeidaa.P
open Go.RowKit
/-- A fresh disk. -/
def newZ (l : List ByteArray) : DState := ⟨l, [], false, false, 0⟩
def NewP (l : List ByteArray) (w : World) (e : Ending) (w' : World) : Prop := ∃ d sb, e = .returned (.tuple #[.pointer (some ⟨d, 0, none⟩), .int .i64 0]) ∧ DiskO w' d sb none (newZ l) ∧ w.heap.size ≤ d ∧ w.heap.size ≤ sb ∧ Gr w w'
theorem ownsRow_blk {w : World} {g : Nat} {xs : List Value} {e : TypeId} {size n : Nat} (h : w.heap[g]? = some (.cells xs.toArray e)) (hl : xs.length = n * size) (hm : n ≤ maxLen) : w.ownsRow 0 e size (.slice (some ⟨g, 0, none⟩) n n) n xs :=
  ⟨hl, .inr ⟨g, n, xs.toArray, rfl, Nat.zero_le _, h, Nat.le_refl _, hm, by simpa using hl, List.take_of_length_le (by simpa using Nat.le_of_eq hl)⟩⟩
theorem repL_strs (k : Nat) (s : ByteArray) : repL k k s = strs (List.replicate k s) := by
  unfold repL strs; rw [Nat.sub_self, List.replicate_zero, List.append_nil, List.map_replicate]
theorem c_new_no (n : Int) (hn : ¬ (48 ≤ n ∧ n ≤ 544)) (w : World) : Calls Try.prog 11 #[.int .i64 n] w fun e w' => e = .returned (.tuple #[.pointer none, .int .i64 1]) ∧ Gr w w' := by
  have hb : (decide (48 ≤ n) && decide (n ≤ 544)) = false := by
    rw [Bool.and_eq_false_iff, decide_eq_false_iff_not, decide_eq_false_iff_not]; omega
  have CM := fun w => c_may n w
  rw [hb] at CM
  clear hb hn
  go_enter Try.func11, Try.ntmps11
  go_wp2_with (go_at_call 27; refine (CM _).mono ?_; rintro e w' ⟨rfl, rfl⟩)
  go_ret2
  exact ⟨rfl, Gr.refl _⟩
theorem zeros_rep : (⟨(Lib.repeatL [(0 : UInt8)] 64).toArray⟩ : ByteArray) = z64 := by decide +kernel
set_option maxHeartbeats 800000 in
theorem c_new (n : Nat) (h1 : 48 ≤ n) (h2 : n ≤ 544) (w : World) : Calls Try.prog 11 #[.int .i64 (n : Int)] w (NewP (List.replicate n z64) w) := by
  have hb : (decide (48 ≤ (n : Int)) && decide ((n : Int) ≤ 544)) = true := by
    rw [Bool.and_eq_true, decide_eq_true_eq, decide_eq_true_eq]; omega
  have CM := fun w => c_may n w
  rw [hb] at CM
  have CS := fun w => sh_strings_Repeat ⟨#[0]⟩ 64 w (by decide) (by decide)
  have hz : ∀ w : World, Calls Try.prog 28 #[.string ⟨#[0]⟩, .int .i64 64] w fun e w' => e = .returned (.string z64) ∧ Gr w w' := fun w => (CS w).mono fun e w' h => by
    refine ⟨h.1.trans ?_, h.2⟩
    rw [← zeros_rep]
  have HM := Lib.hid CM
  have HZ := Lib.hid hz
  clear hb CM CS hz
  go_enter Try.func11, Try.ntmps11
  go_wp2_with (first
    | (go_at_call 27; refine (HM.out _).mono ?_; rintro e w' ⟨rfl, h9⟩; subst h9)
    | (go_at_call 28; refine (HZ.out _).mono ?_; rintro e w1 ⟨rfl, g1⟩; have G1 := Lib.hid g1; clear g1)
    | fail)
  refine (c_repeat _ w1.heap.size 1 z64 (cnew w1 #[.string z64] 9 0 rfl) n (by omega) (by omega)).mono ?_
  rintro e w2 ⟨g, rfl, hb, hg, g2⟩
  have HB := Lib.hid hb
  have g3 : Gr w' w2 := gtrans (gtrans G1.out (Below.alloc (Below.refl _ _) (Nat.le_refl _) _)) g2
  have HG := Lib.hid g3
  have hge : w'.heap.size ≤ g := by have := G1.out.size; simp at hg; omega
  have HGE := Lib.hid hge
  clear hb g2 hg g3 hge
  go_wp2_with fail
  go_ret2
  refine ⟨_, g, rfl, ⟨n, none, 0, ?_, ?_, ⟨rfl, .inl ⟨rfl, rfl⟩⟩, rfl, ?_, (by simp), (by simp)⟩, HG.out.size, HGE.out, HG.out.alloc (HG.out.size) _⟩
  · have := blk_new w2 (.cells #[.slice (some ⟨g, 0, none⟩) n n, .slice none 0 0, .bool false, .bool false, .int .i64 0] 61)
    rw [show (newZ (List.replicate n z64)).safe.length = n from List.length_replicate]
    exact this
  · rw [show (newZ (List.replicate n z64)).safe.length = n from List.length_replicate]
    have h8 := ownsRow_blk (size := 1) HB.out (n := n) (by rw [repL_len n n z64 (Nat.le_refl _), Nat.mul_one]) (by unfold maxLen; omega)
    rw [repL_strs] at h8
    exact ownsRow_ch (S := fun _ => False) h8 ((Ch.refl _ w2).alloc _) (fun _ _ h => h)
  · have := blk_lt HB.out; omega
end Go.Proofs.Ytgaibknhdaeidaa.P
