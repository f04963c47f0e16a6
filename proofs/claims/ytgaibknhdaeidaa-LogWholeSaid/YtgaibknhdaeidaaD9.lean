/- Stage 6: slices.Clone of strings; Image. No condition. -/
import Derived.Test.YtgaibknhdaeidaaD8
import Derived.ArgAppend
import Derived.Lib.SliceRun
set_option linter.unusedVariables false
set_option maxRecDepth 50000
namespace Go.Proofs.Ytgaibknhdaeidaa.P
open Go.RowKit
theorem strInfo : (Try.prog.info? 9).map (fun i => (i.zero, i.size, i.bytes)) = some (some (.string ⟨#[]⟩), 1, 16) := by kernel_rfl
theorem strs_length (l : List ByteArray) : (strs l).length = l.length := List.length_map _
theorem strs_one (l : List ByteArray) : ∀ u ∈ strs l, u.oneCell' = true := by
  intro u hu
  obtain ⟨x, _, rfl⟩ := List.mem_map.1 hu
  rfl
set_option maxHeartbeats 1600000 in
theorem c_clone (w : World) (sb n c : Nat) (l : List ByteArray) (hl : l.length = n) (hn : 1 ≤ n) (hn2 : n ≤ 1000000) (hc : ∀ j u, (strs l)[j]? = some u → w.cell? ⟨sb, j, none⟩ = some u) :
    Calls Try.prog 38 #[.slice (some ⟨sb, 0, none⟩) n c] w fun e w' => ∃ g cap, e = .returned (.slice (some ⟨g, 0, none⟩) n cap) ∧ w'.ownsRow 0 9 1 (.slice (some ⟨g, 0, none⟩) n cap) n (strs l) ∧ w.heap.size ≤ g ∧ Gr w w' := by
  obtain ⟨i0, hi, hz0, hz1, hz2⟩ := info_parts strInfo
  have HC := Lib.hid hc
  have HL := Lib.hid hl
  clear hc hl
  have hq : ∀ (w : World) (a : Addr) (n c : Nat), (binOp .eql 24 (.slice (some a) n c) (.slice none 0 0)).run Try.prog w = .ok (.bool false) w := fun w a n c => Go.Lib.run_eql_slice_nil w _ _ (some a) n c 0 0 Try.underlying24
  go_enter Try.func38, Try.ntmps38
  go_wp2_with (at_builtin; refine wpList_append_grows _ rfl _ _ 24 rfl 9 i0 (.string ⟨#[]⟩) 1 16 Try.underlying24 hi hz0 hz1 hz2 rfl (by decide) (some ⟨w.heap.size, 0, none⟩) 0 0 [] rfl (by simp) rfl (by intro b _ j u h; simp at h) ⟨sb, 0, none⟩ n c (strs l) rfl (by rw [strs_length, HL.out]; omega) (fun j u h => by rw [Addr.add_lit, Nat.zero_add]; exact calloc _ (HC.out j u h)) (strs_one l) (by omega) (by unfold maxLen; omega) (by omega) ?_; intro v' w1 hown hgrow)
  go_ret
  have hg0 : Gr w (w.alloc (.cells #[] 9)) := Below.alloc (Below.refl _ _) (Nat.le_refl _) _
  have hg1 : Gr (w.alloc (.cells #[] 9)) w1 := ⟨hgrow.os, hgrow.tape, hgrow.output, hgrow.size, fun k hk => hgrow.block k hk (fun e => by cases e)⟩
  obtain ⟨h1, ⟨rfl, h2⟩ | ⟨g, cap, cur, rfl, hb, hr⟩⟩ := hown
  · omega
  · rw [Nat.zero_add] at *
    exact ⟨g, cap, rfl, ⟨h1, .inr ⟨g, cap, cur, rfl, Nat.zero_le _, hr⟩⟩, by have := hg0.size; omega, gtrans hg0 hg1⟩
end Go.Proofs.Ytgaibknhdaeidaa.P
