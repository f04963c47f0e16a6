/- Stage 6: slices.Clone of strings; Image. No condition. -/
import Derived.Test.YtlpcccpagmipnaaGreatD8
import Derived.ArgAppend
import Derived.Lib.SliceRun
set_option linter.unusedVariables false
set_option maxRecDepth 50000
namespace Go.Proofs.YtlpcccpagmipnaaGreat.P
open Go.RowKit
theorem strInfo : (Tryz.prog.info? 9).map (fun i => (i.zero, i.size, i.bytes)) = some (some (.string ⟨#[]⟩), 1, 16) := by kernel_rfl
theorem strs_length (l : List ByteArray) : (strs l).length = l.length := List.length_map _
theorem strs_one (l : List ByteArray) : ∀ u ∈ strs l, u.oneCell' = true := by
  intro u hu
  obtain ⟨x, _, rfl⟩ := List.mem_map.1 hu
  rfl
set_option maxHeartbeats 1600000 in
theorem c_clone (w : World) (sb n c : Nat) (l : List ByteArray) (hl : l.length = n) (hn : 1 ≤ n) (hn2 : n ≤ 1000000) (hc : ∀ j u, (strs l)[j]? = some u → w.cell? ⟨sb, j, none⟩ = some u) :
    Calls Tryz.prog 64 #[.slice (some ⟨sb, 0, none⟩) n c] w fun e w' => ∃ g cap, e = .returned (.slice (some ⟨g, 0, none⟩) n cap) ∧ w'.ownsRow 0 9 1 (.slice (some ⟨g, 0, none⟩) n cap) n (strs l) ∧ w.heap.size ≤ g ∧ Gr w w' := by
  obtain ⟨i0, hi, hz0, hz1, hz2⟩ := info_parts strInfo
  have HC := Lib.hid hc
  have HL := Lib.hid hl
  clear hc hl
  have hq : ∀ (w : World) (a : Addr) (n c : Nat), (binOp .eql 42 (.slice (some a) n c) (.slice none 0 0)).run Tryz.prog w = .ok (.bool false) w := fun w a n c => Go.Lib.run_eql_slice_nil w _ _ (some a) n c 0 0 Tryz.underlying42
  go_enter Tryz.func64, Tryz.ntmps64
  go_wp2_with (at_builtin; refine wpList_append_grows _ rfl _ _ 42 rfl 9 i0 (.string ⟨#[]⟩) 1 16 Tryz.underlying42 hi hz0 hz1 hz2 rfl (by decide) (some ⟨w.heap.size, 0, none⟩) 0 0 [] rfl (by simp) rfl (by intro b _ j u h; simp at h) ⟨sb, 0, none⟩ n c (strs l) rfl (by rw [strs_length, HL.out]; omega) (fun j u h => by rw [Addr.add_lit, Nat.zero_add]; exact calloc _ (HC.out j u h)) (strs_one l) (by omega) (by unfold maxLen; omega) (by omega) ?_; intro v' w1 hown hgrow)
  go_ret
  have hg0 : Gr w (w.alloc (.cells #[] 9)) := Below.alloc (Below.refl _ _) (Nat.le_refl _) _
  have hg1 : Gr (w.alloc (.cells #[] 9)) w1 := ⟨hgrow.os, hgrow.tape, hgrow.output, hgrow.size, fun k hk => hgrow.block k hk (fun e => by cases e)⟩
  obtain ⟨h1, ⟨rfl, h2⟩ | ⟨g, cap, cur, rfl, hb, hr⟩⟩ := hown
  · omega
  · rw [Nat.zero_add] at *
    exact ⟨g, cap, rfl, ⟨h1, .inr ⟨g, cap, cur, rfl, Nat.zero_le _, hr⟩⟩, by have := hg0.size; omega, gtrans hg0 hg1⟩
end Go.Proofs.YtlpcccpagmipnaaGreat.P
namespace Go.Proofs.YtlpcccpagmipnaaGreat.P
open Go.RowKit
theorem c_dimage (w : World) (d sb : Nat) (wb : Option Nat) (z : DState) (h : DiskO w d sb wb z) (hn : 1 ≤ z.safe.length) (hn2 : z.safe.length ≤ 1000000) :
    Calls Tryz.prog 56 #[.pointer (some ⟨d, 0, none⟩)] w fun e w' => ∃ g cap, e = .returned (.slice (some ⟨g, 0, none⟩) z.safe.length cap) ∧ w'.ownsRow 0 9 1 (.slice (some ⟨g, 0, none⟩) z.safe.length cap) z.safe.length (strs z.safe) ∧ w.heap.size ≤ g ∧ Gr w w' := by
  obtain ⟨sc, wo, wc, hb, hs, hr⟩ := h
  have c0 := blk_cell hb 0 (v := .slice (some ⟨sb, 0, none⟩) z.safe.length sc) rfl
  have CC := c_clone w sb z.safe.length sc z.safe rfl hn hn2 (fun j u hu => by
    have hj := (List.getElem?_eq_some_iff.1 hu).1
    rw [World.ownsRow.cellAt hs j (by rw [strs_length] at hj; omega)]; exact hu)
  clear hb hs hr
  go_enter Tryz.func56, Tryz.ntmps56
  go_wp2_with fail
  refine CC.mono ?_; rintro e w2 ⟨g, cap, rfl, h1, h2, h3⟩
  have H1 := Lib.hid h1
  have H2 := Lib.hid h2
  have H3 := Lib.hid h3
  clear h1 h2 h3
  go_wp2_with fail
  go_ret
  exact ⟨g, cap, rfl, H1.out, H2.out, H3.out⟩
theorem c_dread_off (w : World) (d sb : Nat) (wb : Option Nat) (z : DState) (h : DiskO w d sb wb z) (ho : z.off = true) (i : Int) :
    Calls Tryz.prog 65 #[.pointer (some ⟨d, 0, none⟩), .int .i64 i] w fun e w' => e = .returned (.tuple #[.string ⟨#[]⟩, .int .i64 7]) ∧ Gr w w' := by
  obtain ⟨sv, wv, hb⟩ := h.cellsOf
  have c2 := blk_cell hb 2 (v := .bool z.off) rfl
  rw [ho] at c2
  have c2a := calloc (.cells #[.int .i64 0] 29) (calloc (.cells #[.string ⟨#[]⟩] 9) (calloc (.cells #[.int .i64 i] 3) c2))
  have hd := blk_lt hb
  clear hb h
  go_enter Tryz.func65, Tryz.ntmps65
  go_wp2
  refine bodyPost_ret (res_cc rfl _ _ _ _ _ _ _ rfl rfl (by go_simp) (by go_simp)) rfl ⟨rfl, ?_⟩
  go_grown
end Go.Proofs.YtlpcccpagmipnaaGreat.P
