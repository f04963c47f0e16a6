/- Stage 15: the document's lock: Ask, Pass; both locks side by side. No condition. -/
import Derived.Test.YtjjjokhbkkifjaaL6
set_option linter.unusedVariables false
namespace Go.Proofs.Ytjjjokhbkkifjaa.P
open Go.RowKit Go.MuLone Go.Maps
def KeptR (rb : Nat) (vb : Option Nat) (w w' : World) (vb' : Option Nat) : Prop := Ch (fun x => x = rb ∨ vb = some x) w w' ∧ (vb' = vb ∨ ∃ g, vb' = some g ∧ w.heap.size ≤ g)
theorem boolInfo : (Try.prog.info? 4).map (fun i => (i.zero, i.size, i.bytes)) = some (some (.bool false), 1, 1) := by kernel_rfl
def RAskP (rb : Nat) (vb : Option Nat) (wide p : Int) (l : List Bool) (w : World) (e : Ending) (w' : World) : Prop :=
  e = .returned (.int .u64 l.length) ∧ ∃ vb', RefO w' rb vb' wide p (l ++ [false]) ∧ KeptR rb vb w w' vb'
set_option maxHeartbeats 800000 in
theorem r_ask (rb : Nat) (vb : Option Nat) (wide p : Int) (l : List Bool) (w : World) (h : RefO w rb vb wide p l) (h3 : l.length ≤ 70368744177664) :
    Calls Try.prog 10 #[.pointer (some ⟨rb, 0, none⟩)] w (RAskP rb vb wide p l w) := by
  obtain ⟨o, cap, hb, hown, hvb, hne⟩ := h
  obtain ⟨i0, hi, hz0, hz1, hz2⟩ := info_parts boolInfo
  have hlb := blk_lt hb
  have HB := Lib.hid hb
  have c1w := blk_cell hb 1 (v := .slice o l.length cap) rfl
  have c1 := blk_cell (blk_alloc (.cells #[.bool false] 4) hb) 1 (v := .slice o l.length cap) rfl
  have HOWN := Lib.hid hown
  have HVB := Lib.hid hvb
  have HNE := Lib.hid hne
  have e1 : IntKind.u64.wrap ((l.length : Int) + 1 - 1) = l.length := by rw [IntKind.wrap_u64]; omega
  clear hb hown hvb hne
  go_enter Try.func10, Try.ntmps10
  go_wp2_with (at_builtin; refine wpList_append_lies _ rfl _ _ _ rfl 0 4 i0 (.bool false) 1 1 Try.underlying30 hi hz0 hz1 hz2 rfl (by omega) (.slice o l.length cap) l.length (l.map Value.bool) rfl (HOWN.out.alloc _) ⟨w.heap.size, 0, none⟩ 1 1 [.bool false] rfl rfl (World.news_of_block (cs := #[.bool false]) (blk_new _ _)) (by simp [Value.oneCell']) (by omega) (by unfold maxLen; omega) (by omega) (by omega) (w.heap.size + 1) (by simp) ?_; intro g cap' w1 hown' hgrow hat hlt; have B1 := Lib.hid ((Ch.of_grown hgrow).blk (blk_alloc (.cells #[.bool false] 4) HB.out) (fun e => HNE.out (HVB.out.symm.trans e))); have d1 := blk_cell B1.out 1 rfl; have z1 := blk_frozen B1.out 1; have HO1 := Lib.hid hown'; have HG1 := Lib.hid hgrow; have HA1 := Lib.hid hat; clear hown' hgrow hat)
  go_ret
  have hgr : g ≠ rb := by
    rcases HA1.out with e | e
    · exact fun h => HNE.out (by rw [← HVB.out, e, h])
    · omega
  have hC : Ch (fun x => x = rb ∨ vb = some x) w w1 := ((Ch.refl _ w).alloc _).trans2 (Ch.of_grown HG1.out) (fun x hx _ => .inr (HVB.out.symm.trans hx))
  refine ⟨ret_u (by simp), some g, ⟨some ⟨g, 0, none⟩, cap', ?_, ?_, rfl, fun e => hgr (by injection e)⟩, hC.setCell (.inl (.inl rfl)) _, ?_⟩
  · rw [blk_set B1.out 1 _]; simp
  · have h1 := ownsRow_ch (S := (· = rb)) HO1.out (Ch.setCell (S := (· = rb)) (Ch.refl _ w1) (p := ⟨rb, 1, none⟩) (.inl rfl) (.slice (some ⟨g, 0, none⟩) (l.length + 1) cap')) (fun x hx e => hgr (by injection hx with hx; exact hx.trans e))
    simpa using h1
  · rcases HA1.out with e | e
    · exact .inl (by rw [← e, HVB.out])
    · exact .inr ⟨g, rfl, by omega⟩
def RPassP (rb : Nat) (vb : Option Nat) (wide p r : Int) (l : List Bool) (w : World) (e : Ending) (w' : World) : Prop :=
  e = .returned (.int .i64 r) ∧ RefO w' rb vb wide p l ∧ Ch (fun x => x = rb ∨ vb = some x) w w'
theorem r_pass_no (rb : Nat) (vb : Option Nat) (wide p : Int) (l : List Bool) (w : World) (h : RefO w rb vb wide p l) (h1 : 0 ≤ p) (h2 : p ≤ 4611686018427387904) (h3 : l.length ≤ 4611686018427387904) (h4 : 0 ≤ wide) (h5 : wide ≤ 64) (t : Int) (ht : 0 ≤ t) (hh : rhasB l wide p t = false) :
    Calls Try.prog 12 #[.pointer (some ⟨rb, 0, none⟩), .int .u64 t] w (RPassP rb vb wide p 1 l w) := by
  have H := Lib.hid h
  clear h
  go_enter Try.func12, Try.ntmps12
  go_wp2_with fail
  refine (r_has rb vb wide p l w H.out h1 h2 h3 h4 h5 t ht).mono ?_
  rintro e w' ⟨rfl, g⟩
  have G := Lib.hid g
  clear g
  go_wp2_with fail
  go_ret
  exact ⟨rfl, H.out.keep (S := fun _ => False) (Ch.of_gr G.out) (fun h => h) (fun _ _ h => h), Ch.of_gr G.out⟩
theorem setb (l : List Bool) (k : Nat) (b : Bool) : (l.map Value.bool).set k (.bool b) = (l.set k b).map Value.bool := by rw [List.map_set]
set_option maxHeartbeats 800000 in
theorem r_pass_yes (rb : Nat) (vb : Option Nat) (wide p : Int) (l : List Bool) (w : World) (h : RefO w rb vb wide p l) (h1 : 0 ≤ p) (h2 : p < 4611686018427387904) (h3 : l.length ≤ 4611686018427387904) (h4 : 0 ≤ wide) (h5 : wide ≤ 64) (k : Nat) (hh : rhasB l wide p k = true) :
    Calls Try.prog 12 #[.pointer (some ⟨rb, 0, none⟩), .int .u64 k] w (RPassP rb vb wide (p + 1) 0 (l.set k true) w) := by
  have hk : k < l.length := by
    unfold rhasB at hh; simp only [Bool.and_eq_true, decide_eq_true_eq] at hh; omega
  have H := Lib.hid h
  obtain ⟨o, cap, hb, hown, hvb, hne⟩ := h
  obtain ⟨_, ⟨hv, h0⟩ | ⟨g, cap', cur, hv, _, hg, _, _, hcs, htk⟩⟩ := id hown
  · omega
  · injection hv with hv _ hcap
    subst hv
    have HOWN := Lib.hid hown
    have hgr : g ≠ rb := fun e => hne (by rw [← hvb, e]; rfl)
    have HVB := Lib.hid hvb
    have HNE := Lib.hid hne
    clear hvb hne
    clear hg htk hown
    have HB := Lib.hid hb
    clear hb
    go_enter Try.func12, Try.ntmps12
    go_wp2_with fail
    refine (r_has rb vb wide p l w H.out h1 (by omega) h3 h4 h5 k (by omega)).mono ?_
    rintro e w' ⟨rfl, gg⟩
    have G := Lib.hid gg
    have HB1 := Lib.hid (blk_gr gg HB.out)
    have HO1 := Lib.hid (ownsRow_ch (S := fun _ => False) HOWN.out (Ch.of_gr gg) (fun _ _ h => h))
    clear gg
    have hk0 : (0 : Int) ≤ k := by omega
    have hki : (k : Int) < l.length := by omega
    have c1 := blk_cell HB1.out 1 rfl
    have c2 := blk_cell HB1.out 2 rfl
    have z2 := blk_frozen HB1.out 2
    have cc : w'.cell? ⟨g, k, none⟩ = some (.bool (l.getD k false)) := by
      rw [World.ownsRow.cellAt HO1.out k (by omega)]; simp [List.getD, List.getElem?_eq_getElem hk]
    have zc : w'.frozen? ⟨g, k, none⟩ = false := World.ownsRow.frozenAt HO1.out k
    have HO2 := Lib.hid (World.ownsRow.stored HO1.out k (.bool true)).1
    have HB2 := Lib.hid (blk_other HB1.out ⟨g, k, none⟩ (.bool true) (fun e => hgr e.symm))
    have d2 := blk_cell HB2.out 2 rfl
    have y2 := blk_frozen HB2.out 2
    go_wp2_with fail
    go_ret
    refine ⟨rfl, ⟨some ⟨g, 0, none⟩, cap, ?_, ?_, ?_, HNE.out⟩, ?_⟩
    · rw [blk_set HB2.out 2 _]; simp
    · have h1 := ownsRow_ch (S := (· = rb)) HO2.out (Ch.setCell (S := (· = rb)) (Ch.refl _ _) (p := ⟨rb, 2, none⟩) (.inl rfl) (.int .i64 (p + 1))) (fun x hx e => hgr (by injection hx with hx; exact hx.trans e))
      rw [setb] at h1
      simpa using h1
    · rw [← HVB.out]; simp [Value.ownBlock]
    · exact ((Ch.of_gr G.out).setCell (.inl (.inr HVB.out.symm)) _).setCell (.inl (.inl rfl)) _
end Go.Proofs.Ytjjjokhbkkifjaa.P
