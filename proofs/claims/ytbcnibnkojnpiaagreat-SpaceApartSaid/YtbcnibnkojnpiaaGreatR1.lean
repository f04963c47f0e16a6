/- Stage 3: the document's memory: its calls. No condition. -/
import Derived.Test.YtbcnibnkojnpiaaGreatQ13
set_option linter.unusedVariables false
namespace Go.Proofs.YtbcnibnkojnpiaaGreat.P
open Go.RowKit Go.MuLone Go.Proofs.YtbcnibnkojnpiaaGreat.W
def RMemO (w : World) (rb vb : Nat) (s : List UInt8) (t : Int) : Prop :=
  w.heap[rb]? = some (.cells #[.slice (some ⟨vb, 0, none⟩) s.length s.length, .int .u64 t] 46) ∧ vb ≠ rb ∧ w.heap[vb]? = some (.cells (bys s) 5) ∧ s.length ≤ 65536
theorem RMemO.keep {S : Nat → Prop} {w w' : World} {rb vb : Nat} {s : List UInt8} {t : Int} (h : RMemO w rb vb s t) (hc : Ch S w w') (h1 : ¬ S rb) (h2 : ¬ S vb) : RMemO w' rb vb s t :=
  ⟨hc.blk h.1 h1, h.2.1, hc.blk h.2.2.1 h2, h.2.2.2⟩
theorem RMemO.ticked {w : World} {rb vb : Nat} {s : List UInt8} {t : Int} (h : RMemO w rb vb s t) : RMemO (w.setCell ⟨rb, 1, none⟩ (.int .u64 (tick t))) rb vb s (tick t) :=
  ⟨by rw [blk_set h.1 1 _]; rfl, h.2.1, blk_other h.2.2.1 _ _ h.2.1, h.2.2.2⟩
theorem r_takes (n : Int) (w : World) : Calls Tryz.prog 24 #[.int .i64 n] w fun e w' => e = .returned (.bool (decide (1 ≤ n ∧ n ≤ 256))) ∧ w' = w := by
  by_cases h1 : 1 ≤ n
  · by_cases h2 : n ≤ 256
    · go_enter Tryz.func24, Tryz.ntmps24
      go_wp2
      go_ret
      exact ⟨ret_b (by simp; omega), rfl⟩
    · go_enter Tryz.func24, Tryz.ntmps24
      go_wp2
      go_ret
      exact ⟨ret_b (by simp; omega), rfl⟩
  · go_enter Tryz.func24, Tryz.ntmps24
    go_wp2
    go_ret
    exact ⟨ret_b (by simp; omega), rfl⟩
theorem r_new (fr : Nat) (h2 : fr ≤ 256) (w : World) : Calls Tryz.prog 26 #[.int .i64 fr] w fun e w' =>
    e = .returned (.pointer (some ⟨w.heap.size + 1, 0, none⟩)) ∧ RMemO w' (w.heap.size + 1) w.heap.size (List.replicate (fr * 256) 0) 0 ∧ Gr w w' := by
  have e1 : ((fr * 256 : Nat) : Int) = (fr : Int) * 256 := by omega
  have hmk := fun w => mk_bytes (fr * 256) (by omega) w
  rw [e1] at hmk
  clear e1
  have b1 : (fr : Int) ≤ 256 := by omega
  have b0 : (0 : Int) ≤ fr := by omega
  go_enter Tryz.func26, Tryz.ntmps26
  go_wp2
  go_ret
  refine ⟨by simp, ⟨?_, by omega, ?_, by simp; omega⟩, ((Gr.refl w).alloc (Nat.le_refl _) _).alloc (by simp) _⟩
  · rw [blk_new' _ _ _ (by simp)]; simp
  · exact blk_alloc _ (blk_new w _)
theorem r_sized (n : Int) (w : World) : Calls Tryz.prog 95 #[.int .i64 n] w fun e w' => e = .returned (.bool (sizedB n)) ∧ w' = w := by
  have hx : sizedB n = true ∨ sizedB n = false := by cases sizedB n <;> simp
  rcases hx with hx | hx
  · rcases sized_nat hx with rfl | rfl | rfl | rfl
    all_goals
      go_enter Tryz.func95, Tryz.ntmps95
      go_wp2
      go_ret
      exact ⟨ret_b hx.symm, rfl⟩
  · obtain ⟨h1, h2, h3, h4⟩ := sized_no hx
    have HX := Lib.hid hx
    clear hx
    go_enter Tryz.func95, Tryz.ntmps95
    go_wp2
    go_ret
    exact ⟨ret_b HX.out.symm, rfl⟩
set_option maxRecDepth 100000 in
theorem r_there (rb vb : Nat) (s : List UInt8) (t : Int) (w : World) (h : RMemO w rb vb s t) (a : Int) (n : Nat) (ha0 : 0 ≤ a) (ha1 : a ≤ 18446744073709551615) (hn : n ≤ 9223372036854775807) :
    Calls Tryz.prog 96 #[.pointer (some ⟨rb, 0, none⟩), .int .u64 a, .int .i64 n] w fun e w' => e = .returned (.bool (inB s a n)) ∧ w' = w := by
  have c0 := blk_cell h.1 0 (v := .slice (some ⟨vb, 0, none⟩) s.length s.length) rfl
  have hl := h.2.2.2
  have HI : RowKit.Hid (inB s a n = decide (a + n ≤ s.length)) := Lib.hid rfl
  clear h
  generalize inB s a n = r at *
  generalize s.length = N at *
  have e1 : IntKind.u64.wrap (N : Int) = N := by rw [IntKind.wrap_u64]; omega
  have e2 : IntKind.u64.wrap (n : Int) = n := by rw [IntKind.wrap_u64]; omega
  by_cases h1 : a ≤ N
  · have q1 : decide (a ≤ (N : Int)) = true := decide_eq_true h1
    have e3 : IntKind.u64.wrap ((N : Int) - a) = N - a := by rw [IntKind.wrap_u64]; omega
    by_cases h2 : (n : Int) ≤ N - a
    · have q2 : decide ((n : Int) ≤ N - a) = true := decide_eq_true h2
      have hr : r = true := by rw [HI.out]; exact decide_eq_true (by omega)
      subst hr
      clear h1 h2
      go_enter Tryz.func96, Tryz.ntmps96
      go_wp2_with fail
      go_ret
      exact ⟨rfl, rfl⟩
    · have q2 : decide ((n : Int) ≤ N - a) = false := decide_eq_false h2
      have hr : r = false := by rw [HI.out]; exact decide_eq_false (by omega)
      subst hr
      clear h1 h2
      go_enter Tryz.func96, Tryz.ntmps96
      go_wp2_with fail
      go_ret
      exact ⟨rfl, rfl⟩
  · have q1 : decide (a ≤ (N : Int)) = false := decide_eq_false h1
    have hr : r = false := by rw [HI.out]; exact decide_eq_false (by omega)
    subst hr
    clear h1
    go_enter Tryz.func96, Tryz.ntmps96
    go_wp2_with fail
    go_ret
    exact ⟨rfl, rfl⟩
def RLoadP (rb vb : Nat) (s : List UInt8) (t v r : Int) (w : World) (e : Ending) (w' : World) : Prop :=
  e = .returned (.tuple #[.int .u64 v, .int .i64 r]) ∧ RMemO w' rb vb s t ∧ Ch (· = rb) w w'
set_option maxRecDepth 100000 in
theorem r_load (rb vb : Nat) (s : List UInt8) (t : Int) (w : World) (h : RMemO w rb vb s t) (a n : Int) (ha0 : 0 ≤ a) (ha1 : a ≤ 18446744073709551615) :
    Calls Tryz.prog 70 #[.pointer (some ⟨rb, 0, none⟩), .int .u64 a, .int .i64 n] w (RLoadP rb vb s (loadT s a n t) (loadV s a n) (loadR s a n) w) := by
  have H := Lib.hid h
  have hx : sizedB n = true ∨ sizedB n = false := by cases sizedB n <;> simp
  rcases hx with hx | hx
  · have hn := sized_nat hx
    obtain ⟨m, rfl⟩ : ∃ m : Nat, n = (m : Int) := ⟨n.toNat, by omega⟩
    by_cases hi : a + (m : Int) ≤ s.length
    · obtain ⟨k, rfl⟩ : ∃ k : Nat, a = (k : Int) := ⟨a.toNat, by omega⟩
      have e1 : loadT s k m t = tick t := by unfold loadT; rw [if_pos hx, if_pos (inB_t hi)]
      have e2 : loadV s k m = ofF (subB s k m) := by unfold loadV; rw [if_pos hx, if_pos (inB_t hi)]; simp
      have e3 : loadR s k m = 0 := by unfold loadR; rw [if_pos hx, if_pos (inB_t hi)]
      have e4 : inB s k m = true := inB_t hi
      rw [e1, e2, e3]
      have E4 := Lib.hid e4
      have hkm : k + m ≤ s.length := by omega
      have hl := h.2.2.2
      have c1 := blk_cell h.1 1 (v := .int .u64 t) rfl
      have z1 := blk_frozen h.1 1
      have HT := Lib.hid h.ticked
      have c0 := blk_cell h.ticked.1 0 (v := .slice (some ⟨vb, 0, none⟩) s.length s.length) rfl
      have hsl := slice_part vb s.length k m hkm (w.setCell ⟨rb, 1, none⟩ (.int .u64 (tick t)))
      have hcv := conv_part vb s k m hkm _ h.ticked.2.2.1
      have hsz : (subB s k m).size ≤ maxLen := by rw [sub_size _ _ _ hkm]; unfold maxLen; omega
      have HSZ := Lib.hid hsz
      unfold tick at hsl hcv c0
      clear h e1 e2 e3 e4 hi hsz
      have b1 : (0 : Int) ≤ k := by omega
      have b2 : (k : Int) ≤ 65536 := by omega
      have b3 : (m : Int) ≤ 8 := by omega
      have b4 : (0 : Int) ≤ m := by omega
      go_enter Tryz.func70, Tryz.ntmps70
      go_wp2_with (first
        | (go_at_call 95; refine (r_sized _ _).mono ?_; rintro e w' ⟨rfl, rfl⟩)
        | (go_at_call 96; refine (r_there rb vb s t _ H.out k m (by omega) (by omega) (by omega)).mono ?_; rintro e w' ⟨rfl, rfl⟩; rw [E4.out])
        | (go_at_call 97; refine (c_rof _ HSZ.out _).mono ?_; rintro e w' ⟨rfl, rfl⟩))
      go_ret2
      exact ⟨rfl, HT.out, Ch.setCell (S := (· = rb)) (Ch.refl _ _) (p := ⟨rb, 1, none⟩) (.inl rfl) _⟩
    · have e1 : loadT s a m t = t := by unfold loadT; rw [if_pos hx, if_neg (by rw [inB_f hi]; simp)]
      have e2 : loadV s a m = 0 := by unfold loadV; rw [if_pos hx, if_neg (by rw [inB_f hi]; simp)]
      have e3 : loadR s a m = 3 := by unfold loadR; rw [if_pos hx, if_neg (by rw [inB_f hi]; simp)]
      have e4 : inB s a m = false := inB_f hi
      rw [e1, e2, e3]
      have E4 := Lib.hid e4
      clear h e1 e2 e3 e4 hi
      go_enter Tryz.func70, Tryz.ntmps70
      go_wp2_with (first
        | (go_at_call 95; refine (r_sized _ _).mono ?_; rintro e w' ⟨rfl, rfl⟩)
        | (go_at_call 96; refine (r_there rb vb s t _ H.out a m ha0 ha1 (by omega)).mono ?_; rintro e w' ⟨rfl, rfl⟩; rw [E4.out]))
      go_ret2
      exact ⟨rfl, H.out, Ch.refl _ _⟩
  · have e1 : loadT s a n t = t := by unfold loadT; rw [if_neg (by rw [hx]; simp)]
    have e2 : loadV s a n = 0 := by unfold loadV; rw [if_neg (by rw [hx]; simp)]
    have e3 : loadR s a n = 1 := by unfold loadR; rw [if_neg (by rw [hx]; simp)]
    rw [e1, e2, e3]
    clear h e1 e2 e3
    go_enter Tryz.func70, Tryz.ntmps70
    go_wp2_with (go_at_call 95; refine (r_sized _ _).mono ?_; rintro e w' ⟨rfl, rfl⟩)
    go_ret2
    exact ⟨rfl, H.out, Ch.refl _ _⟩
theorem putL_get (s : List UInt8) (a : Nat) (x : List UInt8) (h : a + x.length ≤ s.length) (j : Nat) : (putL s a x)[j]? = if j < a then s[j]? else if j < a + x.length then x[j - a]? else s[j]? := by
  unfold putL
  have e : (s.take a).length = a := by simp; omega
  by_cases h1 : j < a
  · rw [if_pos h1, List.getElem?_append_left (by omega), List.getElem?_take_of_lt h1]
  · rw [if_neg h1, List.getElem?_append_right (by omega), e]
    by_cases h2 : j < a + x.length
    · rw [if_pos h2, List.getElem?_append_left (by omega)]
    · rw [if_neg h2, List.getElem?_append_right (by omega), List.getElem?_drop]
      congr 1; omega
theorem putL_step (s : List UInt8) (a : Nat) (x : List UInt8) (h : a + x.length ≤ s.length) (i : Nat) (hi : i < x.length) : (putL s a (x.take i)).set (a + i) x[i] = putL s a (x.take (i + 1)) := by
  apply List.ext_getElem?
  intro j
  have l1 : (x.take i).length = i := by simp; omega
  have l2 : (x.take (i + 1)).length = i + 1 := by simp; omega
  have hl : (putL s a (x.take i)).length = s.length := putL_len _ _ _ (by omega)
  rw [List.getElem?_set, putL_get _ _ _ (by omega), putL_get _ _ _ (by omega), l1, l2, hl]
  by_cases hj : a + i = j
  · subst hj
    rw [if_pos rfl, if_pos (by omega), if_neg (by omega), if_pos (by omega), show a + i - a = i by omega, List.getElem?_take_of_lt (by omega), List.getElem?_eq_getElem hi]
  · rw [if_neg hj]
    by_cases h1 : j < a
    · rw [if_pos h1, if_pos h1]
    · rw [if_neg h1, if_neg h1]
      by_cases h2 : j < a + i
      · rw [if_pos h2, if_pos (by omega), List.getElem?_take_of_lt (by omega), List.getElem?_take_of_lt (by omega)]
      · rw [if_neg h2, if_neg (by omega)]
theorem bys_set (s : List UInt8) (i : Nat) (x : UInt8) : (bys s).setIfInBounds i (bv x) = bys (s.set i x) := by
  unfold bys
  apply Array.toList_inj.1
  simp [List.map_set]
end Go.Proofs.YtbcnibnkojnpiaaGreat.P
