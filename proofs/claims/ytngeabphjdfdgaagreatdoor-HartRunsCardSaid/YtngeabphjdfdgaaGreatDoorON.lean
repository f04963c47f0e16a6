/- Stage 3: the document's memory: its calls. No condition. -/
import Derived.Test.YtngeabphjdfdgaaGreatDoorQ13
import Derived.StillTailTactics
import Derived.Handy
import Derived.Test.YtngeabphjdfdgaaGreatDoorO
set_option linter.unusedVariables false
namespace Go.Proofs.YtngeabphjdfdgaaGreatDoor.P
open Go.RowKit Go.MuLone Go.Proofs.YtngeabphjdfdgaaGreatDoor.W
def RMemO (w : World) (rb vb : Nat) (s : List UInt8) (t : Int) : Prop :=
  w.heap[rb]? = some (.cells #[.slice (some ⟨vb, 0, none⟩) s.length s.length, .int .u64 t] 47) ∧ vb ≠ rb ∧ w.heap[vb]? = some (.cells (bys s) 5) ∧ s.length ≤ 65536
theorem RMemO.keep {S : Nat → Prop} {w w' : World} {rb vb : Nat} {s : List UInt8} {t : Int} (h : RMemO w rb vb s t) (hc : Ch S w w') (h1 : ¬ S rb) (h2 : ¬ S vb) : RMemO w' rb vb s t :=
  ⟨hc.blk h.1 h1, h.2.1, hc.blk h.2.2.1 h2, h.2.2.2⟩
theorem RMemO.ticked {w : World} {rb vb : Nat} {s : List UInt8} {t : Int} (h : RMemO w rb vb s t) : RMemO (w.setCell ⟨rb, 1, none⟩ (.int .u64 (tick t))) rb vb s (tick t) :=
  ⟨by rw [blk_set h.1 1 _]; rfl, h.2.1, blk_other h.2.2.1 _ _ h.2.1, h.2.2.2⟩
theorem r_new (fr : Nat) (h2 : fr ≤ 256) (w : World) : Calls Tryz.prog 12 #[.int .i64 fr] w fun e w' =>
    e = .returned (.pointer (some ⟨w.heap.size + 1, 0, none⟩)) ∧ RMemO w' (w.heap.size + 1) w.heap.size (List.replicate (fr * 256) 0) 0 ∧ Gr w w' := by
  have e1 : ((fr * 256 : Nat) : Int) = (fr : Int) * 256 := by omega
  have hmk := fun w => mk_bytes (fr * 256) (by omega) w
  rw [e1] at hmk
  clear e1
  have b1 : (fr : Int) ≤ 256 := by omega
  have b0 : (0 : Int) ≤ fr := by omega
  go_enter Tryz.func12, Tryz.ntmps12
  go_wp2
  go_ret
  refine ⟨by simp, ⟨?_, by omega, ?_, by simp; omega⟩, ((Gr.refl w).alloc (Nat.le_refl _) _).alloc (by simp) _⟩
  · rw [blk_new' _ _ _ (by simp)]; simp
  · exact blk_alloc _ (blk_new w _)
theorem r_sized (n : Int) (w : World) : Calls Tryz.prog 30 #[.int .i64 n] w fun e w' => e = .returned (.bool (sizedB n)) ∧ w' = w := by
  have hx : sizedB n = true ∨ sizedB n = false := by cases sizedB n <;> simp
  rcases hx with hx | hx
  · rcases sized_nat hx with rfl | rfl | rfl | rfl
    all_goals
      go_enter Tryz.func30, Tryz.ntmps30
      go_wp2
      go_ret
      exact ⟨ret_b hx.symm, rfl⟩
  · obtain ⟨h1, h2, h3, h4⟩ := sized_no hx
    have HX := Lib.hid hx
    clear hx
    go_enter Tryz.func30, Tryz.ntmps30
    go_wp2
    go_ret
    exact ⟨ret_b HX.out.symm, rfl⟩
set_option maxRecDepth 100000 in
theorem r_there (rb vb : Nat) (s : List UInt8) (t : Int) (w : World) (h : RMemO w rb vb s t) (a : Int) (n : Nat) (ha0 : 0 ≤ a) (ha1 : a ≤ 18446744073709551615) (hn : n ≤ 9223372036854775807) :
    Calls Tryz.prog 31 #[.pointer (some ⟨rb, 0, none⟩), .int .u64 a, .int .i64 n] w fun e w' => e = .returned (.bool (inB s a n)) ∧ w' = w := by
  have c0 := blk_cell h.1 0 (v := .slice (some ⟨vb, 0, none⟩) s.length s.length) rfl
  have hl := h.2.2.2
  have HI : RowKit.Hid (inB s a n = decide (a + n ≤ s.length)) := Lib.hid rfl
  clear h
  generalize inB s a n = r at *
  generalize s.length = N at *
  have e1 : IntKind.u64.wrap (N : Int) = N := by rw [IntKind.wrap_u64]; omega
  have e2 : IntKind.u64.wrap (n : Int) = n := by rw [IntKind.wrap_u64]; omega
  by_cases h1 : a ≤ N
  · have q1 : decide (a ≤ (N : Int)) = true := decide_eq_true h1
    have e3 : IntKind.u64.wrap ((N : Int) - a) = N - a := by rw [IntKind.wrap_u64]; omega
    by_cases h2 : (n : Int) ≤ N - a
    · have q2 : decide ((n : Int) ≤ N - a) = true := decide_eq_true h2
      have hr : r = true := by rw [HI.out]; exact decide_eq_true (by omega)
      subst hr
      clear h1 h2
      go_enter Tryz.func31, Tryz.ntmps31
      go_wp2_with fail
      go_ret
      exact ⟨rfl, rfl⟩
    · have q2 : decide ((n : Int) ≤ N - a) = false := decide_eq_false h2
      have hr : r = false := by rw [HI.out]; exact decide_eq_false (by omega)
      subst hr
      clear h1 h2
      go_enter Tryz.func31, Tryz.ntmps31
      go_wp2_with fail
      go_ret
      exact ⟨rfl, rfl⟩
  · have q1 : decide (a ≤ (N : Int)) = false := decide_eq_false h1
    have hr : r = false := by rw [HI.out]; exact decide_eq_false (by omega)
    subst hr
    clear h1
    go_enter Tryz.func31, Tryz.ntmps31
    go_wp2_with fail
    go_ret
    exact ⟨rfl, rfl⟩
def RLoadP (rb vb : Nat) (s : List UInt8) (t v r : Int) (w : World) (e : Ending) (w' : World) : Prop :=
  e = .returned (.tuple #[.int .u64 v, .int .i64 r]) ∧ RMemO w' rb vb s t ∧ Ch (· = rb) w w'
set_option maxRecDepth 100000 in
theorem r_load (rb vb : Nat) (s : List UInt8) (t : Int) (w : World) (h : RMemO w rb vb s t) (a n : Int) (ha0 : 0 ≤ a) (ha1 : a ≤ 18446744073709551615) :
    Calls Tryz.prog 50 #[.pointer (some ⟨rb, 0, none⟩), .int .u64 a, .int .i64 n] w (RLoadP rb vb s (loadT s a n t) (loadV s a n) (loadR s a n) w) := by
  have H := Lib.hid h
  have hx : sizedB n = true ∨ sizedB n = false := by cases sizedB n <;> simp
  rcases hx with hx | hx
  · have hn := sized_nat hx
    obtain ⟨m, rfl⟩ : ∃ m : Nat, n = (m : Int) := ⟨n.toNat, by omega⟩
    by_cases hi : a + (m : Int) ≤ s.length
    · obtain ⟨k, rfl⟩ : ∃ k : Nat, a = (k : Int) := ⟨a.toNat, by omega⟩
      have e1 : loadT s k m t = tick t := by unfold loadT; rw [if_pos hx, if_pos (inB_t hi)]
      have e2 : loadV s k m = ofF (subB s k m) := by unfold loadV; rw [if_pos hx, if_pos (inB_t hi)]; simp
      have e3 : loadR s k m = 0 := by unfold loadR; rw [if_pos hx, if_pos (inB_t hi)]
      have e4 : inB s k m = true := inB_t hi
      rw [e1, e2, e3]
      have E4 := Lib.hid e4
      have hkm : k + m ≤ s.length := by omega
      have hl := h.2.2.2
      have c1 := blk_cell h.1 1 (v := .int .u64 t) rfl
      have z1 := blk_frozen h.1 1
      have HT := Lib.hid h.ticked
      have c0 := blk_cell h.ticked.1 0 (v := .slice (some ⟨vb, 0, none⟩) s.length s.length) rfl
      have hsl := slice_part vb s.length k m hkm (w.setCell ⟨rb, 1, none⟩ (.int .u64 (tick t)))
      have hcv := conv_part vb s k m hkm _ h.ticked.2.2.1
      have hsz : (subB s k m).size ≤ maxLen := by rw [sub_size _ _ _ hkm]; unfold maxLen; omega
      have HSZ := Lib.hid hsz
      unfold tick at hsl hcv c0
      clear h e1 e2 e3 e4 hi hsz
      have b1 : (0 : Int) ≤ k := by omega
      have b2 : (k : Int) ≤ 65536 := by omega
      have b3 : (m : Int) ≤ 8 := by omega
      have b4 : (0 : Int) ≤ m := by omega
      go_enter Tryz.func50, Tryz.ntmps50
      go_wp2_with (first
        | (go_at_call 30; refine (r_sized _ _).mono ?_; rintro e w' ⟨rfl, rfl⟩)
        | (go_at_call 31; refine (r_there rb vb s t _ H.out k m (by omega) (by omega) (by omega)).mono ?_; rintro e w' ⟨rfl, rfl⟩; rw [E4.out])
        | (go_at_call 79; refine (c_rof _ HSZ.out _).mono ?_; rintro e w' ⟨rfl, rfl⟩))
      go_ret2
      exact ⟨rfl, HT.out, Ch.setCell (S := (· = rb)) (Ch.refl _ _) (p := ⟨rb, 1, none⟩) (.inl rfl) _⟩
    · have e1 : loadT s a m t = t := by unfold loadT; rw [if_pos hx, if_neg (by rw [inB_f hi]; simp)]
      have e2 : loadV s a m = 0 := by unfold loadV; rw [if_pos hx, if_neg (by rw [inB_f hi]; simp)]
      have e3 : loadR s a m = 3 := by unfold loadR; rw [if_pos hx, if_neg (by rw [inB_f hi]; simp)]
      have e4 : inB s a m = false := inB_f hi
      rw [e1, e2, e3]
      have E4 := Lib.hid e4
      clear h e1 e2 e3 e4 hi
      go_enter Tryz.func50, Tryz.ntmps50
      go_wp2_with (first
        | (go_at_call 30; refine (r_sized _ _).mono ?_; rintro e w' ⟨rfl, rfl⟩)
        | (go_at_call 31; refine (r_there rb vb s t _ H.out a m ha0 ha1 (by omega)).mono ?_; rintro e w' ⟨rfl, rfl⟩; rw [E4.out]))
      go_ret2
      exact ⟨rfl, H.out, Ch.refl _ _⟩
  · have e1 : loadT s a n t = t := by unfold loadT; rw [if_neg (by rw [hx]; simp)]
    have e2 : loadV s a n = 0 := by unfold loadV; rw [if_neg (by rw [hx]; simp)]
    have e3 : loadR s a n = 1 := by unfold loadR; rw [if_neg (by rw [hx]; simp)]
    rw [e1, e2, e3]
    clear h e1 e2 e3
    go_enter Tryz.func50, Tryz.ntmps50
    go_wp2_with (go_at_call 30; refine (r_sized _ _).mono ?_; rintro e w' ⟨rfl, rfl⟩)
    go_ret2
    exact ⟨rfl, H.out, Ch.refl _ _⟩
theorem putL_get (s : List UInt8) (a : Nat) (x : List UInt8) (h : a + x.length ≤ s.length) (j : Nat) : (putL s a x)[j]? = if j < a then s[j]? else if j < a + x.length then x[j - a]? else s[j]? := by
  unfold putL
  have e : (s.take a).length = a := by simp; omega
  by_cases h1 : j < a
  · rw [if_pos h1, List.getElem?_append_left (by omega), List.getElem?_take_of_lt h1]
  · rw [if_neg h1, List.getElem?_append_right (by omega), e]
    by_cases h2 : j < a + x.length
    · rw [if_pos h2, List.getElem?_append_left (by omega)]
    · rw [if_neg h2, List.getElem?_append_right (by omega), List.getElem?_drop]
      congr 1; omega
theorem putL_step (s : List UInt8) (a : Nat) (x : List UInt8) (h : a + x.length ≤ s.length) (i : Nat) (hi : i < x.length) : (putL s a (x.take i)).set (a + i) x[i] = putL s a (x.take (i + 1)) := by
  apply List.ext_getElem?
  intro j
  have l1 : (x.take i).length = i := by simp; omega
  have l2 : (x.take (i + 1)).length = i + 1 := by simp; omega
  have hl : (putL s a (x.take i)).length = s.length := putL_len _ _ _ (by omega)
  rw [List.getElem?_set, putL_get _ _ _ (by omega), putL_get _ _ _ (by omega), l1, l2, hl]
  by_cases hj : a + i = j
  · subst hj
    rw [if_pos rfl, if_pos (by omega), if_neg (by omega), if_pos (by omega), show a + i - a = i by omega, List.getElem?_take_of_lt (by omega), List.getElem?_eq_getElem hi]
  · rw [if_neg hj]
    by_cases h1 : j < a
    · rw [if_pos h1, if_pos h1]
    · rw [if_neg h1, if_neg h1]
      by_cases h2 : j < a + i
      · rw [if_pos h2, if_pos (by omega), List.getElem?_take_of_lt (by omega), List.getElem?_take_of_lt (by omega)]
      · rw [if_neg h2, if_neg (by omega)]
theorem bys_set (s : List UInt8) (i : Nat) (x : UInt8) : (bys s).setIfInBounds i (bv x) = bys (s.set i x) := by
  unfold bys
  apply Array.toList_inj.1
  simp [List.map_set]
end Go.Proofs.YtngeabphjdfdgaaGreatDoor.P
namespace Go.Proofs.YtngeabphjdfdgaaGreatDoor.P
open Go.RowKit Go.MuLone Go.Proofs.YtngeabphjdfdgaaGreatDoor.W
theorem RMemO.bytes {w w' : World} {rb vb : Nat} {s z : List UInt8} {t : Int} (h : RMemO w rb vb s t) (hc : Ch (· = vb) w w') (hl : z.length = s.length) (hb : w'.heap[vb]? = some (.cells (bys z) 5)) : RMemO w' rb vb z t :=
  ⟨by rw [hl]; exact hc.blk h.1 (fun e => h.2.1 e.symm), h.2.1, hb, by rw [hl]; exact h.2.2.2⟩
def RPutP (rb vb : Nat) (s : List UInt8) (t r : Int) (w : World) (e : Ending) (w' : World) : Prop :=
  e = .returned (.int .i64 r) ∧ RMemO w' rb vb s t ∧ Ch (fun x => x = rb ∨ some vb = some x) w w'
theorem arr_list (x : ByteArray) (i : Nat) (h : i < x.size) : x.data.toList[i]'(by simpa using h) = x[i] := rfl
set_option maxRecDepth 100000 in
set_option maxHeartbeats 800000 in
theorem r_put (rb vb : Nat) (s : List UInt8) (t : Int) (w : World) (h : RMemO w rb vb s t) (a : Int) (x : ByteArray) (ha0 : 0 ≤ a) (ha1 : a ≤ 18446744073709551615) (hx : x.size ≤ maxLen) :
    Calls Tryz.prog 32 #[.pointer (some ⟨rb, 0, none⟩), .int .u64 a, .string x] w (RPutP rb vb (putS s a x) t (putR s a x) w) := by
  have H := Lib.hid h
  unfold maxLen at hx
  by_cases hi : a + (x.size : Int) ≤ s.length
  · obtain ⟨k, rfl⟩ : ∃ k : Nat, a = (k : Int) := ⟨a.toNat, by omega⟩
    have e1 : putS s k x = putL s k x.data.toList := by unfold putS; rw [if_pos (inB_t hi)]; simp
    have e2 : putR s k x = 0 := by unfold putR; rw [if_pos (inB_t hi)]
    have e4 : inB s k x.size = true := inB_t hi
    rw [e1, e2]
    have E4 := Lib.hid e4
    have hxl : x.data.toList.length = x.size := by simp
    have hkm : k + x.size ≤ s.length := by omega
    have hl := h.2.2.2
    have HKM := Lib.hid hkm
    have HXL := Lib.hid hxl
    have b1 : (0 : Int) ≤ k := by omega
    have b2 : (k : Int) ≤ 65536 := by omega
    have b3 : (x.size : Int) ≤ 65536 := by omega
    clear h e1 e2 e4 hi ha0 ha1 hxl
    go_enter Tryz.func32, Tryz.ntmps32
    go_wp2_with (go_at_call 31; refine (r_there rb vb s t _ H.out k x.size (by omega) (by omega) (by omega)).mono ?_; rintro e w' ⟨rfl, hw'⟩; have hq := hw'.symm; subst hq; rw [E4.out])
    go_loopw [8] (fun v8 wr => ∃ i : Nat, i ≤ x.size ∧ v8 = .int .i64 i ∧ RMemO wr rb vb (putL s k (x.data.toList.take i)) t ∧ Ch (fun z => z = rb ∨ some vb = some z) w wr) (fun v8 _ => x.size - (intOf v8).toNat)
    case atStart => exact ⟨0, Nat.zero_le _, rfl, by rw [List.take_zero, putL_nil]; exact H.out, Ch.refl _ _⟩
    case round =>
      obtain ⟨i, hi, rfl, hR, hC⟩ := hrel
      have HR := Lib.hid hR
      have HC := Lib.hid hC
      by_cases hlt : i < x.size
      · have hxl := HXL.out
        have hkm := HKM.out
        have htl : (x.data.toList.take i).length = i := by rw [List.length_take, HXL.out]; omega
        have hpl : (putL s k (x.data.toList.take i)).length = s.length := putL_len _ _ _ (by omega)
        have hj : k + i < (putL s k (x.data.toList.take i)).length := by omega
        have c0 := blk_cell hR.1 0 (v := .slice (some ⟨vb, 0, none⟩) (putL s k (x.data.toList.take i)).length (putL s k (x.data.toList.take i)).length) rfl
        have cc := blk_cell hR.2.2.1 (k + i) (bys_get _ _ hj)
        have zz := blk_frozen hR.2.2.1 (k + i)
        have hst := putL_step s k x.data.toList (by omega) i (by omega)
        rw [arr_list x i hlt] at hst
        have hset := blk_set hR.2.2.1 (k + i) (bv x[i])
        rw [bys_set, hst] at hset
        have HSET := Lib.hid hset
        rw [hpl] at c0
        clear hR hC hset hst
        have HPL := Lib.hid hpl
        generalize (putL s k (x.data.toList.take i))[k + i]'hj = y at *
        clear hpl hj
        have b5 : (0 : Int) ≤ i := by omega
        have b6 : (i : Int) < x.size := by omega
        have b7 : (k : Int) + i < s.length := by omega
        have e5 : ((k : Int) + i).toNat = k + i := by omega
        have b8 : (s.length : Int) ≤ 65536 := by omega
        clear hkm hxl htl
        go_wp2_with fail
        have e6 : IntKind.u64.wrap (i : Int) = i := by rw [IntKind.wrap_u64]; omega
        have e7 : IntKind.u64.wrap ((k : Int) + i) = k + i := by rw [IntKind.wrap_u64]; omega
        have b9 : (0 : Int) ≤ (k : Int) + i := by omega
        go_still_tail 12, (by kernel_rfl)
        go_wp2_with fail
        go_roundw
        case rel =>
          have hl2 : (putL s k (x.data.toList.take (i + 1))).length = s.length := putL_len _ _ _ (by rw [List.length_take, HXL.out]; have := HKM.out; omega)
          exact ⟨i + 1, by omega, by go_num, (HR.out.bytes (z := putL s k (x.data.toList.take (i + 1))) ((Ch.setCell (S := (· = vb)) (Ch.refl _ wr) (p := ⟨vb, k + i, none⟩) (.inl rfl) (bv x[i])).drew) (by rw [hl2, HPL.out]) HSET.out), (HC.out.setCell (.inl (.inr rfl)) _).drew⟩
        case measure => simp [intOf]; omega
      · obtain rfl : i = x.size := by omega
        have e : x.data.toList.take x.size = x.data.toList := List.take_of_length_le (by rw [HXL.out]; exact Nat.le_refl _)
        rw [e] at hR
        have HR2 := Lib.hid hR
        clear hR hC e
        go_wp2_with fail
        go_ret
        exact ⟨rfl, HR2.out, HC.out⟩
  · have e1 : putS s a x = s := by unfold putS; rw [if_neg (by rw [inB_f hi]; simp)]
    have e2 : putR s a x = 3 := by unfold putR; rw [if_neg (by rw [inB_f hi]; simp)]
    have e4 : inB s a x.size = false := inB_f hi
    rw [e1, e2]
    have E4 := Lib.hid e4
    clear h e1 e2 e4 hi
    go_enter Tryz.func32, Tryz.ntmps32
    go_wp2_with (go_at_call 31; refine (r_there rb vb s t _ H.out a x.size ha0 ha1 (by omega)).mono ?_; rintro e w' ⟨rfl, rfl⟩; rw [E4.out])
    go_ret
    exact ⟨rfl, H.out, Ch.refl _ _⟩
set_option maxRecDepth 100000 in
theorem r_store (rb vb : Nat) (s : List UInt8) (t : Int) (w : World) (h : RMemO w rb vb s t) (a n v : Int) (ha0 : 0 ≤ a) (ha1 : a ≤ 18446744073709551615) (hv : W.word v) :
    Calls Tryz.prog 14 #[.pointer (some ⟨rb, 0, none⟩), .int .u64 a, .int .i64 n, .int .u64 v] w (RPutP rb vb (storeS s a n v) (loadT s a n t) (loadR s a n) w) := by
  have H := Lib.hid h
  have HV := Lib.hid hv
  clear hv
  have hx : sizedB n = true ∨ sizedB n = false := by cases sizedB n <;> simp
  rcases hx with hx | hx
  · have hn := sized_nat hx
    obtain ⟨m, rfl⟩ : ∃ m : Nat, n = (m : Int) := ⟨n.toNat, by omega⟩
    have hbs : (bytesF v m).size = m := by rw [bytes_size, clamp_sized hx]
    by_cases hi : a + (m : Int) ≤ s.length
    · have e1 : loadT s a m t = tick t := by unfold loadT; rw [if_pos hx, if_pos (inB_t hi)]
      have e2 : storeS s a m v = putS s a (bytesF v m) := by unfold storeS putS; rw [if_pos hx, hbs]
      have e3 : loadR s a m = 0 := by unfold loadR; rw [if_pos hx, if_pos (inB_t hi)]
      have e4 : inB s a m = true := inB_t hi
      rw [e1, e2, e3]
      have E4 := Lib.hid e4
      have HBS := Lib.hid hbs
      have c1 := blk_cell h.1 1 (v := .int .u64 t) rfl
      have z1 := blk_frozen h.1 1
      have HT := Lib.hid h.ticked
      clear h e1 e2 e3 e4 hi hbs
      go_enter Tryz.func14, Tryz.ntmps14
      go_wp2_with (first
        | (go_at_call 30; refine (r_sized _ _).mono ?_; rintro e w' ⟨rfl, hw'⟩; have hq := hw'.symm; subst hq)
        | (go_at_call 31; refine (r_there rb vb s t _ H.out a m ha0 ha1 (by omega)).mono ?_; rintro e w' ⟨rfl, hw'⟩; have hq := hw'.symm; subst hq; rw [E4.out]))
      refine (c_rbytes v m HV.out _).mono ?_
      rintro e w3 ⟨rfl, g3⟩
      have g3' : Gr (w.setCell ⟨rb, 1, none⟩ (.int .u64 (tick t))) w3 := g3
      have HT3 := Lib.hid (HT.out.keep (S := fun _ => False) (Ch.of_gr g3') (fun h => h) (fun h => h))
      have HC3 : RowKit.Hid (Ch (fun x => x = rb ∨ some vb = some x) w w3) := Lib.hid ((Ch.setCell (S := fun x => x = rb ∨ some vb = some x) (Ch.refl _ w) (p := ⟨rb, 1, none⟩) (.inl (.inl rfl)) _).trans (Ch.of_gr g3'))
      clear g3 g3'
      go_wp2_with fail
      refine (r_put rb vb s (tick t) w3 HT3.out a (bytesF v m) ha0 ha1 (by rw [HBS.out]; unfold maxLen; omega)).mono ?_
      rintro e w4 ⟨rfl, hM, hC⟩
      have HM := Lib.hid hM
      have HC := Lib.hid hC
      clear hM hC
      go_wp2_with fail
      go_ret
      exact ⟨rfl, HM.out, HC3.out.trans HC.out⟩
    · have e1 : loadT s a m t = t := by unfold loadT; rw [if_pos hx, if_neg (by rw [inB_f hi]; simp)]
      have e2 : storeS s a m v = s := by unfold storeS; rw [if_pos hx, if_neg (by rw [inB_f hi]; simp)]
      have e3 : loadR s a m = 3 := by unfold loadR; rw [if_pos hx, if_neg (by rw [inB_f hi]; simp)]
      have e4 : inB s a m = false := inB_f hi
      rw [e1, e2, e3]
      have E4 := Lib.hid e4
      clear h e1 e2 e3 e4 hi
      go_enter Tryz.func14, Tryz.ntmps14
      go_wp2_with (first
        | (go_at_call 30; refine (r_sized _ _).mono ?_; rintro e w' ⟨rfl, hw'⟩; have hq := hw'.symm; subst hq)
        | (go_at_call 31; refine (r_there rb vb s t _ H.out a m ha0 ha1 (by omega)).mono ?_; rintro e w' ⟨rfl, hw'⟩; have hq := hw'.symm; subst hq; rw [E4.out]))
      go_ret
      exact ⟨rfl, H.out, Ch.refl _ _⟩
  · have e1 : loadT s a n t = t := by unfold loadT; rw [if_neg (by rw [hx]; simp)]
    have e2 : storeS s a n v = s := by unfold storeS; rw [if_neg (by rw [hx]; simp)]
    have e3 : loadR s a n = 1 := by unfold loadR; rw [if_neg (by rw [hx]; simp)]
    rw [e1, e2, e3]
    clear h e1 e2 e3
    go_enter Tryz.func14, Tryz.ntmps14
    go_wp2_with (go_at_call 30; refine (r_sized _ _).mono ?_; rintro e w' ⟨rfl, hw'⟩; have hq := hw'.symm; subst hq)
    go_ret
    exact ⟨rfl, H.out, Ch.refl _ _⟩
end Go.Proofs.YtngeabphjdfdgaaGreatDoor.P
namespace Go.Proofs.YtngeabphjdfdgaaGreatDoor.P
open Go.RowKit Go.MuLone
def partI (a l : Int) : Int := if 0 ≤ l ∧ l ≤ 2 ∧ a < 8388608 then a / 2 ^ (8 + 5 * l.toNat) % 32 else 0
def entryI (f v : Int) : Int := if f < 0 then 0 else (f * 1024) % 18446744073709551616 + v % 1024
theorem ret_ui {a b c d : Int} (h : a = b) (h2 : c = d) : Ending.returned (.tuple #[.int .u64 a, .int .i64 c]) = .returned (.tuple #[.int .u64 b, .int .i64 d]) := by rw [h, h2]
theorem part0 (a : Int) (h : a < 8388608) : partI a 0 = a / 256 % 32 := by
  unfold partI; rw [if_pos ⟨by decide, by decide, h⟩]; rfl
theorem part1 (a : Int) (h : a < 8388608) : partI a 1 = a / 8192 % 32 := by
  unfold partI; rw [if_pos ⟨by decide, by decide, h⟩]; rfl
theorem part2 (a : Int) (h : a < 8388608) : partI a 2 = a / 262144 % 32 := by
  unfold partI; rw [if_pos ⟨by decide, by decide, h⟩]; rfl
theorem entry_or (f v : Int) (f0 : 0 ≤ f) (v0 : 0 ≤ v) : bits .or .u64 (IntKind.u64.wrap (f * 1024)) (v % 1024) = entryI f v := by
  have e : IntKind.u64.wrap (f * 1024) = (f * 1024) % 18446744073709551616 := IntKind.wrap_u64 _
  unfold entryI
  rw [if_neg (by omega), e]
  obtain ⟨x, hx⟩ : ∃ x : Nat, (f * 1024) % 18446744073709551616 = ((2 ^ 10 * x : Nat) : Int) := ⟨((f * 1024) % 18446744073709551616 / 1024).toNat, by omega⟩
  obtain ⟨z, hz⟩ : ∃ z : Nat, v % 1024 = (z : Int) := ⟨(v % 1024).toNat, by omega⟩
  rw [hx, hz, u64_or _ _ (by omega) (by omega) (by omega) (by omega), Int.toNat_natCast, Int.toNat_natCast, ← Nat.two_pow_add_eq_or_of_lt (by omega)]
  omega
set_option maxRecDepth 100000 in
theorem c_kpart (a l : Int) (ha : u64 a) (w : World) : Calls Tryz.prog 87 #[.int .u64 a, .int .i64 l] w fun e w' => e = .returned (.int .i64 (partI a l)) ∧ w' = w := by
  obtain ⟨a0, a1⟩ := ha
  have hl : l < 0 ∨ 2 < l ∨ l = 0 ∨ l = 1 ∨ l = 2 := by omega
  by_cases h : a < 8388608
  · rcases hl with h1 | h1 | rfl | rfl | rfl
    · go_enter Tryz.func87, Tryz.ntmps87
      go_wp2
      go_ret
      exact ⟨ret_i (by unfold partI; rw [if_neg (by omega)]), rfl⟩
    · go_enter Tryz.func87, Tryz.ntmps87
      go_wp2
      go_ret
      exact ⟨ret_i (by unfold partI; rw [if_neg (by omega)]), rfl⟩
    · go_enter Tryz.func87, Tryz.ntmps87
      go_wp2
      go_ret
      exact ⟨ret_i (part0 a h).symm, rfl⟩
    · go_enter Tryz.func87, Tryz.ntmps87
      go_wp2
      go_ret
      exact ⟨ret_i (part1 a h).symm, rfl⟩
    · go_enter Tryz.func87, Tryz.ntmps87
      go_wp2
      go_ret
      exact ⟨ret_i (part2 a h).symm, rfl⟩
  · have d : decide (8388608 ≤ a) = true := decide_eq_true (by omega)
    rcases hl with h1 | h1 | rfl | rfl | rfl
    all_goals
      go_enter Tryz.func87, Tryz.ntmps87
      go_wp2
      go_ret
      exact ⟨ret_i (by unfold partI; rw [if_neg (by omega)]), rfl⟩
theorem c_kframe (v : Int) (hv : u64 v) (w : World) : Calls Tryz.prog 60 #[.int .u64 v] w fun e w' => e = .returned (.int .u64 (v / 1024)) ∧ w' = w := by
  obtain ⟨v0, v1⟩ := hv
  go_enter Tryz.func60, Tryz.ntmps60
  go_wp2
  go_ret
  exact ⟨W.ret_u64 (by omega), rfl⟩
theorem r_kframe (v : Int) (hv : u64 v) (w : World) : Calls Tryz.prog 73 #[.int .u64 v] w fun e w' => e = .returned (.int .u64 (v / 1024)) ∧ w' = w := by
  obtain ⟨v0, v1⟩ := hv
  go_enter Tryz.func73, Tryz.ntmps73
  go_wp2
  go_ret
  exact ⟨W.ret_u64 (by omega), rfl⟩
set_option maxRecDepth 100000 in
theorem r_kpart (a l : Int) (ha : u64 a) (w : World) : Calls Tryz.prog 92 #[.int .u64 a, .int .i64 l] w fun e w' => e = .returned (.int .i64 (partI a l)) ∧ w' = w := by
  obtain ⟨a0, a1⟩ := ha
  have hl : l < 0 ∨ 2 < l ∨ l = 0 ∨ l = 1 ∨ l = 2 := by omega
  by_cases h : a < 8388608
  · rcases hl with h1 | h1 | rfl | rfl | rfl
    · go_enter Tryz.func92, Tryz.ntmps92
      go_wp2
      go_ret
      exact ⟨ret_i (by unfold partI; rw [if_neg (by omega)]), rfl⟩
    · go_enter Tryz.func92, Tryz.ntmps92
      go_wp2
      go_ret
      exact ⟨ret_i (by unfold partI; rw [if_neg (by omega)]), rfl⟩
    · go_enter Tryz.func92, Tryz.ntmps92
      go_wp2
      go_rounds 3
      go_ret
      exact ⟨ret_i (part0 a h).symm, rfl⟩
    · go_enter Tryz.func92, Tryz.ntmps92
      go_wp2
      go_rounds 3
      go_ret
      exact ⟨ret_i ((part1 a h).trans (by omega)).symm, rfl⟩
    · go_enter Tryz.func92, Tryz.ntmps92
      go_wp2
      go_rounds 3
      go_ret
      exact ⟨ret_i ((part2 a h).trans (by omega)).symm, rfl⟩
  · have d : decide (8388608 ≤ a) = true := decide_eq_true (by omega)
    rcases hl with h1 | h1 | rfl | rfl | rfl
    all_goals
      go_enter Tryz.func92, Tryz.ntmps92
      go_wp2
      go_ret
      exact ⟨ret_i (by unfold partI; rw [if_neg (by omega)]), rfl⟩
def neededI (acc : Int) : Int := if acc = 1 then 2 else if acc = 2 then 4 else if acc = 3 then 8 else 0
theorem c_needed (acc : Int) (w : World) : Calls Tryz.prog 57 #[.int .i64 acc] w fun e w' => e = .returned (.int .u64 (neededI acc)) ∧ w' = w := by
  by_cases h1 : acc = 1
  · subst h1
    go_enter Tryz.func57, Tryz.ntmps57
    go_wp2
    go_ret
    exact ⟨rfl, rfl⟩
  · by_cases h2 : acc = 2
    · subst h2
      go_enter Tryz.func57, Tryz.ntmps57
      go_wp2
      go_ret
      exact ⟨rfl, rfl⟩
    · by_cases h3 : acc = 3
      · subst h3
        go_enter Tryz.func57, Tryz.ntmps57
        go_wp2
        go_ret
        exact ⟨rfl, rfl⟩
      · have d1 : (acc == 1) = false := by simpa using h1
        have d2 : (acc == 2) = false := by simpa using h2
        have d3 : (acc == 3) = false := by simpa using h3
        have e : neededI acc = 0 := by unfold neededI; rw [if_neg h1, if_neg h2, if_neg h3]
        rw [e]
        clear h1 h2 h3 e
        go_enter Tryz.func57, Tryz.ntmps57
        go_wp2
        go_ret
        exact ⟨rfl, rfl⟩
end Go.Proofs.YtngeabphjdfdgaaGreatDoor.P
namespace Go.Proofs.YtngeabphjdfdgaaGreatDoor.P
open Go.RowKit Go.MuLone
/-- The entry that stands there. -/
def entS (s : List UInt8) (p : Int) : Int := loadV s p 8
theorem ent_word (s : List UInt8) (p : Int) : W.word (entS s p) := by
  unfold entS loadV
  split
  · split
    · exact W.ofF_word _
    · exact ⟨by decide, by decide⟩
  · exact ⟨by decide, by decide⟩
def KeptE (b : Nat) (y : Option Nat) (fr : Nat) (s : List UInt8) (w w' : World) : Prop := ∃ y' t', MemO w' b y' fr s t' ∧ KeptM b y w w' y'
theorem c_ent (b : Nat) (y : Option Nat) (fr : Nat) (s : List UInt8) (t : Int) (w : World) (h : MemO w b y fr s t) (p : Int) (h0 : 0 ≤ p) (h1 : p + 8 ≤ s.length) (v : Int) (hv : entS s p = v) :
    Calls Tryz.prog 17 #[.pointer (some ⟨b, 0, none⟩), .int .u64 p, .int .i64 8] w fun e w' => e = .returned (.tuple #[.int .u64 v, .int .i64 0]) ∧ KeptE b y fr s w w' := by
  subst hv
  have hl : s.length ≤ 65536 := by have := h.1; have := h.2.2.1; omega
  refine (c_load b y fr s t w h p 8 h0 (by omega)).mono ?_
  rintro e w' ⟨rfl, y', hM, hK⟩
  have e1 : loadR s p 8 = 0 := by unfold loadR inB; rw [if_pos (show sizedB 8 = true from rfl), if_pos (decide_eq_true h1)]
  rw [e1]
  exact ⟨rfl, y', _, hM, hK⟩
def ptB (fr : Nat) (e : Int) : Bool := decide (e % 16 = 1) && decide (e / 1024 < fr)
theorem c_there (b : Nat) (y : Option Nat) (fr : Nat) (s : List UInt8) (t : Int) (w : World) (h : MemO w b y fr s t) (e : Int) (he : W.word e) :
    Calls Tryz.prog 59 #[.pointer (some ⟨b, 0, none⟩), .int .u64 e] w fun x w' => x = .returned (.bool (decide (e / 1024 < fr))) ∧ w' = w := by
  have H := Lib.hid h
  have hf0 := h.2.2.1
  clear h
  obtain ⟨e0, e1⟩ := he
  go_enter Tryz.func59, Tryz.ntmps59
  go_wp2_with (first
    | (go_at_call 60; refine (c_kframe e ⟨e0, by omega⟩ _).mono ?_; rintro e w' ⟨rfl, rfl⟩)
    | (go_at_call 15; refine (c_frames b y fr s t _ H.out).mono ?_; rintro e w' ⟨rfl, rfl⟩))
  go_ret
  exact ⟨rfl, rfl⟩
theorem c_points (b : Nat) (y : Option Nat) (fr : Nat) (s : List UInt8) (t : Int) (w : World) (h : MemO w b y fr s t) (e : Int) (he : W.word e) :
    Calls Tryz.prog 88 #[.pointer (some ⟨b, 0, none⟩), .int .u64 e] w fun x w' => x = .returned (.bool (ptB fr e)) ∧ w' = w := by
  have H := Lib.hid h
  clear h
  have HE := Lib.hid he
  have ha : bits .and .u64 e 15 = e % 16 := W.and_mask e 4 (by decide) he
  clear he
  by_cases h1 : e % 16 = 1
  · rw [h1] at ha
    have hp : ptB fr e = decide (e / 1024 < fr) := by unfold ptB; rw [decide_eq_true h1]; rfl
    rw [hp]
    clear h1 hp
    go_enter Tryz.func88, Tryz.ntmps88
    go_wp2_with (go_at_call 59; refine (c_there b y fr s t _ H.out e HE.out).mono ?_; rintro e w' ⟨rfl, rfl⟩)
    go_ret
    exact ⟨rfl, rfl⟩
  · have hp : ptB fr e = false := by unfold ptB; rw [decide_eq_false h1]; rfl
    have d : (e % 16 == 1) = false := by simpa using h1
    rw [hp]
    generalize e % 16 = q at *
    clear h1 hp
    go_enter Tryz.func88, Tryz.ntmps88
    go_wp2_with fail
    go_ret
    exact ⟨rfl, rfl⟩
def leafA (s : List UInt8) (root a : Int) : Int := entS s (root * 256 + partI a 2 * 8)
def leafC (s : List UInt8) (root a : Int) : Int := entS s (leafA s root a / 1024 * 256 + partI a 1 * 8)
def leafR (fr : Nat) (s : List UInt8) (root a : Int) : Int :=
  bif decide (0 ≤ root) && decide (root < fr) then (bif decide (a < 8388608) then (bif ptB fr (leafA s root a) && ptB fr (leafC s root a) then 0 else 3) else 3) else 1
def leafV (fr : Nat) (s : List UInt8) (root a : Int) : Int := bif decide (leafR fr s root a = 0) then leafC s root a / 1024 * 256 + partI a 0 * 8 else 0
theorem part_bd (a l : Int) : 0 ≤ partI a l ∧ partI a l < 32 := by
  unfold partI; split
  · have h : ∀ x : Int, 0 ≤ x % 32 ∧ x % 32 < 32 := fun x => by omega
    exact h _
  · omega
theorem pt_lt {fr : Nat} {e : Int} (h : ptB fr e = true) : e / 1024 < fr := by
  unfold ptB at h; simp only [Bool.and_eq_true, decide_eq_true_eq] at h; exact h.2
def LeafP (b : Nat) (y : Option Nat) (fr : Nat) (s : List UInt8) (v r : Int) (w : World) (e : Ending) (w' : World) : Prop :=
  e = .returned (.tuple #[.int .u64 v, .int .i64 r]) ∧ KeptE b y fr s w w'
theorem KeptE.refl {b : Nat} {y : Option Nat} {fr : Nat} {s : List UInt8} {t : Int} {w : World} (h : MemO w b y fr s t) : KeptE b y fr s w w := ⟨y, t, h, KeptM.of_gr (Gr.refl w)⟩
set_option maxRecDepth 100000 in
theorem c_leaf_no (b : Nat) (y : Option Nat) (fr : Nat) (s : List UInt8) (t : Int) (w : World) (h : MemO w b y fr s t) (r a v x : Int) (ha : u64 a) (hr : i64 r) (hv : leafV fr s r a = v) (hx : leafR fr s r a = x) (hn : (r < 0 ∨ (fr : Int) ≤ r) ∨ 8388608 ≤ a) :
    Calls Tryz.prog 58 #[.pointer (some ⟨b, 0, none⟩), .int .i64 r, .int .u64 a] w (LeafP b y fr s v x w) := by
  have H := Lib.hid h
  clear h
  by_cases h1 : r < 0
  · have hx1 : x = 1 := by rw [← hx]; unfold leafR; rw [decide_eq_false (show ¬ 0 ≤ r by omega)]; rfl
    have hv1 : v = 0 := by rw [← hv]; unfold leafV; rw [hx, hx1]; rfl
    subst hx1; subst hv1
    clear hx hv hn
    go_enter Tryz.func58, Tryz.ntmps58
    go_wp2
    go_step3
    go_wp2_with (go_at_call 15; refine (c_frames b y fr s t _ H.out).mono ?_; rintro e w' ⟨rfl, rfl⟩)
    try rw [Exit.noGoto_ret]
    go_ret2
    exact ⟨rfl, KeptE.refl H.out⟩
  · have r0 : 0 ≤ r := by omega
    by_cases h2 : (fr : Int) ≤ r
    · have hx1 : x = 1 := by rw [← hx]; unfold leafR; rw [decide_eq_false (show ¬ r < fr by omega), Bool.and_false]; rfl
      have hv1 : v = 0 := by rw [← hv]; unfold leafV; rw [hx, hx1]; rfl
      subst hx1; subst hv1
      clear hx hv hn h1
      go_enter Tryz.func58, Tryz.ntmps58
      go_wp2
      go_step3
      go_wp2_with (go_at_call 15; refine (c_frames b y fr s t _ H.out).mono ?_; rintro e w' ⟨rfl, rfl⟩)
      try rw [Exit.noGoto_ret]
      go_ret2
      exact ⟨rfl, KeptE.refl H.out⟩
    · have h3 : 8388608 ≤ a := by omega
      have hx1 : x = 3 := by rw [← hx]; unfold leafR; rw [decide_eq_true r0, decide_eq_true (show r < fr by omega), decide_eq_false (show ¬ a < 8388608 by omega)]; rfl
      have hv1 : v = 0 := by rw [← hv]; unfold leafV; rw [hx, hx1]; rfl
      subst hx1; subst hv1
      have d2 : decide ((fr : Int) ≤ r) = false := decide_eq_false h2
      clear hx hv hn h1 h2
      go_enter Tryz.func58, Tryz.ntmps58
      go_wp2
      go_step3
      go_wp2_with (go_at_call 15; refine (c_frames b y fr s t _ H.out).mono ?_; rintro e w' ⟨rfl, rfl⟩)
      try rw [Exit.noGoto_ret]
      go_ret2
      exact ⟨rfl, KeptE.refl H.out⟩
set_option maxRecDepth 100000 in
set_option maxHeartbeats 1600000 in
theorem c_leaf_yes (b : Nat) (y : Option Nat) (fr : Nat) (s : List UInt8) (t : Int) (w : World) (h : MemO w b y fr s t) (r : Nat) (a : Int) (ha : u64 a) (hr : r < fr) (h3 : a < 8388608) :
    Calls Tryz.prog 58 #[.pointer (some ⟨b, 0, none⟩), .int .i64 (r : Int), .int .u64 a] w (LeafP b y fr s (leafV fr s r a) (leafR fr s r a) w) := by
  have H := Lib.hid h
  have hlen : s.length ≤ 65536 ∧ (s.length : Int) = (fr : Int) * 256 ∧ fr ≤ 256 := by have := h.1; have := h.2.2.1; omega
  clear h
  obtain ⟨hl, hl2, hf0⟩ := hlen
  have HL2 := Lib.hid hl2
  obtain ⟨a0, a1⟩ := ha
  have HP0 := part_bd a 0
  have HP1 := part_bd a 1
  have HP2 := part_bd a 2
  obtain ⟨p0, hp0⟩ : ∃ q, q = partI a 0 := ⟨_, rfl⟩
  obtain ⟨p1, hp1⟩ : ∃ q, q = partI a 1 := ⟨_, rfl⟩
  obtain ⟨p2, hp2⟩ : ∃ q, q = partI a 2 := ⟨_, rfl⟩
  have C0 : ∀ w : World, Calls Tryz.prog 87 #[.int .u64 a, .int .i64 0] w fun e w' => e = .returned (.int .i64 p0) ∧ w' = w := fun w => by rw [hp0]; exact c_kpart a 0 ⟨a0, a1⟩ w
  have C1 : ∀ w : World, Calls Tryz.prog 87 #[.int .u64 a, .int .i64 1] w fun e w' => e = .returned (.int .i64 p1) ∧ w' = w := fun w => by rw [hp1]; exact c_kpart a 1 ⟨a0, a1⟩ w
  have C2 : ∀ w : World, Calls Tryz.prog 87 #[.int .u64 a, .int .i64 2] w fun e w' => e = .returned (.int .i64 p2) ∧ w' = w := fun w => by rw [hp2]; exact c_kpart a 2 ⟨a0, a1⟩ w
  have EA : RowKit.Hid (entS s ((r : Int) * 256 + p2 * 8) = leafA s r a) := Lib.hid (by rw [hp2]; rfl)
  have EC : RowKit.Hid (entS s (leafA s r a / 1024 * 256 + p1 * 8) = leafC s r a) := Lib.hid (by rw [hp1]; rfl)
  rw [← hp0] at HP0
  rw [← hp1] at HP1
  rw [← hp2] at HP2
  have WA : W.word (leafA s r a) := ent_word s _
  have WC : W.word (leafC s r a) := ent_word s _
  have hR : leafR fr s r a = bif ptB fr (leafA s r a) && ptB fr (leafC s r a) then 0 else 3 := by unfold leafR; rw [decide_eq_true (show (0 : Int) ≤ r by omega), decide_eq_true (show (r : Int) < fr by omega), decide_eq_true h3]; rfl
  have hV : leafV fr s r a = bif decide (leafR fr s r a = 0) then leafC s r a / 1024 * 256 + p0 * 8 else 0 := by rw [hp0]; rfl
  clear hp0 hp1 hp2
  generalize leafV fr s r a = V at *
  generalize leafR fr s r a = R at *
  generalize leafC s r a = EC' at *
  generalize leafA s r a = EA' at *
  have d1 : decide (fr ≤ r) = false := decide_eq_false (by omega)
  have d2 : decide (8388608 ≤ a) = false := decide_eq_false (by omega)
  have r0 : (0 : Int) ≤ r := by omega
  have r1 : (r : Int) < 256 := by omega
  have HR := Lib.hid hR
  have HV := Lib.hid hV
  have HWA := Lib.hid WA
  have HWC := Lib.hid WC
  clear hR hV hl2
  go_enter Tryz.func58, Tryz.ntmps58
  go_wp2
  go_step3
  go_wp2_with (go_at_call 15; refine (c_frames b y fr s t _ H.out).mono ?_; rintro e w' ⟨rfl, rfl⟩)
  go_step3
  go_wp2
  refine wp_loop_rounds 3 ?_
  rw [rounds_succ]
  go_wp2_with (go_at_call 87; refine (C2 _).mono ?_; rintro e w' ⟨rfl, rfl⟩)
  refine (c_ent b y fr s t _ H.out ((r : Int) * 256 + p2 * 8) (by omega) (by have := HL2.out; omega) EA' EA.out).mono ?_
  rintro e w1 ⟨rfl, y1, t1, hM1, hK1⟩
  have HM1 := Lib.hid hM1
  have HK1 := Lib.hid hK1
  clear hM1 hK1
  cases hpa : ptB fr EA' with
  | false =>
    have hR0 : R = 3 := by have := HR.out; rw [hpa] at this; exact this
    have hV0 : V = 0 := by rw [HV.out, hR0]; rfl
    subst hR0; subst hV0
    have HPA := Lib.hid hpa
    clear hpa
    go_wp2_with (go_at_call 88; refine (c_points b y1 fr s t1 _ HM1.out EA' HWA.out).mono ?_; rintro e w' ⟨rfl, rfl⟩; rw [HPA.out])
    try rw [Exit.noGoto_ret]
    go_ret2
    exact ⟨rfl, y1, t1, HM1.out, HK1.out⟩
  | true =>
    have hlt := pt_lt hpa
    have HPA := Lib.hid hpa
    clear hpa
    obtain ⟨T, hT⟩ : ∃ T : Nat, EA' / 1024 = (T : Int) := ⟨(EA' / 1024).toNat, by have := HWA.out.1; omega⟩
    have CF : ∀ w : World, Calls Tryz.prog 60 #[.int .u64 EA'] w fun e w' => e = .returned (.int .u64 (T : Int)) ∧ w' = w := fun w => by rw [← hT]; exact c_kframe EA' ⟨HWA.out.1, by have := HWA.out.2; omega⟩ w
    rw [hT] at EC hlt
    clear hT
    have t0 : (0 : Int) ≤ T := by omega
    have t1' : (T : Int) < 256 := by omega
    go_wp2_with (first
      | (go_at_call 88; refine (c_points b y1 fr s t1 _ HM1.out EA' HWA.out).mono ?_; rintro e w' ⟨rfl, rfl⟩; rw [HPA.out])
      | (go_at_call 60; refine (CF _).mono ?_; rintro e w' ⟨rfl, rfl⟩))
    rw [rounds_succ]
    go_wp2_with (go_at_call 87; refine (C1 _).mono ?_; rintro e w' ⟨rfl, rfl⟩)
    refine (c_ent b y1 fr s t1 _ HM1.out ((T : Int) * 256 + p1 * 8) (by omega) (by have := HL2.out; omega) EC' EC.out).mono ?_
    rintro e w2 ⟨rfl, y2, t2, hM2, hK2⟩
    have HM2 := Lib.hid hM2
    have HK2 := Lib.hid (HK1.out.trans hK2)
    clear hM2 hK2 HM1 HK1
    cases hpc : ptB fr EC' with
    | false =>
      have hR0 : R = 3 := by have := HR.out; rw [HPA.out, hpc] at this; exact this
      have hV0 : V = 0 := by rw [HV.out, hR0]; rfl
      subst hR0; subst hV0
      have HPC := Lib.hid hpc
      clear hpc
      go_wp2_with (go_at_call 88; refine (c_points b y2 fr s t2 _ HM2.out EC' HWC.out).mono ?_; rintro e w' ⟨rfl, rfl⟩; rw [HPC.out])
      try rw [Exit.noGoto_ret]
      go_ret2
      exact ⟨rfl, y2, t2, HM2.out, HK2.out⟩
    | true =>
      have hlt2 := pt_lt hpc
      have HPC := Lib.hid hpc
      have hR0 : R = 0 := by have := HR.out; rw [HPA.out, hpc] at this; exact this
      clear hpc
      obtain ⟨U, hU⟩ : ∃ U : Nat, EC' / 1024 = (U : Int) := ⟨(EC' / 1024).toNat, by have := HWC.out.1; omega⟩
      have CG : ∀ w : World, Calls Tryz.prog 60 #[.int .u64 EC'] w fun e w' => e = .returned (.int .u64 (U : Int)) ∧ w' = w := fun w => by rw [← hU]; exact c_kframe EC' ⟨HWC.out.1, by have := HWC.out.2; omega⟩ w
      have hV0 : V = (U : Int) * 256 + p0 * 8 := by rw [HV.out, hR0, hU]; rfl
      rw [hU] at hlt2
      clear hU
      subst hR0; subst hV0
      have u0 : (0 : Int) ≤ U := by omega
      have u1 : (U : Int) < 256 := by omega
      go_wp2_with (first
        | (go_at_call 88; refine (c_points b y2 fr s t2 _ HM2.out EC' HWC.out).mono ?_; rintro e w' ⟨rfl, rfl⟩; rw [HPC.out])
        | (go_at_call 60; refine (CG _).mono ?_; rintro e w' ⟨rfl, rfl⟩))
      rw [rounds_succ]
      go_wp2_with (go_at_call 87; refine (C0 _).mono ?_; rintro e w' ⟨rfl, rfl⟩)
      try rw [Exit.noGoto_ret]
      go_ret2
      exact ⟨rfl, y2, t2, HM2.out, HK2.out⟩
end Go.Proofs.YtngeabphjdfdgaaGreatDoor.P
namespace Go.Proofs.YtngeabphjdfdgaaGreatDoor.P
open Go.RowKit Go.MuLone
theorem c_leaf (b : Nat) (y : Option Nat) (fr : Nat) (s : List UInt8) (t : Int) (w : World) (h : MemO w b y fr s t) (r a v x : Int) (ha : u64 a) (hr : i64 r) (hv : leafV fr s r a = v) (hx : leafR fr s r a = x) :
    Calls Tryz.prog 58 #[.pointer (some ⟨b, 0, none⟩), .int .i64 r, .int .u64 a] w (LeafP b y fr s v x w) := by
  by_cases hn : (r < 0 ∨ (fr : Int) ≤ r) ∨ 8388608 ≤ a
  · exact c_leaf_no b y fr s t w h r a v x ha hr hv hx hn
  · obtain ⟨n, rfl⟩ : ∃ n : Nat, r = (n : Int) := ⟨r.toNat, by omega⟩
    subst hv; subst hx
    exact c_leaf_yes b y fr s t w h n a ha (by omega) (by omega)
theorem leaf_in {fr : Nat} {s : List UInt8} {r a : Int} (hs : s.length = fr * 256) (h : leafR fr s r a = 0) : 0 ≤ leafV fr s r a ∧ leafV fr s r a + 8 ≤ s.length := by
  have hw := ent_word s (leafA s r a / 1024 * 256 + partI a 1 * 8)
  have hp := part_bd a 0
  have e : leafV fr s r a = leafC s r a / 1024 * 256 + partI a 0 * 8 := by unfold leafV; rw [h]; rfl
  have hc : ptB fr (leafC s r a) = true := by
    unfold leafR at h
    cases h1 : (decide (0 ≤ r) && decide (r < (fr : Int))) <;> cases h2 : decide (a < 8388608) <;> cases h3 : ptB fr (leafA s r a) <;> cases h4 : ptB fr (leafC s r a) <;> simp_all
  have := pt_lt hc
  change W.word (leafC s r a) at hw
  have := hw.1
  rw [e]
  omega
def mayB (n e : Int) : Bool := decide (e % 2 = 1) && (decide (e / 16 % 2 = 1) && decide (e / n % 2 = 1))
def walkE (fr : Nat) (s : List UInt8) (r a : Int) : Int := entS s (leafV fr s r a)
def walkR (fr : Nat) (s : List UInt8) (r a acc : Int) : Int :=
  bif decide (neededI acc = 0) then 1 else bif decide (leafR fr s r a = 0) then (bif mayB (neededI acc) (walkE fr s r a) && decide (walkE fr s r a / 1024 < fr) then 0 else 3) else leafR fr s r a
def walkV (fr : Nat) (s : List UInt8) (r a acc : Int) : Int := bif decide (walkR fr s r a acc = 0) then walkE fr s r a / 1024 * 256 + a % 256 else 0
theorem mask_low (e : Int) (m : Nat) (hm : m < 32) (he : W.word e) : bits .and .u64 e (m : Int) = (((e % 32).toNat &&& m : Nat) : Int) := by
  obtain ⟨x, rfl⟩ := Int.eq_ofNat_of_zero_le he.1
  have h1 := he.2
  rw [u64_and_nat x m (by omega) (by omega)]
  congr 1
  rw [show ((x : Int) % 32).toNat = x % 2 ^ 5 by omega, ← Nat.and_two_pow_sub_one_eq_mod, Nat.and_assoc]
  congr 1
  rw [Nat.and_comm, Nat.and_two_pow_sub_one_eq_mod]
  omega
theorem may19 : ∀ x : Fin 32, ((x.val &&& 19 = 19) ↔ (x.val % 2 = 1 ∧ x.val / 16 % 2 = 1 ∧ x.val / 2 % 2 = 1)) := by decide
theorem may21 : ∀ x : Fin 32, ((x.val &&& 21 = 21) ↔ (x.val % 2 = 1 ∧ x.val / 16 % 2 = 1 ∧ x.val / 4 % 2 = 1)) := by decide
theorem may25 : ∀ x : Fin 32, ((x.val &&& 25 = 25) ↔ (x.val % 2 = 1 ∧ x.val / 16 % 2 = 1 ∧ x.val / 8 % 2 = 1)) := by decide
/-- The bits that must be set for a kind of access. -/
theorem may_bits (n e : Int) (hn : n = 2 ∨ n = 4 ∨ n = 8) (he : W.word e) : decide (bits .and .u64 e (n + 17) = n + 17) = mayB n e := by
  obtain ⟨x, hx⟩ : ∃ x : Nat, e % 32 = (x : Int) := ⟨(e % 32).toNat, by omega⟩
  have hx2 : x < 32 := by omega
  have q19 := may19 ⟨x, hx2⟩
  have q21 := may21 ⟨x, hx2⟩
  have q25 := may25 ⟨x, hx2⟩
  dsimp only at q19 q21 q25
  unfold mayB
  have e1 : (e % 2 = 1) ↔ x % 2 = 1 := by omega
  have e2 : (e / 16 % 2 = 1) ↔ x / 16 % 2 = 1 := by omega
  rcases hn with rfl | rfl | rfl
  · have e3 : (e / 2 % 2 = 1) ↔ x / 2 % 2 = 1 := by omega
    rw [show (2 : Int) + 17 = ((19 : Nat) : Int) from rfl, mask_low e 19 (by decide) he, hx, Int.toNat_natCast, ← Bool.decide_and, ← Bool.decide_and]
    apply decide_eq_decide.2
    rw [e1, e2, e3, ← q19]; omega
  · have e3 : (e / 4 % 2 = 1) ↔ x / 4 % 2 = 1 := by omega
    rw [show (4 : Int) + 17 = ((21 : Nat) : Int) from rfl, mask_low e 21 (by decide) he, hx, Int.toNat_natCast, ← Bool.decide_and, ← Bool.decide_and]
    apply decide_eq_decide.2
    rw [e1, e2, e3, ← q21]; omega
  · have e3 : (e / 8 % 2 = 1) ↔ x / 8 % 2 = 1 := by omega
    rw [show (8 : Int) + 17 = ((25 : Nat) : Int) from rfl, mask_low e 25 (by decide) he, hx, Int.toNat_natCast, ← Bool.decide_and, ← Bool.decide_and]
    apply decide_eq_decide.2
    rw [e1, e2, e3, ← q25]; omega
set_option maxRecDepth 100000 in
theorem c_walk_acc (p : Value) (r a acc : Int) (h : neededI acc = 0) (w : World) : Calls Tryz.prog 34 #[p, .int .i64 r, .int .u64 a, .int .i64 acc] w fun e w' => e = .returned (.tuple #[.int .u64 0, .int .i64 1]) ∧ w' = w := by
  have C : ∀ w : World, Calls Tryz.prog 57 #[.int .i64 acc] w fun e w' => e = .returned (.int .u64 0) ∧ w' = w := fun w => by rw [← h]; exact c_needed acc w
  clear h
  go_enter Tryz.func34, Tryz.ntmps34
  go_wp2_with (go_at_call 57; refine (C _).mono ?_; rintro e w' ⟨rfl, rfl⟩)
  go_ret2
  exact ⟨rfl, rfl⟩
set_option maxRecDepth 100000 in
theorem c_walk_bad (b : Nat) (y : Option Nat) (fr : Nat) (s : List UInt8) (t : Int) (w : World) (h : MemO w b y fr s t) (r a acc n x : Int) (ha : u64 a) (hr : i64 r) (hn : n = 2 ∨ n = 4 ∨ n = 8) (hacc : neededI acc = n) (hx : leafR fr s r a = x) (hx0 : x ≠ 0) :
    Calls Tryz.prog 34 #[.pointer (some ⟨b, 0, none⟩), .int .i64 r, .int .u64 a, .int .i64 acc] w (LeafP b y fr s 0 x w) := by
  have C : ∀ w : World, Calls Tryz.prog 57 #[.int .i64 acc] w fun e w' => e = .returned (.int .u64 n) ∧ w' = w := fun w => by rw [← hacc]; exact c_needed acc w
  have d0 : (n == 0) = false := by rcases hn with rfl | rfl | rfl <;> rfl
  have d1 : (x == 0) = false := by simpa using hx0
  have hv : leafV fr s r a = 0 := by unfold leafV; rw [hx, decide_eq_false hx0]; rfl
  have L := c_leaf b y fr s t w h r a 0 x ha hr hv hx
  clear h hacc hx hx0 hv hn
  go_enter Tryz.func34, Tryz.ntmps34
  go_wp2_with (go_at_call 57; refine (C _).mono ?_; rintro e w' ⟨rfl, rfl⟩)
  refine L.mono ?_; rintro e w1 ⟨rfl, hk⟩
  have HK := Lib.hid hk
  clear hk
  go_wp2_with fail
  go_ret2
  exact ⟨rfl, HK.out⟩
set_option maxRecDepth 100000 in
set_option maxHeartbeats 1600000 in
theorem c_walk_ok (b : Nat) (y : Option Nat) (fr : Nat) (s : List UInt8) (t : Int) (w : World) (h : MemO w b y fr s t) (r a acc n : Int) (ha : u64 a) (hr : i64 r) (hn : n = 2 ∨ n = 4 ∨ n = 8) (hacc : neededI acc = n) (hx : leafR fr s r a = 0) (v z : Int)
    (hz : (bif mayB n (walkE fr s r a) && decide (walkE fr s r a / 1024 < fr) then 0 else 3) = z) (hv : (bif decide (z = 0) then walkE fr s r a / 1024 * 256 + a % 256 else 0) = v) :
    Calls Tryz.prog 34 #[.pointer (some ⟨b, 0, none⟩), .int .i64 r, .int .u64 a, .int .i64 acc] w (LeafP b y fr s v z w) := by
  have C : ∀ w : World, Calls Tryz.prog 57 #[.int .i64 acc] w fun e w' => e = .returned (.int .u64 n) ∧ w' = w := fun w => by rw [← hacc]; exact c_needed acc w
  have d0 : (n == 0) = false := by rcases hn with rfl | rfl | rfl <;> rfl
  have L := c_leaf b y fr s t w h r a (leafV fr s r a) 0 ha hr rfl hx
  have hin := leaf_in h.1 hx
  have hlen : s.length ≤ 65536 ∧ fr ≤ 256 := by have := h.1; have := h.2.2.1; omega
  have EE : RowKit.Hid (entS s (leafV fr s r a) = walkE fr s r a) := Lib.hid rfl
  have HW := Lib.hid (ent_word s (leafV fr s r a))
  change RowKit.Hid (W.word (walkE fr s r a)) at HW
  have hor : bits .or .u64 n 17 = n + 17 := by rcases hn with rfl | rfl | rfl <;> rfl
  have hmay := may_bits n (walkE fr s r a) hn HW.out
  have n0 : 2 ≤ n ∧ n ≤ 8 := by omega
  clear h hacc hx hn
  generalize leafV fr s r a = P at *
  generalize walkE fr s r a = E at *
  obtain ⟨n0, n1⟩ := n0
  obtain ⟨q, hq⟩ : ∃ q, q = bits .and .u64 E (n + 17) := ⟨_, rfl⟩
  have hand : bits .and .u64 E (n + 17) = q := hq.symm
  rw [← hq] at hmay
  clear hq
  have HIN := Lib.hid hin
  have HZ := Lib.hid hz
  have HV := Lib.hid hv
  have HMAY := Lib.hid hmay
  obtain ⟨p0, p1⟩ := hin
  obtain ⟨l0, l1⟩ := hlen
  obtain ⟨a0, a1⟩ := ha
  clear hz hv hmay
  go_enter Tryz.func34, Tryz.ntmps34
  go_wp2_with (go_at_call 57; refine (C _).mono ?_; rintro e w' ⟨rfl, rfl⟩)
  refine L.mono ?_; rintro e w1 ⟨rfl, y1, t1, hM1, hK1⟩
  have HM1 := Lib.hid hM1
  have HK1 := Lib.hid hK1
  clear hM1 hK1 L
  go_wp2_with fail
  refine (c_ent b y1 fr s t1 _ HM1.out P HIN.out.1 HIN.out.2 E EE.out).mono ?_
  rintro e w2 ⟨rfl, y2, t2, hM2, hK2⟩
  have HM2 := Lib.hid hM2
  have HK2 := Lib.hid (HK1.out.trans hK2)
  clear hM2 hK2 HM1 HK1
  cases hm : mayB n E with
  | false =>
    have hz : z = 3 := by rw [← HZ.out, hm]; rfl
    have hv : v = 0 := by rw [← HV.out, hz]; rfl
    have dq : decide (q = n + 17) = false := by have := HMAY.out; rw [hm] at this; exact this
    have dq2 : ¬ q = n + 17 := of_decide_eq_false dq
    subst hz; subst hv
    clear hm
    go_wp2_with fail
    go_ret2
    exact ⟨rfl, y2, t2, HM2.out, HK2.out⟩
  | true =>
    have dq : q = n + 17 := by have := HMAY.out; rw [hm] at this; exact of_decide_eq_true this
    subst dq
    have HZ2 : RowKit.Hid (z = bif decide (E / 1024 < fr) then 0 else 3) := Lib.hid (by rw [← HZ.out, hm]; rfl)
    clear hm
    by_cases hf : E / 1024 < fr
    · have hz : z = 0 := by rw [HZ2.out, decide_eq_true hf]; rfl
      have HF := Lib.hid (decide_eq_true hf)
      subst hz
      obtain ⟨T, hT⟩ : ∃ T : Nat, E / 1024 = (T : Int) := ⟨(E / 1024).toNat, by have := HW.out.1; omega⟩
      have CF : ∀ w : World, Calls Tryz.prog 60 #[.int .u64 E] w fun e w' => e = .returned (.int .u64 (T : Int)) ∧ w' = w := fun w => by rw [← hT]; exact c_kframe E ⟨HW.out.1, by have := HW.out.2; omega⟩ w
      have hv : v = (T : Int) * 256 + a % 256 := by rw [← HV.out, hT]; rfl
      rw [hT] at hf
      clear hT
      subst hv
      have t0 : (0 : Int) ≤ T := by omega
      have t1' : (T : Int) < 256 := by omega
      go_wp2_with (first
        | (go_at_call 59; refine (c_there b y2 fr s t2 _ HM2.out E HW.out).mono ?_; rintro e w' ⟨rfl, rfl⟩; rw [HF.out])
        | (go_at_call 60; refine (CF _).mono ?_; rintro e w' ⟨rfl, rfl⟩))
      go_ret2
      exact ⟨rfl, y2, t2, HM2.out, HK2.out⟩
    · have hz : z = 3 := by rw [HZ2.out, decide_eq_false hf]; rfl
      have HF := Lib.hid (decide_eq_false hf)
      have hv : v = 0 := by rw [← HV.out, hz]; rfl
      subst hz; subst hv
      clear hf
      go_wp2_with (go_at_call 59; refine (c_there b y2 fr s t2 _ HM2.out E HW.out).mono ?_; rintro e w' ⟨rfl, rfl⟩; rw [HF.out])
      go_ret2
      exact ⟨rfl, y2, t2, HM2.out, HK2.out⟩
theorem needed_in (acc : Int) : neededI acc = 0 ∨ neededI acc = 2 ∨ neededI acc = 4 ∨ neededI acc = 8 := by unfold neededI; split; exact .inr (.inl rfl); split; exact .inr (.inr (.inl rfl)); split; exact .inr (.inr (.inr rfl)); exact .inl rfl
theorem c_walk (b : Nat) (y : Option Nat) (fr : Nat) (s : List UInt8) (t : Int) (w : World) (h : MemO w b y fr s t) (r a acc v x : Int) (ha : u64 a) (hr : i64 r) (hv : walkV fr s r a acc = v) (hx : walkR fr s r a acc = x) :
    Calls Tryz.prog 34 #[.pointer (some ⟨b, 0, none⟩), .int .i64 r, .int .u64 a, .int .i64 acc] w (LeafP b y fr s v x w) := by
  rcases needed_in acc with hn | hn
  · have hx1 : x = 1 := by rw [← hx]; unfold walkR; rw [hn]; rfl
    have hv1 : v = 0 := by rw [← hv]; unfold walkV; rw [hx, hx1]; rfl
    subst hx1; subst hv1
    refine (c_walk_acc _ r a acc hn w).mono ?_
    rintro e w' ⟨rfl, rfl⟩
    exact ⟨rfl, KeptE.refl h⟩
  · have hn0 : neededI acc ≠ 0 := by omega
    by_cases hl : leafR fr s r a = 0
    · refine c_walk_ok b y fr s t w h r a acc (neededI acc) ha hr hn rfl hl v x ?_ ?_
      · rw [← hx]; unfold walkR; rw [decide_eq_false hn0, decide_eq_true hl]; rfl
      · rw [← hv]; unfold walkV; rw [hx]
    · have hx1 : leafR fr s r a = x := by rw [← hx]; unfold walkR; rw [decide_eq_false hn0, decide_eq_false hl]; rfl
      have hv1 : v = 0 := by rw [← hv]; unfold walkV; rw [hx, decide_eq_false (by rw [← hx1]; exact hl)]; rfl
      subst hv1
      exact c_walk_bad b y fr s t w h r a acc _ x ha hr hn rfl hx1 (by rw [← hx1]; exact hl)
end Go.Proofs.YtngeabphjdfdgaaGreatDoor.P
namespace Go.Proofs.YtngeabphjdfdgaaGreatDoor.P
open Go.RowKit
/-- What is said of a world and of the blocks that it is said of. -/
abbrev Asn := World → (Nat → Prop) → Prop
/-- It hangs on its own blocks alone. -/
def Stable (A : Asn) : Prop := ∀ (w w' : World) (F G : Nat → Prop), A w F → Ch G w w' → (∀ x, F x → ¬ G x) → A w' F
/-- What became of it. -/
def Out (A : Asn) (w w' : World) (F : Nat → Prop) : Prop := ∃ F' : Nat → Prop, A w' F' ∧ (∀ x, F' x → (F x ∨ w.heap.size ≤ x) ∧ x < w'.heap.size) ∧ Ch F w w'
def Star (A B : Asn) : Asn := fun w F => ∃ F1 F2 : Nat → Prop, A w F1 ∧ B w F2 ∧ (∀ x, F1 x → ¬ F2 x) ∧ (∀ x, F1 x → F x) ∧ (∀ x, F2 x → F x)
def emp : Asn := fun _ _ => True
/-- It lies in memory that is new since w0; nothing else has turned. -/
def Own (w0 w : World) (A : Asn) : Prop := ∃ F : Nat → Prop, A w F ∧ (∀ x, F x → w0.heap.size ≤ x ∧ x < w.heap.size) ∧ Gr w0 w
theorem stable_star {A B : Asn} (ha : Stable A) (hb : Stable B) : Stable (Star A B) := by
  rintro w w' F G ⟨F1, F2, h1, h2, hd, s1, s2⟩ hc hg
  exact ⟨F1, F2, ha w w' F1 G h1 hc (fun x hx => hg x (s1 x hx)), hb w w' F2 G h2 hc (fun x hx => hg x (s2 x hx)), hd, s1, s2⟩
theorem stable_emp : Stable emp := fun _ _ _ _ _ _ _ => trivial
theorem Own.sub {w0 w : World} {A : Asn} (h : Own w0 w A) : Gr w0 w := h.choose_spec.2.2
theorem Own.gr {w0 w w' : World} {A : Asn} (h : Own w0 w A) (hs : Stable A) (g : Gr w w') : Own w0 w' A := by
  obtain ⟨F, h1, h2, h3⟩ := h
  exact ⟨F, hs w w' F (fun _ => False) h1 (Ch.of_gr g) (fun _ _ h => h), fun x hx => ⟨(h2 x hx).1, Nat.lt_of_lt_of_le (h2 x hx).2 g.size⟩, gtrans h3 g⟩
theorem Own.drew {w0 w : World} {A : Asn} (h : Own w0 w A) (hs : Stable A) : Own w0 w.drew A := h.gr hs (Gr.drewN (Gr.refl _) 1)
theorem Own.start {w0 w : World} (g : Gr w0 w) : Own w0 w emp := ⟨fun _ => False, trivial, fun _ h => h.elim, g⟩
/-- One more object, in memory that is new. -/
theorem Own.add {w0 w w' : World} {A R : Asn} (h : Own w0 w R) (hs : Stable R) (g : Gr w w') (ha : ∃ F : Nat → Prop, A w' F ∧ ∀ x, F x → w.heap.size ≤ x ∧ x < w'.heap.size) : Own w0 w' (Star A R) := by
  obtain ⟨F, h1, h2, h3⟩ := h
  obtain ⟨F1, k1, k2⟩ := ha
  refine ⟨fun x => F1 x ∨ F x, ⟨F1, F, k1, hs w w' F (fun _ => False) h1 (Ch.of_gr g) (fun _ _ h => h), fun x hx hf => ?_, fun x hx => .inl hx, fun x hx => .inr hx⟩, fun x hx => ?_, gtrans h3 g⟩
  · have := (k2 x hx).1; have := (h2 x hf).2; omega
  · have := h3.size; have := g.size
    rcases hx with hx | hx
    · have := k2 x hx; omega
    · have := h2 x hx; omega
theorem Own.swap {w0 w : World} {A B : Asn} (h : Own w0 w (Star A B)) : Own w0 w (Star B A) := by
  obtain ⟨F, ⟨F1, F2, h1, h2, hd, s1, s2⟩, hb, g⟩ := h
  exact ⟨F, ⟨F2, F1, h2, h1, fun x hx hy => hd x hy hx, s2, s1⟩, hb, g⟩
/-- A, B, C: B, A, C. -/
theorem Own.swap2 {w0 w : World} {A B C : Asn} (h : Own w0 w (Star A (Star B C))) : Own w0 w (Star B (Star A C)) := by
  obtain ⟨F, ⟨F1, F2, h1, ⟨G1, G2, k1, k2, kd, t1, t2⟩, hd, s1, s2⟩, hb, g⟩ := h
  exact ⟨F, ⟨G1, fun x => F1 x ∨ G2 x, k1, ⟨F1, G2, h1, k2, fun x hx hy => hd x hx (t2 x hy), fun x hx => .inl hx, fun x hx => .inr hx⟩, fun x hx hy => hy.elim (fun e => hd x e (t1 x hx)) (kd x hx), fun x hx => s2 x (t1 x hx), fun x hx => hx.elim (s1 x) (fun e => s2 x (t2 x e))⟩, hb, g⟩
theorem Own.left {w0 w : World} {A B : Asn} (h : Own w0 w (Star A B)) : Own w0 w A := by
  obtain ⟨F, ⟨F1, F2, h1, h2, hd, s1, s2⟩, hb, g⟩ := h
  exact ⟨F1, h1, fun x hx => hb x (s1 x hx), g⟩
theorem Own.right {w0 w : World} {A B : Asn} (h : Own w0 w (Star A B)) : Own w0 w B := h.swap.left
theorem Own.get {w0 w : World} {A : Asn} (h : Own w0 w A) : ∃ F : Nat → Prop, A w F := by
  obtain ⟨F, h1, _⟩ := h; exact ⟨F, h1⟩
theorem Own.cell {w0 w : World} {A : Asn} (h : Own w0 w A) {p : Addr} {v : Value} (hc : w0.cell? p = some v) : w.cell? p = some v := kcell h.sub hc
theorem Own.mono {w0 w : World} {A B : Asn} (h : Own w0 w A) (hs : ∀ F, A w F → B w F) : Own w0 w B := by
  obtain ⟨F, h1, h2, g⟩ := h; exact ⟨F, hs F h1, h2, g⟩
/-- A step on the first of them. -/
theorem Own.step {w0 w w' : World} {A A' R : Asn} (h : Own w0 w (Star A R)) (hs : Stable R) (ho : ∀ F : Nat → Prop, A w F → Out A' w w' F) : Own w0 w' (Star A' R) := by
  obtain ⟨F, ⟨F1, F2, h1, h2, hd, s1, s2⟩, hb, g⟩ := h
  obtain ⟨F', k1, k2, k3⟩ := ho F1 h1
  have hsz := k3.size
  refine ⟨fun x => F' x ∨ F2 x, ⟨F', F2, k1, hs w w' F2 F1 h2 k3 (fun x hx hy => hd x hy hx), fun x hx hy => ?_, fun x hx => .inl hx, fun x hx => .inr hx⟩, fun x hx => ?_, gr_ch g k3 (fun x hx => (hb x (s1 x hx)).1)⟩
  · rcases (k2 x hx).1 with e | e
    · exact hd x e hy
    · have := (hb x (s2 x hy)).2; omega
  · have := g.size
    rcases hx with hx | hx
    · refine ⟨?_, (k2 x hx).2⟩
      rcases (k2 x hx).1 with e | e
      · exact (hb x (s1 x e)).1
      · omega
    · have := hb x (s2 x hx); omega
/-- A step on the only one. -/
theorem Own.step1 {w0 w w' : World} {A A' : Asn} (h : Own w0 w A) (ho : ∀ F : Nat → Prop, A w F → Out A' w w' F) : Own w0 w' A' := by
  obtain ⟨F, h1, hb, g⟩ := h
  obtain ⟨F', k1, k2, k3⟩ := ho F h1
  refine ⟨F', k1, fun x hx => ⟨?_, (k2 x hx).2⟩, gr_ch g k3 (fun x hx => (hb x hx).1)⟩
  have := g.size
  rcases (k2 x hx).1 with e | e
  · exact (hb x e).1
  · omega
theorem Out.ofGr {A : Asn} {w w' : World} {F : Nat → Prop} (hs : Stable A) (h : A w F) (hb : ∀ x, F x → x < w.heap.size) (g : Gr w w') : Out A w w' F :=
  ⟨F, hs w w' F (fun _ => False) h (Ch.of_gr g) (fun _ _ h => h), fun x hx => ⟨.inl hx, Nat.lt_of_lt_of_le (hb x hx) g.size⟩, Ch.of_gr g⟩
/-- A block that is known whole. -/
def blkA (B : Nat) (o : Obj) : Asn := fun w F => F B ∧ w.heap[B]? = some o
theorem stable_blk (B : Nat) (o : Obj) : Stable (blkA B o) := fun w w' F G h hc hd => ⟨h.1, hc.blk h.2 (hd B h.1)⟩
theorem Own.alloc {w0 w : World} {R : Asn} (h : Own w0 w R) (hs : Stable R) (o : Obj) : Own w0 (w.alloc o) (Star (blkA w.heap.size o) R) :=
  h.add hs (Below.alloc (Below.refl _ _) (Nat.le_refl _) _) ⟨fun x => x = w.heap.size, ⟨rfl, blk_new w o⟩, fun x hx => by simp [hx]⟩
theorem Own.blk {w0 w : World} {B : Nat} {o : Obj} {R : Asn} (h : Own w0 w (Star (blkA B o) R)) : w.heap[B]? = some o := h.left.get.choose_spec.2
/-- A row of one's own. -/
def rowA (e : TypeId) (size : Nat) (v : Value) (n : Nat) (xs : List Value) : Asn := fun w F => w.ownsRow 0 e size v n xs ∧ ∀ b, v.ownBlock = some b → F b
theorem stable_row (e : TypeId) (size : Nat) (v : Value) (n : Nat) (xs : List Value) : Stable (rowA e size v n xs) := by
  rintro w w' F G ⟨⟨h1, h2⟩, h3⟩ hc hd
  refine ⟨⟨h1, ?_⟩, h3⟩
  rcases h2 with h2 | ⟨g, cap, cur, rfl, hb, hg, h4⟩
  · exact .inl h2
  · exact .inr ⟨g, cap, cur, rfl, hb, hc.blk hg (hd g (h3 g rfl)), h4⟩
theorem Own.row {w0 w : World} {e : TypeId} {size : Nat} {v : Value} {n : Nat} {xs : List Value} {R : Asn} (h : Own w0 w (Star (rowA e size v n xs) R)) : w.ownsRow 0 e size v n xs := h.left.get.choose_spec.1
theorem Own.conv {w0 w : World} {A A' R : Asn} (h : Own w0 w (Star A R)) (hs : ∀ F, A w F → A' w F) : Own w0 w (Star A' R) := by
  obtain ⟨F, ⟨F1, F2, h1, h2, hd, s1, s2⟩, hb, g⟩ := h
  exact ⟨F, ⟨F1, F2, hs F1 h1, h2, hd, s1, s2⟩, hb, g⟩
theorem star_swap2 {A B C : Asn} {w : World} {F : Nat → Prop} (h : Star A (Star B C) w F) : Star B (Star A C) w F := by
  obtain ⟨F1, F2, h1, ⟨G1, G2, k1, k2, kd, t1, t2⟩, hd, s1, s2⟩ := h
  exact ⟨G1, fun x => F1 x ∨ G2 x, k1, ⟨F1, G2, h1, k2, fun x hx hy => hd x hx (t2 x hy), fun x hx => .inl hx, fun x hx => .inr hx⟩, fun x hx hy => hy.elim (fun e => hd x e (t1 x hx)) (kd x hx), fun x hx => s2 x (t1 x hx), fun x hx => hx.elim (s1 x) (fun e => s2 x (t2 x e))⟩
theorem star_mono_r {A B B' : Asn} {w : World} {F : Nat → Prop} (hs : ∀ F, B w F → B' w F) (h : Star A B w F) : Star A B' w F := by
  obtain ⟨F1, F2, h1, h2, hd, s1, s2⟩ := h
  exact ⟨F1, F2, h1, hs F2 h2, hd, s1, s2⟩
/-- A, B, C: C, A, B. -/
theorem Own.rot3 {w0 w : World} {A B C D : Asn} (h : Own w0 w (Star A (Star B (Star C D)))) : Own w0 w (Star C (Star A (Star B D))) :=
  h.mono fun F hF => star_swap2 (star_mono_r (fun F h => star_swap2 h) hF)
/-- A, B, C: B, C, A. -/
theorem Own.rot3' {w0 w : World} {A B C D : Asn} (h : Own w0 w (Star A (Star B (Star C D)))) : Own w0 w (Star B (Star C (Star A D))) := h.rot3.rot3
theorem Own.drop2' {w0 w : World} {A B C D : Asn} (h : Own w0 w (Star A (Star B (Star C D)))) : Own w0 w (Star A (Star C D)) := h.swap2.right
theorem Own.drop2 {w0 w : World} {A B C : Asn} (h : Own w0 w (Star A (Star B C))) : Own w0 w (Star A C) := h.swap2.right
/-- A new block as a row. -/
theorem row_of_blk {e : TypeId} {size n : Nat} {B : Nat} {xs : List Value} (hl : xs.length = n * size) (hm : n ≤ maxLen) {w : World} {F : Nat → Prop} (h : blkA B (.cells xs.toArray e) w F) : rowA e size (.slice (some ⟨B, 0, none⟩) n n) n xs w F :=
  ⟨⟨hl, .inr ⟨B, n, xs.toArray, rfl, Nat.zero_le _, h.2, Nat.le_refl _, hm, by simpa using hl, List.take_of_length_le (by simpa using Nat.le_of_eq hl)⟩⟩, fun b hb => by injection hb with hb; rw [← hb]; exact h.1⟩
/-- Behind an append. -/
theorem Own.grown {w0 w w' : World} {e : TypeId} {size : Nat} {v v' : Value} {n n' : Nat} {xs ys : List Value} {R : Asn} {g : Nat} (h : Own w0 w (Star (rowA e size v n xs) R)) (hs : Stable R) (ho : w'.ownsRow 0 e size v' n' ys)
    (hv : v'.ownBlock = some g) (hg : w.grownBy w' v.ownBlock) (hat : v.ownBlock = some g ∨ w.heap.size ≤ g) (hlt : g < w'.heap.size) : Own w0 w' (Star (rowA e size v' n' ys) R) := by
  refine h.step hs (fun F hF => ⟨fun x => x = g, ⟨ho, fun b hb => ?_⟩, fun x hx => ⟨?_, by rw [hx]; exact hlt⟩, ⟨hg.os, hg.tape, hg.output, hg.size, fun k hk hs => hg.block k hk (fun e => hs (hF.2 k e.symm))⟩⟩)
  · rw [hv] at hb; injection hb with hb; exact hb.symm
  · rcases hat with e | e
    · exact .inl (by rw [hx]; exact hF.2 g e)
    · exact .inr (by rw [hx]; exact e)
theorem Own.step_call {P : Program} {f : FuncId} {args : Array Value} {X : Type} {w0 w : World} {A R : Asn} {A' : X → Asn} {Q : X → Ending → Prop} (h : Own w0 w (Star A R)) (hs : Stable R)
    (hc : ∀ F : Nat → Prop, A w F → Calls P f args w fun e w' => ∃ x, Q x e ∧ Out (A' x) w w' F) : Calls P f args w fun e w' => ∃ x, Q x e ∧ Own w0 w' (Star (A' x) R) := by
  obtain ⟨F, ⟨F1, F2, h1, h2, hd, s1, s2⟩, hb, g⟩ := h
  refine (hc F1 h1).mono ?_
  rintro e w' ⟨x, hq, F', k1, k2, k3⟩
  refine ⟨x, hq, ?_⟩
  have hsz := k3.size
  refine ⟨fun x => F' x ∨ F2 x, ⟨F', F2, k1, hs w w' F2 F1 h2 k3 (fun x hx hy => hd x hy hx), fun x hx hy => ?_, fun x hx => .inl hx, fun x hx => .inr hx⟩, fun x hx => ?_, gr_ch g k3 (fun x hx => (hb x (s1 x hx)).1)⟩
  · rcases (k2 x hx).1 with e | e
    · exact hd x e hy
    · have := (hb x (s2 x hy)).2; omega
  · have := g.size
    rcases hx with hx | hx
    · refine ⟨?_, (k2 x hx).2⟩
      rcases (k2 x hx).1 with e | e
      · exact (hb x (s1 x e)).1
      · omega
    · have := hb x (s2 x hx); omega
/-- A call with one way to end, on the first of them. -/
theorem Own.call {P : Program} {f : FuncId} {args : Array Value} {w0 w : World} {A R A' : Asn} {v : Value} (h : Own w0 w (Star A R)) (hs : Stable R)
    (hc : ∀ F : Nat → Prop, A w F → Calls P f args w fun e w' => e = .returned v ∧ Out A' w w' F) : Calls P f args w fun e w' => e = .returned v ∧ Own w0 w' (Star A' R) := by
  refine (h.step_call (X := Unit) (A' := fun _ => A') (Q := fun _ e => e = .returned v) hs (fun F hF => (hc F hF).mono fun e w' k => ⟨(), k⟩)).mono ?_
  rintro e w' ⟨_, k⟩
  exact k
end Go.Proofs.YtngeabphjdfdgaaGreatDoor.P
namespace Go.Proofs.YtngeabphjdfdgaaGreatDoor.P
open Go.RowKit Go.MuLone
/-- A memory, its blocks one's own. -/
def memA (b fr : Nat) (s : List UInt8) : Asn := fun w F => ∃ y t, MemO w b y fr s t ∧ F b ∧ ∀ x, y = some x → F x
theorem stable_mem (b fr : Nat) (s : List UInt8) : Stable (memA b fr s) := by
  rintro w w' F G ⟨y, t, h, hb, hy⟩ hc hg
  exact ⟨y, t, h.keep hc (hg b hb) (fun x hx => hg x (hy x hx)), hb, hy⟩
theorem mem_out {w w' : World} {b fr : Nat} {y y' : Option Nat} {s' : List UInt8} {t' : Int} {F : Nat → Prop} (hM : MemO w' b y' fr s' t') (hk : KeptM b y w w' y') (hb : F b) (hy : ∀ x, y = some x → F x) : Out (memA b fr s') w w' F := by
  refine ⟨fun x => x = b ∨ y' = some x, ⟨y', t', hM, .inl rfl, fun x hx => .inr hx⟩, fun x hx => ⟨?_, ?_⟩, hk.1.mono (fun x hx => hx.elim (fun e => e ▸ hb) (hy x))⟩
  · rcases hx with rfl | hx
    · exact .inl hb
    · rcases hk.2 with e | ⟨e, g, e2, e3⟩
      · exact .inl (hy x (by rw [← e, hx]))
      · rw [e2] at hx; injection hx with hx; exact .inr (by omega)
  · rcases hx with rfl | hx
    · exact hM.lt.1
    · exact hM.lt.2 x hx
theorem o_mload {w0 w : World} {b fr : Nat} {s : List UInt8} {R : Asn} (h : Own w0 w (Star (memA b fr s) R)) (hR : Stable R) (a n v r : Int) (ha : u64 a) (hv : loadV s a n = v) (hr : loadR s a n = r) :
    Calls Tryz.prog 17 #[.pointer (some ⟨b, 0, none⟩), .int .u64 a, .int .i64 n] w fun e w' => e = .returned (.tuple #[.int .u64 v, .int .i64 r]) ∧ Own w0 w' (Star (memA b fr s) R) := by
  subst hv; subst hr
  refine h.call hR (fun F hF => ?_)
  obtain ⟨y, t, hM, hb, hy⟩ := hF
  refine (c_load b y fr s t w hM a n ha.1 ha.2).mono ?_
  rintro e w' ⟨rfl, y', hM', hk⟩
  exact ⟨rfl, mem_out hM' hk hb hy⟩
theorem o_mstore {w0 w : World} {b fr : Nat} {s : List UInt8} {R : Asn} (h : Own w0 w (Star (memA b fr s) R)) (hR : Stable R) (a n v r : Int) (ha : u64 a) (hv : W.word v) (s' : List UInt8) (hs : storeS s a n v = s') (hr : loadR s a n = r) :
    Calls Tryz.prog 13 #[.pointer (some ⟨b, 0, none⟩), .int .u64 a, .int .i64 n, .int .u64 v] w fun e w' => e = .returned (.int .i64 r) ∧ Own w0 w' (Star (memA b fr s') R) := by
  subst hs; subst hr
  refine h.call hR (fun F hF => ?_)
  obtain ⟨y, t, hM, hb, hy⟩ := hF
  refine (c_store b y fr s t w hM a n v ha.1 ha.2 hv).mono ?_
  rintro e w' ⟨rfl, y', hM', hk⟩
  exact ⟨rfl, mem_out hM' hk hb hy⟩
theorem o_mget {w0 w : World} {b fr : Nat} {s : List UInt8} {R : Asn} (h : Own w0 w (Star (memA b fr s) R)) (hR : Stable R) (a n r : Int) (ha : u64 a) (hn : n ≤ 9223372036854775807) (v : ByteArray) (hv : getV s a n = v) (hr : getR s a n = r) :
    Calls Tryz.prog 10 #[.pointer (some ⟨b, 0, none⟩), .int .u64 a, .int .i64 n] w fun e w' => e = .returned (.tuple #[.string v, .int .i64 r]) ∧ Own w0 w' (Star (memA b fr s) R) := by
  subst hv; subst hr
  refine h.call hR (fun F hF => ?_)
  obtain ⟨y, t, hM, hb, hy⟩ := hF
  refine (c_get b y fr s t w hM a n ha.1 ha.2 hn).mono ?_
  rintro e w' ⟨rfl, y', hM', hk⟩
  exact ⟨rfl, mem_out hM' hk hb hy⟩
theorem o_mframes {w0 w : World} {b fr : Nat} {s : List UInt8} {R : Asn} (h : Own w0 w (Star (memA b fr s) R)) :
    Calls Tryz.prog 15 #[.pointer (some ⟨b, 0, none⟩)] w fun e w' => e = .returned (.int .i64 fr) ∧ w' = w := by
  obtain ⟨F, y, t, hM, _⟩ := h.left.get
  exact c_frames b y fr s t w hM
theorem o_mlen {w0 w : World} {b fr : Nat} {s : List UInt8} {R : Asn} (h : Own w0 w (Star (memA b fr s) R)) : s.length = fr * 256 ∧ 1 ≤ fr ∧ fr ≤ 256 := by
  obtain ⟨F, y, t, hM, _⟩ := h.left.get
  exact ⟨hM.1, hM.2.1, hM.2.2.1⟩
theorem o_mnew {w0 w : World} {R : Asn} (h : Own w0 w R) (hR : Stable R) (fr : Nat) (h1 : 1 ≤ fr) (h2 : fr ≤ 256) :
    Calls Tryz.prog 11 #[.int .i64 fr] w fun e w' => ∃ b, e = .returned (.tuple #[.pointer (some ⟨b, 0, none⟩), .int .i64 0]) ∧ Own w0 w' (Star (memA b fr (List.replicate (fr * 256) 0)) R) := by
  refine (c_new fr h1 h2 w).mono ?_
  rintro e w' ⟨b, rfl, hM, hb, g⟩
  exact ⟨b, rfl, h.add hR g ⟨fun x => x = b, ⟨none, 0, hM, rfl, fun x hx => by cases hx⟩, fun x hx => by rw [hx]; exact ⟨hb, hM.lt.1⟩⟩⟩
theorem o_mwalk {w0 w : World} {b fr : Nat} {s : List UInt8} {R : Asn} (h : Own w0 w (Star (memA b fr s) R)) (hR : Stable R) (r a acc v x : Int) (ha : u64 a) (hr : i64 r) (hv : walkV fr s r a acc = v) (hx : walkR fr s r a acc = x) :
    Calls Tryz.prog 34 #[.pointer (some ⟨b, 0, none⟩), .int .i64 r, .int .u64 a, .int .i64 acc] w fun e w' => e = .returned (.tuple #[.int .u64 v, .int .i64 x]) ∧ Own w0 w' (Star (memA b fr s) R) := by
  refine h.call hR (fun F hF => ?_)
  obtain ⟨y, t, hM, hb, hy⟩ := hF
  refine (c_walk b y fr s t w hM r a acc v x ha hr hv hx).mono ?_
  rintro e w' ⟨rfl, y', t', hM', hk⟩
  exact ⟨rfl, mem_out hM' hk hb hy⟩
end Go.Proofs.YtngeabphjdfdgaaGreatDoor.P
namespace Go.Proofs.YtngeabphjdfdgaaGreatDoor.P
open Go.RowKit Go.MuLone Go.Proofs.YtngeabphjdfdgaaGreatDoor.W
/-- The document's memory, its blocks one's own. -/
def rmA (rb fr : Nat) (s : List UInt8) : Asn := fun w F => ∃ vb t, RMemO w rb vb s t ∧ s.length = fr * 256 ∧ F rb ∧ F vb
theorem stable_rm (rb fr : Nat) (s : List UInt8) : Stable (rmA rb fr s) := by
  rintro w w' F G ⟨vb, t, h, hl, hb, hv⟩ hc hg
  exact ⟨vb, t, h.keep hc (hg rb hb) (hg vb hv), hl, hb, hv⟩
theorem rm_out {w w' : World} {rb vb fr : Nat} {s' : List UInt8} {t' : Int} {F : Nat → Prop} (hM : RMemO w' rb vb s' t') (hl : s'.length = fr * 256) (hk : Ch (fun x => x = rb ∨ x = vb) w w') (hb : F rb) (hv : F vb) : Out (rmA rb fr s') w w' F := by
  refine ⟨fun x => x = rb ∨ x = vb, ⟨vb, t', hM, hl, .inl rfl, .inr rfl⟩, fun x hx => ⟨.inl ?_, ?_⟩, hk.mono (fun x hx => hx.elim (fun e => e ▸ hb) (fun e => e ▸ hv))⟩
  · rcases hx with rfl | rfl <;> assumption
  · rcases hx with rfl | rfl
    · exact blk_lt hM.1
    · exact blk_lt hM.2.2.1
theorem storS_len2 (s : List UInt8) (a n v : Int) (ha : 0 ≤ a) : (storeS s a n v).length = s.length := by
  unfold storeS; split
  · split
    · rename_i h1 h2
      have h3 : a + n ≤ s.length := of_decide_eq_true h2
      have h4 := sized_nat h1
      obtain ⟨m, rfl⟩ : ∃ m : Nat, n = (m : Int) := ⟨n.toNat, by omega⟩
      refine putL_len _ _ _ ?_
      rw [Array.length_toList, show (bytesF v m).data.size = m by rw [show (bytesF v m).data.size = (bytesF v m).size from rfl, bytes_size, clamp_sized h1]]
      omega
    · rfl
  · rfl
theorem o_rstore {w0 w : World} {b fr : Nat} {s : List UInt8} {R : Asn} (h : Own w0 w (Star (rmA b fr s) R)) (hR : Stable R) (a n v r : Int) (ha : u64 a) (hv : W.word v) (s' : List UInt8) (hs : storeS s a n v = s') (hr : loadR s a n = r) :
    Calls Tryz.prog 14 #[.pointer (some ⟨b, 0, none⟩), .int .u64 a, .int .i64 n, .int .u64 v] w fun e w' => e = .returned (.int .i64 r) ∧ Own w0 w' (Star (rmA b fr s') R) := by
  subst hs; subst hr
  refine h.call hR (fun F hF => ?_)
  obtain ⟨vb, t, hM, hl, hb, hvb⟩ := hF
  refine (r_store b vb s t w hM a n v ha.1 ha.2 hv).mono ?_
  rintro e w' ⟨rfl, hM', hk⟩
  exact ⟨rfl, rm_out hM' (by rw [storS_len2 _ _ _ _ ha.1]; exact hl) (hk.mono (fun x hx => hx.elim .inl (fun e => .inr (by injection e with e; exact e.symm)))) hb hvb⟩
theorem o_rlen {w0 w : World} {b fr : Nat} {s : List UInt8} {R : Asn} (h : Own w0 w (Star (rmA b fr s) R)) : s.length = fr * 256 := by
  obtain ⟨F, vb, t, hM, hl, _⟩ := h.left.get
  exact hl
theorem o_rnew {w0 w : World} {R : Asn} (h : Own w0 w R) (hR : Stable R) (fr : Nat) (h2 : fr ≤ 256) :
    Calls Tryz.prog 12 #[.int .i64 fr] w fun e w' => ∃ b, e = .returned (.pointer (some ⟨b, 0, none⟩)) ∧ Own w0 w' (Star (rmA b fr (List.replicate (fr * 256) 0)) R) := by
  refine (r_new fr h2 w).mono ?_
  rintro e w' ⟨rfl, hM, g⟩
  refine ⟨_, rfl, h.add hR g ⟨fun x => x = w.heap.size + 1 ∨ x = w.heap.size, ⟨w.heap.size, 0, hM, by simp, .inl rfl, .inr rfl⟩, fun x hx => ?_⟩⟩
  have l1 := blk_lt hM.1
  have l2 := blk_lt hM.2.2.1
  rcases hx with rfl | rfl <;> omega
end Go.Proofs.YtngeabphjdfdgaaGreatDoor.P
