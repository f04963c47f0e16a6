/- Stage 3: the document's memory: Put, Store, Copy. No condition. -/
import Derived.Test.YtbcnibnkojnpiaaGreatR1
import Derived.StillTailTactics
set_option linter.unusedVariables false
namespace Go.Proofs.YtbcnibnkojnpiaaGreat.P
open Go.RowKit Go.MuLone Go.Proofs.YtbcnibnkojnpiaaGreat.W
theorem RMemO.bytes {w w' : World} {rb vb : Nat} {s z : List UInt8} {t : Int} (h : RMemO w rb vb s t) (hc : Ch (· = vb) w w') (hl : z.length = s.length) (hb : w'.heap[vb]? = some (.cells (bys z) 5)) : RMemO w' rb vb z t :=
  ⟨by rw [hl]; exact hc.blk h.1 (fun e => h.2.1 e.symm), h.2.1, hb, by rw [hl]; exact h.2.2.2⟩
def RPutP (rb vb : Nat) (s : List UInt8) (t r : Int) (w : World) (e : Ending) (w' : World) : Prop :=
  e = .returned (.int .i64 r) ∧ RMemO w' rb vb s t ∧ Ch (fun x => x = rb ∨ some vb = some x) w w'
theorem arr_list (x : ByteArray) (i : Nat) (h : i < x.size) : x.data.toList[i]'(by simpa using h) = x[i] := rfl
set_option maxRecDepth 100000 in
set_option maxHeartbeats 800000 in
theorem r_put (rb vb : Nat) (s : List UInt8) (t : Int) (w : World) (h : RMemO w rb vb s t) (a : Int) (x : ByteArray) (ha0 : 0 ≤ a) (ha1 : a ≤ 18446744073709551615) (hx : x.size ≤ maxLen) :
    Calls Tryz.prog 103 #[.pointer (some ⟨rb, 0, none⟩), .int .u64 a, .string x] w (RPutP rb vb (putS s a x) t (putR s a x) w) := by
  have H := Lib.hid h
  unfold maxLen at hx
  by_cases hi : a + (x.size : Int) ≤ s.length
  · obtain ⟨k, rfl⟩ : ∃ k : Nat, a = (k : Int) := ⟨a.toNat, by omega⟩
    have e1 : putS s k x = putL s k x.data.toList := by unfold putS; rw [if_pos (inB_t hi)]; simp
    have e2 : putR s k x = 0 := by unfold putR; rw [if_pos (inB_t hi)]
    have e4 : inB s k x.size = true := inB_t hi
    rw [e1, e2]
    have E4 := Lib.hid e4
    have hxl : x.data.toList.length = x.size := by simp
    have hkm : k + x.size ≤ s.length := by omega
    have hl := h.2.2.2
    have HKM := Lib.hid hkm
    have HXL := Lib.hid hxl
    have b1 : (0 : Int) ≤ k := by omega
    have b2 : (k : Int) ≤ 65536 := by omega
    have b3 : (x.size : Int) ≤ 65536 := by omega
    clear h e1 e2 e4 hi ha0 ha1 hxl
    go_enter Tryz.func103, Tryz.ntmps103
    go_wp2_with (go_at_call 96; refine (r_there rb vb s t _ H.out k x.size (by omega) (by omega) (by omega)).mono ?_; rintro e w' ⟨rfl, hw'⟩; have hq := hw'.symm; subst hq; rw [E4.out])
    go_loopw [8] (fun v8 wr => ∃ i : Nat, i ≤ x.size ∧ v8 = .int .i64 i ∧ RMemO wr rb vb (putL s k (x.data.toList.take i)) t ∧ Ch (fun z => z = rb ∨ some vb = some z) w wr) (fun v8 _ => x.size - (intOf v8).toNat)
    case atStart => exact ⟨0, Nat.zero_le _, rfl, by rw [List.take_zero, putL_nil]; exact H.out, Ch.refl _ _⟩
    case round =>
      obtain ⟨i, hi, rfl, hR, hC⟩ := hrel
      have HR := Lib.hid hR
      have HC := Lib.hid hC
      by_cases hlt : i < x.size
      · have hxl := HXL.out
        have hkm := HKM.out
        have htl : (x.data.toList.take i).length = i := by rw [List.length_take, HXL.out]; omega
        have hpl : (putL s k (x.data.toList.take i)).length = s.length := putL_len _ _ _ (by omega)
        have hj : k + i < (putL s k (x.data.toList.take i)).length := by omega
        have c0 := blk_cell hR.1 0 (v := .slice (some ⟨vb, 0, none⟩) (putL s k (x.data.toList.take i)).length (putL s k (x.data.toList.take i)).length) rfl
        have cc := blk_cell hR.2.2.1 (k + i) (bys_get _ _ hj)
        have zz := blk_frozen hR.2.2.1 (k + i)
        have hst := putL_step s k x.data.toList (by omega) i (by omega)
        rw [arr_list x i hlt] at hst
        have hset := blk_set hR.2.2.1 (k + i) (bv x[i])
        rw [bys_set, hst] at hset
        have HSET := Lib.hid hset
        rw [hpl] at c0
        clear hR hC hset hst
        have HPL := Lib.hid hpl
        generalize (putL s k (x.data.toList.take i))[k + i]'hj = y at *
        clear hpl hj
        have b5 : (0 : Int) ≤ i := by omega
        have b6 : (i : Int) < x.size := by omega
        have b7 : (k : Int) + i < s.length := by omega
        have e5 : ((k : Int) + i).toNat = k + i := by omega
        have b8 : (s.length : Int) ≤ 65536 := by omega
        clear hkm hxl htl
        go_wp2_with fail
        have e6 : IntKind.u64.wrap (i : Int) = i := by rw [IntKind.wrap_u64]; omega
        have e7 : IntKind.u64.wrap ((k : Int) + i) = k + i := by rw [IntKind.wrap_u64]; omega
        have b9 : (0 : Int) ≤ (k : Int) + i := by omega
        go_still_tail 12, (by kernel_rfl)
        go_wp2_with fail
        go_roundw
        case rel =>
          have hl2 : (putL s k (x.data.toList.take (i + 1))).length = s.length := putL_len _ _ _ (by rw [List.length_take, HXL.out]; have := HKM.out; omega)
          exact ⟨i + 1, by omega, by go_num, (HR.out.bytes (z := putL s k (x.data.toList.take (i + 1))) ((Ch.setCell (S := (· = vb)) (Ch.refl _ wr) (p := ⟨vb, k + i, none⟩) (.inl rfl) (bv x[i])).drew) (by rw [hl2, HPL.out]) HSET.out), (HC.out.setCell (.inl (.inr rfl)) _).drew⟩
        case measure => simp [intOf]; omega
      · obtain rfl : i = x.size := by omega
        have e : x.data.toList.take x.size = x.data.toList := List.take_of_length_le (by rw [HXL.out]; exact Nat.le_refl _)
        rw [e] at hR
        have HR2 := Lib.hid hR
        clear hR hC e
        go_wp2_with fail
        go_ret
        exact ⟨rfl, HR2.out, HC.out⟩
  · have e1 : putS s a x = s := by unfold putS; rw [if_neg (by rw [inB_f hi]; simp)]
    have e2 : putR s a x = 3 := by unfold putR; rw [if_neg (by rw [inB_f hi]; simp)]
    have e4 : inB s a x.size = false := inB_f hi
    rw [e1, e2]
    have E4 := Lib.hid e4
    clear h e1 e2 e4 hi
    go_enter Tryz.func103, Tryz.ntmps103
    go_wp2_with (go_at_call 96; refine (r_there rb vb s t _ H.out a x.size ha0 ha1 (by omega)).mono ?_; rintro e w' ⟨rfl, rfl⟩; rw [E4.out])
    go_ret
    exact ⟨rfl, H.out, Ch.refl _ _⟩
set_option maxRecDepth 100000 in
theorem r_store (rb vb : Nat) (s : List UInt8) (t : Int) (w : World) (h : RMemO w rb vb s t) (a n v : Int) (ha0 : 0 ≤ a) (ha1 : a ≤ 18446744073709551615) (hv : W.word v) :
    Calls Tryz.prog 90 #[.pointer (some ⟨rb, 0, none⟩), .int .u64 a, .int .i64 n, .int .u64 v] w (RPutP rb vb (storeS s a n v) (loadT s a n t) (loadR s a n) w) := by
  have H := Lib.hid h
  have HV := Lib.hid hv
  clear hv
  have hx : sizedB n = true ∨ sizedB n = false := by cases sizedB n <;> simp
  rcases hx with hx | hx
  · have hn := sized_nat hx
    obtain ⟨m, rfl⟩ : ∃ m : Nat, n = (m : Int) := ⟨n.toNat, by omega⟩
    have hbs : (bytesF v m).size = m := by rw [bytes_size, clamp_sized hx]
    by_cases hi : a + (m : Int) ≤ s.length
    · have e1 : loadT s a m t = tick t := by unfold loadT; rw [if_pos hx, if_pos (inB_t hi)]
      have e2 : storeS s a m v = putS s a (bytesF v m) := by unfold storeS putS; rw [if_pos hx, hbs]
      have e3 : loadR s a m = 0 := by unfold loadR; rw [if_pos hx, if_pos (inB_t hi)]
      have e4 : inB s a m = true := inB_t hi
      rw [e1, e2, e3]
      have E4 := Lib.hid e4
      have HBS := Lib.hid hbs
      have c1 := blk_cell h.1 1 (v := .int .u64 t) rfl
      have z1 := blk_frozen h.1 1
      have HT := Lib.hid h.ticked
      clear h e1 e2 e3 e4 hi hbs
      go_enter Tryz.func90, Tryz.ntmps90
      go_wp2_with (first
        | (go_at_call 95; refine (r_sized _ _).mono ?_; rintro e w' ⟨rfl, hw'⟩; have hq := hw'.symm; subst hq)
        | (go_at_call 96; refine (r_there rb vb s t _ H.out a m ha0 ha1 (by omega)).mono ?_; rintro e w' ⟨rfl, hw'⟩; have hq := hw'.symm; subst hq; rw [E4.out]))
      refine (c_rbytes v m HV.out _).mono ?_
      rintro e w3 ⟨rfl, g3⟩
      have g3' : Gr (w.setCell ⟨rb, 1, none⟩ (.int .u64 (tick t))) w3 := g3
      have HT3 := Lib.hid (HT.out.keep (S := fun _ => False) (Ch.of_gr g3') (fun h => h) (fun h => h))
      have HC3 : RowKit.Hid (Ch (fun x => x = rb ∨ some vb = some x) w w3) := Lib.hid ((Ch.setCell (S := fun x => x = rb ∨ some vb = some x) (Ch.refl _ w) (p := ⟨rb, 1, none⟩) (.inl (.inl rfl)) _).trans (Ch.of_gr g3'))
      clear g3 g3'
      go_wp2_with fail
      refine (r_put rb vb s (tick t) w3 HT3.out a (bytesF v m) ha0 ha1 (by rw [HBS.out]; unfold maxLen; omega)).mono ?_
      rintro e w4 ⟨rfl, hM, hC⟩
      have HM := Lib.hid hM
      have HC := Lib.hid hC
      clear hM hC
      go_wp2_with fail
      go_ret
      exact ⟨rfl, HM.out, HC3.out.trans HC.out⟩
    · have e1 : loadT s a m t = t := by unfold loadT; rw [if_pos hx, if_neg (by rw [inB_f hi]; simp)]
      have e2 : storeS s a m v = s := by unfold storeS; rw [if_pos hx, if_neg (by rw [inB_f hi]; simp)]
      have e3 : loadR s a m = 3 := by unfold loadR; rw [if_pos hx, if_neg (by rw [inB_f hi]; simp)]
      have e4 : inB s a m = false := inB_f hi
      rw [e1, e2, e3]
      have E4 := Lib.hid e4
      clear h e1 e2 e3 e4 hi
      go_enter Tryz.func90, Tryz.ntmps90
      go_wp2_with (first
        | (go_at_call 95; refine (r_sized _ _).mono ?_; rintro e w' ⟨rfl, hw'⟩; have hq := hw'.symm; subst hq)
        | (go_at_call 96; refine (r_there rb vb s t _ H.out a m ha0 ha1 (by omega)).mono ?_; rintro e w' ⟨rfl, hw'⟩; have hq := hw'.symm; subst hq; rw [E4.out]))
      go_ret
      exact ⟨rfl, H.out, Ch.refl _ _⟩
  · have e1 : loadT s a n t = t := by unfold loadT; rw [if_neg (by rw [hx]; simp)]
    have e2 : storeS s a n v = s := by unfold storeS; rw [if_neg (by rw [hx]; simp)]
    have e3 : loadR s a n = 1 := by unfold loadR; rw [if_neg (by rw [hx]; simp)]
    rw [e1, e2, e3]
    clear h e1 e2 e3
    go_enter Tryz.func90, Tryz.ntmps90
    go_wp2_with (go_at_call 95; refine (r_sized _ _).mono ?_; rintro e w' ⟨rfl, hw'⟩; have hq := hw'.symm; subst hq)
    go_ret
    exact ⟨rfl, H.out, Ch.refl _ _⟩
end Go.Proofs.YtbcnibnkojnpiaaGreat.P
namespace Go.Proofs.YtbcnibnkojnpiaaGreat.P
open Go.RowKit Go.MuLone Go.Proofs.YtbcnibnkojnpiaaGreat.W
theorem putL_at (s : List UInt8) (a : Nat) (x : List UInt8) (h : a + x.length ≤ s.length) (j : Nat) (hj : j < a ∨ a + x.length ≤ j) : (putL s a x)[j]? = s[j]? := by
  rw [putL_get s a x h j]
  rcases hj with hj | hj
  · rw [if_pos hj]
  · rw [if_neg (by omega), if_neg (by omega)]

set_option maxRecDepth 100000 in
theorem copy_at (s : List UInt8) (p q i : Nat) (hp : p * 256 + 256 ≤ s.length) (hq : q * 256 + 256 ≤ s.length) (hi : i < 256) : (putL s (p * 256) (((s.drop (q * 256)).take 256).take i))[q * 256 + i]? = s[q * 256 + i]? := by
  generalize hX : (s.drop (q * 256)).take 256 = X
  have hXl : X.length = 256 := by rw [← hX, List.length_take, List.length_drop]; omega
  have hl : (X.take i).length = i := by rw [List.length_take]; omega
  clear hX hXl
  have hb : p * 256 + (X.take i).length ≤ s.length := by rw [hl]; omega
  generalize X.take i = Y at *
  by_cases hpq : p = q
  · subst hpq
    exact putL_at s (p * 256) Y hb (p * 256 + i) (.inr (by omega))
  · exact putL_at s (p * 256) Y hb (q * 256 + i) (by omega)
theorem ret_int {a b : Int} (h : a = b) : Ending.returned (.int .i64 a) = .returned (.int .i64 b) := by rw [h]
def rcopyR (fr : Nat) (n k : Int) : Int := if frB fr n = true then (if k < (fr : Int) then 0 else 3) else 3
def rcopyS (fr : Nat) (s : List UInt8) (n k : Int) : List UInt8 := if k < 0 then clearS fr s n else copyS fr s n k
set_option maxRecDepth 100000 in
set_option maxHeartbeats 1600000 in
theorem r_copy_yes (rb vb fr : Nat) (s : List UInt8) (t : Int) (w : World) (h : RMemO w rb vb s t) (hfr : s.length = fr * 256) (hfr2 : fr ≤ 256) (p : Nat) (hp : p < fr) (q : Nat) (hq : q < fr) :
    Calls Tryz.prog 66 #[.pointer (some ⟨rb, 0, none⟩), .int .i64 p, .int .i64 q] w (RPutP rb vb (putL s (p * 256) ((s.drop (q * 256)).take 256)) t 0 w) := by
  have H := Lib.hid h
  have hX : ((s.drop (q * 256)).take 256).length = 256 := by simp; omega
  have hxi : ∀ i, i < 256 → ((s.drop (q * 256)).take 256)[i]? = s[q * 256 + i]? := fun i hi => by rw [List.getElem?_take_of_lt hi, List.getElem?_drop]
  have hca := fun i hi => copy_at s p q i (by omega) (by omega) hi
  generalize hXX : (s.drop (q * 256)).take 256 = X at *
  have HX := Lib.hid hX
  have HXI := Lib.hid hxi
  have HCA := Lib.hid hca
  have HFR := Lib.hid hfr
  have c0 := blk_cell h.1 0 (v := .slice (some ⟨vb, 0, none⟩) s.length s.length) rfl
  rw [hfr] at c0
  have HP := Lib.hid hp
  have HQ := Lib.hid hq
  have b0 : (0 : Int) ≤ p := by omega
  have b1 : (p : Int) ≤ 255 := by omega
  have b2 : (0 : Int) ≤ q := by omega
  have b3 : (q : Int) ≤ 255 := by omega
  have e0 : ((fr * 256 : Nat) : Int) / 256 = fr := by omega
  have d0 : decide ((p : Int) < 0) = false := decide_eq_false (by omega)
  have d1 : decide (fr ≤ p) = false := decide_eq_false (by omega)
  have d2 : decide (fr ≤ q) = false := decide_eq_false (by omega)
  clear h hX hxi hca hXX hfr hp hq
  go_enter Tryz.func66, Tryz.ntmps66
  go_wp2_with fail
  go_loopw [8] (fun v8 wr => ∃ i : Nat, i ≤ 256 ∧ v8 = .int .i64 i ∧ RMemO wr rb vb (putL s (p * 256) (X.take i)) t ∧ Ch (fun z => z = rb ∨ some vb = some z) w wr) (fun v8 _ => 256 - (intOf v8).toNat)
  case atStart => exact ⟨0, Nat.zero_le _, rfl, by rw [List.take_zero, putL_nil]; exact H.out, Ch.refl _ _⟩
  case round =>
    obtain ⟨i, hi, rfl, hR, hC⟩ := hrel
    have HR := Lib.hid hR
    have HC := Lib.hid hC
    have hp := HP.out
    have hq := HQ.out
    have hfr := HFR.out
    have hX := HX.out
    by_cases hlt : i < 256
    · have htl : (X.take i).length = i := by rw [List.length_take]; omega
      have hpl : (putL s (p * 256) (X.take i)).length = s.length := putL_len _ _ _ (by omega)
      have hj : p * 256 + i < (putL s (p * 256) (X.take i)).length := by omega
      have hj2 : q * 256 + i < (putL s (p * 256) (X.take i)).length := by omega
      have hXi : i < X.length := by omega
      have hval : (putL s (p * 256) (X.take i))[q * 256 + i]'hj2 = X[i] := by
        have e1 := HCA.out i hlt
        rw [← HXI.out i hlt, List.getElem?_eq_getElem hj2, List.getElem?_eq_getElem hXi] at e1
        injection e1
      have c0 := blk_cell hR.1 0 (v := .slice (some ⟨vb, 0, none⟩) (putL s (p * 256) (X.take i)).length (putL s (p * 256) (X.take i)).length) rfl
      have cc := blk_cell hR.2.2.1 (p * 256 + i) (bys_get _ _ hj)
      have cs := blk_cell hR.2.2.1 (q * 256 + i) (bys_get _ _ hj2)
      rw [hval] at cs
      have zz := blk_frozen hR.2.2.1 (p * 256 + i)
      have hst := putL_step s (p * 256) X (by omega) i hXi
      have hset := blk_set hR.2.2.1 (p * 256 + i) (bv X[i])
      rw [bys_set, hst] at hset
      have HSET := Lib.hid hset
      rw [hpl, hfr] at c0
      have HPL := Lib.hid hpl
      generalize (putL s (p * 256) (X.take i))[p * 256 + i]'hj = y at *
      generalize hxi : X[i] = xi at *
      clear hR hC hset hst hval hpl hj hj2 htl hxi
      have b5 : (0 : Int) ≤ i := by omega
      have b6 : (i : Int) < 256 := by omega
      have b7 : (p : Int) * 256 + i < fr * 256 := by omega
      have b8 : (q : Int) * 256 + i < fr * 256 := by omega
      have e5 : ((p : Int) * 256 + i).toNat = p * 256 + i := by omega
      have e6 : ((q : Int) * 256 + i).toNat = q * 256 + i := by omega
      clear hp hq hfr hX hXi
      unfold bv at cc cs
      go_wp2_with fail
      go_roundw
      case rel =>
        have hl2 : (putL s (p * 256) (X.take (i + 1))).length = s.length := putL_len _ _ _ (by rw [List.length_take]; have := HX.out; have := HP.out; have := HFR.out; omega)
        exact ⟨i + 1, by omega, by go_num, (HR.out.bytes (z := putL s (p * 256) (X.take (i + 1))) (Ch.setCell (S := (· = vb)) (Ch.refl _ wr) (p := ⟨vb, p * 256 + i, none⟩) (.inl rfl) (bv xi)) (by rw [hl2, HPL.out]) HSET.out), HC.out.setCell (.inl (.inr rfl)) _⟩
      case measure => simp [intOf]; omega
    · obtain rfl : i = 256 := by omega
      have e : X.take 256 = X := List.take_of_length_le (by omega)
      rw [e] at hR
      have HR2 := Lib.hid hR
      clear hR hC e hp hq hfr hX
      go_wp2_with fail
      go_ret
      exact ⟨rfl, HR2.out, HC.out⟩
set_option maxRecDepth 100000 in
set_option maxHeartbeats 1600000 in
theorem r_clear_yes (rb vb fr : Nat) (s : List UInt8) (t : Int) (w : World) (h : RMemO w rb vb s t) (hfr : s.length = fr * 256) (hfr2 : fr ≤ 256) (p : Nat) (hp : p < fr) (q : Int) (hq : q < 0) :
    Calls Tryz.prog 66 #[.pointer (some ⟨rb, 0, none⟩), .int .i64 p, .int .i64 q] w (RPutP rb vb (putL s (p * 256) (List.replicate 256 0)) t 0 w) := by
  have H := Lib.hid h
  have hX : (List.replicate 256 (0 : UInt8)).length = 256 := List.length_replicate
  have hxi : ∀ i (h : i < (List.replicate 256 (0 : UInt8)).length), (List.replicate 256 (0 : UInt8))[i] = 0 := fun i h => List.getElem_replicate h
  generalize hXX : List.replicate 256 (0 : UInt8) = X at *
  have HX := Lib.hid hX
  have HXI := Lib.hid hxi
  have HFR := Lib.hid hfr
  have c0 := blk_cell h.1 0 (v := .slice (some ⟨vb, 0, none⟩) s.length s.length) rfl
  rw [hfr] at c0
  have HP := Lib.hid hp
  have HQ := Lib.hid hq
  have b0 : (0 : Int) ≤ p := by omega
  have b1 : (p : Int) ≤ 255 := by omega
  have e0 : ((fr * 256 : Nat) : Int) / 256 = fr := by omega
  have d0 : decide ((p : Int) < 0) = false := decide_eq_false (by omega)
  have d1 : decide (fr ≤ p) = false := decide_eq_false (by omega)
  have d2 : decide ((fr : Int) ≤ q) = false := decide_eq_false (by omega)
  have d3 : decide (0 ≤ q) = false := decide_eq_false (by omega)
  clear h hX hxi hXX hfr hp hq
  go_enter Tryz.func66, Tryz.ntmps66
  go_wp2_with fail
  go_loopw [8] (fun v8 wr => ∃ i : Nat, i ≤ 256 ∧ v8 = .int .i64 i ∧ RMemO wr rb vb (putL s (p * 256) (X.take i)) t ∧ Ch (fun z => z = rb ∨ some vb = some z) w wr) (fun v8 _ => 256 - (intOf v8).toNat)
  case atStart => exact ⟨0, Nat.zero_le _, rfl, by rw [List.take_zero, putL_nil]; exact H.out, Ch.refl _ _⟩
  case round =>
    obtain ⟨i, hi, rfl, hR, hC⟩ := hrel
    have HR := Lib.hid hR
    have HC := Lib.hid hC
    have hp := HP.out
    have hq := HQ.out
    have hfr := HFR.out
    have hX := HX.out
    by_cases hlt : i < 256
    · have htl : (X.take i).length = i := by rw [List.length_take]; omega
      have hpl : (putL s (p * 256) (X.take i)).length = s.length := putL_len _ _ _ (by omega)
      have hj : p * 256 + i < (putL s (p * 256) (X.take i)).length := by omega
      have hXi : i < X.length := by omega
      have hval : X[i] = 0 := HXI.out i hXi
      have c0 := blk_cell hR.1 0 (v := .slice (some ⟨vb, 0, none⟩) (putL s (p * 256) (X.take i)).length (putL s (p * 256) (X.take i)).length) rfl
      have cc := blk_cell hR.2.2.1 (p * 256 + i) (bys_get _ _ hj)
      have zz := blk_frozen hR.2.2.1 (p * 256 + i)
      have hst := putL_step s (p * 256) X (by omega) i hXi
      have hset := blk_set hR.2.2.1 (p * 256 + i) (bv X[i])
      rw [bys_set, hst, hval] at hset
      have HSET := Lib.hid hset
      rw [hpl, hfr] at c0
      have HPL := Lib.hid hpl
      generalize (putL s (p * 256) (X.take i))[p * 256 + i]'hj = y at *
      clear hR hC hset hst hval hpl hj htl
      have b5 : (0 : Int) ≤ i := by omega
      have b6 : (i : Int) < 256 := by omega
      have b7 : (p : Int) * 256 + i < fr * 256 := by omega
      have e5 : ((p : Int) * 256 + i).toNat = p * 256 + i := by omega
      clear hp hq hfr hX hXi
      unfold bv at cc
      go_wp2_with fail
      go_roundw
      case rel =>
        have hl2 : (putL s (p * 256) (X.take (i + 1))).length = s.length := putL_len _ _ _ (by rw [List.length_take]; have := HX.out; have := HP.out; have := HFR.out; omega)
        exact ⟨i + 1, by omega, by go_num, (HR.out.bytes (z := putL s (p * 256) (X.take (i + 1))) (Ch.setCell (S := (· = vb)) (Ch.refl _ wr) (p := ⟨vb, p * 256 + i, none⟩) (.inl rfl) (bv 0)) (by rw [hl2, HPL.out]) HSET.out), HC.out.setCell (.inl (.inr rfl)) _⟩
      case measure => simp [intOf]; omega
    · obtain rfl : i = 256 := by omega
      have e : X.take 256 = X := List.take_of_length_le (by omega)
      rw [e] at hR
      have HR2 := Lib.hid hR
      clear hR hC e hp hq hfr hX
      go_wp2_with fail
      go_ret
      exact ⟨rfl, HR2.out, HC.out⟩
set_option maxRecDepth 100000 in
theorem r_copy_no (rb vb fr : Nat) (s : List UInt8) (t : Int) (w : World) (h : RMemO w rb vb s t) (hfr : s.length = fr * 256) (hfr2 : fr ≤ 256) (n k : Int) (hn : n < 0 ∨ (fr : Int) ≤ n ∨ (fr : Int) ≤ k) :
    Calls Tryz.prog 66 #[.pointer (some ⟨rb, 0, none⟩), .int .i64 n, .int .i64 k] w fun e w' => e = .returned (.int .i64 3) ∧ w' = w := by
  have c0 := blk_cell h.1 0 (v := .slice (some ⟨vb, 0, none⟩) s.length s.length) rfl
  rw [hfr] at c0
  have e0 : ((fr * 256 : Nat) : Int) / 256 = fr := by omega
  have hc : n < 0 ∨ (0 ≤ n ∧ (fr : Int) ≤ n) ∨ (0 ≤ n ∧ n < (fr : Int) ∧ (fr : Int) ≤ k) := by omega
  clear h hfr hn
  rcases hc with h1 | ⟨h1, h2⟩ | ⟨h1, h2, h3⟩
  · have d0 : decide (n < 0) = true := decide_eq_true h1
    go_enter Tryz.func66, Tryz.ntmps66
    go_wp2_with fail
    go_ret
    exact ⟨rfl, rfl⟩
  · have d0 : decide (n < 0) = false := decide_eq_false (by omega)
    have d1 : decide ((fr : Int) ≤ n) = true := decide_eq_true h2
    go_enter Tryz.func66, Tryz.ntmps66
    go_wp2_with fail
    go_ret
    exact ⟨rfl, rfl⟩
  · have d0 : decide (n < 0) = false := decide_eq_false (by omega)
    have d1 : decide ((fr : Int) ≤ n) = false := decide_eq_false (by omega)
    have d2 : decide ((fr : Int) ≤ k) = true := decide_eq_true h3
    go_enter Tryz.func66, Tryz.ntmps66
    go_wp2_with fail
    go_ret
    exact ⟨rfl, rfl⟩
theorem r_copy (rb vb fr : Nat) (s : List UInt8) (t : Int) (w : World) (h : RMemO w rb vb s t) (hfr : s.length = fr * 256) (hfr2 : fr ≤ 256) (n k : Int) :
    Calls Tryz.prog 66 #[.pointer (some ⟨rb, 0, none⟩), .int .i64 n, .int .i64 k] w (RPutP rb vb (rcopyS fr s n k) t (rcopyR fr n k) w) := by
  by_cases hi : 0 ≤ n ∧ n < fr
  · obtain ⟨p, rfl⟩ : ∃ p : Nat, n = (p : Int) := ⟨n.toNat, by omega⟩
    by_cases hk : k < (fr : Int)
    · have e2 : rcopyR fr p k = 0 := by unfold rcopyR; rw [if_pos (frB_t hi), if_pos hk]
      by_cases h0 : k < 0
      · have e1 : rcopyS fr s p k = putL s (p * 256) (List.replicate 256 0) := by unfold rcopyS clearS; rw [if_pos h0, if_pos (frB_t hi), Int.toNat_natCast]
        rw [e1, e2]
        exact r_clear_yes rb vb fr s t w h hfr hfr2 p (by omega) k h0
      · obtain ⟨q, rfl⟩ : ∃ q : Nat, k = (q : Int) := ⟨k.toNat, by omega⟩
        have e1 : rcopyS fr s p q = putL s (p * 256) ((s.drop (q * 256)).take 256) := by unfold rcopyS copyS; rw [if_neg h0, if_pos (frB_t hi), if_pos (frB_t (by omega)), Int.toNat_natCast, Int.toNat_natCast]
        rw [e1, e2]
        exact r_copy_yes rb vb fr s t w h hfr hfr2 p (by omega) q (by omega)
    · have e2 : rcopyR fr p k = 3 := by unfold rcopyR; rw [if_pos (frB_t hi), if_neg hk]
      have e1 : rcopyS fr s p k = s := by unfold rcopyS copyS; rw [if_neg (by omega), if_pos (frB_t hi), if_neg (by rw [frB_f (by omega)]; simp)]
      rw [e1, e2]
      refine (r_copy_no rb vb fr s t w h hfr hfr2 p k (by omega)).mono ?_
      rintro e w' ⟨rfl, rfl⟩
      exact ⟨rfl, h, Ch.refl _ _⟩
  · have e2 : rcopyR fr n k = 3 := by unfold rcopyR; rw [if_neg (by rw [frB_f hi]; simp)]
    have e1 : rcopyS fr s n k = s := by
      unfold rcopyS copyS clearS; split
      · rw [if_neg (by rw [frB_f hi]; simp)]
      · rw [if_neg (by rw [frB_f hi]; simp)]
    rw [e1, e2]
    refine (r_copy_no rb vb fr s t w h hfr hfr2 n k (by omega)).mono ?_
    rintro e w' ⟨rfl, rfl⟩
    exact ⟨rfl, h, Ch.refl _ _⟩
end Go.Proofs.YtbcnibnkojnpiaaGreat.P
