/- Stage 3: the document's memory: Put, Store, Copy. No condition. -/
import Derived.Test.YtklkgjaljfkjbaaR1
import Derived.StillTailTactics
set_option linter.unusedVariables false
namespace Go.Proofs.Ytklkgjaljfkjbaa.P
open Go.RowKit Go.MuLone Go.Proofs.Ytklkgjaljfkjbaa.W
theorem RMemO.bytes {w w' : World} {rb vb : Nat} {s z : List UInt8} {t : Int} (h : RMemO w rb vb s t) (hc : Ch (· = vb) w w') (hl : z.length = s.length) (hb : w'.heap[vb]? = some (.cells (bys z) 5)) : RMemO w' rb vb z t :=
  ⟨by rw [hl]; exact hc.blk h.1 (fun e => h.2.1 e.symm), h.2.1, hb, by rw [hl]; exact h.2.2.2⟩
def RPutP (rb vb : Nat) (s : List UInt8) (t r : Int) (w : World) (e : Ending) (w' : World) : Prop :=
  e = .returned (.int .i64 r) ∧ RMemO w' rb vb s t ∧ Ch (fun x => x = rb ∨ some vb = some x) w w'
theorem arr_list (x : ByteArray) (i : Nat) (h : i < x.size) : x.data.toList[i]'(by simpa using h) = x[i] := rfl
set_option maxRecDepth 100000 in
set_option maxHeartbeats 800000 in
theorem r_put (rb vb : Nat) (s : List UInt8) (t : Int) (w : World) (h : RMemO w rb vb s t) (a : Int) (x : ByteArray) (ha0 : 0 ≤ a) (ha1 : a ≤ 18446744073709551615) (hx : x.size ≤ maxLen) :
    Calls Try.prog 18 #[.pointer (some ⟨rb, 0, none⟩), .int .u64 a, .string x] w (RPutP rb vb (putS s a x) t (putR s a x) w) := by
  have H := Lib.hid h
  unfold maxLen at hx
  by_cases hi : a + (x.size : Int) ≤ s.length
  · obtain ⟨k, rfl⟩ : ∃ k : Nat, a = (k : Int) := ⟨a.toNat, by omega⟩
    have e1 : putS s k x = putL s k x.data.toList := by unfold putS; rw [if_pos (inB_t hi)]; simp
    have e2 : putR s k x = 0 := by unfold putR; rw [if_pos (inB_t hi)]
    have e4 : inB s k x.size = true := inB_t hi
    rw [e1, e2]
    have E4 := Lib.hid e4
    have hxl : x.data.toList.length = x.size := by simp
    have hkm : k + x.size ≤ s.length := by omega
    have hl := h.2.2.2
    have HKM := Lib.hid hkm
    have HXL := Lib.hid hxl
    have b1 : (0 : Int) ≤ k := by omega
    have b2 : (k : Int) ≤ 65536 := by omega
    have b3 : (x.size : Int) ≤ 65536 := by omega
    clear h e1 e2 e4 hi ha0 ha1 hxl
    go_enter Try.func18, Try.ntmps18
    go_wp2_with (go_at_call 29; refine (r_there rb vb s t _ H.out k x.size (by omega) (by omega) (by omega)).mono ?_; rintro e w' ⟨rfl, hw'⟩; have hq := hw'.symm; subst hq; rw [E4.out])
    go_loopw [8] (fun v8 wr => ∃ i : Nat, i ≤ x.size ∧ v8 = .int .i64 i ∧ RMemO wr rb vb (putL s k (x.data.toList.take i)) t ∧ Ch (fun z => z = rb ∨ some vb = some z) w wr) (fun v8 _ => x.size - (intOf v8).toNat)
    case atStart => exact ⟨0, Nat.zero_le _, rfl, by rw [List.take_zero, putL_nil]; exact H.out, Ch.refl _ _⟩
    case round =>
      obtain ⟨i, hi, rfl, hR, hC⟩ := hrel
      have HR := Lib.hid hR
      have HC := Lib.hid hC
      by_cases hlt : i < x.size
      · have hxl := HXL.out
        have hkm := HKM.out
        have htl : (x.data.toList.take i).length = i := by rw [List.length_take, HXL.out]; omega
        have hpl : (putL s k (x.data.toList.take i)).length = s.length := putL_len _ _ _ (by omega)
        have hj : k + i < (putL s k (x.data.toList.take i)).length := by omega
        have c0 := blk_cell hR.1 0 (v := .slice (some ⟨vb, 0, none⟩) (putL s k (x.data.toList.take i)).length (putL s k (x.data.toList.take i)).length) rfl
        have cc := blk_cell hR.2.2.1 (k + i) (bys_get _ _ hj)
        have zz := blk_frozen hR.2.2.1 (k + i)
        have hst := putL_step s k x.data.toList (by omega) i (by omega)
        rw [arr_list x i hlt] at hst
        have hset := blk_set hR.2.2.1 (k + i) (bv x[i])
        rw [bys_set, hst] at hset
        have HSET := Lib.hid hset
        rw [hpl] at c0
        clear hR hC hset hst
        have HPL := Lib.hid hpl
        generalize (putL s k (x.data.toList.take i))[k + i]'hj = y at *
        clear hpl hj
        have b5 : (0 : Int) ≤ i := by omega
        have b6 : (i : Int) < x.size := by omega
        have b7 : (k : Int) + i < s.length := by omega
        have e5 : ((k : Int) + i).toNat = k + i := by omega
        have b8 : (s.length : Int) ≤ 65536 := by omega
        clear hkm hxl htl
        go_wp2_with fail
        have e6 : IntKind.u64.wrap (i : Int) = i := by rw [IntKind.wrap_u64]; omega
        have e7 : IntKind.u64.wrap ((k : Int) + i) = k + i := by rw [IntKind.wrap_u64]; omega
        have b9 : (0 : Int) ≤ (k : Int) + i := by omega
        go_still_tail 12, (by kernel_rfl)
        go_wp2_with fail
        go_roundw
        case rel =>
          have hl2 : (putL s k (x.data.toList.take (i + 1))).length = s.length := putL_len _ _ _ (by rw [List.length_take, HXL.out]; have := HKM.out; omega)
          exact ⟨i + 1, by omega, by go_num, (HR.out.bytes (z := putL s k (x.data.toList.take (i + 1))) ((Ch.setCell (S := (· = vb)) (Ch.refl _ wr) (p := ⟨vb, k + i, none⟩) (.inl rfl) (bv x[i])).drew) (by rw [hl2, HPL.out]) HSET.out), (HC.out.setCell (.inl (.inr rfl)) _).drew⟩
        case measure => simp [intOf]; omega
      · obtain rfl : i = x.size := by omega
        have e : x.data.toList.take x.size = x.data.toList := List.take_of_length_le (by rw [HXL.out]; exact Nat.le_refl _)
        rw [e] at hR
        have HR2 := Lib.hid hR
        clear hR hC e
        go_wp2_with fail
        go_ret
        exact ⟨rfl, HR2.out, HC.out⟩
  · have e1 : putS s a x = s := by unfold putS; rw [if_neg (by rw [inB_f hi]; simp)]
    have e2 : putR s a x = 3 := by unfold putR; rw [if_neg (by rw [inB_f hi]; simp)]
    have e4 : inB s a x.size = false := inB_f hi
    rw [e1, e2]
    have E4 := Lib.hid e4
    clear h e1 e2 e4 hi
    go_enter Try.func18, Try.ntmps18
    go_wp2_with (go_at_call 29; refine (r_there rb vb s t _ H.out a x.size ha0 ha1 (by omega)).mono ?_; rintro e w' ⟨rfl, rfl⟩; rw [E4.out])
    go_ret
    exact ⟨rfl, H.out, Ch.refl _ _⟩
end Go.Proofs.Ytklkgjaljfkjbaa.P
