/- Stage 10: FramesApart. No condition. -/
import Derived.Test.YtklkgjaljfkjbaaF9
import Derived.Test.YtklkgjaljfkjbaaF7A
import Derived.Test.YtklkgjaljfkjbaaS
import Derived.Deep.DeepCutAuto
import Derived.Deep.LoopGhost
set_option linter.unusedVariables false
namespace Go.Proofs.Ytklkgjaljfkjbaa.P
open Go.RowKit Go.MuLone Go.Maps
def zeroRow : Array Value := bys (List.replicate 256 0)
def zeroS : ByteArray := ⟨(List.replicate 256 (0 : UInt8)).toArray⟩
theorem sub_put_same (s : List UInt8) (a : Nat) (x : List UInt8) (h : a + x.length ≤ s.length) : ((putL s a x).drop a).take x.length = x := by
  unfold putL
  have e : (s.take a).length = a := by simp; omega
  rw [List.drop_append, List.drop_eq_nil_of_le (by omega), List.nil_append, e, Nat.sub_self, List.drop_zero, List.take_left']
  rfl
set_option maxRecDepth 100000 in
theorem zero_sub : subB (List.replicate 256 0) 0 256 = zeroS := by
  unfold subB zeroS
  rw [List.drop_zero, List.take_of_length_le (by simp)]
set_option maxRecDepth 100000 in
theorem conv_zero (w : World) : (convert 53 9 (.slice (some ⟨w.heap.size, 0, none⟩) 256 256)).run Try.prog (w.alloc (.cells zeroRow 5)) = .ok (.string zeroS) (w.alloc (.cells zeroRow 5)) := by
  have := conv_part w.heap.size (List.replicate 256 0) 0 256 (by simp) (w.alloc (.cells (bys (List.replicate 256 0)) 5)) (blk_new w _)
  rw [zero_sub] at this
  exact this
set_option maxRecDepth 100000 in
theorem get_clear (s : List UInt8) (m : Nat) (hs : s.length = 6 * 256) (hm : m < 6) : getV (clearS 6 s m) (256 * (m : Int)) 256 = zeroS ∧ getR (clearS 6 s m) (256 * (m : Int)) 256 = 0 := by
  have e : clearS 6 s m = putL s (m * 256) (List.replicate 256 0) := by
    unfold clearS frB
    rw [if_pos (decide_eq_true (by omega)), Int.toNat_natCast]
  have hl : (putL s (m * 256) (List.replicate 256 0)).length = s.length := putL_len s _ _ (by simp; omega)
  have hi : inB (putL s (m * 256) (List.replicate 256 0)) (256 * (m : Int)) 256 = true := by unfold inB; rw [hl]; exact decide_eq_true (by omega)
  rw [e]
  unfold getV getR
  rw [if_neg (by decide), if_pos hi, if_neg (by decide), if_pos hi]
  refine ⟨?_, rfl⟩
  have := sub_put_same s (m * 256) (List.replicate 256 0) (by simp; omega)
  unfold subB
  rw [show (256 * (m : Int)).toNat = m * 256 by omega, show (256 : Int).toNat = 256 from rfl]
  simp only [List.length_replicate] at this
  rw [this]; rfl
theorem AP.gr {w0 w w' : World} {pb b hb : Nat} {L : List Bool} {s : List UInt8} {H : List Bool} (h : AP w0 w pb b hb L s H) (g : Gr w w') : AP w0 w' pb b hb L s H := by
  obtain ⟨S, hz, k⟩ := h.out
  exact k _ _ _ (hz.keep g)
theorem give_no6 (L : List Bool) (s : List UInt8) (k : Int) (h : tknB L 0 k = false) : giveE L 0 k = 1 ∧ giveL L 0 k = L ∧ giveS L 0 k s = s := by
  unfold giveE giveL giveS; rw [h]; exact ⟨rfl, rfl, rfl⟩
theorem give_yes6 (L : List Bool) (s : List UInt8) (j : Nat) (h : tknB L 0 j = true) (hL : L.length = 6) : giveE L 0 j = 0 ∧ giveL L 0 j = L.set j true ∧ giveS L 0 j s = clearS 6 s j := by
  unfold giveE giveL giveS; rw [h, hL]; exact ⟨rfl, rfl, rfl⟩
set_option maxRecDepth 100000 in
theorem clear_len6 (s : List UInt8) (m : Nat) (hm : m < 6) (hs : s.length = 6 * 256) : (clearS 6 s m).length = 6 * 256 := by
  unfold clearS; split
  · exact (putL_len _ _ _ (by simp; omega)).trans hs
  · exact hs
theorem put_len (a : Int) (s : List UInt8) (x : ByteArray) (ha : 0 ≤ a) : (putS s a x).length = s.length := by
  unfold putS; split
  · rename_i hh
    have hh2 : a + (x.size : Int) ≤ s.length := of_decide_eq_true hh
    refine putL_len _ _ _ ?_
    rw [show x.data.toList.length = x.size by simp]; omega
  · rfl
theorem tkn6 (L : List Bool) (hL : L.length = 6) (k : Int) : tknB L 0 k = (decide (0 ≤ k) && (decide (k < 6) && !isL L k.toNat)) := by
  unfold tknB
  rw [hL, Bool.and_assoc]
  rfl
set_option maxRecDepth 100000 in
set_option maxHeartbeats 3200000 in
theorem l_apart (w : World) (o : Option Addr) (len cap bl off : Nat) (f : Nat → FActV) (hlen : len ≤ 9223372036854775807) (ho : 0 < len → o = some ⟨bl, off, none⟩ ∧ bl < w.heap.size) (hl : FActs w bl off len f) :
    Calls Try.prog 4 #[.slice o len cap] w fun e w' => e = .returned (.bool true) ∧ Gr w w' := by
  have HA := Lib.hid hl
  have HO := Lib.hid ho
  clear hl ho
  have hmk0 : ∀ w : World, (Instr.makeSlice 46 (.int .i64 6) (.int .i64 6)).run Try.prog w = .ok (.slice (some ⟨w.heap.size, 0, none⟩) 6 6) (w.alloc (.cells (hadB (List.replicate 6 true)) 4)) := fun w => mk_bools 6 (by decide) w
  have hmk1 : ∀ w : World, (Instr.makeSlice 53 (.int .i64 256) (.int .i64 256)).run Try.prog w = .ok (.slice (some ⟨w.heap.size, 0, none⟩) 256 256) (w.alloc (.cells (zeroRow) 5)) := fun w => mk_bytes 256 (by decide) w
  have hzz := fun s m h1 h2 => Lib.hid (get_clear s m h1 h2)
  have hcv := conv_zero
  generalize zeroS = Z at *
  go_enter Try.func4, Try.ntmps4
  go_wp2_with fail
  refine (c_shown10 _).mono ?_; rintro e w1 ⟨rfl, g⟩
  have G := Lib.hid g; clear g
  go_wp2_with fail
  refine (mem_new w w1 G.out 6 (by decide) (by decide)).mono ?_; rintro e w2 ⟨b, rfl, h⟩
  have H1 := Lib.hid h
  clear h
  go_wp2_with fail
  refine (pg_new w w2 b 6 0 _ 0 H1.out (by decide)).mono ?_; rintro e w3 ⟨pb, rfl, h⟩
  have H2 := Lib.hid (ap_new h (List.replicate 6 true))
  clear h
  go_wp2_with fail
  generalize w3.heap.size = hb at *
  go_loopg [9] len (fun g vi wr => ∃ (i : Nat) (L : List Bool) (s : List UInt8), i ≤ len ∧ g = len - i ∧ vi = .int .i64 i ∧ L.length = 6 ∧ s.length = 6 * 256 ∧ AP w wr pb b hb L s L)
  case atStart => exact ⟨0, _, _, Nat.zero_le _, rfl, rfl, List.length_replicate, List.length_replicate, H2.out⟩
  case round =>
    clear H1 H2
    obtain ⟨i, L, s, hi, rfl, rfl, hL, hs, hg⟩ := hrel
    have HG := Lib.hid hg
    have HL := Lib.hid hL
    have HS := Lib.hid hs
    have hT6 := tkn6 L hL
    have hB : takeB L 0 = decide (nextL L 0 6 < 6) := by unfold takeB; rw [hL]
    have hM : takeB L 0 = true → takeN L 0 = (nextL L 0 6 : Nat) ∧ takeE L 0 = 0 ∧ takeL L 0 = L.set (nextL L 0 6) false ∧ takeS L 0 s = clearS 6 s (nextL L 0 6 : Nat) := fun q => by
      unfold takeN takeE takeL takeS; rw [q, hL]; exact ⟨rfl, rfl, rfl, rfl⟩
    have hM0 : takeB L 0 = false → takeE L 0 = 4 ∧ takeL L 0 = L ∧ takeS L 0 s = s := fun q => by
      unfold takeE takeL takeS; rw [q]; exact ⟨rfl, rfl, rfl⟩
    have hI : nextL L 0 6 < 6 → isL L (nextL L 0 6) = true := fun q => nextL_is L 6 0 (by omega)
    have HM := Lib.hid (And.intro hM (And.intro hM0 hI))
    have HT6 := Lib.hid hT6
    have HB := Lib.hid hB
    clear hg hL hs hM hM0 hB hI hT6
    generalize nextL L 0 6 = m at *
    by_cases hlt : i < len
    · obtain ⟨rfl, hbl⟩ := HO.out (by omega)
      obtain ⟨⟨_, hun, hua⟩, a0', a1', a2'⟩ := HA.out i hlt
      have HUN := Lib.hid hun
      have HUA := Lib.hid hua
      have HGR := Lib.hid (show Gr w wr from HG.out.1)
      have c0 := kcell HGR.out a0'
      have C1 := Lib.hid a1'
      have C2 := Lib.hid a2'
      clear a0' a1' a2' hun hua
      by_cases hk1 : (f i).kind = 1
      · rw [hk1] at c0
        cases hb0 : takeB L 0 with
        | true =>
          have hm : m < 6 := by have := HB.out; rw [hb0] at this; exact of_decide_eq_true this.symm
          have m0 : (0 : Int) ≤ (m : Int) := by omega
          have m6 : (m : Int) < 6 := by omega
          have hq := HM.out.1 hb0
          have hm1 := HM.out.2.2 hm
          have HQ := Lib.hid hq
          have HI := Lib.hid hm1
          have HZ := hzz s m HS.out hm
          have HB0 := Lib.hid hb0
          have hls : (clearS 6 s m).length = 6 * 256 := by have := HS.out; unfold clearS; split; exact (putL_len _ _ _ (by simp; omega)).trans this; exact this
          have HLS := Lib.hid hls
          clear hq hm1 hb0 hls
          go_wp2_with fail
          refine (ap_take HG.out (m : Int) 0 _ _ HQ.out.1 HQ.out.2.1 HQ.out.2.2.1 HQ.out.2.2.2).mono ?_; rintro e w5 ⟨rfl, h⟩
          have H5 := Lib.hid h; clear h
          have hc := blk_cell H5.out.2.2.1 m (had_get L m (by rw [HL.out]; exact hm))
          rw [HI.out] at hc
          have d1 : decide ((m : Int) < 0) = false := decide_eq_false (by omega)
          have d2 : decide (5 < m) = false := decide_eq_false (by omega)
          go_wp2_with fail
          refine (ap_get H5.out (256 * (m : Int)) 256 (by omega) (by omega) (by decide) Z 0 HZ.out.1 HZ.out.2).mono ?_; rintro e w6 ⟨rfl, h⟩
          have H6 := Lib.hid h; clear h hc
          have hc6 := blk_cell H6.out.2.2.1 m (had_get L m (by rw [HL.out]; exact hm))
          rw [HI.out] at hc6
          have hf6 := blk_frozen H6.out.2.2.1 m
          have H7 := Lib.hid (AP.set (H6.out.gr (Below.alloc (Below.refl _ _) (Nat.le_refl _) (.cells zeroRow 5))) m true)
          have hca := calloc (.cells zeroRow 5) hc6
          have hfa := blk_frozen (blk_alloc (.cells zeroRow 5) H6.out.2.2.1) m
          go_wp2_with fail
          go_roundg (len - (i + 1))
          case measure => omega
          case rel => exact ⟨i + 1, L.set m false, clearS 6 s m, by omega, rfl, by go_num, by rw [List.length_set]; exact HL.out, HLS.out, H7.out⟩
        | false =>
          have hm : ¬ m < 6 := by have := HB.out; rw [hb0] at this; exact of_decide_eq_false this.symm
          have hq := HM.out.2.1 hb0
          have HQ := Lib.hid hq
          clear hq hb0
          go_wp2_with fail
          refine (ap_take HG.out (takeN L 0) 4 _ _ rfl HQ.out.1 HQ.out.2.1 HQ.out.2.2).mono ?_; rintro e w5 ⟨rfl, h⟩
          have H5 := Lib.hid h; clear h
          go_wp2_with fail
          go_roundg (len - (i + 1))
          case measure => omega
          case rel => exact ⟨i + 1, L, s, by omega, rfl, by go_num, HL.out, HS.out, H5.out⟩
      · have c1 := kcell HGR.out C1.out
        by_cases hk2 : (f i).kind = 2
        · rw [hk2] at c0
          clear hk1 hk2
          by_cases n0 : 0 ≤ (f i).n
          · by_cases n6 : (f i).n < 6
            · obtain ⟨j, hj⟩ : ∃ j : Nat, (f i).n = (j : Int) := ⟨(f i).n.toNat, by omega⟩
              rw [hj] at c1
              have C1 := Lib.hid (C1.out.trans (by rw [hj]))
              have HUN := Lib.hid (show i64 (j : Int) from hj ▸ HUN.out)
              have j6 : j < 6 := by omega
              clear n0 n6 hj
              have j0 : (0 : Int) ≤ (j : Int) := by omega
              have jj : (j : Int) < 6 := by omega
              have hm1 : tknB L 0 j = !isL L j := by rw [HT6.out, decide_eq_true j0, decide_eq_true jj, Int.toNat_natCast]; rfl
              cases hv : isL L j with
              | true =>
                have HV := Lib.hid hv
                have HQ := Lib.hid (give_no6 L s j (by rw [hm1, hv]; rfl))
                clear hm1 hv
                go_wp2_with fail
                refine (ap_give HG.out (j : Int) HUN.out 1 _ _ HQ.out.1 HQ.out.2.1 HQ.out.2.2).mono ?_; rintro e w5 ⟨rfl, h⟩
                have H5 := Lib.hid h; clear h
                have hc := blk_cell H5.out.2.2.1 j (had_get L j (by rw [HL.out]; exact j6))
                rw [HV.out] at hc
                have c1 := kcell H5.out.1 C1.out
                go_wp2_with fail
                go_roundg (len - (i + 1))
                case measure => omega
                case rel => exact ⟨i + 1, L, s, by omega, rfl, by go_num, HL.out, HS.out, H5.out⟩
              | false =>
                have HV := Lib.hid hv
                have HQ := Lib.hid (give_yes6 L s j (by rw [hm1, hv]; rfl) HL.out)
                clear hm1 hv
                go_wp2_with fail
                refine (ap_give HG.out (j : Int) HUN.out 0 _ _ HQ.out.1 HQ.out.2.1 HQ.out.2.2).mono ?_; rintro e w5 ⟨rfl, h⟩
                have H5 := Lib.hid h; clear h
                have hc := blk_cell H5.out.2.2.1 j (had_get L j (by rw [HL.out]; exact j6))
                rw [HV.out] at hc
                have hf := blk_frozen H5.out.2.2.1 j
                have c1 := kcell H5.out.1 C1.out
                have H7 := Lib.hid (H5.out.set j false)
                go_wp2_with fail
                go_roundg (len - (i + 1))
                case measure => omega
                case rel => exact ⟨i + 1, L.set j true, clearS 6 s j, by omega, rfl, by go_num, by rw [List.length_set]; exact HL.out, clear_len6 s j j6 HS.out, H7.out⟩
            · have HQ := Lib.hid (give_no6 L s (f i).n (by rw [HT6.out, decide_eq_true n0, decide_eq_false n6]; rfl))
              go_wp2_with fail
              refine (ap_give HG.out (f i).n HUN.out 1 _ _ HQ.out.1 HQ.out.2.1 HQ.out.2.2).mono ?_; rintro e w5 ⟨rfl, h⟩
              have H5 := Lib.hid h; clear h
              have c1 := kcell H5.out.1 C1.out
              go_wp2_with fail
              go_roundg (len - (i + 1))
              case measure => omega
              case rel => exact ⟨i + 1, L, s, by omega, rfl, by go_num, HL.out, HS.out, H5.out⟩
          · have HQ := Lib.hid (give_no6 L s (f i).n (by rw [HT6.out, decide_eq_false n0]; rfl))
            go_wp2_with fail
            refine (ap_give HG.out (f i).n HUN.out 1 _ _ HQ.out.1 HQ.out.2.1 HQ.out.2.2).mono ?_; rintro e w5 ⟨rfl, h⟩
            have H5 := Lib.hid h; clear h
            have c1 := kcell H5.out.1 C1.out
            go_wp2_with fail
            go_roundg (len - (i + 1))
            case measure => omega
            case rel => exact ⟨i + 1, L, s, by omega, rfl, by go_num, HL.out, HS.out, H5.out⟩
        · by_cases hk3 : (f i).kind = 3
          · rw [hk3] at c0
            clear hk1 hk2 hk3 c1
            have c2 := kcell HGR.out C2.out
            go_wp2_with fail
            refine (ap_put HG.out (f i).at_ ⟨#[120]⟩ HUA.out.1 HUA.out.2 (by decide)).mono ?_; rintro e w5 ⟨rfl, h⟩
            have H5 := Lib.hid h; clear h
            have hls := put_len (f i).at_ s ⟨#[120]⟩ HUA.out.1
            go_wp2_with fail
            go_roundg (len - (i + 1))
            case measure => omega
            case rel => exact ⟨i + 1, L, putS s (f i).at_ ⟨#[120]⟩, by omega, rfl, by go_num, HL.out, hls.trans HS.out, H5.out⟩
          · have d1 : ((f i).kind == 1) = false := by simpa using hk1
            have d2 : ((f i).kind == 2) = false := by simpa using hk2
            have d3 : ((f i).kind == 3) = false := by simpa using hk3
            clear hk1 hk2 hk3 c1
            go_wp2_with fail
            go_roundg (len - (i + 1))
            case measure => omega
            case rel => exact ⟨i + 1, L, s, by omega, rfl, by go_num, HL.out, HS.out, HG.out⟩
    · have hil : i = len := by omega
      subst hil
      go_wp2_with fail
      go_ret
      exact ⟨rfl, HG.out.1⟩
end Go.Proofs.Ytklkgjaljfkjbaa.P
