/- Stage 2: the document's number as text. No condition. -/
import Derived.Test.YthcfobefpknjeaaDoorTA
import Derived.Test.YthcfobefpknjeaaDoorN5
import Derived.Lib.ItoaLen
import Derived.Deep.LoopGhost
set_option linter.unusedVariables false
set_option linter.unusedSimpArgs false
set_option maxRecDepth 100000
namespace Go.Proofs.YthcfobefpknjeaaDoor.P
open Go.RowKit
def cB (l : List UInt8) : ByteArray := ⟨l.toArray⟩
theorem cB_size (l : List UInt8) : (cB l).size = l.length := by unfold cB ByteArray.size; simp
theorem dec_step (u : Nat) (h : ¬ u < 10) : Lib.decDigits u = Lib.decDigits (u / 10) ++ [UInt8.ofNat (48 + u % 10)] := by
  conv => lhs; rw [Lib.decDigits]
  rw [dif_neg h]
theorem cv_one (g : Nat) (wr : World) (hg : g = wr.heap.size) (u : Nat) (T : TypeId) : (convert 83 9 (.slice (some ⟨g, 0, none⟩) 1 1)).run Tryd.prog (wr.alloc (.cells #[.int .u8 (48 + (u : Int) % 10)] T)) = .ok (.string (cB [UInt8.ofNat (48 + u % 10)])) (wr.alloc (.cells #[.int .u8 (48 + (u : Int) % 10)] T)) := by
  subst hg
  refine run_convert_bytes_back _ _ _ 5 ⟨wr.heap.size, 0, none⟩ 1 [UInt8.ofNat (48 + u % 10)] Tryd.underlying83 Tryd.underlying5 Tryd.underlying9 ?_
  intro j hj
  have : j = 0 := by simpa using hj
  subst this
  have hc := blk_cell (blk_new wr (.cells #[.int .u8 (48 + (u : Int) % 10)] T)) 0 (v := .int .u8 (48 + (u : Int) % 10)) rfl
  have e : (([UInt8.ofNat (48 + u % 10)][0]'hj).toNat : Int) = 48 + (u : Int) % 10 := by
    show ((UInt8.ofNat (48 + u % 10)).toNat : Int) = _
    rw [UInt8.toNat_ofNat', Nat.mod_eq_of_lt (by omega)]
    omega
  rw [e]
  exact hc
theorem cB_join (x : UInt8) (l : List UInt8) : cB [x] ++ cB l = cB (x :: l) := by
  apply ByteArray.ext
  apply Array.ext'
  simp [cB, ByteArray.data_append]
theorem dec_last {n u : Nat} {l : List UInt8} (h : Lib.decDigits n = Lib.decDigits u ++ l) (hu : u < 10) : Lib.decDigits n = UInt8.ofNat (48 + u % 10) :: l := by
  rw [h, Lib.decDigits_one hu, Nat.mod_eq_of_lt hu]; rfl
theorem dec_more {n u : Nat} {l : List UInt8} (h : Lib.decDigits n = Lib.decDigits u ++ l) (hu : ¬ u < 10) : Lib.decDigits n = Lib.decDigits (u / 10) ++ UInt8.ofNat (48 + u % 10) :: l := by
  rw [h, dec_step u hu, List.append_assoc]; rfl
set_option maxHeartbeats 3200000 in
theorem r_decimal_pos (n : Nat) (hn : n ≤ 9223372036854775807) (w : World) : Calls Tryd.prog 39 #[.int .i64 (n : Int)] w fun e w' => e = .returned (.string (cB (Lib.itoa (n : Int)))) ∧ Gr w w' := by
  have hlen := Lib.itoa_length_le (n : Int) (by omega) (by omega)
  rw [Lib.itoa_nonneg] at hlen ⊢
  have nn : decide ((n : Int) < 0) = false := decide_eq_false (by omega)
  have nn2 : ¬ (n : Int) < 0 := by omega
  go_enter Tryd.func39, Tryd.ntmps39
  go_wp2_with fail
  go_loopg [0, 3] (n + 1) (fun g v s wr => ∃ (u : Nat) (l : List UInt8), g = u + 1 ∧ u ≤ n ∧ v = .int .i64 (u : Int) ∧ s = .string (cB l) ∧ Lib.decDigits n = Lib.decDigits u ++ l ∧ Gr w wr)
  case atStart => exact ⟨n, [], rfl, Nat.le_refl _, rfl, rfl, by rw [List.append_nil], Gr.refl _⟩
  case round =>
    obtain ⟨u, l, rfl, hu, rfl, rfl, hd, hg⟩ := hrel
    have HD := Lib.hid hd
    have hl : (cB l).size ≤ 30 := by rw [cB_size]; have := congrArg List.length hd; rw [List.length_append] at this; omega
    have hx : (cB [UInt8.ofNat (48 + u % 10)]).size ≤ 30 := by rw [cB_size]; show 1 ≤ 30; omega
    have G := Lib.hid (gr_al hg (.cells #[.int .u8 (48 + (u : Int) % 10)] 5))
    have r0 : 0 ≤ (u : Int) % 10 := by omega
    have r1 : ¬ (u : Int) % 10 < 0 := by omega
    have hcv := fun T => cv_one wr.heap.size wr rfl u T
    have hq : (u : Int).tdiv 10 = ((u / 10 : Nat) : Int) := by rw [Int.tdiv_eq_ediv_of_nonneg (by omega)]; omega
    have HN1 := fun h0 : u < 10 => dec_last hd h0
    have HN2 := fun h0 : ¬ u < 10 => dec_more hd h0
    generalize UInt8.ofNat (48 + u % 10) = c at *
    clear hd hg
    by_cases h0 : u < 10
    · have e0 : ((u : Int) / 10 == 0) = true := by simp; omega
      have e1 : (u : Int) / 10 = 0 := by omega
      have HN := Lib.hid (HN1 h0)
      clear h0 HN1 HN2
      go_wp2_with fail
      go_ret
      exact ⟨by rw [HN.out, cB_join]; rfl, G.out⟩
    · have e0 : ((u : Int) / 10 == 0) = false := beq_eq_false_iff_ne.2 (by omega)
      have e1 : ¬ (u : Int) / 10 = 0 := by omega
      have HN := Lib.hid (HN2 h0)
      clear HN1 HN2
      go_wp2_with fail
      go_roundg (u / 10 + 1)
      case measure => omega
      case rel => exact ⟨u / 10, _, rfl, by omega, by go_num, congrArg Value.string (cB_join _ _), HN.out, G.out⟩
set_option maxHeartbeats 3200000 in
theorem r_decimal_neg (n : Nat) (h1 : 1 ≤ n) (hn : n ≤ 9223372036854775808) (w : World) : Calls Tryd.prog 39 #[.int .i64 (-(n : Int))] w fun e w' => e = .returned (.string (cB (Lib.itoa (-(n : Int))))) ∧ Gr w w' := by
  have hlen := Lib.itoa_length_le (-(n : Int)) (by omega) (by omega)
  rw [Lib.itoa_neg n h1] at hlen ⊢
  rw [List.length_cons] at hlen
  have nn : decide (-(n : Int) < 0) = true := decide_eq_true (by omega)
  have nn3 : decide (0 < n) = true := decide_eq_true (by omega)
  have nn2 : -(n : Int) < 0 := by omega
  go_enter Tryd.func39, Tryd.ntmps39
  go_wp2_with fail
  go_loopg [0, 3] (n + 1) (fun g v s wr => ∃ (u : Nat) (l : List UInt8), g = u + 1 ∧ u ≤ n ∧ v = .int .i64 (-(u : Int)) ∧ s = .string (cB l) ∧ Lib.decDigits n = Lib.decDigits u ++ l ∧ Gr w wr)
  case atStart => exact ⟨n, [], rfl, Nat.le_refl _, rfl, rfl, by rw [List.append_nil], Gr.refl _⟩
  case round =>
    obtain ⟨u, l, rfl, hu, rfl, rfl, hd, hg⟩ := hrel
    have HD := Lib.hid hd
    have hl : (cB l).size ≤ 30 := by rw [cB_size]; have := congrArg List.length hd; rw [List.length_append] at this; omega
    have hx : (cB [UInt8.ofNat (48 + u % 10)]).size ≤ 30 := by rw [cB_size]; show 1 ≤ 30; omega
    by_cases hz : (u : Int) % 10 = 0
    · have G := Lib.hid (gr_al hg (.cells #[.int .u8 (48)] 5))
      have hcv := fun T => cv_one wr.heap.size wr rfl u T
      rw [hz, show (48 : Int) + 0 = 48 from rfl] at hcv
      have HN1 := fun h0 : u < 10 => dec_last hd h0
      have HN2 := fun h0 : ¬ u < 10 => dec_more hd h0
      generalize UInt8.ofNat (48 + u % 10) = c at *
      have h45 : (cB (c :: l)).size ≤ 61 := by rw [← cB_join, ByteArray.size_append]; omega
      clear hd hg
      by_cases h0 : u < 10
      · have e1 : (u : Int) / 10 = 0 := by omega
        have HN := Lib.hid (HN1 h0)
        clear h0 HN1 HN2
        go_wp2_with fail
        rw [cB_join]
        go_wp2_with fail
        go_ret
        exact ⟨by rw [HN.out]; exact congrArg (fun x => Ending.returned (.string x)) (cB_join _ _), G.out⟩
      · have e0 : (-((u : Int) / 10) == 0) = false := beq_eq_false_iff_ne.2 (by omega)
        have e1 : ¬ (u : Int) / 10 = 0 := by omega
        have HN := Lib.hid (HN2 h0)
        clear HN1 HN2
        go_wp2_with fail
        go_roundg (u / 10 + 1)
        case measure => omega
        case rel => exact ⟨u / 10, _, rfl, by omega, by go_num, congrArg Value.string (cB_join _ _), HN.out, G.out⟩
    · have G := Lib.hid (gr_al hg (.cells #[.int .u8 (48 + (u : Int) % 10)] 5))
      have hcv := fun T => cv_one wr.heap.size wr rfl u T
      have p0 : 0 < (u : Int) % 10 := by omega
      have p1 : -((u : Int) % 10) < 0 := by omega
      have HN1 := fun h0 : u < 10 => dec_last hd h0
      have HN2 := fun h0 : ¬ u < 10 => dec_more hd h0
      generalize UInt8.ofNat (48 + u % 10) = c at *
      have h45 : (cB (c :: l)).size ≤ 61 := by rw [← cB_join, ByteArray.size_append]; omega
      clear hd hg
      by_cases h0 : u < 10
      · have e1 : (u : Int) / 10 = 0 := by omega
        have HN := Lib.hid (HN1 h0)
        clear h0 HN1 HN2
        go_wp2_with fail
        rw [cB_join]
        go_wp2_with fail
        go_ret
        exact ⟨by rw [HN.out]; exact congrArg (fun x => Ending.returned (.string x)) (cB_join _ _), G.out⟩
      · have e0 : (-((u : Int) / 10) == 0) = false := beq_eq_false_iff_ne.2 (by omega)
        have e1 : ¬ (u : Int) / 10 = 0 := by omega
        have HN := Lib.hid (HN2 h0)
        clear HN1 HN2
        go_wp2_with fail
        go_roundg (u / 10 + 1)
        case measure => omega
        case rel => exact ⟨u / 10, _, rfl, by omega, by go_num, congrArg Value.string (cB_join _ _), HN.out, G.out⟩
theorem r_decimal (n : Int) (hn : i64 n) (w : World) : Calls Tryd.prog 39 #[.int .i64 n] w fun e w' => e = .returned (.string (cB (Lib.itoa n))) ∧ Gr w w' := by
  by_cases h : 0 ≤ n
  · obtain ⟨m, rfl⟩ : ∃ m : Nat, n = (m : Int) := ⟨n.toNat, by omega⟩
    exact r_decimal_pos m (by have := hn.2; omega) w
  · obtain ⟨m, rfl⟩ : ∃ m : Nat, n = -(m : Int) := ⟨n.natAbs, by omega⟩
    exact r_decimal_neg m (by omega) (by have := hn.1; omega) w
end Go.Proofs.YthcfobefpknjeaaDoor.P
