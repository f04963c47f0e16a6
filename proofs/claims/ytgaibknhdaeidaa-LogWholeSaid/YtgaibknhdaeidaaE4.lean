/- Stage 6: slices.Repeat of one text. No condition. -/
import Derived.Test.YtgaibknhdaeidaaE3
import Derived.Test.YtgaibknhdaeidaaSH
import Derived.Deep.RegionLaw
import Derived.IntWalk
set_option linter.unusedVariables false
set_option maxRecDepth 50000
namespace Go.Proofs.Ytgaibknhdaeidaa.P
open Go.RowKit
def repL (m k : Nat) (s : ByteArray) : List Value := List.replicate m (.string s) ++ List.replicate (k - m) (.string ⟨#[]⟩)
theorem repL_len (m k : Nat) (s : ByteArray) (h : m ≤ k) : (repL m k s).length = k := by simp [repL]; omega
theorem made_str (n : Nat) (s : ByteArray) : madeCells #[Value.string ⟨#[]⟩] n = (repL 0 n s).toArray := by
  apply Array.toList_inj.1
  rw [toList_madeCells_one]
  simp only [repL, List.replicate_zero, List.nil_append, Nat.sub_zero]
theorem mk_strs (n : Nat) (h : n ≤ 1000000) (s : ByteArray) (w : World) : (Instr.makeSlice 24 (.int .i64 (n : Int)) (.int .i64 (n : Int))).run Try.prog w = .ok (.slice (some ⟨w.heap.size, 0, none⟩) n n) (w.alloc (.cells (repL 0 n s).toArray 9)) := by
  obtain ⟨i0, hi, hz0, hz1, hz2⟩ := info_parts strInfo
  have := run_make (P := Try.prog) w 24 9 i0 (.string ⟨#[]⟩) Try.underlying24 hi hz0 .i64 .i64 n n (by omega) (Int.le_refl _) (by rw [hz2]; omega) (by omega)
  rw [this, hz1]
  simp only [Int.toNat_natCast, Nat.mul_one]
  rw [show (Value.string ⟨#[]⟩).cells = #[Value.string ⟨#[]⟩] from rfl, made_str n s]
theorem splice_rep (m q k : Nat) (s : ByteArray) (h : m + q ≤ k) : splice (repL m k s) m (List.replicate q (.string s)) = repL (m + q) k s := by
  unfold splice repL
  rw [List.length_replicate, List.take_append_of_le_length (by simp), List.drop_append]
  simp only [List.length_replicate, List.take_replicate, List.drop_replicate, Nat.min_self]
  rw [show m - (m + q) = 0 by omega, show k - m - (m + q - m) = k - (m + q) by omega, List.replicate_zero, List.nil_append, ← List.append_assoc, List.replicate_append_replicate]
theorem rep_cell (m k : Nat) (s : ByteArray) (j : Nat) (h : j < m) : (repL m k s)[j]? = some (.string s) := by
  unfold repL; rw [List.getElem?_append_left (by simpa using h)]; simp [h]
theorem rep_one (q : Nat) (s : ByteArray) : ∀ v ∈ List.replicate q (Value.string s), v.oneCell' = true := by
  intro v hv; rw [List.eq_of_mem_replicate hv]; rfl
def RepP (k : Nat) (s : ByteArray) (w : World) (e : Ending) (w' : World) : Prop := ∃ g, e = .returned (.slice (some ⟨g, 0, none⟩) k k) ∧ w'.heap[g]? = some (.cells (repL k k s).toArray 9) ∧ w.heap.size ≤ g ∧ Gr w w'
set_option maxHeartbeats 1600000 in
theorem c_repeat (w : World) (a c : Nat) (s : ByteArray) (ha : w.cell? ⟨a, 0, none⟩ = some (.string s)) (k : Nat) (hk : 1 ≤ k) (hk2 : k ≤ 1000000) :
    Calls Try.prog 29 #[.slice (some ⟨a, 0, none⟩) 1 c, .int .i64 (k : Int)] w (RepP k s w) := by
  have hmk := fun w => mk_strs k (by omega) s w
  have k0 : (0 : Int) ≤ k := by omega
  have hM := fun w => sh_bits_Mul 1 k (by omega) (by omega) w
  have e1 : 1 * k / 18446744073709551616 = 0 := by omega
  have e2 : 1 * k % 18446744073709551616 = k := by omega
  rw [e1, e2] at hM
  have HM := Lib.hid hM
  have HA := Lib.hid (calloc (.cells (repL 0 k s).toArray 9) ha)
  have hbw := blk_new w (.cells (repL 0 k s).toArray 9)
  have HB := Lib.hid hbw
  have szS := Lib.hid (show (Try.prog.info? 9).map (·.size) = some 1 by kernel_rfl)
  have hmin := Lib.hid (show (List.replicate 1 (Value.string s)).length = Nat.min 1 k by rw [show Nat.min 1 k = 1 from Nat.min_eq_left hk]; rfl)
  have hsrc : RowKit.Hid (∀ j v, (List.replicate 1 (Value.string s))[j]? = some v → (w.alloc (.cells (repL 0 k s).toArray 9)).cell? ((⟨a, 0, none⟩ : Addr).add j) = some v) := Lib.hid (fun j v hj => by
    cases j with
    | zero => simp at hj; subst hj; exact HA.out
    | succ j => simp at hj)
  have hfit := Lib.hid (show 0 + (List.replicate 1 (Value.string s)).length ≤ (repL 0 k s).length by rw [repL_len 0 k s (by omega)]; simp; omega)
  have d1 : decide ((9223372036854775807 : Int) < k) = false := decide_eq_false (by omega)
  have d2 : decide ((k : Int) < 0) = false := decide_eq_false (by omega)
  clear hM e1 e2 ha hbw
  go_enter Try.func29, Try.ntmps29
  go_wp2_with (first
    | (go_at_call 42; refine (HM.out _).mono ?_; rintro e w' ⟨rfl, rfl⟩)
    | ((with_reducible (refine wpList_copy_splice rfl (.tmp 31) (.tmp 32) 24 24 rfl 9 Try.underlying24 szS.out (some ⟨w'.heap.size, 0, none⟩) (some ⟨a, 0, none⟩) k k 1 c rfl rfl w'.heap.size 0 (repL 0 k s) 9 HB.out (List.replicate 1 (Value.string s)) hmin.out (fun _ => ⟨rfl, _, rfl, hsrc.out⟩) hfit.out (rep_one 1 s) w'.heap.size w' (Below.alloc (Below.refl _ _) (Nat.le_refl _) _) (Nat.le_refl _) ?_)); intro w1 HG1 hB1; have HB1 := Lib.hid hB1; clear hB1))

  go_loopw [8] (fun v8 wr => ∃ m : Nat, 1 ≤ m ∧ m ≤ k ∧ v8 = .int .i64 m ∧ wr.heap[w'.heap.size]? = some (.cells (repL m k s).toArray 9) ∧ Gr w' wr) (fun v8 _ => k - (intOf v8).toNat)
  case atStart => exact ⟨1, Nat.le_refl _, hk, rfl, by have := HG1.out; rw [splice_rep 0 1 k s (by omega)] at this; exact this, HB1.out⟩
  case round =>
    obtain ⟨m, hm1, hm2, rfl, hb, hg⟩ := hrel
    have HG := Lib.hid hg
    have HBB := Lib.hid hb
    clear hb hg
    by_cases hlt : m < k
    · have dl : decide (m < k) = true := decide_eq_true hlt
      go_upto_region 9 with fail
      obtain ⟨q, hq⟩ : ∃ q : Nat, q = Nat.min m (k - m) := ⟨_, rfl⟩
      have hq1 : 1 ≤ q := by rw [hq]; exact Nat.le_min.2 ⟨hm1, by omega⟩
      have hq2 : q ≤ m := by rw [hq]; exact Nat.min_le_left _ _
      have hq3 : q ≤ k - m := by rw [hq]; exact Nat.min_le_right _ _
      have hmn := Lib.hid (show (List.replicate q (Value.string s)).length = Nat.min m (k - m) by rw [List.length_replicate]; exact hq)
      have hsr : RowKit.Hid (∀ j v, (List.replicate q (Value.string s))[j]? = some v → wr.drew.cell? ((⟨w'.heap.size, 0, none⟩ : Addr).add j) = some v) := Lib.hid (fun j v hj => by
        obtain ⟨h1, h2⟩ := List.getElem?_eq_some_iff.1 hj
        rw [List.length_replicate] at h1
        rw [List.getElem_replicate] at h2
        rw [Addr.add_lit, Nat.zero_add, ← h2]
        exact blk_cell (blk_drew HBB.out) j (by rw [List.getElem?_toArray]; exact rep_cell m k s j (by omega)))
      have hft := Lib.hid (show m + (List.replicate q (Value.string s)).length ≤ (repL m k s).length by rw [repL_len m k s hm2, List.length_replicate]; omega)
      have hwq : IntKind.i64.wrap ((m : Int) + (q : Int)) = ((m + q : Nat) : Int) := by rw [IntWalk.i64_in _ (by omega)]; omega
      have hne : ¬ k = m := by omega
      have hne2 : ¬ m = k := by omega
      have HQ := Lib.hid hq
      clear hq
      go_region_law ((with_reducible (go_loud (refine step_copy_splice rfl (.tmp 41) (.tmp 44) 24 24 rfl 9 Try.underlying24 szS.out (some ⟨w'.heap.size, m, none⟩) (some ⟨w'.heap.size, 0, none⟩) (k - m) (k - m) m k (by kernel_rfl) (by kernel_rfl) w'.heap.size m (repL m k s) 9 (blk_drew HBB.out) (List.replicate q (Value.string s)) hmn.out (fun _ => ⟨rfl, _, rfl, hsr.out⟩) hft.out (rep_one q s) w'.heap.size w' HG.out.drew (Nat.le_refl _) ?_))); intro w3 hg3 hb3)
      have HG3 := Lib.hid hg3.out
      have HB3 := Lib.hid hb3
      clear hg3 hb3
      go_simp
      go_wp2
      go_roundw
      case rel => exact ⟨m + q, by omega, by omega, by go_num, by have := HG3.out; rw [splice_rep m q k s (by omega)] at this; exact this, HB3.out⟩
      case measure => simp [intOf]; omega
    · obtain rfl : m = k := by omega
      have dl : decide (m < m) = false := decide_eq_false (by omega)
      go_wp2_with fail
      go_ret
      exact ⟨_, rfl, HBB.out, Nat.le_refl _, HG.out⟩
end Go.Proofs.Ytgaibknhdaeidaa.P
