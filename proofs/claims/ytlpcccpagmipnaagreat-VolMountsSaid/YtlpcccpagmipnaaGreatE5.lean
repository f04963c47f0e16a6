/- Stage 6: slices.Repeat of one text. No condition. -/
import Derived.Test.YtlpcccpagmipnaaGreatE3
import Derived.Test.YtlpcccpagmipnaaGreatSH
import Derived.Deep.RegionLaw
import Derived.IntWalk
import Derived.Test.YtlpcccpagmipnaaGreatE1
set_option linter.unusedVariables false
set_option maxRecDepth 50000
namespace Go.Proofs.YtlpcccpagmipnaaGreat.P
open Go.RowKit
def repL (m k : Nat) (s : ByteArray) : List Value := List.replicate m (.string s) ++ List.replicate (k - m) (.string ⟨#[]⟩)
theorem repL_len (m k : Nat) (s : ByteArray) (h : m ≤ k) : (repL m k s).length = k := by simp [repL]; omega
theorem made_str (n : Nat) (s : ByteArray) : madeCells #[Value.string ⟨#[]⟩] n = (repL 0 n s).toArray := by
  apply Array.toList_inj.1
  rw [toList_madeCells_one]
  simp only [repL, List.replicate_zero, List.nil_append, Nat.sub_zero]
theorem mk_strs (n : Nat) (h : n ≤ 1000000) (s : ByteArray) (w : World) : (Instr.makeSlice 42 (.int .i64 (n : Int)) (.int .i64 (n : Int))).run Tryz.prog w = .ok (.slice (some ⟨w.heap.size, 0, none⟩) n n) (w.alloc (.cells (repL 0 n s).toArray 9)) := by
  obtain ⟨i0, hi, hz0, hz1, hz2⟩ := info_parts strInfo
  have := run_make (P := Tryz.prog) w 42 9 i0 (.string ⟨#[]⟩) Tryz.underlying42 hi hz0 .i64 .i64 n n (by omega) (Int.le_refl _) (by rw [hz2]; omega) (by omega)
  rw [this, hz1]
  simp only [Int.toNat_natCast, Nat.mul_one]
  rw [show (Value.string ⟨#[]⟩).cells = #[Value.string ⟨#[]⟩] from rfl, made_str n s]
theorem splice_rep (m q k : Nat) (s : ByteArray) (h : m + q ≤ k) : splice (repL m k s) m (List.replicate q (.string s)) = repL (m + q) k s := by
  unfold splice repL
  rw [List.length_replicate, List.take_append_of_le_length (by simp), List.drop_append]
  simp only [List.length_replicate, List.take_replicate, List.drop_replicate, Nat.min_self]
  rw [show m - (m + q) = 0 by omega, show k - m - (m + q - m) = k - (m + q) by omega, List.replicate_zero, List.nil_append, ← List.append_assoc, List.replicate_append_replicate]
theorem rep_cell (m k : Nat) (s : ByteArray) (j : Nat) (h : j < m) : (repL m k s)[j]? = some (.string s) := by
  unfold repL; rw [List.getElem?_append_left (by simpa using h)]; simp [h]
theorem rep_one (q : Nat) (s : ByteArray) : ∀ v ∈ List.replicate q (Value.string s), v.oneCell' = true := by
  intro v hv; rw [List.eq_of_mem_replicate hv]; rfl
def RepP (k : Nat) (s : ByteArray) (w : World) (e : Ending) (w' : World) : Prop := ∃ g, e = .returned (.slice (some ⟨g, 0, none⟩) k k) ∧ w'.heap[g]? = some (.cells (repL k k s).toArray 9) ∧ w.heap.size ≤ g ∧ Gr w w'
set_option maxHeartbeats 1600000 in
theorem c_repeat (w : World) (a c : Nat) (s : ByteArray) (ha : w.cell? ⟨a, 0, none⟩ = some (.string s)) (k : Nat) (hk : 1 ≤ k) (hk2 : k ≤ 1000000) :
    Calls Tryz.prog 85 #[.slice (some ⟨a, 0, none⟩) 1 c, .int .i64 (k : Int)] w (RepP k s w) := by
  have hmk := fun w => mk_strs k (by omega) s w
  have k0 : (0 : Int) ≤ k := by omega
  have hM := fun w => sh_bits_Mul 1 k (by omega) (by omega) w
  have e1 : 1 * k / 18446744073709551616 = 0 := by omega
  have e2 : 1 * k % 18446744073709551616 = k := by omega
  rw [e1, e2] at hM
  have HM := Lib.hid hM
  have HA := Lib.hid (calloc (.cells (repL 0 k s).toArray 9) ha)
  have hbw := blk_new w (.cells (repL 0 k s).toArray 9)
  have HB := Lib.hid hbw
  have szS := Lib.hid (show (Tryz.prog.info? 9).map (·.size) = some 1 by kernel_rfl)
  have hmin := Lib.hid (show (List.replicate 1 (Value.string s)).length = Nat.min 1 k by rw [show Nat.min 1 k = 1 from Nat.min_eq_left hk]; rfl)
  have hsrc : RowKit.Hid (∀ j v, (List.replicate 1 (Value.string s))[j]? = some v → (w.alloc (.cells (repL 0 k s).toArray 9)).cell? ((⟨a, 0, none⟩ : Addr).add j) = some v) := Lib.hid (fun j v hj => by
    cases j with
    | zero => simp at hj; subst hj; exact HA.out
    | succ j => simp at hj)
  have hfit := Lib.hid (show 0 + (List.replicate 1 (Value.string s)).length ≤ (repL 0 k s).length by rw [repL_len 0 k s (by omega)]; simp; omega)
  have d1 : decide ((9223372036854775807 : Int) < k) = false := decide_eq_false (by omega)
  have d2 : decide ((k : Int) < 0) = false := decide_eq_false (by omega)
  clear hM e1 e2 ha hbw
  go_enter Tryz.func85, Tryz.ntmps85
  go_wp2_with (first
    | (go_at_call 116; refine (HM.out _).mono ?_; rintro e w' ⟨rfl, rfl⟩)
    | ((with_reducible (refine wpList_copy_splice rfl (.tmp 31) (.tmp 32) 42 42 rfl 9 Tryz.underlying42 szS.out (some ⟨w'.heap.size, 0, none⟩) (some ⟨a, 0, none⟩) k k 1 c rfl rfl w'.heap.size 0 (repL 0 k s) 9 HB.out (List.replicate 1 (Value.string s)) hmin.out (fun _ => ⟨rfl, _, rfl, hsrc.out⟩) hfit.out (rep_one 1 s) w'.heap.size w' (Below.alloc (Below.refl _ _) (Nat.le_refl _) _) (Nat.le_refl _) ?_)); intro w1 HG1 hB1; have HB1 := Lib.hid hB1; clear hB1))

  go_loopw [8] (fun v8 wr => ∃ m : Nat, 1 ≤ m ∧ m ≤ k ∧ v8 = .int .i64 m ∧ wr.heap[w'.heap.size]? = some (.cells (repL m k s).toArray 9) ∧ Gr w' wr) (fun v8 _ => k - (intOf v8).toNat)
  case atStart => exact ⟨1, Nat.le_refl _, hk, rfl, by have := HG1.out; rw [splice_rep 0 1 k s (by omega)] at this; exact this, HB1.out⟩
  case round =>
    obtain ⟨m, hm1, hm2, rfl, hb, hg⟩ := hrel
    have HG := Lib.hid hg
    have HBB := Lib.hid hb
    clear hb hg
    by_cases hlt : m < k
    · have dl : decide (m < k) = true := decide_eq_true hlt
      go_upto_region 9 with fail
      obtain ⟨q, hq⟩ : ∃ q : Nat, q = Nat.min m (k - m) := ⟨_, rfl⟩
      have hq1 : 1 ≤ q := by rw [hq]; exact Nat.le_min.2 ⟨hm1, by omega⟩
      have hq2 : q ≤ m := by rw [hq]; exact Nat.min_le_left _ _
      have hq3 : q ≤ k - m := by rw [hq]; exact Nat.min_le_right _ _
      have hmn := Lib.hid (show (List.replicate q (Value.string s)).length = Nat.min m (k - m) by rw [List.length_replicate]; exact hq)
      have hsr : RowKit.Hid (∀ j v, (List.replicate q (Value.string s))[j]? = some v → wr.drew.cell? ((⟨w'.heap.size, 0, none⟩ : Addr).add j) = some v) := Lib.hid (fun j v hj => by
        obtain ⟨h1, h2⟩ := List.getElem?_eq_some_iff.1 hj
        rw [List.length_replicate] at h1
        rw [List.getElem_replicate] at h2
        rw [Addr.add_lit, Nat.zero_add, ← h2]
        exact blk_cell (blk_drew HBB.out) j (by rw [List.getElem?_toArray]; exact rep_cell m k s j (by omega)))
      have hft := Lib.hid (show m + (List.replicate q (Value.string s)).length ≤ (repL m k s).length by rw [repL_len m k s hm2, List.length_replicate]; omega)
      have hwq : IntKind.i64.wrap ((m : Int) + (q : Int)) = ((m + q : Nat) : Int) := by rw [IntWalk.i64_in _ (by omega)]; omega
      have hne : ¬ k = m := by omega
      have hne2 : ¬ m = k := by omega
      have HQ := Lib.hid hq
      clear hq
      go_region_law ((with_reducible (go_loud (refine step_copy_splice rfl (.tmp 41) (.tmp 44) 42 42 rfl 9 Tryz.underlying42 szS.out (some ⟨w'.heap.size, m, none⟩) (some ⟨w'.heap.size, 0, none⟩) (k - m) (k - m) m k (by kernel_rfl) (by kernel_rfl) w'.heap.size m (repL m k s) 9 (blk_drew HBB.out) (List.replicate q (Value.string s)) hmn.out (fun _ => ⟨rfl, _, rfl, hsr.out⟩) hft.out (rep_one q s) w'.heap.size w' HG.out.drew (Nat.le_refl _) ?_))); intro w3 hg3 hb3)
      have HG3 := Lib.hid hg3.out
      have HB3 := Lib.hid hb3
      clear hg3 hb3
      go_simp
      go_wp2
      go_roundw
      case rel => exact ⟨m + q, by omega, by omega, by go_num, by have := HG3.out; rw [splice_rep m q k s (by omega)] at this; exact this, HB3.out⟩
      case measure => simp [intOf]; omega
    · obtain rfl : m = k := by omega
      have dl : decide (m < m) = false := decide_eq_false (by omega)
      go_wp2_with fail
      go_ret
      exact ⟨_, rfl, HBB.out, Nat.le_refl _, HG.out⟩
end Go.Proofs.YtlpcccpagmipnaaGreat.P
namespace Go.Proofs.YtlpcccpagmipnaaGreat.P
open Go.RowKit
/-- A fresh disk. -/
def newZ (l : List ByteArray) : DState := ⟨l, [], false, false, 0⟩
def NewP (l : List ByteArray) (w : World) (e : Ending) (w' : World) : Prop := ∃ d sb, e = .returned (.tuple #[.pointer (some ⟨d, 0, none⟩), .int .i64 0]) ∧ DiskO w' d sb none (newZ l) ∧ w.heap.size ≤ d ∧ w.heap.size ≤ sb ∧ Gr w w'
theorem ownsRow_blk {w : World} {g : Nat} {xs : List Value} {e : TypeId} {size n : Nat} (h : w.heap[g]? = some (.cells xs.toArray e)) (hl : xs.length = n * size) (hm : n ≤ maxLen) : w.ownsRow 0 e size (.slice (some ⟨g, 0, none⟩) n n) n xs :=
  ⟨hl, .inr ⟨g, n, xs.toArray, rfl, Nat.zero_le _, h, Nat.le_refl _, hm, by simpa using hl, List.take_of_length_le (by simpa using Nat.le_of_eq hl)⟩⟩
theorem repL_strs (k : Nat) (s : ByteArray) : repL k k s = strs (List.replicate k s) := by
  unfold repL strs; rw [Nat.sub_self, List.replicate_zero, List.append_nil, List.map_replicate]
theorem c_new_no (n : Int) (hn : ¬ (48 ≤ n ∧ n ≤ 544)) (w : World) : Calls Tryz.prog 42 #[.int .i64 n] w fun e w' => e = .returned (.tuple #[.pointer none, .int .i64 1]) ∧ Gr w w' := by
  have hb : (decide (48 ≤ n) && decide (n ≤ 544)) = false := by
    rw [Bool.and_eq_false_iff, decide_eq_false_iff_not, decide_eq_false_iff_not]; omega
  have CM := fun w => c_may n w
  rw [hb] at CM
  clear hb hn
  go_enter Tryz.func42, Tryz.ntmps42
  go_wp2_with (go_at_call 63; refine (CM _).mono ?_; rintro e w' ⟨rfl, rfl⟩)
  go_ret2
  exact ⟨rfl, Gr.refl _⟩
theorem zeros_rep : (⟨(Lib.repeatL [(0 : UInt8)] 64).toArray⟩ : ByteArray) = z64 := by decide +kernel
set_option maxHeartbeats 800000 in
theorem c_new (n : Nat) (h1 : 48 ≤ n) (h2 : n ≤ 544) (w : World) : Calls Tryz.prog 42 #[.int .i64 (n : Int)] w (NewP (List.replicate n z64) w) := by
  have hb : (decide (48 ≤ (n : Int)) && decide ((n : Int) ≤ 544)) = true := by
    rw [Bool.and_eq_true, decide_eq_true_eq, decide_eq_true_eq]; omega
  have CM := fun w => c_may n w
  rw [hb] at CM
  have CS := fun w => sh_strings_Repeat ⟨#[0]⟩ 64 w (by decide) (by decide)
  have hz : ∀ w : World, Calls Tryz.prog 84 #[.string ⟨#[0]⟩, .int .i64 64] w fun e w' => e = .returned (.string z64) ∧ Gr w w' := fun w => (CS w).mono fun e w' h => by
    refine ⟨h.1.trans ?_, h.2⟩
    rw [← zeros_rep]
  have HM := Lib.hid CM
  have HZ := Lib.hid hz
  clear hb CM CS hz
  go_enter Tryz.func42, Tryz.ntmps42
  go_wp2_with (first
    | (go_at_call 63; refine (HM.out _).mono ?_; rintro e w' ⟨rfl, h9⟩; subst h9)
    | (go_at_call 84; refine (HZ.out _).mono ?_; rintro e w1 ⟨rfl, g1⟩; have G1 := Lib.hid g1; clear g1)
    | fail)
  refine (c_repeat _ w1.heap.size 1 z64 (cnew w1 #[.string z64] 9 0 rfl) n (by omega) (by omega)).mono ?_
  rintro e w2 ⟨g, rfl, hb, hg, g2⟩
  have HB := Lib.hid hb
  have g3 : Gr w' w2 := gtrans (gtrans G1.out (Below.alloc (Below.refl _ _) (Nat.le_refl _) _)) g2
  have HG := Lib.hid g3
  have hge : w'.heap.size ≤ g := by have := G1.out.size; simp at hg; omega
  have HGE := Lib.hid hge
  clear hb g2 hg g3 hge
  go_wp2_with fail
  go_ret2
  refine ⟨_, g, rfl, ⟨n, none, 0, ?_, ?_, ⟨rfl, .inl ⟨rfl, rfl⟩⟩, rfl, ?_, (by simp), (by simp)⟩, HG.out.size, HGE.out, HG.out.alloc (HG.out.size) _⟩
  · have := blk_new w2 (.cells #[.slice (some ⟨g, 0, none⟩) n n, .slice none 0 0, .bool false, .bool false, .int .i64 0] 126)
    rw [show (newZ (List.replicate n z64)).safe.length = n from List.length_replicate]
    exact this
  · rw [show (newZ (List.replicate n z64)).safe.length = n from List.length_replicate]
    have h8 := ownsRow_blk (size := 1) HB.out (n := n) (by rw [repL_len n n z64 (Nat.le_refl _), Nat.mul_one]) (by unfold maxLen; omega)
    rw [repL_strs] at h8
    exact ownsRow_ch (S := fun _ => False) h8 ((Ch.refl _ w2).alloc _) (fun _ _ h => h)
  · have := blk_lt HB.out; omega
end Go.Proofs.YtlpcccpagmipnaaGreat.P
