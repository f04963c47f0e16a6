/- Stage 7: the head of a log. No condition. -/
import Derived.Test.YtgaibknhdaeidaaA11
set_option linter.unusedVariables false
set_option maxRecDepth 50000
namespace Go.Proofs.Ytgaibknhdaeidaa.P
open Go.RowKit
set_option maxHeartbeats 1600000 in
theorem c_head (w : World) (o : Option Addr) (c : Nat) (A : List Int) (hA : RowI w o A) (hl : A.length ≤ 30) (hb : ∀ i ∈ A, 0 ≤ i ∧ i < 65536) :
    Calls Try.prog 51 #[.slice o A.length c] w fun e w' => e = .returned (.string (headF A)) ∧ Gr w w' := by
  have hD : (headK A A.length ++ List.replicate (64 - (1 + 2 * A.length)) (0 : UInt8)).toArray = (headF A).data := by
    unfold headF; rw [← headL_len, headK_all]
  have CB : Hid (∀ wr, Gr w wr → BldA w [] wr → Calls Try.prog 67 #[.pointer (some ⟨w.heap.size, 0, none⟩), .int .u8 (A.length : Int)] wr fun e w' => e = .returned .nilIface ∧ BldA w (headK A 0) w') :=
    Lib.hid (fun wr g h => b_byte h (by simp) A.length (by omega))
  have CW : Hid (∀ wr k i, A[k]? = some i → BldA w (headK A k) wr → Calls Try.prog 45 #[.pointer (some ⟨w.heap.size, 0, none⟩), .string (W.bytesF i 2)] wr fun e w' => e = .returned (.tuple #[.int .i64 (W.bytesF i 2).size, .nilIface]) ∧ BldA w (headK A (k + 1)) w') :=
    Lib.hid (fun wr k i hk h => by
      have hk2 := (List.getElem?_eq_some_iff.1 hk).1
      rw [headK_succ A k i hk, ← bytes_num]
      exact b_str h (by rw [headK_len A k (by omega)]; omega) _ (by rw [W.bytes_size]; decide))
  have CL : Hid (∀ wr, BldA w (headK A A.length) wr → Calls Try.prog 46 #[.pointer (some ⟨w.heap.size, 0, none⟩)] wr fun e w' => e = .returned (.int .i64 ((1 + 2 * A.length : Nat) : Int)) ∧ w' = wr) :=
    Lib.hid (fun wr h => b_len h _ (headK_len A _ (Nat.le_refl _)))
  have CR : Hid (∀ wr, Calls Try.prog 28 #[.string ⟨#[0]⟩, .int .i64 (64 - ((1 + 2 * A.length : Nat) : Int))] wr fun e w' => e = .returned (.string ⟨(List.replicate (64 - (1 + 2 * A.length)) (0 : UInt8)).toArray⟩) ∧ Gr wr w') :=
    Lib.hid (fun wr => by
      have := sh_strings_Repeat ⟨#[0]⟩ (64 - (1 + 2 * A.length)) wr (by omega) (by show 1 * _ ≤ _; omega)
      rw [show (64 - ((1 + 2 * A.length : Nat) : Int)) = ((64 - (1 + 2 * A.length) : Nat) : Int) by omega]
      refine this.mono ?_
      rintro e w' ⟨rfl, g⟩
      refine ⟨?_, g⟩
      show Ending.returned (.string ⟨(Lib.repeatL [0] _).toArray⟩) = _
      rw [repeatL_zero])
  have CZ : Hid (∀ wr, BldA w (headK A A.length) wr → Calls Try.prog 45 #[.pointer (some ⟨w.heap.size, 0, none⟩), .string ⟨(List.replicate (64 - (1 + 2 * A.length)) (0 : UInt8)).toArray⟩] wr fun e w' => (∃ n : Nat, e = .returned (.tuple #[.int .i64 n, .nilIface])) ∧ BldA w (headK A A.length ++ List.replicate (64 - (1 + 2 * A.length)) (0 : UInt8)) w') :=
    Lib.hid (fun wr h => (b_str h (by rw [headK_len A _ (Nat.le_refl _)]; omega) ⟨(List.replicate (64 - (1 + 2 * A.length)) (0 : UInt8)).toArray⟩ (by show (List.replicate _ _).toArray.size ≤ _; rw [List.size_toArray, List.length_replicate]; omega)).mono (by
      rintro e w' ⟨rfl, k⟩
      exact ⟨⟨_, rfl⟩, k⟩))
  have CS : Hid (∀ wr, BldA w (headK A A.length ++ List.replicate (64 - (1 + 2 * A.length)) (0 : UInt8)) wr → Calls Try.prog 47 #[.pointer (some ⟨w.heap.size, 0, none⟩)] wr fun e w' => e = .returned (.string (headF A)) ∧ Gr w w') :=
    Lib.hid (fun wr h => by
      have := b_string h (by unfold headK; simp)
      rw [hD] at this
      exact this)
  have HN := Lib.hid (b_new w)
  have HA := Lib.hid hA
  have HB := Lib.hid (fun k i (h : A[k]? = some i) => hb i (List.mem_of_getElem? h))
  have HG : Hid (∀ k, k < A.length → ∃ i, A[k]? = some i) := Lib.hid (fun k h => ⟨_, List.getElem?_eq_getElem h⟩)
  generalize hn : A.length = n at *
  clear hD hA hb hn
  go_enter Try.func51, Try.ntmps51
  go_wp2_with (go_at_call 67; refine (CB.out _ HN.out.2 HN.out).mono ?_; rintro e w1 ⟨rfl, h1⟩; have H1 := Lib.hid h1; clear h1)
  go_loopw [12] (fun v wr => ∃ k : Nat, k ≤ n ∧ v = .int .i64 k ∧ BldA w (headK A k) wr) (fun v _ => n - (intOf v).toNat)
  case atStart => exact ⟨0, Nat.zero_le _, rfl, H1.out⟩
  case round =>
    obtain ⟨k, hk, rfl, hh⟩ := hrel
    have HH := Lib.hid hh
    clear hh
    by_cases hlt : k < n
    · have dl : decide (k < n) = true := decide_eq_true hlt
      obtain ⟨i, hi⟩ := HG.out k hlt
      obtain ⟨b1, o1, rfl, ca1⟩ := (HA.out.gr HH.out.2) k _ hi
      obtain ⟨i0, i1⟩ := HB.out k i hi
      have HI := Lib.hid hi
      clear hi
      have CY := Lib.hid (W.c_bytes i 2 ⟨i0, by omega⟩ wr)
      go_wp2_with (first
        | (go_at_call 68; refine (CY.out).mono ?_; rintro e w2 ⟨rfl, g2⟩; have H2 := Lib.hid (b_gr HH.out g2); clear g2)
        | (go_at_call 45; refine (CW.out _ k i HI.out H2.out).mono ?_; rintro e w3 ⟨rfl, h3⟩; have H3 := Lib.hid h3; clear h3))
      go_roundw
      case rel => exact ⟨k + 1, by omega, by go_num, H3.out⟩
      case measure => simp [intOf]; omega
    · obtain rfl : k = n := by omega
      go_wp2_with (first
        | (go_at_call 46; refine (CL.out _ HH.out).mono ?_; rintro e w2 ⟨rfl, rfl⟩)
        | (go_at_call 28; refine (CR.out _).mono ?_; rintro e w3 ⟨rfl, g3⟩; have H3 := Lib.hid (b_gr HH.out g3); clear g3)
        | (go_at_call 45; refine (CZ.out _ H3.out).mono ?_; rintro e w4 ⟨⟨q, rfl⟩, h4⟩; have H4 := Lib.hid h4; clear h4)
        | (go_at_call 47; refine (CS.out _ H4.out).mono ?_; rintro e w5 ⟨rfl, g5⟩))
      go_ret
      exact ⟨rfl, g5⟩
end Go.Proofs.Ytgaibknhdaeidaa.P
