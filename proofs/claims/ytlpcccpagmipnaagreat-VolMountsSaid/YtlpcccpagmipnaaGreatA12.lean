/- Stage 7: a strings.Builder; the head of a log. No condition. -/
import Derived.Test.YtlpcccpagmipnaaGreatA10
import Derived.Test.YtlpcccpagmipnaaGreatSG
import Derived.Test.YtlpcccpagmipnaaGreatSH
import Derived.Test.YtlpcccpagmipnaaGreatBB
import Derived.Deep.QuietTactic
import Derived.BigQuiet
set_option linter.unusedVariables false
set_option maxRecDepth 50000
namespace Go.Proofs.YtlpcccpagmipnaaGreat.P
open Go.RowKit
def BldA (w0 : World) (l : List UInt8) (wr : World) : Prop := Lib.IsBuilder 189 5 w0.heap.size w0.heap.size (Lib.byteCells l) wr ∧ Gr w0 wr
theorem b_new (w : World) : BldA w [] (w.alloc (.cells #[.pointer none, .slice none 0 0] 189)) := ⟨Lib.fresh_isBuilder _ _ w, (Gr.refl _).alloc (Nat.le_refl _) _⟩
theorem at_gr {T e : TypeId} {B b : Nat} {p : Value} {bs : List Value} {w w' : World} (h : Lib.BuilderAt T e B b p bs w) (g : Gr w w') : Lib.BuilderAt T e B b p bs w' := by
  obtain ⟨h1, v, h2, h3, h4⟩ := h
  refine ⟨h1, v, blk_gr g h2, ⟨h3.1, ?_⟩, h4⟩
  rcases h3.2 with k | ⟨q, cap, cur, rfl, hb, hg, k⟩
  · exact .inl k
  · exact .inr ⟨q, cap, cur, rfl, hb, blk_gr g hg, k⟩
theorem b_gr {w0 wr wr' : World} {l : List UInt8} (h : BldA w0 l wr) (g : Gr wr wr') : BldA w0 l wr' := ⟨h.1.elim (fun k => .inl (at_gr k g)) (fun k => .inr (at_gr k g)), gtrans h.2 g⟩
theorem byteCells_app (a b : List UInt8) : Lib.byteCells (a ++ b) = Lib.byteCells a ++ Lib.byteCells b := by unfold Lib.byteCells; exact List.map_append
theorem b_byte {w0 wr : World} {l : List UInt8} (h : BldA w0 l wr) (hl : l.length ≤ 1000) (c : Nat) (hc : c < 256) :
    Calls Tryz.prog 127 #[.pointer (some ⟨w0.heap.size, 0, none⟩), .int .u8 (c : Int)] wr fun e w' => e = .returned .nilIface ∧ BldA w0 (l ++ [UInt8.ofNat c]) w' := by
  refine (sg_Builder_WriteByte _ _ _ (c : Int) wr h.1 (by rw [Lib.byteCells_length]; omega) h.2.size).mono ?_
  rintro e w' ⟨rfl, h1, h2⟩
  refine ⟨rfl, ?_, Below.trans h.2 h2⟩
  rw [byteCells_app]
  have : Lib.byteCells [UInt8.ofNat c] = [.int .u8 (c : Int)] := by
    show [Value.int .u8 ((UInt8.ofNat c).toNat : Int)] = _
    rw [UInt8.toNat_ofNat', Nat.mod_eq_of_lt hc]
  rw [this]; exact .inr h1
theorem b_str {w0 wr : World} {l : List UInt8} (h : BldA w0 l wr) (hl : l.length ≤ 1000) (s : ByteArray) (hs : s.size ≤ 1000) :
    Calls Tryz.prog 119 #[.pointer (some ⟨w0.heap.size, 0, none⟩), .string s] wr fun e w' => e = .returned (.tuple #[.int .i64 s.size, .nilIface]) ∧ BldA w0 (l ++ s.data.toList) w' := by
  refine (sg_Builder_WriteString _ _ _ s wr h.1 (by rw [Lib.byteCells_length]; omega) h.2.size).mono ?_
  rintro e w' ⟨rfl, h1, h2⟩
  refine ⟨rfl, ?_, Below.trans h.2 h2⟩
  rw [byteCells_app]; exact .inr h1
theorem b_len {w0 wr : World} {l : List UInt8} (h : BldA w0 l wr) (m : Nat) (hm : l.length = m) : Calls Tryz.prog 120 #[.pointer (some ⟨w0.heap.size, 0, none⟩)] wr fun e w' => e = .returned (.int .i64 (m : Int)) ∧ w' = wr := by
  have := sg_Builder_Len _ _ _ wr h.1
  rw [Lib.byteCells_length, hm] at this
  exact this
theorem b_string {w0 wr : World} {l : List UInt8} (h : BldA w0 l wr) (h0 : l ≠ []) : Calls Tryz.prog 121 #[.pointer (some ⟨w0.heap.size, 0, none⟩)] wr fun e w' => e = .returned (.string ⟨l.toArray⟩) ∧ Gr w0 w' := by
  refine (sg_Builder_String _ _ _ wr h.1 h0).mono ?_
  rintro e w' ⟨rfl, h2⟩
  exact ⟨rfl, Below.trans h.2 h2⟩
/-- A slice whose elements are such numbers. -/
def RowI (w : World) (o : Option Addr) (A : List Int) : Prop := ∀ j i, A[j]? = some i → ∃ b off, o = some ⟨b, off, none⟩ ∧ w.cell? ⟨b, off + j, none⟩ = some (.int .i64 i)
theorem RowI.gr {w w' : World} {o : Option Addr} {A : List Int} (h : RowI w o A) (g : Gr w w') : RowI w' o A := fun j s hj => by
  obtain ⟨b, off, e, hc⟩ := h j s hj
  exact ⟨b, off, e, kcell g hc⟩
theorem rowI_nil (w : World) (o : Option Addr) : RowI w o [] := fun j s hj => by simp at hj
theorem repeatL_zero : ∀ n, Lib.repeatL [0] n = List.replicate n (0 : UInt8)
  | 0 => rfl
  | n + 1 => by
    show [0] ++ Lib.repeatL [0] n = _
    rw [repeatL_zero n]; rfl
theorem bytes_num (i : Int) : (W.bytesF i 2).data.toList = numB i := rfl
def headK (A : List Int) (k : Nat) : List UInt8 := UInt8.ofNat A.length :: (A.take k).flatMap numB
theorem headK_succ (A : List Int) (k : Nat) (i : Int) (h : A[k]? = some i) : headK A (k + 1) = headK A k ++ numB i := by
  obtain ⟨hk, e⟩ := List.getElem?_eq_some_iff.1 h
  unfold headK
  rw [List.take_succ_eq_append_getElem hk, List.flatMap_append, e]
  show _ = UInt8.ofNat A.length :: ((A.take k).flatMap numB ++ numB i)
  rw [List.flatMap_cons, List.flatMap_nil, List.append_nil]
theorem headK_all (A : List Int) : headK A A.length = headL A := by unfold headK headL; rw [List.take_length]
theorem headK_len (A : List Int) : ∀ k, k ≤ A.length → (headK A k).length = 1 + 2 * k
  | 0, _ => rfl
  | k + 1, h => by
    rw [headK_succ A k _ (List.getElem?_eq_getElem (by omega)), List.length_append, headK_len A k (by omega)]
    show _ + 2 = _
    omega
end Go.Proofs.YtlpcccpagmipnaaGreat.P
namespace Go.Proofs.YtlpcccpagmipnaaGreat.P
open Go.RowKit
set_option maxHeartbeats 1600000 in
theorem c_head (w : World) (o : Option Addr) (c : Nat) (A : List Int) (hA : RowI w o A) (hl : A.length ≤ 30) (hb : ∀ i ∈ A, 0 ≤ i ∧ i < 65536) :
    Calls Tryz.prog 101 #[.slice o A.length c] w fun e w' => e = .returned (.string (headF A)) ∧ Gr w w' := by
  have hD : (headK A A.length ++ List.replicate (64 - (1 + 2 * A.length)) (0 : UInt8)).toArray = (headF A).data := by
    unfold headF; rw [← headL_len, headK_all]
  have CB : Hid (∀ wr, Gr w wr → BldA w [] wr → Calls Tryz.prog 127 #[.pointer (some ⟨w.heap.size, 0, none⟩), .int .u8 (A.length : Int)] wr fun e w' => e = .returned .nilIface ∧ BldA w (headK A 0) w') :=
    Lib.hid (fun wr g h => b_byte h (by simp) A.length (by omega))
  have CW : Hid (∀ wr k i, A[k]? = some i → BldA w (headK A k) wr → Calls Tryz.prog 119 #[.pointer (some ⟨w.heap.size, 0, none⟩), .string (W.bytesF i 2)] wr fun e w' => e = .returned (.tuple #[.int .i64 (W.bytesF i 2).size, .nilIface]) ∧ BldA w (headK A (k + 1)) w') :=
    Lib.hid (fun wr k i hk h => by
      have hk2 := (List.getElem?_eq_some_iff.1 hk).1
      rw [headK_succ A k i hk, ← bytes_num]
      exact b_str h (by rw [headK_len A k (by omega)]; omega) _ (by rw [W.bytes_size]; decide))
  have CL : Hid (∀ wr, BldA w (headK A A.length) wr → Calls Tryz.prog 120 #[.pointer (some ⟨w.heap.size, 0, none⟩)] wr fun e w' => e = .returned (.int .i64 ((1 + 2 * A.length : Nat) : Int)) ∧ w' = wr) :=
    Lib.hid (fun wr h => b_len h _ (headK_len A _ (Nat.le_refl _)))
  have CR : Hid (∀ wr, Calls Tryz.prog 84 #[.string ⟨#[0]⟩, .int .i64 (64 - ((1 + 2 * A.length : Nat) : Int))] wr fun e w' => e = .returned (.string ⟨(List.replicate (64 - (1 + 2 * A.length)) (0 : UInt8)).toArray⟩) ∧ Gr wr w') :=
    Lib.hid (fun wr => by
      have := sh_strings_Repeat ⟨#[0]⟩ (64 - (1 + 2 * A.length)) wr (by omega) (by show 1 * _ ≤ _; omega)
      rw [show (64 - ((1 + 2 * A.length : Nat) : Int)) = ((64 - (1 + 2 * A.length) : Nat) : Int) by omega]
      refine this.mono ?_
      rintro e w' ⟨rfl, g⟩
      refine ⟨?_, g⟩
      show Ending.returned (.string ⟨(Lib.repeatL [0] _).toArray⟩) = _
      rw [repeatL_zero])
  have CZ : Hid (∀ wr, BldA w (headK A A.length) wr → Calls Tryz.prog 119 #[.pointer (some ⟨w.heap.size, 0, none⟩), .string ⟨(List.replicate (64 - (1 + 2 * A.length)) (0 : UInt8)).toArray⟩] wr fun e w' => (∃ n : Nat, e = .returned (.tuple #[.int .i64 n, .nilIface])) ∧ BldA w (headK A A.length ++ List.replicate (64 - (1 + 2 * A.length)) (0 : UInt8)) w') :=
    Lib.hid (fun wr h => (b_str h (by rw [headK_len A _ (Nat.le_refl _)]; omega) ⟨(List.replicate (64 - (1 + 2 * A.length)) (0 : UInt8)).toArray⟩ (by show (List.replicate _ _).toArray.size ≤ _; rw [List.size_toArray, List.length_replicate]; omega)).mono (by
      rintro e w' ⟨rfl, k⟩
      exact ⟨⟨_, rfl⟩, k⟩))
  have CS : Hid (∀ wr, BldA w (headK A A.length ++ List.replicate (64 - (1 + 2 * A.length)) (0 : UInt8)) wr → Calls Tryz.prog 121 #[.pointer (some ⟨w.heap.size, 0, none⟩)] wr fun e w' => e = .returned (.string (headF A)) ∧ Gr w w') :=
    Lib.hid (fun wr h => by
      have := b_string h (by unfold headK; simp)
      rw [hD] at this
      exact this)
  have HN := Lib.hid (b_new w)
  have HA := Lib.hid hA
  have HB := Lib.hid (fun k i (h : A[k]? = some i) => hb i (List.mem_of_getElem? h))
  have HG : Hid (∀ k, k < A.length → ∃ i, A[k]? = some i) := Lib.hid (fun k h => ⟨_, List.getElem?_eq_getElem h⟩)
  generalize hn : A.length = n at *
  clear hD hA hb hn
  go_enter Tryz.func101, Tryz.ntmps101
  go_wp2_with (go_at_call 127; refine (CB.out _ HN.out.2 HN.out).mono ?_; rintro e w1 ⟨rfl, h1⟩; have H1 := Lib.hid h1; clear h1)
  go_loopw [12] (fun v wr => ∃ k : Nat, k ≤ n ∧ v = .int .i64 k ∧ BldA w (headK A k) wr) (fun v _ => n - (intOf v).toNat)
  case atStart => exact ⟨0, Nat.zero_le _, rfl, H1.out⟩
  case round =>
    obtain ⟨k, hk, rfl, hh⟩ := hrel
    have HH := Lib.hid hh
    clear hh
    by_cases hlt : k < n
    · have dl : decide (k < n) = true := decide_eq_true hlt
      obtain ⟨i, hi⟩ := HG.out k hlt
      obtain ⟨b1, o1, rfl, ca1⟩ := (HA.out.gr HH.out.2) k _ hi
      obtain ⟨i0, i1⟩ := HB.out k i hi
      have HI := Lib.hid hi
      clear hi
      have CY := Lib.hid (W.c_bytes i 2 ⟨i0, by omega⟩ wr)
      go_wp2_with (first
        | (go_at_call 128; refine (CY.out).mono ?_; rintro e w2 ⟨rfl, g2⟩; have H2 := Lib.hid (b_gr HH.out g2); clear g2)
        | (go_at_call 119; refine (CW.out _ k i HI.out H2.out).mono ?_; rintro e w3 ⟨rfl, h3⟩; have H3 := Lib.hid h3; clear h3))
      go_roundw
      case rel => exact ⟨k + 1, by omega, by go_num, H3.out⟩
      case measure => simp [intOf]; omega
    · obtain rfl : k = n := by omega
      go_wp2_with (first
        | (go_at_call 120; refine (CL.out _ HH.out).mono ?_; rintro e w2 ⟨rfl, rfl⟩)
        | (go_at_call 84; refine (CR.out _).mono ?_; rintro e w3 ⟨rfl, g3⟩; have H3 := Lib.hid (b_gr HH.out g3); clear g3)
        | (go_at_call 119; refine (CZ.out _ H3.out).mono ?_; rintro e w4 ⟨⟨q, rfl⟩, h4⟩; have H4 := Lib.hid h4; clear h4)
        | (go_at_call 121; refine (CS.out _ H4.out).mono ?_; rintro e w5 ⟨rfl, g5⟩))
      go_ret
      exact ⟨rfl, g5⟩
end Go.Proofs.YtlpcccpagmipnaaGreat.P
