/- Stage 7: a strings.Builder; the head of a log. No condition. -/
import Derived.Test.YtgaibknhdaeidaaA10
import Derived.Test.YtgaibknhdaeidaaSG
import Derived.Test.YtgaibknhdaeidaaSH
import Derived.Test.YtgaibknhdaeidaaBB
import Derived.Deep.QuietTactic
import Derived.BigQuiet
import Derived.Laws.AppendOwn
import Derived.Lib.SmallJoins
import Derived.Deep.RegionHeld3
import Derived.StillTailTactics
set_option linter.unusedVariables false
set_option maxRecDepth 50000
namespace Go.Proofs.Ytgaibknhdaeidaa.P
open Go.RowKit
def BldA (w0 : World) (l : List UInt8) (wr : World) : Prop := Lib.IsBuilder 85 5 w0.heap.size w0.heap.size (Lib.byteCells l) wr ∧ Gr w0 wr
theorem b_new (w : World) : BldA w [] (w.alloc (.cells #[.pointer none, .slice none 0 0] 85)) := ⟨Lib.fresh_isBuilder _ _ w, (Gr.refl _).alloc (Nat.le_refl _) _⟩
theorem at_gr {T e : TypeId} {B b : Nat} {p : Value} {bs : List Value} {w w' : World} (h : Lib.BuilderAt T e B b p bs w) (g : Gr w w') : Lib.BuilderAt T e B b p bs w' := by
  obtain ⟨h1, v, h2, h3, h4⟩ := h
  refine ⟨h1, v, blk_gr g h2, ⟨h3.1, ?_⟩, h4⟩
  rcases h3.2 with k | ⟨q, cap, cur, rfl, hb, hg, k⟩
  · exact .inl k
  · exact .inr ⟨q, cap, cur, rfl, hb, blk_gr g hg, k⟩
theorem b_gr {w0 wr wr' : World} {l : List UInt8} (h : BldA w0 l wr) (g : Gr wr wr') : BldA w0 l wr' := ⟨h.1.elim (fun k => .inl (at_gr k g)) (fun k => .inr (at_gr k g)), gtrans h.2 g⟩
theorem byteCells_app (a b : List UInt8) : Lib.byteCells (a ++ b) = Lib.byteCells a ++ Lib.byteCells b := by unfold Lib.byteCells; exact List.map_append
theorem b_byte {w0 wr : World} {l : List UInt8} (h : BldA w0 l wr) (hl : l.length ≤ 1000) (c : Nat) (hc : c < 256) :
    Calls Try.prog 67 #[.pointer (some ⟨w0.heap.size, 0, none⟩), .int .u8 (c : Int)] wr fun e w' => e = .returned .nilIface ∧ BldA w0 (l ++ [UInt8.ofNat c]) w' := by
  refine (sg_Builder_WriteByte _ _ _ (c : Int) wr h.1 (by rw [Lib.byteCells_length]; omega) h.2.size).mono ?_
  rintro e w' ⟨rfl, h1, h2⟩
  refine ⟨rfl, ?_, Below.trans h.2 h2⟩
  rw [byteCells_app]
  have : Lib.byteCells [UInt8.ofNat c] = [.int .u8 (c : Int)] := by
    show [Value.int .u8 ((UInt8.ofNat c).toNat : Int)] = _
    rw [UInt8.toNat_ofNat', Nat.mod_eq_of_lt hc]
  rw [this]; exact .inr h1
theorem b_str {w0 wr : World} {l : List UInt8} (h : BldA w0 l wr) (hl : l.length ≤ 1000) (s : ByteArray) (hs : s.size ≤ 1000) :
    Calls Try.prog 45 #[.pointer (some ⟨w0.heap.size, 0, none⟩), .string s] wr fun e w' => e = .returned (.tuple #[.int .i64 s.size, .nilIface]) ∧ BldA w0 (l ++ s.data.toList) w' := by
  refine (sg_Builder_WriteString _ _ _ s wr h.1 (by rw [Lib.byteCells_length]; omega) h.2.size).mono ?_
  rintro e w' ⟨rfl, h1, h2⟩
  refine ⟨rfl, ?_, Below.trans h.2 h2⟩
  rw [byteCells_app]; exact .inr h1
theorem b_len {w0 wr : World} {l : List UInt8} (h : BldA w0 l wr) (m : Nat) (hm : l.length = m) : Calls Try.prog 46 #[.pointer (some ⟨w0.heap.size, 0, none⟩)] wr fun e w' => e = .returned (.int .i64 (m : Int)) ∧ w' = wr := by
  have := sg_Builder_Len _ _ _ wr h.1
  rw [Lib.byteCells_length, hm] at this
  exact this
theorem b_string {w0 wr : World} {l : List UInt8} (h : BldA w0 l wr) (h0 : l ≠ []) : Calls Try.prog 47 #[.pointer (some ⟨w0.heap.size, 0, none⟩)] wr fun e w' => e = .returned (.string ⟨l.toArray⟩) ∧ Gr w0 w' := by
  refine (sg_Builder_String _ _ _ wr h.1 h0).mono ?_
  rintro e w' ⟨rfl, h2⟩
  exact ⟨rfl, Below.trans h.2 h2⟩
/-- A slice whose elements are such numbers. -/
def RowI (w : World) (o : Option Addr) (A : List Int) : Prop := ∀ j i, A[j]? = some i → ∃ b off, o = some ⟨b, off, none⟩ ∧ w.cell? ⟨b, off + j, none⟩ = some (.int .i64 i)
theorem RowI.gr {w w' : World} {o : Option Addr} {A : List Int} (h : RowI w o A) (g : Gr w w') : RowI w' o A := fun j s hj => by
  obtain ⟨b, off, e, hc⟩ := h j s hj
  exact ⟨b, off, e, kcell g hc⟩
theorem rowI_nil (w : World) (o : Option Addr) : RowI w o [] := fun j s hj => by simp at hj
theorem repeatL_zero : ∀ n, Lib.repeatL [0] n = List.replicate n (0 : UInt8)
  | 0 => rfl
  | n + 1 => by
    show [0] ++ Lib.repeatL [0] n = _
    rw [repeatL_zero n]; rfl
theorem bytes_num (i : Int) : (W.bytesF i 2).data.toList = numB i := rfl
def headK (A : List Int) (k : Nat) : List UInt8 := UInt8.ofNat A.length :: (A.take k).flatMap numB
theorem headK_succ (A : List Int) (k : Nat) (i : Int) (h : A[k]? = some i) : headK A (k + 1) = headK A k ++ numB i := by
  obtain ⟨hk, e⟩ := List.getElem?_eq_some_iff.1 h
  unfold headK
  rw [List.take_succ_eq_append_getElem hk, List.flatMap_append, e]
  show _ = UInt8.ofNat A.length :: ((A.take k).flatMap numB ++ numB i)
  rw [List.flatMap_cons, List.flatMap_nil, List.append_nil]
theorem headK_all (A : List Int) : headK A A.length = headL A := by unfold headK headL; rw [List.take_length]
theorem headK_len (A : List Int) : ∀ k, k ≤ A.length → (headK A k).length = 1 + 2 * k
  | 0, _ => rfl
  | k + 1, h => by
    rw [headK_succ A k _ (List.getElem?_eq_getElem (by omega)), List.length_append, headK_len A k (by omega)]
    show _ + 2 = _
    omega
end Go.Proofs.Ytgaibknhdaeidaa.P
namespace Go.Proofs.Ytgaibknhdaeidaa.P
open Go.RowKit
set_option maxHeartbeats 1600000 in
theorem c_head (w : World) (o : Option Addr) (c : Nat) (A : List Int) (hA : RowI w o A) (hl : A.length ≤ 30) (hb : ∀ i ∈ A, 0 ≤ i ∧ i < 65536) :
    Calls Try.prog 51 #[.slice o A.length c] w fun e w' => e = .returned (.string (headF A)) ∧ Gr w w' := by
  have hD : (headK A A.length ++ List.replicate (64 - (1 + 2 * A.length)) (0 : UInt8)).toArray = (headF A).data := by
    unfold headF; rw [← headL_len, headK_all]
  have CB : Hid (∀ wr, Gr w wr → BldA w [] wr → Calls Try.prog 67 #[.pointer (some ⟨w.heap.size, 0, none⟩), .int .u8 (A.length : Int)] wr fun e w' => e = .returned .nilIface ∧ BldA w (headK A 0) w') :=
    Lib.hid (fun wr g h => b_byte h (by simp) A.length (by omega))
  have CW : Hid (∀ wr k i, A[k]? = some i → BldA w (headK A k) wr → Calls Try.prog 45 #[.pointer (some ⟨w.heap.size, 0, none⟩), .string (W.bytesF i 2)] wr fun e w' => e = .returned (.tuple #[.int .i64 (W.bytesF i 2).size, .nilIface]) ∧ BldA w (headK A (k + 1)) w') :=
    Lib.hid (fun wr k i hk h => by
      have hk2 := (List.getElem?_eq_some_iff.1 hk).1
      rw [headK_succ A k i hk, ← bytes_num]
      exact b_str h (by rw [headK_len A k (by omega)]; omega) _ (by rw [W.bytes_size]; decide))
  have CL : Hid (∀ wr, BldA w (headK A A.length) wr → Calls Try.prog 46 #[.pointer (some ⟨w.heap.size, 0, none⟩)] wr fun e w' => e = .returned (.int .i64 ((1 + 2 * A.length : Nat) : Int)) ∧ w' = wr) :=
    Lib.hid (fun wr h => b_len h _ (headK_len A _ (Nat.le_refl _)))
  have CR : Hid (∀ wr, Calls Try.prog 28 #[.string ⟨#[0]⟩, .int .i64 (64 - ((1 + 2 * A.length : Nat) : Int))] wr fun e w' => e = .returned (.string ⟨(List.replicate (64 - (1 + 2 * A.length)) (0 : UInt8)).toArray⟩) ∧ Gr wr w') :=
    Lib.hid (fun wr => by
      have := sh_strings_Repeat ⟨#[0]⟩ (64 - (1 + 2 * A.length)) wr (by omega) (by show 1 * _ ≤ _; omega)
      rw [show (64 - ((1 + 2 * A.length : Nat) : Int)) = ((64 - (1 + 2 * A.length) : Nat) : Int) by omega]
      refine this.mono ?_
      rintro e w' ⟨rfl, g⟩
      refine ⟨?_, g⟩
      show Ending.returned (.string ⟨(Lib.repeatL [0] _).toArray⟩) = _
      rw [repeatL_zero])
  have CZ : Hid (∀ wr, BldA w (headK A A.length) wr → Calls Try.prog 45 #[.pointer (some ⟨w.heap.size, 0, none⟩), .string ⟨(List.replicate (64 - (1 + 2 * A.length)) (0 : UInt8)).toArray⟩] wr fun e w' => (∃ n : Nat, e = .returned (.tuple #[.int .i64 n, .nilIface])) ∧ BldA w (headK A A.length ++ List.replicate (64 - (1 + 2 * A.length)) (0 : UInt8)) w') :=
    Lib.hid (fun wr h => (b_str h (by rw [headK_len A _ (Nat.le_refl _)]; omega) ⟨(List.replicate (64 - (1 + 2 * A.length)) (0 : UInt8)).toArray⟩ (by show (List.replicate _ _).toArray.size ≤ _; rw [List.size_toArray, List.length_replicate]; omega)).mono (by
      rintro e w' ⟨rfl, k⟩
      exact ⟨⟨_, rfl⟩, k⟩))
  have CS : Hid (∀ wr, BldA w (headK A A.length ++ List.replicate (64 - (1 + 2 * A.length)) (0 : UInt8)) wr → Calls Try.prog 47 #[.pointer (some ⟨w.heap.size, 0, none⟩)] wr fun e w' => e = .returned (.string (headF A)) ∧ Gr w w') :=
    Lib.hid (fun wr h => by
      have := b_string h (by unfold headK; simp)
      rw [hD] at this
      exact this)
  have HN := Lib.hid (b_new w)
  have HA := Lib.hid hA
  have HB := Lib.hid (fun k i (h : A[k]? = some i) => hb i (List.mem_of_getElem? h))
  have HG : Hid (∀ k, k < A.length → ∃ i, A[k]? = some i) := Lib.hid (fun k h => ⟨_, List.getElem?_eq_getElem h⟩)
  generalize hn : A.length = n at *
  clear hD hA hb hn
  go_enter Try.func51, Try.ntmps51
  go_wp2_with (go_at_call 67; refine (CB.out _ HN.out.2 HN.out).mono ?_; rintro e w1 ⟨rfl, h1⟩; have H1 := Lib.hid h1; clear h1)
  go_loopw [12] (fun v wr => ∃ k : Nat, k ≤ n ∧ v = .int .i64 k ∧ BldA w (headK A k) wr) (fun v _ => n - (intOf v).toNat)
  case atStart => exact ⟨0, Nat.zero_le _, rfl, H1.out⟩
  case round =>
    obtain ⟨k, hk, rfl, hh⟩ := hrel
    have HH := Lib.hid hh
    clear hh
    by_cases hlt : k < n
    · have dl : decide (k < n) = true := decide_eq_true hlt
      obtain ⟨i, hi⟩ := HG.out k hlt
      obtain ⟨b1, o1, rfl, ca1⟩ := (HA.out.gr HH.out.2) k _ hi
      obtain ⟨i0, i1⟩ := HB.out k i hi
      have HI := Lib.hid hi
      clear hi
      have CY := Lib.hid (W.c_bytes i 2 ⟨i0, by omega⟩ wr)
      go_wp2_with (first
        | (go_at_call 68; refine (CY.out).mono ?_; rintro e w2 ⟨rfl, g2⟩; have H2 := Lib.hid (b_gr HH.out g2); clear g2)
        | (go_at_call 45; refine (CW.out _ k i HI.out H2.out).mono ?_; rintro e w3 ⟨rfl, h3⟩; have H3 := Lib.hid h3; clear h3))
      go_roundw
      case rel => exact ⟨k + 1, by omega, by go_num, H3.out⟩
      case measure => simp [intOf]; omega
    · obtain rfl : k = n := by omega
      go_wp2_with (first
        | (go_at_call 46; refine (CL.out _ HH.out).mono ?_; rintro e w2 ⟨rfl, rfl⟩)
        | (go_at_call 28; refine (CR.out _).mono ?_; rintro e w3 ⟨rfl, g3⟩; have H3 := Lib.hid (b_gr HH.out g3); clear g3)
        | (go_at_call 45; refine (CZ.out _ H3.out).mono ?_; rintro e w4 ⟨⟨q, rfl⟩, h4⟩; have H4 := Lib.hid h4; clear h4)
        | (go_at_call 47; refine (CS.out _ H4.out).mono ?_; rintro e w5 ⟨rfl, g5⟩))
      go_ret
      exact ⟨rfl, g5⟩
end Go.Proofs.Ytgaibknhdaeidaa.P
namespace Go.Proofs.Ytgaibknhdaeidaa.P
open Go.RowKit
def encs (A : List Int) : List Value := A.map (Value.int .i64)
theorem encs_length (A : List Int) : (encs A).length = A.length := by unfold encs; rw [List.length_map]
theorem encs_append (A B : List Int) : encs (A ++ B) = encs A ++ encs B := by unfold encs; exact List.map_append
theorem row_form {w : World} {base n : Nat} {v : Value} {xs : List Value} (h : w.ownsRow base 3 1 v n xs) : ∃ o c, v = .slice o n c := by
  rcases Joins.ownsRow_forms h with ⟨rfl, rfl⟩ | ⟨g, cap, rfl⟩
  · exact ⟨none, 0, rfl⟩
  · exact ⟨_, cap, rfl⟩
theorem rowI_own {w : World} {base c : Nat} {o : Option Addr} {A : List Int} (h : w.ownsRow base 3 1 (.slice o A.length c) A.length (encs A)) : RowI w o A := fun j i hj => by
  have hl : j < A.length := (List.getElem?_eq_some_iff.1 hj).1
  rcases Joins.ownsRow_forms h with ⟨e, hz⟩ | ⟨g, cap, e⟩
  · omega
  · injection e with e1 e2 e3
    subst e1
    refine ⟨g, 0, rfl, ?_⟩
    rw [Nat.zero_add, World.ownsRow.cellAt h j (by omega)]
    unfold encs; rw [List.getElem?_map, hj]; rfl
theorem row_from {w : World} {base n c : Nat} {o : Option Addr} {xs : List Value} (h : w.ownsRow base 3 1 (.slice o n c) n xs) : ∀ b off, o = some ⟨b, off, none⟩ → base ≤ b ∧ b < w.heap.size := fun b off e => by
  have e2 := Joins.ownsRow_forms h
  rcases e2 with ⟨e3, _⟩ | ⟨g, cap, e3⟩
  · injection e3 with e3; rw [e] at e3; cases e3
  · injection e3 with e3
    rw [e] at e3; injection e3 with e3; injection e3 with e3 e4
    subst e3; subst e4
    exact h.lt b (by rw [e]; rfl)
theorem byteN_get (s : ByteArray) (k : Nat) (h : k < s.size) : ((s[k]'h).toNat : Int) = (byteN s k : Int) := by
  have e : s[k]'h = s.data.toList.getD k 0 := by
    rw [List.getD_eq_getElem?_getD, List.getElem?_eq_getElem (by rw [Array.length_toList]; exact h)]
    exact (Array.getElem_toList (i := k) (xs := s.data) (by exact h)).symm
  unfold byteN; rw [e]
theorem byteN_at (s : ByteArray) (k : Nat) : W.byteAt s k = (byteN s k : Int) := by
  unfold W.byteAt byteN
  rw [Array.getD_eq_getD_getElem?, List.getD_eq_getElem?_getD, Array.getElem?_toList]
theorem extract_at (s : ByteArray) (a b k : Nat) (hb : b ≤ s.size) (hk : a + k < b) : W.byteAt (s.extract a b) k = W.byteAt s (a + k) := by
  unfold W.byteAt
  rw [Array.getD_eq_getD_getElem?, Array.getD_eq_getD_getElem?, ByteArray.data_extract, Array.getElem?_extract, if_pos (by show k < min b s.data.size - a; have : s.data.size = s.size := rfl; omega)]
theorem of_num (s : ByteArray) (k : Nat) (hs : s.size = 64) (hk : k < 30) : W.ofF (s.extract (1 + 2 * k) (3 + 2 * k)) = rdNum s k := by
  have hsz : (s.extract (1 + 2 * k) (3 + 2 * k)).size = 2 := by rw [ByteArray.size_extract]; omega
  unfold W.ofF
  rw [hsz]
  show W.ofN _ 2 = _
  unfold W.ofN W.ofN W.ofN
  rw [extract_at s _ _ _ (by omega) (by omega), extract_at s _ _ _ (by omega) (by omega), byteN_at, byteN_at]
  unfold rdNum
  rw [show 1 + 2 * k + 0 = 1 + 2 * k by omega, show 1 + 2 * k + 1 = 2 + 2 * k by omega]
  show 0 + (byteN s (1 + 2 * k) : Int) * 2 ^ (8 * 0) + (byteN s (2 + 2 * k) : Int) * 2 ^ (8 * 1) = _
  omega
theorem good_mem {most : Int} : ∀ {l : List Int} {last : Int}, goodH most last l = true → ∀ x ∈ l, last < x ∧ x < most
  | [], _, _, x, hx => by cases hx
  | y :: l, last, h, x, hx => by
    have h2 : (decide (last < y) && decide (y < most) && goodH most y l) = true := h
    rw [Bool.and_eq_true, Bool.and_eq_true, decide_eq_true_eq, decide_eq_true_eq] at h2
    rcases List.mem_cons.1 hx with e | e
    · rw [e]; exact h2.1
    · have := good_mem h2.2 x e; omega
end Go.Proofs.Ytgaibknhdaeidaa.P
namespace Go.Proofs.Ytgaibknhdaeidaa.P
open Go.RowKit
theorem intInfo : (Try.prog.info? 3).map (fun i => (i.zero, i.size, i.bytes)) = some (some (.int .i64 0), 1, 8) := by kernel_rfl
def FhP (w : World) (s : ByteArray) (most : Int) (e : Ending) (w' : World) : Prop :=
  ∃ o n c, e = .returned (.tuple #[.slice o n c, .bool (parseH s most).isSome]) ∧ Gr w w' ∧ ∀ hs, parseH s most = some hs → n = hs.length ∧ RowI w' o hs ∧ ∀ b off, o = some ⟨b, off, none⟩ → w.heap.size ≤ b ∧ b < w'.heap.size
theorem fh_no {w w' : World} {s : ByteArray} {most : Int} (h : parseH s most = none) (g : Gr w w') : FhP w s most (.returned (.tuple #[.slice none 0 0, .bool false])) w' :=
  ⟨none, 0, 0, by rw [h]; rfl, g, fun hs e => by rw [h] at e; cases e⟩
set_option maxHeartbeats 3200000 in
theorem o_fromHead {w0 w : World} {d : Nat} {z : DState} {l mb : Nat} {st : List (Int × ByteArray)} {dead : Bool} {R : Asn} (h : Own w0 w (DL d z l mb st dead R)) (hs : Stable R) (s : ByteArray) (h64 : s.size = 64) :
    Calls Try.prog 31 #[.pointer (some ⟨l, 0, none⟩), .string s] w (FhP w s ((z.safe.length : Int) - 32)) := by
  have hst : Stable (DL d z l mb st dead R) := stable_dl _ _ _ _ _ _ hs
  have HH : Hid (∀ wr, Gr w wr → Calls Try.prog 25 #[.pointer (some ⟨l, 0, none⟩)] wr fun e w' => e = .returned (.int .i64 ((z.safe.length : Int) - 32)) ∧ w' = wr) :=
    Lib.hid (fun wr g => o_home (h.gr hst g))
  have hz := own_wz h
  have m0 : 0 ≤ (z.safe.length : Int) - 32 := by have := hz.1; omega
  have m1 : (z.safe.length : Int) - 32 ≤ 512 := by have := hz.2.1; omega
  clear h hst hz hs
  generalize (z.safe.length : Int) - 32 = most at *
  have hpos : 0 < s.size := by omega
  have e0 : ((s[0]'hpos).toNat : Int) = (byteN s 0 : Int) := byteN_get s 0 hpos
  have hb : byteN s 0 < 256 := UInt8.toNat_lt _
  have hsz : (s.size : Int) = 64 := by omega
  by_cases h30 : 30 < byteN s 0
  · have hp : parseH s most = none := by unfold parseH; rw [if_pos h30]
    have HF := Lib.hid (fh_no hp (Gr.refl w))
    clear hp HH
    generalize hn : byteN s 0 = n at *
    clear hn
    go_enter Try.func31, Try.ntmps31
    go_wp2_with fail
    refine bodyPost_ret (results_tmp2 rfl _ _ _) rfl ?_
    exact HF.out
  · obtain ⟨i0, hi, hz0, hz1, hz2⟩ := info_parts intInfo
    have CO : Hid (∀ wr k, k < byteN s 0 → Calls Try.prog 50 #[.string (s.extract (1 + 2 * k) (3 + 2 * k))] wr fun e w' => e = .returned (.int .u64 (rdNum s k)) ∧ w' = wr) :=
      Lib.hid (fun wr k hk => by rw [← of_num s k h64 (by omega)]; exact W.c_of _ (by rw [ByteArray.size_extract]; unfold maxLen; omega) wr)
    have HP : Hid (∀ k wr, k < byteN s 0 → goodH most (-1) (rdHomes s (k + 1)) = false → Gr w wr → FhP w s most (.returned (.tuple #[.slice none 0 0, .bool false])) wr) :=
      Lib.hid (fun k wr hk hg g => fh_no (by
        unfold parseH
        rw [if_neg h30, if_neg]
        intro hgood
        rw [good_prefix most s _ (k + 1) (by omega) hgood] at hg
        cases hg) g)
    have HQ : Hid (goodH most (-1) (rdHomes s (byteN s 0)) = true → (s.toList == (headF (rdHomes s (byteN s 0))).toList) = (parseH s most).isSome ∧ ∀ hs, parseH s most = some hs → hs = rdHomes s (byteN s 0)) :=
      Lib.hid (fun hgood => by
        unfold parseH
        rw [if_neg h30, if_pos hgood]
        by_cases e : s = headF (rdHomes s (byteN s 0))
        · rw [if_pos e]
          exact ⟨by rw [← e]; exact beq_self_eq_true _, fun hs k => by injection k with k; exact k.symm⟩
        · rw [if_neg e]
          exact ⟨tl_ne e, fun hs k => by cases k⟩)
    generalize hn : byteN s 0 = n at *
    clear hn
    have hn30 : n ≤ 30 := by omega
    clear h30
    have HS := Lib.hid h64
    clear h64
    go_enter Try.func31, Try.ntmps31
    go_wp2_with fail
    go_loopw [7, 8, 18] (fun v7 v8 v18 wr => ∃ (k : Nat) (o : Option Addr) (c : Nat), k ≤ n ∧ v18 = .int .i64 k ∧ v7 = .slice o k c ∧ v8 = .int .i64 (lastH (-1) (rdHomes s k)) ∧ goodH most (-1) (rdHomes s k) = true ∧ wr.ownsRow w.heap.size 3 1 (.slice o k c) k (encs (rdHomes s k)) ∧ Gr w wr) (fun _ _ v _ => n - (intOf v).toNat)
    case atStart => exact ⟨0, none, 0, Nat.zero_le _, rfl, rfl, rfl, rfl, ⟨rfl, .inl ⟨rfl, rfl⟩⟩, Gr.refl _⟩
    case round =>
      obtain ⟨k, o, c, hk, rfl, rfl, rfl, hgd, hown, hg⟩ := hrel
      have HOWN := Lib.hid hown
      have HG := Lib.hid hg
      have HGD := Lib.hid hgd
      clear hown hg hgd
      by_cases hlt : k < n
      · have dl : decide (k < n) = true := decide_eq_true hlt
        obtain ⟨x0, x1⟩ := rdNum_bd s k
        have CO2 := Lib.hid (CO.out wr k hlt)
        have hlast : -1 ≤ lastH (-1) (rdHomes s k) ∧ lastH (-1) (rdHomes s k) < 65536 := by
          cases k with
          | zero => show -1 ≤ (-1 : Int) ∧ (-1 : Int) < 65536; decide
          | succ k => rw [rdHomes_succ, lastH_append]; have := rdNum_bd s k; omega
        obtain ⟨l0, l1⟩ := hlast
        have hsl : (Instr.slice 9 (.string s) (some (.int .i64 (1 + 2 * (k : Int)))) (some (.int .i64 (1 + 2 * (k : Int) + 2))) none).run Try.prog wr = .ok (.string (s.extract (1 + 2 * k) (3 + 2 * k))) wr := by
          have := run_slice_string (P := Try.prog) wr 9 s .i64 .i64 (1 + 2 * (k : Int)) (1 + 2 * (k : Int) + 2) Try.underlying9 (by omega) (by omega) (by omega)
          rw [this, show (1 + 2 * (k : Int)).toNat = 1 + 2 * k by omega, show (1 + 2 * (k : Int) + 2).toNat = 3 + 2 * k by omega]
        have hap : goodH most (-1) (rdHomes s (k + 1)) = (goodH most (-1) (rdHomes s k) && (decide (lastH (-1) (rdHomes s k) < rdNum s k) && decide (rdNum s k < most))) := by rw [rdHomes_succ, goodH_append]
        rw [HGD.out, Bool.true_and] at hap
        have hen : encs (rdHomes s (k + 1)) = encs (rdHomes s k) ++ [.int .i64 (rdNum s k)] := by rw [rdHomes_succ, encs_append]; rfl
        have hla : lastH (-1) (rdHomes s (k + 1)) = rdNum s k := by rw [rdHomes_succ, lastH_append]
        have HLA := Lib.hid hla
        have HEN := Lib.hid hen
        have HAP := Lib.hid hap
        clear hap hen hla
        have HNO := Lib.hid (HP.out k wr hlt)
        have HHW := Lib.hid (HH.out wr HG.out)
        generalize lastH (-1) (rdHomes s k) = last at *
        generalize rdNum s k = x at *
        by_cases c1 : last < x
        · by_cases c2 : x < most
          · go_wp2_with (first
              | (go_at_call 50; refine (CO2.out).mono ?_; rintro e w2 ⟨rfl, rfl⟩)
              | (go_at_call 25; refine (HHW.out).mono ?_; rintro e w2 ⟨rfl, rfl⟩)
              | (at_builtin; refine wpList_append_own _ rfl _ _ 23 rfl w.heap.size 3 i0 (.int .i64 0) 1 8 Try.underlying23 hi hz0 hz1 hz2 rfl (by decide) (.slice o k c) k (encs (rdHomes s k)) rfl (HOWN.out.alloc _) ⟨_, 0, none⟩ 1 1 [.int .i64 x] rfl rfl (World.news_of_block (cs := #[.int .i64 x]) (blk_new _ _)) (by simp [Value.oneCell']) (by unfold maxLen; omega) (by omega) (by have := HG.out.size; simp; omega) ?_; intro v' w3 hown' hgrow hnil; obtain ⟨o', c', rfl⟩ := row_form hown'; have HO1 := Lib.hid hown'; have HG1 := Lib.hid hgrow; clear hown' hgrow hnil))
            go_roundw
            case rel =>
              refine ⟨k + 1, o', c', by omega, by go_num, rfl, by rw [HLA.out], by rw [HAP.out, decide_eq_true c1, decide_eq_true c2]; rfl, by rw [HEN.out]; exact HO1.out, ?_⟩
              have hb := HG.out.alloc HG.out.size (.cells #[.int .i64 x] 3)
              exact Below.grown hb HG1.out hb.size (fun q e => (HOWN.out.lt q e).1)
            case measure => simp [intOf]; omega
          · go_wp2_with (first
              | (go_at_call 50; refine (CO2.out).mono ?_; rintro e w2 ⟨rfl, rfl⟩)
              | (go_at_call 25; refine (HHW.out).mono ?_; rintro e w2 ⟨rfl, rfl⟩))
            refine bodyPost_ret (results_tmp2 rfl _ _ _) rfl ?_; exact (HNO.out (by rw [HAP.out, decide_eq_false (Int.not_lt.2 c2), Bool.and_false]) HG.out)
        · go_wp2_with (first
            | (go_at_call 50; refine (CO2.out).mono ?_; rintro e w2 ⟨rfl, rfl⟩)
            | (go_at_call 25; refine (HHW.out).mono ?_; rintro e w2 ⟨rfl, rfl⟩))
          refine bodyPost_ret (results_tmp2 rfl _ _ _) rfl ?_; exact (HNO.out (by rw [HAP.out, decide_eq_false (Int.not_lt.2 c1), Bool.false_and]) HG.out)
      · obtain rfl : k = n := by omega
        obtain ⟨hq1, hq2⟩ := HQ.out HGD.out
        have hlen := rdHomes_len s k
        have HR : RowI wr o (rdHomes s k) := rowI_own (c := c) (base := w.heap.size) (by rw [hlen]; exact HOWN.out)
        have CH := c_head wr o c (rdHomes s k) HR (by omega) (fun i hm => by have := good_mem HGD.out i hm; omega)
        rw [hlen] at CH
        have HC := Lib.hid CH
        have HQ2 := Lib.hid hq2
        have HRR := Lib.hid HR
        have HLL := Lib.hid hlen
        clear HR CH hq2 hlen
        generalize headF (rdHomes s k) = q at *
        go_wp2_with (go_at_call 51; refine (HC.out).mono ?_; rintro e w2 ⟨rfl, g2⟩; have G2 := Lib.hid g2; clear g2)
        exact bodyPost_ret (results_tmp2 rfl _ _ _) rfl ⟨o, k, c, rfl, gtrans HG.out G2.out, fun hs hp => by
          rw [HQ2.out hs hp]
          exact ⟨HLL.out.symm, HRR.out.gr G2.out, fun b off e => ⟨(row_from HOWN.out b off e).1, Nat.lt_of_lt_of_le (row_from HOWN.out b off e).2 G2.out.size⟩⟩⟩
end Go.Proofs.Ytgaibknhdaeidaa.P
namespace Go.Proofs.Ytgaibknhdaeidaa.P
open Go.RowKit
theorem exec_one (o : DOp) (z : DState) : exec [o] z = stepD z o := by
  by_cases h : (stepD z o).1 = 0
  · rw [exec_ok h]; show ((0 : Int), (stepD z o).2) = _; rw [← h]
  · rw [exec_no h]
theorem own_w {w0 w : World} {d : Nat} {z : DState} {l mb : Nat} {st : List (Int × ByteArray)} {dead : Bool} {R : Asn} (h : Own w0 w (DL d z l mb st dead R)) (hs : Stable R) (i : Int) (s : ByteArray) (hl : z.wait.length ≤ 4000000000000) :
    Calls Try.prog 52 #[.pointer (some ⟨d, 0, none⟩), .int .i64 i, .string s] w fun e w' => e = .returned (.int .i64 (stepD z (.wr i s)).1) ∧ Own w0 w' (DL d (stepD z (.wr i s)).2 l mb st dead R) :=
  o_write h (stable_star (stable_lg _ _ _ _ _) hs) i s hl
theorem own_f {w0 w : World} {d : Nat} {z : DState} {l mb : Nat} {st : List (Int × ByteArray)} {dead : Bool} {R : Asn} (h : Own w0 w (DL d z l mb st dead R)) (hs : Stable R) (hl : z.wait.length ≤ 4000000000000) :
    Calls Try.prog 53 #[.pointer (some ⟨d, 0, none⟩)] w fun e w' => e = .returned (.int .i64 (stepD z .fl).1) ∧ Own w0 w' (DL d (stepD z .fl).2 l mb st dead R) :=
  o_flush h (stable_star (stable_lg _ _ _ _ _) hs) hl
theorem Own.ldisk {w0 w : World} {d : Nat} {z : DState} {l mb : Nat} {st : List (Int × ByteArray)} {dead : Bool} {R : Asn} (h : Own w0 w (DL d z l mb st dead R)) : w.cell? ⟨l, 0, none⟩ = some (.pointer (some ⟨d, 0, none⟩)) := blk_cell h.log.1 0 rfl
theorem step_wait (z : DState) (o : DOp) : (stepD z o).2.wait.length ≤ z.wait.length + 1 := by
  cases o with
  | wr i s => exact write_wait z i s
  | fl =>
    show (flushZ z).wait.length ≤ _
    unfold flushZ
    cases z.off with
    | true => show z.wait.length ≤ _; omega
    | false =>
      cases actB z with
      | true => show 0 ≤ _; omega
      | false =>
        show (actZ z).wait.length ≤ _
        unfold actZ
        cases z.counted with
        | false => show z.wait.length ≤ _; omega
        | true => cases decide (z.acts = 0) <;> (show z.wait.length ≤ _; omega)
set_option maxHeartbeats 1600000 in
theorem o_point {w0 w : World} {d : Nat} {z : DState} {l mb : Nat} {st : List (Int × ByteArray)} {dead : Bool} {R : Asn} (h : Own w0 w (DL d z l mb st dead R)) (hs : Stable R) (o : Option Addr) (c : Nat) (A : List Int) (hA : RowI w o A) (hl : A.length ≤ 30) (hb : ∀ i ∈ A, 0 ≤ i ∧ i < 65536) (hw : z.wait.length ≤ 3000000000000) :
    Calls Try.prog 54 #[.pointer (some ⟨l, 0, none⟩), .slice o A.length c] w fun e w' => e = .returned (.int .i64 (exec (pointOps A) z).1) ∧ Own w0 w' (DL d (exec (pointOps A) z).2 l mb st dead R) := by
  have hst : ∀ z, Stable (DL d z l mb st dead R) := fun z => stable_dl _ _ _ _ _ _ hs
  have CH : Hid (∀ w', RowI w' o A → Own w0 w' (DL d z l mb st dead R) → Calls Try.prog 51 #[.slice o A.length c] w' fun e w2 => e = .returned (.string (headF A)) ∧ Own w0 w2 (DL d z l mb st dead R)) :=
    Lib.hid (fun w' hr ho => (c_head w' o c A hr hl hb).mono fun e w2 k => ⟨k.1, ho.gr (hst z) k.2⟩)
  have CW : Hid (∀ w', Own w0 w' (DL d z l mb st dead R) → Calls Try.prog 52 #[.pointer (some ⟨d, 0, none⟩), .int .i64 1, .string (headF A)] w' fun e w2 => e = .returned (.int .i64 (stepD z (.wr 1 (headF A))).1) ∧ Own w0 w2 (DL d (stepD z (.wr 1 (headF A))).2 l mb st dead R)) :=
    Lib.hid (fun w' ho => own_w ho hs 1 (headF A) (by omega))
  have hw1 := step_wait z (.wr 1 (headF A))
  have hw2 : (stepD z (.wr 1 (headF A))).2.wait.length ≤ 4000000000000 := by omega
  have hE : exec (pointOps A) z = bif decide ((stepD z (.wr 1 (headF A))).1 = 0) then stepD (stepD z (.wr 1 (headF A))).2 .fl else stepD z (.wr 1 (headF A)) := by
    by_cases k : (stepD z (.wr 1 (headF A))).1 = 0
    · rw [decide_eq_true k, cond_true, ← exec_one .fl, ← exec_ok k]; rfl
    · rw [decide_eq_false k, cond_false, ← exec_no (l := [.fl]) k]; rfl
  rw [hE]
  have hO : Own w0 w (DL d z l mb st dead R) := h
  have hOd : Own w0 w.drew (DL d z l mb st dead R) := h.drew (hst z)
  have hR : RowI w o A := hA
  have hRd : RowI w.drew o A := hA.gr (Gr.drewN (Gr.refl _) 1)
  have hc := h.ldisk
  clear hE hw1 h hA
  generalize hq : stepD z (.wr 1 (headF A)) = q at *
  clear hq
  obtain ⟨q1, q2⟩ := q
  dsimp only at *
  have CF : Hid (∀ w', Own w0 w' (DL d q2 l mb st dead R) → Calls Try.prog 53 #[.pointer (some ⟨d, 0, none⟩)] w' fun e w2 => e = .returned (.int .i64 (stepD q2 .fl).1) ∧ Own w0 w2 (DL d (stepD q2 .fl).2 l mb st dead R)) :=
    Lib.hid (fun w' ho => own_f ho hs hw2)
  generalize headF A = hd at *
  generalize A.length = n at *
  go_enter Try.func54, Try.ntmps54
  go_upto_region 1 with fail
  go_cut [5] (fun v wx => v = .int .i64 q1 ∧ Own w0 wx (DL d q2 l mb st dead R))
  case first =>
    go_region_held3 (fun w' => w'.cell? ⟨l, 0, none⟩ = some (.pointer (some ⟨d, 0, none⟩)))
      (first | (with_reducible assumption) | (with_reducible exact cell_drew6 (by assumption)))
      (first
        | (go_at_call 51; refine (CH.out _ (by assumption) (by assumption)).mono ?_; rintro e w5 ⟨rfl, hq5⟩; have hc5 := hq5.ldisk)
        | (go_at_call 52; refine (CW.out _ (by assumption)).mono ?_; rintro e w6 ⟨rfl, hq6⟩; have hc6 := hq6.ldisk))
    all_goals
      go_wp2_with fail
      go_meet
      first | exact ⟨rfl, by assumption⟩ | skip
  case rest =>
    obtain ⟨rfl, h5⟩ := hcut
    have H5 := Lib.hid h5
    have c5 := h5.ldisk
    clear h5 hO hOd hc
    by_cases hk : q1 = 0
    · subst hk
      go_wp2_with (go_at_call 53; refine (CF.out _ H5.out).mono ?_; rintro e w6 ⟨rfl, h6⟩)
      go_ret
      exact ⟨rfl, h6⟩
    · go_wp2_with fail
      go_ret
      rw [decide_eq_false hk, cond_false]
      exact ⟨rfl, H5.out⟩
end Go.Proofs.Ytgaibknhdaeidaa.P
