/- Stage 7: a strings.Builder; the head of a log. No condition. -/
import Derived.Test.YtgaibknhdaeidaaA10
import Derived.Test.YtgaibknhdaeidaaSG
import Derived.Test.YtgaibknhdaeidaaSH
import Derived.Test.YtgaibknhdaeidaaBB
import Derived.Deep.QuietTactic
import Derived.BigQuiet
set_option linter.unusedVariables false
set_option maxRecDepth 50000
namespace Go.Proofs.Ytgaibknhdaeidaa.P
open Go.RowKit
def BldA (w0 : World) (l : List UInt8) (wr : World) : Prop := Lib.IsBuilder 85 5 w0.heap.size w0.heap.size (Lib.byteCells l) wr ∧ Gr w0 wr
theorem b_new (w : World) : BldA w [] (w.alloc (.cells #[.pointer none, .slice none 0 0] 85)) := ⟨Lib.fresh_isBuilder _ _ w, (Gr.refl _).alloc (Nat.le_refl _) _⟩
theorem at_gr {T e : TypeId} {B b : Nat} {p : Value} {bs : List Value} {w w' : World} (h : Lib.BuilderAt T e B b p bs w) (g : Gr w w') : Lib.BuilderAt T e B b p bs w' := by
  obtain ⟨h1, v, h2, h3, h4⟩ := h
  refine ⟨h1, v, blk_gr g h2, ⟨h3.1, ?_⟩, h4⟩
  rcases h3.2 with k | ⟨q, cap, cur, rfl, hb, hg, k⟩
  · exact .inl k
  · exact .inr ⟨q, cap, cur, rfl, hb, blk_gr g hg, k⟩
theorem b_gr {w0 wr wr' : World} {l : List UInt8} (h : BldA w0 l wr) (g : Gr wr wr') : BldA w0 l wr' := ⟨h.1.elim (fun k => .inl (at_gr k g)) (fun k => .inr (at_gr k g)), gtrans h.2 g⟩
theorem byteCells_app (a b : List UInt8) : Lib.byteCells (a ++ b) = Lib.byteCells a ++ Lib.byteCells b := by unfold Lib.byteCells; exact List.map_append
theorem b_byte {w0 wr : World} {l : List UInt8} (h : BldA w0 l wr) (hl : l.length ≤ 1000) (c : Nat) (hc : c < 256) :
    Calls Try.prog 67 #[.pointer (some ⟨w0.heap.size, 0, none⟩), .int .u8 (c : Int)] wr fun e w' => e = .returned .nilIface ∧ BldA w0 (l ++ [UInt8.ofNat c]) w' := by
  refine (sg_Builder_WriteByte _ _ _ (c : Int) wr h.1 (by rw [Lib.byteCells_length]; omega) h.2.size).mono ?_
  rintro e w' ⟨rfl, h1, h2⟩
  refine ⟨rfl, ?_, Below.trans h.2 h2⟩
  rw [byteCells_app]
  have : Lib.byteCells [UInt8.ofNat c] = [.int .u8 (c : Int)] := by
    show [Value.int .u8 ((UInt8.ofNat c).toNat : Int)] = _
    rw [UInt8.toNat_ofNat', Nat.mod_eq_of_lt hc]
  rw [this]; exact .inr h1
theorem b_str {w0 wr : World} {l : List UInt8} (h : BldA w0 l wr) (hl : l.length ≤ 1000) (s : ByteArray) (hs : s.size ≤ 1000) :
    Calls Try.prog 45 #[.pointer (some ⟨w0.heap.size, 0, none⟩), .string s] wr fun e w' => e = .returned (.tuple #[.int .i64 s.size, .nilIface]) ∧ BldA w0 (l ++ s.data.toList) w' := by
  refine (sg_Builder_WriteString _ _ _ s wr h.1 (by rw [Lib.byteCells_length]; omega) h.2.size).mono ?_
  rintro e w' ⟨rfl, h1, h2⟩
  refine ⟨rfl, ?_, Below.trans h.2 h2⟩
  rw [byteCells_app]; exact .inr h1
theorem b_len {w0 wr : World} {l : List UInt8} (h : BldA w0 l wr) (m : Nat) (hm : l.length = m) : Calls Try.prog 46 #[.pointer (some ⟨w0.heap.size, 0, none⟩)] wr fun e w' => e = .returned (.int .i64 (m : Int)) ∧ w' = wr := by
  have := sg_Builder_Len _ _ _ wr h.1
  rw [Lib.byteCells_length, hm] at this
  exact this
theorem b_string {w0 wr : World} {l : List UInt8} (h : BldA w0 l wr) (h0 : l ≠ []) : Calls Try.prog 47 #[.pointer (some ⟨w0.heap.size, 0, none⟩)] wr fun e w' => e = .returned (.string ⟨l.toArray⟩) ∧ Gr w0 w' := by
  refine (sg_Builder_String _ _ _ wr h.1 h0).mono ?_
  rintro e w' ⟨rfl, h2⟩
  exact ⟨rfl, Below.trans h.2 h2⟩
/-- A slice whose elements are such numbers. -/
def RowI (w : World) (o : Option Addr) (A : List Int) : Prop := ∀ j i, A[j]? = some i → ∃ b off, o = some ⟨b, off, none⟩ ∧ w.cell? ⟨b, off + j, none⟩ = some (.int .i64 i)
theorem RowI.gr {w w' : World} {o : Option Addr} {A : List Int} (h : RowI w o A) (g : Gr w w') : RowI w' o A := fun j s hj => by
  obtain ⟨b, off, e, hc⟩ := h j s hj
  exact ⟨b, off, e, kcell g hc⟩
theorem rowI_nil (w : World) (o : Option Addr) : RowI w o [] := fun j s hj => by simp at hj
theorem repeatL_zero : ∀ n, Lib.repeatL [0] n = List.replicate n (0 : UInt8)
  | 0 => rfl
  | n + 1 => by
    show [0] ++ Lib.repeatL [0] n = _
    rw [repeatL_zero n]; rfl
theorem bytes_num (i : Int) : (W.bytesF i 2).data.toList = numB i := rfl
def headK (A : List Int) (k : Nat) : List UInt8 := UInt8.ofNat A.length :: (A.take k).flatMap numB
theorem headK_succ (A : List Int) (k : Nat) (i : Int) (h : A[k]? = some i) : headK A (k + 1) = headK A k ++ numB i := by
  obtain ⟨hk, e⟩ := List.getElem?_eq_some_iff.1 h
  unfold headK
  rw [List.take_succ_eq_append_getElem hk, List.flatMap_append, e]
  show _ = UInt8.ofNat A.length :: ((A.take k).flatMap numB ++ numB i)
  rw [List.flatMap_cons, List.flatMap_nil, List.append_nil]
theorem headK_all (A : List Int) : headK A A.length = headL A := by unfold headK headL; rw [List.take_length]
theorem headK_len (A : List Int) : ∀ k, k ≤ A.length → (headK A k).length = 1 + 2 * k
  | 0, _ => rfl
  | k + 1, h => by
    rw [headK_succ A k _ (List.getElem?_eq_getElem (by omega)), List.length_append, headK_len A k (by omega)]
    show _ + 2 = _
    omega
end Go.Proofs.Ytgaibknhdaeidaa.P
