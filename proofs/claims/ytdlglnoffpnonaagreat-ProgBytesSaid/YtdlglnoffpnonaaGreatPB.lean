/- Stage 12: files that are none. No condition. -/
import Derived.Test.YtdlglnoffpnonaaGreatPA
set_option linter.unusedVariables false
set_option linter.unusedSimpArgs false
set_option maxRecDepth 100000
namespace Go.Proofs.YtdlglnoffpnonaaGreat.P
open Go.RowKit Go.Proofs.YtdlglnoffpnonaaGreat.W
theorem dec_len {s : ByteArray} (h : decOK s = true) : (s.size : Int) = 32 + fldF s 8 + fldF s 12 := by
  have h2 := (doc_is s).1
  rw [h] at h2
  unfold docOK at h2
  simp only [Bool.and_eq_true, decide_eq_true_eq] at h2
  exact h2.2.2.2.1
theorem enc_len {x : Pg} (h : mayP x = true) : ((encP x).size : Int) = 32 + fldF (encP x) 8 + fldF (encP x) 12 := dec_len (dec_enc h).1
theorem fld_more {s t : ByteArray} {k : Nat} (h : k + 4 ≤ s.size) : fldF (s ++ t) k = fldF s k := by unfold fldF; rw [ext_in h]
theorem fld_less {s : ByteArray} {k n : Nat} (h : k + 4 ≤ n) : fldF (s.extract 0 n) k = fldF s k := by
  unfold fldF
  rw [ByteArray.extract_extract]
  rw [show min (0 + (k + 4)) n = k + 4 by omega, Nat.zero_add]
theorem dec_more {x : Pg} (h : mayP x = true) {t : ByteArray} (ht : 0 < t.size) : decOK (encP x ++ t) = false := by
  cases hd : decOK (encP x ++ t) with
  | false => rfl
  | true =>
    have e := dec_len hd
    have hs := enc_size x
    rw [fld_more (by omega), fld_more (by omega), ByteArray.size_append] at e
    have := enc_len h
    omega
theorem dec_less {x : Pg} (h : mayP x = true) : decOK ((encP x).extract 0 ((encP x).size - 1)) = false := by
  cases hd : decOK ((encP x).extract 0 ((encP x).size - 1)) with
  | false => rfl
  | true =>
    have e := dec_len hd
    have hs := enc_size x
    have := (may_iff.1 h).1
    rw [fld_less (by omega), fld_less (by omega), ByteArray.size_extract] at e
    have := enc_len h
    omega
theorem enc_fix (x : Pg) : (encP x).extract 0 4 = beginB ∧ (encP x).extract 20 32 = noughtB := by
  have hh := head_size x
  have hb : beginB.size = 4 := rfl
  have hn : noughtB.size = 12 := rfl
  unfold encP
  rw [ext_in (by rw [ByteArray.size_append]; omega), ext_in (by omega), ext_in (by rw [ByteArray.size_append]; omega), ext_in (by omega)]
  unfold headP
  constructor
  · rw [ext_in (by simp only [ByteArray.size_append, b4_size, hb]; omega), ext_in (by simp only [ByteArray.size_append, b4_size, hb]; omega), ext_in (by simp only [ByteArray.size_append, b4_size, hb]; omega), ext_in (by simp only [ByteArray.size_append, b4_size, hb]; omega), ext_in (by omega)]
    rfl
  · exact ByteArray.extract_append_eq_right (by simp only [ByteArray.size_append, b4_size, hb]) (by simp only [ByteArray.size_append, b4_size, hb, hn])
theorem ext_get {s : ByteArray} {a b i : Nat} (h1 : a ≤ i) (h2 : i < b) : s.data.toList[i]? = (s.extract a b).data.toList[i - a]? := by
  have e : (s.extract a b).data.toList = (s.data.toList.drop a).take (b - a) := by
    simp [ByteArray.data_extract, Array.toList_extract, List.extract_eq_take_drop]
  rw [e, List.getElem?_take_of_lt (by omega), List.getElem?_drop]
  congr 1; omega
theorem enc_same (x y : Pg) {i : Nat} (h : i < 4 ∨ (20 ≤ i ∧ i < 32)) : (encP x).data.toList[i]? = (encP y).data.toList[i]? := by
  rcases h with h | ⟨h1, h2⟩
  · rw [ext_get (Nat.zero_le i) h, ext_get (s := encP y) (Nat.zero_le i) h, (enc_fix x).1, (enc_fix y).1]
  · rw [ext_get h1 h2, ext_get (s := encP y) h1 h2, (enc_fix x).2, (enc_fix y).2]
/-- A head in which such a byte is another one. -/
theorem dec_spoilt {x : Pg} {s : ByteArray} {i : Nat} (h : i < 4 ∨ (20 ≤ i ∧ i < 32)) (hne : s.data.toList[i]? ≠ (encP x).data.toList[i]?) : decOK s = false := by
  cases hd : decOK s with
  | false => rfl
  | true =>
    unfold decOK at hd
    simp only [Bool.and_eq_true, decide_eq_true_eq] at hd
    obtain ⟨_, _, _, h4⟩ := hd
    exact absurd (by rw [← h4]; exact enc_same _ _ h) hne
end Go.Proofs.YtdlglnoffpnonaaGreat.P
