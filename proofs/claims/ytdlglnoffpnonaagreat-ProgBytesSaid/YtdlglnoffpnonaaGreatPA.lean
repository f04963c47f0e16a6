/- Stage 12: a program and its file. No condition. -/
import Derived.Test.YtdlglnoffpnonaaGreatBB
set_option linter.unusedVariables false
set_option linter.unusedSimpArgs false
set_option maxRecDepth 100000
namespace Go.Proofs.YtdlglnoffpnonaaGreat.P
open Go.RowKit Go.Proofs.YtdlglnoffpnonaaGreat.W
structure Pg where
  en : Int
  tx : ByteArray
  da : ByteArray
  bs : Int
def pgV (x : Pg) : Value := .agg #[.int .i64 x.en, .string x.tx, .string x.da, .int .i64 x.bs]
def pg0 : Pg := ⟨0, ⟨#[]⟩, ⟨#[]⟩, 0⟩
def mayP (x : Pg) : Bool := decide (4 ≤ x.tx.size) && (decide (x.tx.size ≤ 2048) && (decide (x.tx.size % 4 = 0) && (decide (0 ≤ x.en) && (decide (x.en < x.tx.size) && (decide (x.en % 4 = 0) && (decide (x.da.size ≤ 1024) && (decide (0 ≤ x.bs) && (decide (x.bs ≤ 4096) && decide (32 + x.tx.size + x.da.size ≤ 2368)))))))))
theorem may_iff {x : Pg} : mayP x = true ↔ 4 ≤ x.tx.size ∧ x.tx.size ≤ 2048 ∧ x.tx.size % 4 = 0 ∧ 0 ≤ x.en ∧ x.en < x.tx.size ∧ x.en % 4 = 0 ∧ x.da.size ≤ 1024 ∧ 0 ≤ x.bs ∧ x.bs ≤ 4096 ∧ 32 + x.tx.size + x.da.size ≤ 2368 := by
  unfold mayP; simp only [Bool.and_eq_true, decide_eq_true_eq]
def beginB : ByteArray := ⟨#[66, 75, 80, 1]⟩
def noughtB : ByteArray := ⟨#[0, 0, 0, 0, 0, 0, 0, 0, 0, 0, 0, 0]⟩
def headP (x : Pg) : ByteArray := beginB ++ bytesF x.en 4 ++ bytesF x.tx.size 4 ++ bytesF x.da.size 4 ++ bytesF x.bs 4 ++ noughtB
def encP (x : Pg) : ByteArray := headP x ++ x.tx ++ x.da
theorem b4_size (v : Int) : (bytesF v 4).size = 4 := bytes_size v 4
theorem head_size (x : Pg) : (headP x).size = 32 := by
  unfold headP
  simp only [ByteArray.size_append, b4_size]
  rfl
theorem enc_size (x : Pg) : (encP x).size = 32 + x.tx.size + x.da.size := by
  unfold encP; rw [ByteArray.size_append, ByteArray.size_append, head_size]
theorem ext_in {A B : ByteArray} {i j : Nat} (h : j ≤ A.size) : (A ++ B).extract i j = A.extract i j := by
  rw [ByteArray.extract_append, ByteArray.extract_eq_empty_iff.2 (show min (j - A.size) B.size ≤ i - A.size by omega), ByteArray.append_empty]
def fldF (s : ByteArray) (k : Nat) : Int := ofF (s.extract k (k + 4))
theorem fld_bd (s : ByteArray) (k : Nat) : 0 ≤ fldF s k ∧ fldF s k < 4294967296 := by
  have hm : min (s.extract k (k + 4)).size 8 ≤ 4 := by rw [ByteArray.size_extract]; omega
  have b := ofN_bd (s.extract k (k + 4)) (min (s.extract k (k + 4)).size 8)
  unfold fldF ofF
  generalize min (s.extract k (k + 4)).size 8 = m at *
  have hs : m = 0 ∨ m = 1 ∨ m = 2 ∨ m = 3 ∨ m = 4 := by omega
  rcases hs with rfl | rfl | rfl | rfl | rfl
  all_goals
    refine ⟨b.1, Int.lt_of_lt_of_le b.2 (by decide)⟩
theorem low4 {v : Int} (h0 : 0 ≤ v) (h1 : v < 4294967296) : ofF (bytesF v 4) = v := by
  rw [of_bytes v 4 ⟨h0, by omega⟩]
  show lowF v 32 = v
  unfold lowF
  rw [if_neg (by decide), if_neg (by decide)]
  show v % 4294967296 = v
  omega
theorem head_flds (x : Pg) : (headP x).extract 4 8 = bytesF x.en 4 ∧ (headP x).extract 8 12 = bytesF x.tx.size 4 ∧ (headP x).extract 12 16 = bytesF x.da.size 4 ∧ (headP x).extract 16 20 = bytesF x.bs 4 := by
  have hb : beginB.size = 4 := rfl
  unfold headP
  refine ⟨?_, ?_, ?_, ?_⟩
  · rw [ext_in (by simp only [ByteArray.size_append, b4_size, hb]; omega), ext_in (by simp only [ByteArray.size_append, b4_size, hb]; omega), ext_in (by simp only [ByteArray.size_append, b4_size, hb]; omega), ext_in (by simp only [ByteArray.size_append, b4_size, hb]; omega), ByteArray.extract_append_eq_right (by simp only [ByteArray.size_append, b4_size, hb]) (by simp only [ByteArray.size_append, b4_size, hb])]
  · rw [ext_in (by simp only [ByteArray.size_append, b4_size, hb]; omega), ext_in (by simp only [ByteArray.size_append, b4_size, hb]; omega), ext_in (by simp only [ByteArray.size_append, b4_size, hb]; omega), ByteArray.extract_append_eq_right (by simp only [ByteArray.size_append, b4_size, hb]) (by simp only [ByteArray.size_append, b4_size, hb])]
  · rw [ext_in (by simp only [ByteArray.size_append, b4_size, hb]; omega), ext_in (by simp only [ByteArray.size_append, b4_size, hb]; omega), ByteArray.extract_append_eq_right (by simp only [ByteArray.size_append, b4_size, hb]) (by simp only [ByteArray.size_append, b4_size, hb])]
  · rw [ext_in (by simp only [ByteArray.size_append, b4_size, hb]; omega), ByteArray.extract_append_eq_right (by simp only [ByteArray.size_append, b4_size, hb]) (by simp only [ByteArray.size_append, b4_size, hb])]
theorem enc_flds (x : Pg) : (encP x).extract 4 8 = bytesF x.en 4 ∧ (encP x).extract 8 12 = bytesF x.tx.size 4 ∧ (encP x).extract 12 16 = bytesF x.da.size 4 ∧ (encP x).extract 16 20 = bytesF x.bs 4 := by
  have hh := head_size x
  obtain ⟨h1, h2, h3, h4⟩ := head_flds x
  unfold encP
  have key : ∀ i j, j ≤ 32 → (headP x ++ x.tx ++ x.da).extract i j = (headP x).extract i j := fun i j h => by
    rw [ext_in (by rw [ByteArray.size_append]; omega), ext_in (by omega)]
  rw [key _ _ (by decide), key _ _ (by decide), key _ _ (by decide), key _ _ (by decide)]
  exact ⟨h1, h2, h3, h4⟩
theorem enc_tx (x : Pg) : (encP x).extract 32 (32 + x.tx.size) = x.tx := by
  have hh := head_size x
  unfold encP
  rw [ext_in (by rw [ByteArray.size_append]; omega), ByteArray.extract_append_eq_right (by omega) (by omega)]
theorem enc_da (x : Pg) : (encP x).extract (32 + x.tx.size) (32 + x.tx.size + x.da.size) = x.da := by
  have hh := head_size x
  unfold encP
  exact ByteArray.extract_append_eq_right (by rw [ByteArray.size_append]; omega) (by rw [ByteArray.size_append]; omega)
-- reading
def nT (s : ByteArray) : Nat := min (fldF s 8).toNat (s.size - 32)
def nD (s : ByteArray) : Nat := min (fldF s 12).toNat (s.size - 32 - nT s)
def candP (s : ByteArray) : Pg := ⟨fldF s 4, s.extract 32 (32 + nT s), s.extract (32 + nT s) (32 + nT s + nD s), fldF s 16⟩
def decOK (s : ByteArray) : Bool := decide (32 ≤ s.size) && (decide (s.size ≤ 2368) && (mayP (candP s) && decide (encP (candP s) = s)))
def decP (s : ByteArray) : Pg := bif decOK s then candP s else pg0
def decE (s : ByteArray) : Int := bif decOK s then 0 else 6
theorem cand_enc {x : Pg} (h : mayP x = true) : candP (encP x) = x := by
  obtain ⟨h1, h2, h3, h4, h5, h6, h7, h8, h9, h10⟩ := may_iff.1 h
  obtain ⟨f1, f2, f3, f4⟩ := enc_flds x
  have hs := enc_size x
  have e1 : fldF (encP x) 4 = x.en := by unfold fldF; rw [f1]; exact low4 h4 (by omega)
  have e2 : fldF (encP x) 8 = x.tx.size := by unfold fldF; rw [f2]; exact low4 (by omega) (by omega)
  have e3 : fldF (encP x) 12 = x.da.size := by unfold fldF; rw [f3]; exact low4 (by omega) (by omega)
  have e4 : fldF (encP x) 16 = x.bs := by unfold fldF; rw [f4]; exact low4 h8 (by omega)
  have n1 : nT (encP x) = x.tx.size := by unfold nT; rw [e2, hs]; omega
  have n2 : nD (encP x) = x.da.size := by unfold nD; rw [e3, hs, n1]; omega
  unfold candP
  rw [e1, e4, n1, n2, enc_tx, enc_da]
theorem dec_enc {x : Pg} (h : mayP x = true) : decOK (encP x) = true ∧ candP (encP x) = x := by
  refine ⟨?_, cand_enc h⟩
  obtain ⟨h1, h2, h3, h4, h5, h6, h7, h8, h9, h10⟩ := may_iff.1 h
  unfold decOK
  rw [cand_enc h, enc_size, h, decide_eq_true (show 32 ≤ 32 + x.tx.size + x.da.size by omega), decide_eq_true h10, decide_eq_true rfl]; rfl
-- the document's
def docC (s : ByteArray) : Pg := ⟨fldF s 4, s.extract 32 (32 + (fldF s 8).toNat), s.extract (32 + (fldF s 8).toNat) s.size, fldF s 16⟩
def docOK (s : ByteArray) : Bool := decide (32 ≤ s.size) && (decide (fldF s 8 ≤ 4096) && (decide (fldF s 12 ≤ 4096) && (decide ((s.size : Int) = 32 + fldF s 8 + fldF s 12) && (mayP (docC s) && decide (encP (docC s) = s)))))
theorem doc_is (s : ByteArray) : docOK s = decOK s ∧ (docOK s = true → docC s = candP s) := by
  obtain ⟨a1, a2⟩ := fld_bd s 8
  obtain ⟨b1, b2⟩ := fld_bd s 12
  have same : 32 ≤ s.size → (s.size : Int) = 32 + fldF s 8 + fldF s 12 → docC s = candP s := fun h32 h => by
    have n1 : nT s = (fldF s 8).toNat := by unfold nT; omega
    have n2 : nD s = (fldF s 12).toNat := by unfold nD; omega
    unfold docC candP
    rw [n1, n2, show s.size = 32 + (fldF s 8).toNat + (fldF s 12).toNat by omega]
  have part2 : docOK s = true → docC s = candP s := fun h => by
    unfold docOK at h
    simp only [Bool.and_eq_true, decide_eq_true_eq] at h
    exact same h.1 h.2.2.2.1
  refine ⟨?_, part2⟩
  rw [Bool.eq_iff_iff]
  constructor
  · intro h
    have e := part2 h
    unfold docOK at h
    simp only [Bool.and_eq_true, decide_eq_true_eq] at h
    obtain ⟨h1, h2, h3, h4, h5, h6⟩ := h
    rw [e] at h5 h6
    unfold decOK
    have hz := enc_size (candP s)
    have := (may_iff.1 h5).2.2.2.2.2.2.2.2.2
    rw [h6] at hz
    rw [h5, decide_eq_true h6, decide_eq_true h1, decide_eq_true (show s.size ≤ 2368 by omega)]; rfl
  · intro h
    unfold decOK at h
    simp only [Bool.and_eq_true, decide_eq_true_eq] at h
    obtain ⟨h1, h2, h3, h4⟩ := h
    obtain ⟨m1, m2, m3, m4, m5, m6, m7, m8, m9, m10⟩ := may_iff.1 h3
    obtain ⟨f1, f2, f3, f4⟩ := enc_flds (candP s)
    have hz := enc_size (candP s)
    rw [h4] at f1 f2 f3 f4 hz
    have e2 : fldF s 8 = (candP s).tx.size := by unfold fldF; rw [f2]; exact low4 (by omega) (by omega)
    have e3 : fldF s 12 = (candP s).da.size := by unfold fldF; rw [f3]; exact low4 (by omega) (by omega)
    have hlen : (s.size : Int) = 32 + fldF s 8 + fldF s 12 := by omega
    have e := same h1 hlen
    unfold docOK
    rw [e, h3, decide_eq_true h4, decide_eq_true h1, decide_eq_true hlen, decide_eq_true (show fldF s 8 ≤ 4096 by omega), decide_eq_true (show fldF s 12 ≤ 4096 by omega)]; rfl
end Go.Proofs.YtdlglnoffpnonaaGreat.P
