/- Stage 7: heads read: plain facts. No condition. -/
import Derived.Test.YtgaibknhdaeidaaA3
set_option linter.unusedVariables false
namespace Go.Proofs.Ytgaibknhdaeidaa.P
open Go.RowKit
def byteN (s : ByteArray) (j : Nat) : Nat := (s.data.toList.getD j 0).toNat
def rdNum (s : ByteArray) (k : Nat) : Int := (byteN s (1 + 2 * k) : Int) + 256 * (byteN s (2 + 2 * k) : Int)
def rdHomes (s : ByteArray) (n : Nat) : List Int := (List.range n).map (rdNum s)
/-- Rising from behind last on, all below most. -/
def goodH (most : Int) : Int → List Int → Bool
  | _, [] => true
  | last, x :: l => decide (last < x) && decide (x < most) && goodH most x l
def parseH (s : ByteArray) (most : Int) : Option (List Int) :=
  if 30 < byteN s 0 then none else if goodH most (-1) (rdHomes s (byteN s 0)) = true then (if s = headF (rdHomes s (byteN s 0)) then some (rdHomes s (byteN s 0)) else none) else none
theorem rdNum_bd (s : ByteArray) (k : Nat) : 0 ≤ rdNum s k ∧ rdNum s k < 65536 := by
  unfold rdNum byteN
  have h1 := (s.data.toList.getD (1 + 2 * k) 0).toNat_lt
  have h2 := (s.data.toList.getD (2 + 2 * k) 0).toNat_lt
  omega
theorem rdHomes_succ (s : ByteArray) (n : Nat) : rdHomes s (n + 1) = rdHomes s n ++ [rdNum s n] := by
  unfold rdHomes; rw [List.range_succ, List.map_append]; rfl
theorem rdHomes_len (s : ByteArray) (n : Nat) : (rdHomes s n).length = n := by unfold rdHomes; rw [List.length_map, List.length_range]
def lastH (last : Int) (l : List Int) : Int := l.getLast?.getD last
theorem lastH_append (last : Int) (l : List Int) (x : Int) : lastH last (l ++ [x]) = x := by unfold lastH; rw [List.getLast?_append]; rfl
theorem goodH_append (most : Int) (x : Int) : ∀ (l : List Int) (last : Int), goodH most last (l ++ [x]) = (goodH most last l && (decide (lastH last l < x) && decide (x < most)))
  | [], last => by
    show (decide (last < x) && decide (x < most) && true) = (true && _)
    rw [Bool.and_true, Bool.true_and]; rfl
  | y :: l, last => by
    show (decide (last < y) && decide (y < most) && goodH most y (l ++ [x])) = _
    rw [goodH_append most x l y]
    show _ = ((decide (last < y) && decide (y < most) && goodH most y l) && _)
    have : lastH last (y :: l) = lastH y l := by
      unfold lastH
      cases l with
      | nil => rfl
      | cons z l => rw [List.getLast?_cons_cons, List.getLast?_cons]; rfl
    rw [this]; simp only [Bool.and_assoc]
theorem good_prefix (most : Int) (s : ByteArray) (n : Nat) : ∀ k, k ≤ n → goodH most (-1) (rdHomes s n) = true → goodH most (-1) (rdHomes s k) = true := by
  intro k hk h
  induction n with
  | zero => rw [Nat.le_zero.1 hk]; exact h
  | succ n ih =>
    by_cases e : k = n + 1
    · rw [e]; exact h
    · rw [rdHomes_succ, goodH_append, Bool.and_eq_true] at h
      exact ih (by omega) h.1
/-! a head read is what was written -/
theorem flat_get : ∀ (h : List Int) (k : Nat) (i : Int) (t : List UInt8), h[k]? = some i → (h.flatMap numB ++ t)[2 * k]? = some (UInt8.ofNat (i % 256).toNat) ∧ (h.flatMap numB ++ t)[2 * k + 1]? = some (UInt8.ofNat (i / 256 % 256).toNat)
  | [], k, i, t, e => by simp at e
  | x :: h, 0, i, t, e => by
    simp at e; subst e; exact ⟨rfl, rfl⟩
  | x :: h, k + 1, i, t, e => by
    have := flat_get h k i t (by simpa using e)
    rw [List.flatMap_cons, List.append_assoc]
    show (UInt8.ofNat (x % 256).toNat :: UInt8.ofNat (x / 256 % 256).toNat :: (h.flatMap numB ++ t))[2 * (k + 1)]? = _ ∧ (UInt8.ofNat (x % 256).toNat :: UInt8.ofNat (x / 256 % 256).toNat :: (h.flatMap numB ++ t))[2 * (k + 1) + 1]? = _
    rw [show 2 * (k + 1) = 2 * k + 1 + 1 by omega]
    simpa using this
theorem head_num (h : List Int) (k : Nat) (i : Int) (e : h[k]? = some i) (hi : 0 ≤ i ∧ i < 65536) : rdNum (headF h) k = i := by
  have f := flat_get h k i (List.replicate (64 - (UInt8.ofNat h.length :: h.flatMap numB).length) 0) e
  have t1 : (UInt8.ofNat (i % 256).toNat).toNat = (i % 256).toNat := by rw [UInt8.toNat_ofNat']; omega
  have t2 : (UInt8.ofNat (i / 256 % 256).toNat).toNat = (i / 256 % 256).toNat := by rw [UInt8.toNat_ofNat']; omega
  have e1 : byteN (headF h) (1 + 2 * k) = (i % 256).toNat := by
    rw [← t1]; unfold byteN headF headL
    refine congrArg UInt8.toNat ?_
    rw [List.getD_eq_getElem?_getD, show 1 + 2 * k = 2 * k + 1 by omega]
    refine (congrArg (fun o => Option.getD o 0) (?_ : _ = some (UInt8.ofNat (i % 256).toNat))).trans rfl
    rw [← f.1]; rfl
  have e2 : byteN (headF h) (2 + 2 * k) = (i / 256 % 256).toNat := by
    rw [← t2]; unfold byteN headF headL
    refine congrArg UInt8.toNat ?_
    rw [List.getD_eq_getElem?_getD, show 2 + 2 * k = 2 * k + 1 + 1 by omega]
    refine (congrArg (fun o => Option.getD o 0) (?_ : _ = some (UInt8.ofNat (i / 256 % 256).toNat))).trans rfl
    rw [← f.2]; rfl
  unfold rdNum
  rw [e1, e2]
  omega
theorem head_count (h : List Int) (hl : h.length ≤ 31) : byteN (headF h) 0 = h.length := by
  unfold byteN headF headL
  show (UInt8.ofNat h.length).toNat = h.length
  rw [UInt8.toNat_ofNat']; omega
theorem head_homes (h : List Int) (hl : h.length ≤ 31) (hb : ∀ i ∈ h, 0 ≤ i ∧ i < 65536) : rdHomes (headF h) (byteN (headF h) 0) = h := by
  rw [head_count h hl]
  apply List.ext_getElem?
  intro k
  unfold rdHomes
  rw [List.getElem?_map]
  by_cases hk : k < h.length
  · rw [List.getElem?_range hk, List.getElem?_eq_getElem hk]
    show some _ = _
    rw [head_num h k _ (List.getElem?_eq_getElem hk) (hb _ (List.getElem_mem hk))]
  · rw [List.getElem?_eq_none (by rw [List.length_range]; omega), List.getElem?_eq_none (by omega)]; rfl
theorem good_rising (most : Int) : ∀ (st : List (Int × ByteArray)) (last : Int), Rising st → (∀ x ∈ st, last < x.1 ∧ x.1 < most) → goodH most last (st.map (·.1)) = true
  | [], _, _, _ => rfl
  | x :: st, last, hr, hb => by
    have h1 := hb x (List.mem_cons_self ..)
    show (decide (last < x.1) && decide (x.1 < most) && goodH most x.1 (st.map (·.1))) = true
    rw [decide_eq_true h1.1, decide_eq_true h1.2, good_rising most st x.1 hr.2 (fun y hy => ⟨hr.1 y hy, (hb y (List.mem_cons_of_mem _ hy)).2⟩)]; rfl
theorem parse_head (st : List (Int × ByteArray)) (most : Int) (hr : Rising st) (hl : st.length ≤ 30) (hm : most ≤ 65536) (hb : ∀ x ∈ st, 0 ≤ x.1 ∧ x.1 < most) : parseH (headF (st.map (·.1))) most = some (st.map (·.1)) := by
  have hl2 : (st.map (·.1)).length ≤ 30 := by rw [List.length_map]; exact hl
  have hb2 : ∀ i ∈ st.map (·.1), 0 ≤ i ∧ i < 65536 := fun i hi => by
    obtain ⟨x, hx, rfl⟩ := List.mem_map.1 hi
    have := hb x hx; omega
  unfold parseH
  rw [head_homes _ (by omega) hb2, head_count _ (by omega), if_neg (by omega), if_pos (good_rising most st (-1) hr (fun x hx => by have := hb x hx; omega)), if_pos rfl]
theorem parse_nil (most : Int) : parseH z64 most = some [] := by
  have h0 : byteN z64 0 = 0 := by decide +kernel
  unfold parseH
  rw [h0, if_neg (by omega)]
  show (if true = true then (if z64 = headF [] then some [] else none) else none) = _
  rw [if_pos rfl, if_pos headF_nil.symm]
end Go.Proofs.Ytgaibknhdaeidaa.P
