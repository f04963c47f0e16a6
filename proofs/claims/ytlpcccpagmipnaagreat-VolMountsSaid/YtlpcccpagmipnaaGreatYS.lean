/- Stage 8: a volume told whole, plain. No condition. -/
import Derived.Test.YtlpcccpagmipnaaGreatYM
set_option linter.unusedVariables false
set_option linter.unusedSimpArgs false
set_option maxRecDepth 100000
namespace Go.Proofs.YtlpcccpagmipnaaGreat.P
open Go.RowKit Go.ChangeMaps Go.MapKept
/-! a volume, told whole -/
def hasF (n : Nat) (L : List UInt8) (i : Nat) (a : Bool) : Bool × List UInt8 :=
  if a = true then (if 9 ≤ i ∧ i < n ∧ usedB L i = false then (true, setB L i true) else (false, L)) else (decide (i = 0), L)
theorem hasF_len (n : Nat) (L : List UInt8) (i : Nat) (a : Bool) : (hasF n L i a).2.length = L.length := by
  unfold hasF
  split
  · split
    · exact setB_len _ _ _
    · rfl
  · rfl
theorem hasF_no (n : Nat) (L : List UInt8) (i : Nat) (a : Bool) (h : (hasF n L i a).1 = false) : (hasF n L i a).2 = L := by
  unfold hasF at h ⊢
  split
  · rename_i ha
    rw [if_pos ha] at h
    split
    · rename_i hb
      rw [if_pos hb] at h; cases h
    · rfl
  · rfl
def hasL (n c : Nat) : List UInt8 → Nat → List Nat → Option (List UInt8)
  | L, _, [] => some L
  | L, k, i :: t => bif (hasF n L i (decide (k < c))).1 then hasL n c (hasF n L i (decide (k < c))).2 (k + 1) t else none
def allX (V : Nat → List UInt8) (x : Ino) : List Nat := bif decide (lastX x = 0) then x.pl.take 5 ++ List.replicate 32 0 else allK x (V (lastX x)) 32
def wfF (V : Nat → List UInt8) (n : Nat) (x : Ino) (L : List UInt8) : Option (List UInt8) :=
  bif decide ((x.kind = 1 ∨ x.kind = 2) ∧ x.size ≤ 2368) then
    bif (hasF n L (lastX x) (decide (5 < cntN x.size))).1 then hasL n (cntN x.size) (hasF n L (lastX x) (decide (5 < cntN x.size))).2 0 (allX V x) else none
  else none
instance free_dec (x : Ino) : Decidable (FreeX x) := by unfold FreeX; infer_instance
def wK (V : Nat → List UInt8) (n : Nat) : Nat → Option (List UInt8)
  | 0 => some (mapK 9)
  | k + 1 => (wK V n k).bind fun L => if (inoX V k).kind = 0 ∧ FreeX (inoX V k) then some L else wfF V n (inoX V k) L
/-- What L says of sectors is what U says. -/
def SameU (L : List UInt8) (U : Nat → Bool) : Prop := L.length = 64 ∧ ∀ i, i < 512 → usedB L i = U i
theorem hasF_ask {n : Nat} (hn : n ≤ 512) {L : List UInt8} {U : Nat → Bool} (h : SameU L U) (i : Nat) : (hasF n L i true).1 = decide (9 ≤ i ∧ i < n ∧ U i = false) ∧ ((hasF n L i true).1 = true → SameU (hasF n L i true).2 (fun j => decide (j = i) || U j)) := by
  unfold hasF
  rw [if_pos rfl]
  by_cases hi : 9 ≤ i ∧ i < n
  · have hu := h.2 i (by omega)
    by_cases hU : U i = false
    · rw [if_pos ⟨hi.1, hi.2, by rw [hu]; exact hU⟩]
      refine ⟨(decide_eq_true ⟨hi.1, hi.2, hU⟩).symm, fun _ => ⟨by show (setB _ _ _).length = 64; rw [setB_len, h.1], fun j hj => ?_⟩⟩
      show usedB (setB L i true) j = _
      rw [used_set h.1 (by omega) hj]
      show _ = (decide (j = i) || U j)
      by_cases e : j = i
      · rw [if_pos e, decide_eq_true e, Bool.true_or]
      · rw [if_neg e, decide_eq_false e, Bool.false_or, h.2 j hj]
    · rw [if_neg (fun e => hU (by rw [← hu]; exact e.2.2))]
      exact ⟨(decide_eq_false (fun e => hU e.2.2)).symm, fun e => by cases e⟩
  · rw [if_neg (fun e => hi ⟨e.1, e.2.1⟩)]
    exact ⟨(decide_eq_false (fun e => hi ⟨e.1, e.2.1⟩)).symm, fun e => by cases e⟩
theorem hasF_not (n : Nat) (L : List UInt8) (i : Nat) : hasF n L i false = (decide (i = 0), L) := by unfold hasF; rw [if_neg (by decide)]
/-- The rest of a file's places, asked one by one, and marked one by one. -/
theorem hasL_mark {n : Nat} (hn : n ≤ 512) (c : Nat) : ∀ (al : List Nat) (k : Nat) (L : List UInt8) (U : Nat → Bool), SameU L U →
    (match hasL n c L k al with
      | some M => (∀ j, j < al.length → badS n c (k + j) (al.getD j 0) = false) ∧ ∃ W, markK U (al.take (c - k)) = some W ∧ SameU M W
      | none => ¬ ((∀ j, j < al.length → badS n c (k + j) (al.getD j 0) = false) ∧ ∃ W, markK U (al.take (c - k)) = some W))
  | [], k, L, U, h => by
    refine ⟨fun j hj => absurd hj (Nat.not_lt_zero j), U, ?_, h⟩
    rw [List.take_nil]; rfl
  | i :: t, k, L, U, h => by
    have hb : ∀ j, badS n c (k + (j + 1)) ((i :: t).getD (j + 1) 0) = badS n c (k + 1 + j) (t.getD j 0) := fun j => by
      rw [show k + (j + 1) = k + 1 + j by omega]; rfl
    unfold hasL
    by_cases hc : k < c
    · rw [decide_eq_true hc]
      obtain ⟨h1, h2⟩ := hasF_ask hn h i
      have ht : (i :: t).take (c - k) = i :: t.take (c - (k + 1)) := by
        rw [show c - k = (c - (k + 1)) + 1 by omega]; rfl
      rw [ht]
      by_cases ha : 9 ≤ i ∧ i < n ∧ U i = false
      · rw [decide_eq_true ha] at h1
        rw [h1, cond_true]
        have ih := hasL_mark hn c t (k + 1) _ _ (h2 h1)
        have hm : markK U (i :: t.take (c - (k + 1))) = markK (fun j => decide (j = i) || U j) (t.take (c - (k + 1))) := by
          show (bif U i then none else _) = _
          rw [ha.2.2, cond_false]
        rw [hm]
        cases hq : hasL n c (hasF n L i true).2 (k + 1) t with
        | some M =>
          rw [hq] at ih
          refine ⟨fun j hj => ?_, ih.2⟩
          cases j with
          | zero => exact (badS_hi (by omega)).2 ⟨ha.1, ha.2.1⟩
          | succ j => rw [hb]; exact ih.1 j (by simp at hj; omega)
        | none =>
          rw [hq] at ih
          refine fun e => ih ⟨fun j hj => ?_, e.2⟩
          have := e.1 (j + 1) (by simp; omega)
          rw [hb] at this
          exact this
      · rw [decide_eq_false ha] at h1
        rw [h1, cond_false]
        rintro ⟨e1, W, e2⟩
        have e3 := e1 0 (by simp)
        rw [badS_hi (by omega)] at e3
        change (bif U i then none else _) = some W at e2
        cases hu : U i with
        | true => rw [hu] at e2; cases e2
        | false => exact ha ⟨e3.1, e3.2, hu⟩
    · rw [decide_eq_false hc, hasF_not]
      have ht : ∀ l : List Nat, l.take (c - k) = [] ∧ l.take (c - (k + 1)) = [] := fun l => by
        rw [show c - k = 0 by omega, show c - (k + 1) = 0 by omega]; exact ⟨rfl, rfl⟩
      have ih := hasL_mark hn c t (k + 1) L U h
      rw [(ht t).2] at ih
      rw [(ht _).1]
      by_cases hz : i = 0
      · show (match (bif decide (i = 0) then hasL n c L (k + 1) t else none) with | some M => _ | none => _)
        rw [decide_eq_true hz, cond_true]
        cases hq : hasL n c L (k + 1) t with
        | some M =>
          rw [hq] at ih
          refine ⟨fun j hj => ?_, ih.2⟩
          cases j with
          | zero => exact (badS_lo (by omega)).2 hz
          | succ j => rw [hb]; exact ih.1 j (by simp at hj; omega)
        | none =>
          rw [hq] at ih
          refine fun e => ih ⟨fun j hj => ?_, e.2⟩
          have := e.1 (j + 1) (by simp; omega)
          rw [hb] at this
          exact this
      · show (match (bif decide (i = 0) then hasL n c L (k + 1) t else none) with | some M => _ | none => _)
        rw [decide_eq_false hz, cond_false]
        rintro ⟨e1, _⟩
        exact hz ((badS_lo (by omega)).1 (e1 0 (by simp)))
theorem mark_ext : ∀ (l : List Nat) (U U' : Nat → Bool), (∀ i, U i = U' i) → markK U l = markK U' l := fun l U U' h => by rw [funext h]
theorem mark_app : ∀ (l m : List Nat) (U : Nat → Bool), markK U (l ++ m) = (markK U l).bind fun W => markK W m
  | [], m, U => rfl
  | o :: t, m, U => by
    show (bif U o then none else markK _ (t ++ m)) = _
    cases hU : U o with
    | true => show none = (bif U o then none else _ : Option _).bind _; rw [hU]; rfl
    | false =>
      rw [cond_false, mark_app t m]
      show _ = (bif U o then none else _ : Option _).bind _
      rw [hU, cond_false]
/-- In whatever order. -/
theorem mark_same {l m : List Nat} {U W : Nat → Bool} (h : markK U l = some W) (hp : m.Perm l) : ∃ W', markK U m = some W' ∧ ∀ i, W' i = W i := by
  obtain ⟨h1, h2, h3⟩ := mark_some l U W h
  obtain ⟨W', hW⟩ := mark_ok m U (hp.nodup_iff.2 h1) (fun o ho => h2 o (hp.mem_iff.1 ho))
  refine ⟨W', hW, fun i => ?_⟩
  obtain ⟨_, _, k3⟩ := mark_some m U W' hW
  rw [Bool.eq_iff_iff, k3 i, h3 i, hp.mem_iff]
theorem allX_len (V : Nat → List UInt8) {x : Ino} (hp : x.pl.length = 6) : (allX V x).length = 37 := by
  unfold allX
  have h5 : (x.pl.take 5).length = 5 := by rw [List.length_take, hp]; rfl
  cases decide (lastX x = 0) with
  | true => rw [cond_true, List.length_append, h5, List.length_replicate]
  | false => rw [cond_false]; unfold allK; rw [List.length_append, List.length_append, h5, numK_len, List.length_replicate]
theorem sameU_ext {L : List UInt8} {U W : Nat → Bool} (h : SameU L U) (he : ∀ i, U i = W i) : SameU L W := ⟨h.1, fun i hi => by rw [h.2 i hi, he i]⟩
/-- An inode that is not free, told whole. -/
theorem wf_mark {V : Nat → List UInt8} {n : Nat} (hn : n ≤ 512) {x : Ino} (hp : x.pl.length = 6) (hx : ¬ (x.kind = 0 ∧ FreeX x)) {L : List UInt8} {U : Nat → Bool} (h : SameU L U) :
    (match wfF V n x L with
      | some M => NodeOk V n x ∧ ∃ W, markK U (faX V x).own = some W ∧ SameU M W
      | none => ¬ (NodeOk V n x ∧ ∃ W, markK U (faX V x).own = some W)) := by
  unfold wfF
  by_cases hk : (x.kind = 1 ∨ x.kind = 2) ∧ x.size ≤ 2368
  · have hk0 : x.kind ≠ 0 := by omega
    rw [decide_eq_true hk, cond_true]
    have hNO : NodeOk V n x ↔ (okX n x ∧ ∀ k, k < (secsX V x).length → badS n (cntN x.size) k ((secsX V x).getD k 0) = false) := by
      unfold NodeOk
      exact ⟨fun e => e.elim (fun e => absurd e.1 hk0) (fun e => e.2), fun e => .inr ⟨hk0, e⟩⟩
    have h5 : (x.pl.take 5).length = 5 := by rw [List.length_take, hp]; rfl
    have hSL := secsX_len V hp
    by_cases hc : 5 < cntN x.size
    · rw [decide_eq_true hc]
      obtain ⟨a1, a2⟩ := hasF_ask hn h (lastX x)
      by_cases ha : 9 ≤ lastX x ∧ lastX x < n ∧ U (lastX x) = false
      · rw [decide_eq_true ha] at a1
        rw [a1, cond_true]
        have hall : allX V x = secsX V x := by
          unfold allX secsX allK
          rw [decide_eq_false (by omega), cond_false, if_pos hc]
          simp
        rw [hall]
        rw [if_pos hc] at hSL
        have hown : okX n x → (faX V x).own = (secsX V x).take (cntN x.size) ++ [lastX x] := fun e => by rw [faX_own hk0 e, if_pos hc]
        have ho : okX n x := ⟨by omega, hk.2, fun e => by omega, fun _ => ⟨ha.1, ha.2.1⟩⟩
        have hpm : ((secsX V x).take (cntN x.size) ++ [lastX x]).Perm (lastX x :: (secsX V x).take (cntN x.size)) := List.perm_append_comm
        have hml : markK U (lastX x :: (secsX V x).take (cntN x.size)) = markK (fun j => decide (j = lastX x) || U j) ((secsX V x).take (cntN x.size)) := by
          show (bif U (lastX x) then none else _) = _
          rw [ha.2.2, cond_false]
        have ih := hasL_mark hn (cntN x.size) (secsX V x) 0 _ _ (a2 a1)
        rw [Nat.sub_zero] at ih
        cases hq : hasL n (cntN x.size) (hasF n L (lastX x) true).2 0 (secsX V x) with
        | some M =>
          rw [hq] at ih
          obtain ⟨i1, W, i2, i3⟩ := ih
          rw [← hml] at i2
          obtain ⟨W', j1, j2⟩ := mark_same i2 hpm
          refine ⟨hNO.2 ⟨ho, fun k hk => by have := i1 k hk; rw [Nat.zero_add] at this; exact this⟩, W', by rw [hown ho]; exact j1, sameU_ext i3 fun i => (j2 i).symm⟩
        | none =>
          rw [hq] at ih
          rintro ⟨e1, W, e2⟩
          rw [hown ho] at e2
          obtain ⟨W', j1, j2⟩ := mark_same e2 hpm.symm
          rw [hml] at j1
          exact ih ⟨fun j hj => by rw [Nat.zero_add]; exact (hNO.1 e1).2 j hj, W', j1⟩
      · rw [decide_eq_false ha] at a1
        rw [a1, cond_false]
        rintro ⟨e1, W, e2⟩
        have ho := (hNO.1 e1).1
        have h9 := ho.2.2.2 hc
        rw [faX_own hk0 ho, if_pos hc] at e2
        obtain ⟨m1, m2, m3⟩ := mark_some _ _ _ e2
        exact ha ⟨h9.1, h9.2, m2 _ (List.mem_append_right _ (List.mem_singleton.2 rfl))⟩
    · rw [decide_eq_false hc, hasF_not]
      rw [if_neg hc] at hSL
      by_cases hl : lastX x = 0
      · show (match (bif decide (lastX x = 0) then hasL n (cntN x.size) L 0 (allX V x) else none) with | some M => _ | none => _)
        rw [decide_eq_true hl, cond_true]
        have hss : secsX V x = x.pl.take 5 := by unfold secsX; rw [if_neg hc, List.append_nil]
        have hall : allX V x = secsX V x ++ List.replicate 32 0 := by
          unfold allX
          rw [decide_eq_true hl, cond_true, hss]
        have hlen := allX_len V hp
        have ho : okX n x := ⟨by omega, hk.2, fun _ => hl, fun e => absurd e hc⟩
        have hown : (faX V x).own = (allX V x).take (cntN x.size) := by
          rw [faX_own hk0 ho, if_neg hc, List.append_nil, hall, List.take_append_of_le_length (by omega)]
        have hg : ∀ k, (allX V x).getD k 0 = (secsX V x).getD k 0 := fun k => by
          rw [hall]
          by_cases e : k < (secsX V x).length
          · rw [getD_app_left e]
          · rw [getD_app_right (by omega), getD_none (l := secsX V x) (by omega)]
            by_cases e2 : k - (secsX V x).length < 32
            · rw [List.getD_eq_getElem?_getD, List.getElem?_replicate, if_pos e2]; rfl
            · exact getD_none (by rw [List.length_replicate]; omega)
        have ih := hasL_mark hn (cntN x.size) (allX V x) 0 _ _ h
        rw [Nat.sub_zero, ← hown] at ih
        have hall2 : (∀ j, j < (allX V x).length → badS n (cntN x.size) (0 + j) ((allX V x).getD j 0) = false) ↔ (∀ k, k < (secsX V x).length → badS n (cntN x.size) k ((secsX V x).getD k 0) = false) := by
          constructor
          · intro e k hk
            have := e k (by omega)
            rw [Nat.zero_add, hg] at this
            exact this
          · intro e j hj
            rw [Nat.zero_add, hg]
            by_cases e2 : j < (secsX V x).length
            · exact e j e2
            · exact (badS_lo (by omega)).2 (getD_none (by omega))
        rw [hall2] at ih
        cases hq : hasL n (cntN x.size) L 0 (allX V x) with
        | some M =>
          rw [hq] at ih
          exact ⟨hNO.2 ⟨ho, ih.1⟩, ih.2⟩
        | none =>
          rw [hq] at ih
          exact fun e => ih ⟨(hNO.1 e.1).2, e.2⟩
      · show (match (bif decide (lastX x = 0) then hasL n (cntN x.size) L 0 (allX V x) else none) with | some M => _ | none => _)
        rw [decide_eq_false hl, cond_false]
        exact fun e => hl ((hNO.1 e.1).1.2.2.1 (by omega))
  · rw [decide_eq_false hk, cond_false]
    rintro ⟨e, _⟩
    rcases e with e | ⟨e1, e2, _⟩
    · exact hx e
    · have := e2.1; have := e2.2.1; exact hk ⟨by omega, by omega⟩
theorem wK_of {V : Nat → List UInt8} {n : Nat} (hn : n ≤ 512) : ∀ k,
    (match wK V n k with
      | some M => ∃ U, ofK V n k = some U ∧ SameU M U
      | none => ofK V n k = none)
  | 0 => ⟨_, rfl, mapK_len 9, map9⟩
  | k + 1 => by
    have ih := wK_of (V := V) hn k
    unfold wK
    cases hq : wK V n k with
    | none =>
      rw [hq] at ih
      show ofK V n (k + 1) = none
      unfold ofK; rw [ih]; rfl
    | some L =>
      rw [hq] at ih
      obtain ⟨U, h1, h2⟩ := ih
      show (match (if (inoX V k).kind = 0 ∧ FreeX (inoX V k) then some L else wfF V n (inoX V k) L) with | some M => _ | none => _)
      by_cases hf : (inoX V k).kind = 0 ∧ FreeX (inoX V k)
      · rw [if_pos hf]
        refine ⟨U, ?_, h2⟩
        rw [ofK_good h1 (.inl hf)]
        have : (faX V (inoX V k)).own = [] := by unfold faX; rw [if_pos hf.1]; rfl
        rw [this]; rfl
      · rw [if_neg hf]
        have hw := wf_mark (V := V) hn (inoX_len V k) hf h2
        cases hq2 : wfF V n (inoX V k) L with
        | some M =>
          rw [hq2] at hw
          obtain ⟨w1, W, w2, w3⟩ := hw
          exact ⟨W, by rw [ofK_good h1 w1]; exact w2, w3⟩
        | none =>
          rw [hq2] at hw
          by_cases hnk : NodeOk V n (inoX V k)
          · rw [ofK_good h1 hnk]
            cases hm : markK U (faX V (inoX V k)).own with
            | none => rfl
            | some W => exact absurd ⟨hnk, W, hm⟩ hw
          · exact ofK_bad hnk
theorem byte_bits : ∀ a < 256, a = bitL a 0 + 2 * bitL a 1 + 4 * bitL a 2 + 8 * bitL a 3 + 16 * bitL a 4 + 32 * bitL a 5 + 64 * bitL a 6 + 128 * bitL a 7 := by decide +kernel
theorem bit_lt (a r : Nat) : bitL a r < 2 := Nat.mod_lt _ (by decide)
theorem bits_ext {L M : List UInt8} (hl : L.length = 64) (hm : M.length = 64) (h : ∀ i, i < 512 → usedB L i = usedB M i) : L = M := by
  refine byL_ext (by omega) fun k hk => ?_
  have hb : ∀ r, r < 8 → bitL (byL L k) r = bitL (byL M k) r := fun r hr => by
    have h1 := h (8 * k + r) (by omega)
    unfold usedB at h1
    rw [show (8 * k + r) / 8 = k by omega, show (8 * k + r) % 8 = r by omega, Bool.eq_iff_iff, decide_eq_true_eq, decide_eq_true_eq] at h1
    have := bit_lt (byL L k) r
    have := bit_lt (byL M k) r
    omega
  rw [byte_bits _ (byL_lt L k), byte_bits _ (byL_lt M k), hb 0 (by omega), hb 1 (by omega), hb 2 (by omega), hb 3 (by omega), hb 4 (by omega), hb 5 (by omega), hb 6 (by omega), hb 7 (by omega)]
def wholeF (V : Nat → List UInt8) (n : Nat) : Bool := match wK V n 32 with
  | some M => decide (V 0 = M)
  | none => false
/-- It is whole just if it is read. -/
theorem whole_of {V : Nat → List UInt8} {n : Nat} (hn : n ≤ 512) (h0 : (V 0).length = 64) : wholeF V n = true ↔ OfOk V n := by
  have hw := wK_of (V := V) hn 32
  unfold wholeF OfOk
  cases hq : wK V n 32 with
  | some M =>
    rw [hq] at hw
    obtain ⟨U, h1, h2⟩ := hw
    show decide (V 0 = M) = true ↔ _
    rw [decide_eq_true_eq]
    constructor
    · intro e
      exact ⟨U, h1, fun i hi => by rw [e]; exact h2.2 i hi⟩
    · rintro ⟨U', e1, e2⟩
      rw [h1] at e1
      cases e1
      exact bits_ext h0 h2.1 fun i hi => by rw [e2 i hi, h2.2 i hi]
  | none =>
    rw [hq] at hw
    show false = true ↔ _
    constructor
    · intro e; cases e
    · rintro ⟨U', e1, _⟩
      rw [hw] at e1; cases e1
theorem wK_none {V : Nat → List UInt8} {n : Nat} {k : Nat} (h : wK V n k = none) : ∀ m, k ≤ m → wK V n m = none := by
  intro m hm
  induction m with
  | zero => obtain rfl : k = 0 := by omega
            exact h
  | succ m ih =>
    by_cases e : k = m + 1
    · rw [← e]; exact h
    · unfold wK; rw [ih (by omega)]; rfl
end Go.Proofs.YtlpcccpagmipnaaGreat.P
namespace Go.Proofs.YtlpcccpagmipnaaGreat.P
open Go.RowKit Go.ChangeMaps Go.MapKept
abbrev puA (Q U : Nat) : Asn := blkA Q (.cells #[.pointer (some ⟨U, 0, none⟩)] 160)
section
variable {w0 w : World} {d : Nat} {z : DState} {l ml : Nat} {st : List (Int × ByteArray)} {D mb n : Nat} {R : Asn}
set_option maxHeartbeats 3200000 in
theorem c_hasw {P Q U : Nat} {L : List UInt8} (h : Own w0 w (VX d z l ml st D mb [] (Star (ptA P D) (Star (puA Q U) (Star (uk U L) R))))) (hs : Stable R) (hz : LI z n) (hl : L.length = 64) (i : Nat) (a : Bool) :
    Calls Tryz.prog 125 #[.int .i64 (i : Int), .bool a, .pointer (some ⟨P, 0, none⟩), .pointer (some ⟨Q, 0, none⟩)] w fun e w' => e = .returned (.bool (hasF n L i a).1) ∧ Own w0 w' (VX d z l ml st D mb [] (Star (ptA P D) (Star (puA Q U) (Star (uk U (hasF n L i a).2) R)))) := by
  have HH := Lib.hid h
  cases a with
  | false =>
    rw [hasF_not]
    clear h
    by_cases h0 : i = 0
    · have b0 : ((i : Int) == 0) = true := by rw [h0]; rfl
      go_enter Tryz.func125, Tryz.ntmps125
      go_wp2_with fail
      go_ret
      exact ⟨by rw [h0]; rfl, HH.out⟩
    · have b0 : ((i : Int) == 0) = false := beq_eq_false_iff_ne.2 (by omega)
      have e0 : decide (i = 0) = false := decide_eq_false h0
      go_enter Tryz.func125, Tryz.ntmps125
      go_wp2_with fail
      go_ret
      exact ⟨by rw [e0]; rfl, HH.out⟩
  | true =>
    have hlo := hz.lo
    have hhi := hz.hi
    have h1 : Own w0 w (Star (uk U L) (VX d z l ml st D mb [] (Star (ptA P D) (Star (puA Q U) R)))) := h.ac (by unfold VX DL; ac_rfl)
    have h2 : Own w0 w (Star (ptA P D) (VX d z l ml st D mb [] (Star (puA Q U) (Star (uk U L) R)))) := h.ac (by unfold VX DL; ac_rfl)
    have h3 : Own w0 w (Star (puA Q U) (VX d z l ml st D mb [] (Star (ptA P D) (Star (uk U L) R)))) := h.ac (by unfold VX DL; ac_rfl)
    have cP := blk_cell h2.blk 0 (v := .pointer (some ⟨D, 0, none⟩)) rfl
    have cQ := blk_cell h3.blk 0 (v := .pointer (some ⟨U, 0, none⟩)) rfl
    have cD := blk_cell (vx_map h).1 0 (v := .pointer (some ⟨l, 0, none⟩)) rfl
    have HHM : Hid (Calls Tryz.prog 16 #[.pointer (some ⟨l, 0, none⟩)] w fun e w' => e = .returned (.int .i64 (n : Int)) ∧ w' = w) := Lib.hid ((o_home h).mono (by
      rintro e w' ⟨rfl, rfl⟩
      rw [hz.len]
      exact ⟨ret_i (by omega), rfl⟩))
    have hF : hasF n L i true = if 9 ≤ i ∧ i < n ∧ usedB L i = false then (true, setB L i true) else (false, L) := by unfold hasF; rw [if_pos rfl]
    rw [hF]
    by_cases h9 : i < 9
    · rw [if_neg (by omega)]
      have d9 : decide (i < 9) = true := decide_eq_true h9
      have d9i : decide ((i : Int) < 9) = true := decide_eq_true (by omega)
      clear h h1 h2 h3 hF HHM
      go_enter Tryz.func125, Tryz.ntmps125
      go_wp2_with fail
      go_ret
      exact ⟨rfl, HH.out⟩
    · have d9 : decide (i < 9) = false := decide_eq_false h9
      have d9i : decide ((i : Int) < 9) = false := decide_eq_false (by omega)
      by_cases hin : n ≤ i
      · rw [if_neg (by omega)]
        have dn : decide (n ≤ i) = true := decide_eq_true hin
        have dni : decide ((n : Int) ≤ (i : Int)) = true := decide_eq_true (by omega)
        clear h h1 h2 h3 hF
        go_enter Tryz.func125, Tryz.ntmps125
        go_wp2_with (go_at_call 16; refine HHM.out.mono ?_; rintro e w' ⟨rfl, hw'⟩; rw [hw']; clear hw' w')
        go_ret
        exact ⟨rfl, HH.out⟩
      · have dn : decide (n ≤ i) = false := decide_eq_false hin
        have dni : decide ((n : Int) ≤ (i : Int)) = false := decide_eq_false (by omega)
        have CB := Lib.hid (c_bhas h1 hl i (by omega))
        cases hu : usedB L i with
        | true =>
          rw [if_neg (by rintro ⟨_, _, e⟩; cases e)]
          rw [hu] at CB
          clear h h1 h2 h3 hF
          go_enter Tryz.func125, Tryz.ntmps125
          go_wp2_with (first
            | (go_at_call 16; refine HHM.out.mono ?_; rintro e w' ⟨rfl, hw'⟩; rw [hw']; clear hw' w')
            | (go_at_call 97; refine CB.out.mono ?_; rintro e w' ⟨rfl, hw'⟩; rw [hw']; clear hw' w'))
          go_ret
          exact ⟨rfl, HH.out⟩
        | false =>
          rw [if_pos ⟨by omega, by omega, rfl⟩]
          rw [hu] at CB
          have hst1 : Stable (VX d z l ml st D mb [] (Star (ptA P D) (Star (puA Q U) R))) := stable_vx (stable_star (stable_blk _ _) (stable_star (stable_blk _ _) hs))
          have CS := Lib.hid (c_bset h1 hst1 hl i (by omega) true)
          have HB : Hid (∀ wx L', Own w0 wx (Star (uk U L') (VX d z l ml st D mb [] (Star (ptA P D) (Star (puA Q U) R)))) → Own w0 wx (VX d z l ml st D mb [] (Star (ptA P D) (Star (puA Q U) (Star (uk U L') R))))) := Lib.hid (fun wx L' hw => hw.ac (by unfold VX DL; ac_rfl))
          clear h h1 h2 h3 hF
          go_enter Tryz.func125, Tryz.ntmps125
          go_wp2_with (first
            | (go_at_call 16; refine HHM.out.mono ?_; rintro e w' ⟨rfl, hw'⟩; rw [hw']; clear hw' w')
            | (go_at_call 97; refine CB.out.mono ?_; rintro e w' ⟨rfl, hw'⟩; rw [hw']; clear hw' w')
            | (go_at_call 86; refine CS.out.mono ?_; rintro e w5 ⟨rfl, h5⟩; have H5 := Lib.hid (HB.out _ _ h5); clear h5))
          go_ret
          exact ⟨rfl, H5.out⟩
end
end Go.Proofs.YtlpcccpagmipnaaGreat.P
namespace Go.Proofs.YtlpcccpagmipnaaGreat.P
open Go.RowKit Go.ChangeMaps Go.MapKept
theorem idx37 (l : List Nat) (hl : l.length = 37) (k : Nat) (hk : k < 37) (w : World) : (Instr.index 135 (.agg (nums l).toArray) (.int .i64 (k : Int))).run Tryz.prog w = .ok (.int .i64 ((l.getD k 0 : Nat) : Int)) w :=
  run_index_arr _ 3 37 _ k _ Tryz.underlying135 (fun w => Tryz.sizeOf3 w) (fun w => Tryz.isAgg3 w) hk (by rw [List.getElem?_toArray]; exact nums_at l k (by rw [hl]; exact hk)) w
theorem a37_info (l : List Nat) (hl : l.length = 37) : (Tryz.prog.info? 135).map (·.size) = some (nums l).length := by
  rw [nums_len, hl]
  kernel_rfl
theorem hasL_end (n c : Nat) (L : List UInt8) (al : List Nat) (k : Nat) (h : al.length ≤ k) : hasL n c L k (al.drop k) = some L := by
  rw [List.drop_of_length_le h]; rfl
theorem hasL_go {n c : Nat} {L : List UInt8} {al : List Nat} {k : Nat} (h : k < al.length) : hasL n c L k (al.drop k) = bif (hasF n L (al.getD k 0) (decide (k < c))).1 then hasL n c (hasF n L (al.getD k 0) (decide (k < c))).2 (k + 1) (al.drop (k + 1)) else none := by
  rw [List.drop_eq_getElem_cons h, List.getD_eq_getElem?_getD, List.getElem?_eq_getElem h]; rfl
section
variable {w0 w : World} {d : Nat} {z : DState} {l ml : Nat} {st : List (Int × ByteArray)} {D mb n : Nat} {R : Asn}
def WfP (w0 : World) (d : Nat) (z : DState) (l ml : Nat) (st : List (Int × ByteArray)) (D mb U : Nat) (R : Asn) (o : Option (List UInt8)) (e : Ending) (w' : World) : Prop := e = .returned (.bool o.isSome) ∧ ∃ L', L'.length = 64 ∧ (∀ M, o = some M → L' = M) ∧ Own w0 w' (VX d z l ml st D mb [] (Star (uk U L') R))
theorem WfP.no {U : Nat} {L : List UInt8} {e : Ending} {o : Option (List UInt8)} (ho : o = none) (he : e = .returned (.bool false)) (hl : L.length = 64) (h : Own w0 w (VX d z l ml st D mb [] (Star (uk U L) R))) : WfP w0 d z l ml st D mb U R o e w := by
  subst ho
  exact ⟨he, L, hl, fun M hM => (by cases hM), h⟩
abbrev W5 (d : Nat) (z : DState) (l ml : Nat) (st : List (Int × ByteArray)) (D mb P Q U : Nat) (L : List UInt8) (R : Asn) : Asn := VX d z l ml st D mb [] (Star (ptA P D) (Star (puA Q U) (Star (uk U L) R)))
set_option maxHeartbeats 6400000 in
theorem c_wfile {U : Nat} {L : List UInt8} (h : Own w0 w (VX d z l ml st D mb [] (Star (uk U L) R))) (hs : Stable R) (hz : LI z n) (hst : okSt (n + 32) st) (hl : L.length = 64) (x : Ino) (hx : x.pl.length = 6) (hsz : x.size < 65536) :
    Calls Tryz.prog 96 #[.pointer (some ⟨D, 0, none⟩), .agg (inoL x).toArray, .pointer (some ⟨U, 0, none⟩)] w (WfP w0 d z l ml st D mb U R (wfF (Vw z st) n x L)) := by
  have hlo := hz.lo
  have hhi := hz.hi
  have hsu : Stable (Star (uk U L) R) := stable_star (stable_blk _ _) hs
  have g1 := h.box4 (stable_vx hsu) (.cells #[.pointer (some ⟨D, 0, none⟩)] 114)
  have g2 := g1.box4 (stable_vx (stable_star (stable_blk _ _) hsu)) (.cells (inoL x).toArray 132)
  have g3 := g2.box4 (stable_vx (stable_star (stable_blk _ _) (stable_star (stable_blk _ _) hsu))) (.cells #[.pointer (some ⟨U, 0, none⟩)] 160)
  have z1 : (w.alloc (.cells #[.pointer (some ⟨D, 0, none⟩)] 114)).heap.size = w.heap.size + 1 := by simp
  have z2 : ((w.alloc (.cells #[.pointer (some ⟨D, 0, none⟩)] 114)).alloc (.cells (inoL x).toArray 132)).heap.size = w.heap.size + 1 + 1 := by simp
  rw [z1, z2] at g3
  obtain ⟨Q, hQ⟩ : ∃ Q, Q = w.heap.size + 1 + 1 := ⟨_, rfl⟩
  obtain ⟨X, hX⟩ : ∃ X, X = w.heap.size + 1 := ⟨_, rfl⟩
  obtain ⟨P, hP⟩ : ∃ P, P = w.heap.size := ⟨_, rfl⟩
  rw [← hQ, ← hX, ← hP] at g3
  have HQ := Lib.hid hQ
  have HXX := Lib.hid hX
  have HP := Lib.hid hP
  have g4 : Own w0 (((w.alloc (.cells #[.pointer (some ⟨D, 0, none⟩)] 114)).alloc (.cells (inoL x).toArray 132)).alloc (.cells #[.pointer (some ⟨U, 0, none⟩)] 160)) (VX d z l ml st D mb [] (Star (puA Q U) (Star (ik X x) (Star (ptA P D) (Star (uk U L) R))))) := g3
  have H3 : Hid (Own w0 (((w.alloc (.cells #[.pointer (some ⟨D, 0, none⟩)] 114)).alloc (.cells (inoL x).toArray 132)).alloc (.cells #[.pointer (some ⟨U, 0, none⟩)] 160)) (W5 d z l ml st D mb P Q U L (Star (ik X x) R))) := Lib.hid (g4.ac (by unfold W5 VX DL; ac_rfl))
  have HS := Lib.hid hs
  have HST := Lib.hid hst
  have HZ := Lib.hid hz
  have HL := Lib.hid hl
  have HX := Lib.hid hx
  clear h g1 g2 g3 g4 z1 z2 hsu hQ hX hP
  go_enter Tryz.func96, Tryz.ntmps96
  go_upto_region 1 with fail
  generalize World.alloc (World.alloc (World.alloc _ _) _) _ = w3 at *
  rw [← HQ.out, ← HXX.out, ← HP.out]
  clear HQ HXX HP
  have HD : Hid (∀ wx L' Y, Own w0 wx (W5 d z l ml st D mb P Q U L' Y) → Own w0 wx (VX d z l ml st D mb [] (Star (uk U L') Y))) := Lib.hid (fun wx L' Y hw => by
    have h2 : Own w0 wx (Star (ptA P D) (Star (puA Q U) (VX d z l ml st D mb [] (Star (uk U L') Y)))) := hw.ac (by unfold W5 VX DL; ac_rfl)
    exact h2.right.right)
  have HDX : Hid (∀ wx L' Y A, Own w0 wx (VX d z l ml st D mb [] (Star (uk U L') (Star A Y))) → Own w0 wx (VX d z l ml st D mb [] (Star (uk U L') Y))) := Lib.hid (fun wx L' Y A hw => by
    have h2 : Own w0 wx (Star A (VX d z l ml st D mb [] (Star (uk U L') Y))) := hw.ac (by unfold VX DL; ac_rfl)
    exact h2.right)
  have hX : w3.heap[X]? = some (.cells (inoL x).toArray 132) := (H3.out.ac (by unfold W5 VX DL; ac_rfl) : Own w0 w3 (Star (ik X x) (W5 d z l ml st D mb P Q U L R))).blk
  have cX0 := blk_cell hX 0 (v := .int .i64 (x.kind : Int)) rfl
  have cX2 := blk_cell hX 2 (v := .int .i64 (x.size : Int)) rfl
  have HBX := Lib.hid hX
  clear hX
  by_cases k1 : x.kind = 1 ∨ x.kind = 2
  · by_cases k2 : x.size ≤ 2368
    · have d2 : decide (2368 < x.size) = false := decide_eq_false (by omega)
      have d2i : decide (2368 < (x.size : Int)) = false := decide_eq_false (by omega)
      have CC := Lib.hid (fun wx => c_count x.size (by omega) wx)
      have cX8 : w3.cell? ⟨X, 8, none⟩ = some (.int .i64 (lastX x : Int)) := blk_cell HBX.out 8 (ino_cell HX.out 5 (by omega))
      obtain ⟨c, hc⟩ : ∃ c, c = cntN x.size := ⟨_, rfl⟩
      rw [← hc] at CC
      have HC := Lib.hid hc
      clear hc
      have HSI : Hid (Stable (Star (ik X x) R)) := Lib.hid (stable_star (stable_blk _ _) HS.out)
      have HS4 : Hid (∀ L1, Stable (Star (ptA P D) (Star (puA Q U) (Star (uk U L1) (Star (ik X x) R))))) := Lib.hid (fun L1 => stable_star (stable_blk _ _) (stable_star (stable_blk _ _) (stable_star (stable_blk _ _) HSI.out)))
      have HKD : Hid (x.kind = 1 ∨ x.kind = 2) := Lib.hid k1
      obtain ⟨b1, b2⟩ | ⟨b1, b2⟩ : (((x.kind : Int) != 1) = false ∧ ((x.kind : Int) != 2) = true) ∨ (((x.kind : Int) != 1) = true ∧ ((x.kind : Int) != 2) = false) := by
        rcases k1 with e | e
        · exact .inl ⟨by rw [e]; rfl, by rw [e]; rfl⟩
        · exact .inr ⟨by rw [e]; rfl, by rw [e]; rfl⟩
      all_goals
        go_upto_region 5 with (go_at_call 78; refine (CC.out _).mono ?_; rintro e w' ⟨rfl, hw'⟩; rw [hw']; clear hw' w')
        clear CC cX0 cX2 d2 d2i b1 b2
        by_cases h5 : 5 < c
        · have dA : decide (5 < c) = true := decide_eq_true h5
          have dAi : decide ((5 : Int) < (c : Int)) = true := decide_eq_true (by omega)
          have CH := Lib.hid (c_hasw H3.out HSI.out HZ.out HL.out (lastX x) true)
          have HLN1 : Hid ((hasF n L (lastX x) true).2.length = 64) := Lib.hid (by rw [hasF_len, HL.out])
          have HWF : Hid (wfF (Vw z st) n x L = bif (hasF n L (lastX x) true).1 then hasL n c (hasF n L (lastX x) true).2 0 (allX (Vw z st) x) else none) := Lib.hid (by
            unfold wfF
            rw [decide_eq_true ⟨k1, k2⟩, cond_true, ← HC.out, dA])
          have HLA : Hid ((hasF n L (lastX x) true).1 = true → lastX x < n) := Lib.hid (fun hh => by
            unfold hasF at hh
            rw [if_pos rfl] at hh
            split at hh
            · omega
            · cases hh)
          generalize hasF n L (lastX x) true = G at *
          obtain ⟨gb, L1⟩ := G
          dsimp only at *
          cases gb with
          | false =>
            rw [cond_false] at HWF
            clear HLA
            go_wp2_with (go_at_call 125; refine CH.out.mono ?_; rintro e w5 ⟨rfl, hx5⟩; have H5 := Lib.hid hx5; clear hx5)
            go_ret
            exact WfP.no HWF.out rfl HLN1.out (HDX.out _ _ _ _ (HD.out _ _ _ H5.out))
          | true =>
            rw [cond_true] at HWF
            have hla := HLA.out rfl
            clear HLA
            go_upto_region 7 with (go_at_call 125; refine CH.out.mono ?_; rintro e w5 ⟨rfl, hx5⟩; have H5 := Lib.hid hx5; clear hx5)
            clear CH cX8 H3 HBX
            have cP : w5.cell? ⟨P, 0, none⟩ = some (.pointer (some ⟨D, 0, none⟩)) := blk_cell (H5.out.ac (by unfold VX DL; ac_rfl) : Own w0 w5 (Star (ptA P D) (VX d z l ml st D mb [] (Star (puA Q U) (Star (uk U L1) (Star (ik X x) R)))))).blk 0 rfl
            have bX : w5.heap[X]? = some (.cells (inoL x).toArray 132) := (H5.out.ac (by unfold W5 VX DL; ac_rfl) : Own w0 w5 (Star (ik X x) (W5 d z l ml st D mb P Q U L1 R))).blk
            have CF := Lib.hid (c_vfile H5.out (HS4.out L1) HZ.out HST.out x HX.out hla)
            have HM1 := Lib.hid (ino_infoX x HX.out)
            obtain ⟨al, hal⟩ : ∃ al, al = allX (Vw z st) x := ⟨_, rfl⟩
            have hfe : fileV [] z st x = ⟨x, al⟩ := by rw [hal]; rfl
            rw [hfe] at CF
            rw [← hal] at HWF
            have HAL : Hid (al.length = 37) := Lib.hid (by rw [hal]; exact allX_len _ HX.out)
            have HFI := Lib.hid (fil_infoX (f := ⟨x, al⟩) HX.out HAL.out)
            have HFO := Lib.hid (fil_one ⟨x, al⟩)
            have HFZ : Hid ((filL f0).toArray.size = (filL ⟨x, al⟩).toArray.size) := Lib.hid (by rw [List.size_toArray, List.size_toArray, fil_len (f := ⟨x, al⟩) HX.out HAL.out]; rfl)
            clear hal hfe
            go_upto_region 8 with (first
              | (refine wpList_load_row rfl _ _ rfl X rfl _ (inoL x).toArray (0, 0) _ bX Tryz.underlying132 rfl HM1.out ?_)
              | (go_at_call 70; refine CF.out.mono ?_; rintro e w6 ⟨rfl, hx6⟩; have H6 := Lib.hid hx6; clear hx6)
              | (refine wpList_alloc_blk rfl 137 (filL f0).toArray rfl (fil_zero _) ?_)
              | (refine wpList_store_row rfl _ _ _ rfl w6.heap.size (filL ⟨x, al⟩).toArray rfl rfl _ _ (blk_new w6 _) HFI.out HFZ.out HFO.out ?_))
            have H7 : Hid (Own w0 ((w6.alloc (.cells (filL f0).toArray 137)).setRow w6.heap.size (filL ⟨x, al⟩).toArray) (Star (fk w6.heap.size ⟨x, al⟩) (W5 d z l ml st D mb P Q U L1 (Star (ik X x) R)))) := Lib.hid ((H6.out.alloc (stable_vx (HS4.out L1)) (.cells (filL f0).toArray 137)).setRow (stable_vx (HS4.out L1)) _)
            generalize (World.setRow _ _ _) = w7 at *
            generalize w6.heap.size = FB at *
            have bF := H7.out.blk
            have hLM : w7.rangeAt FB 9 (nums al) := fun j v hv => by
              have hj : j < al.length := by
                have := (List.getElem?_eq_some_iff.1 hv).1
                rw [nums_len] at this
                exact this
              rw [nums_at al j hj] at hv
              injection hv with hv
              rw [← hv]
              exact blk_cell bF (9 + j) (fil_at (f := ⟨x, al⟩) HX.out j hj)
            have H8 : Hid (Own w0 w7 (W5 d z l ml st D mb P Q U L1 (Star (fk FB ⟨x, al⟩) (Star (ik X x) R)))) := Lib.hid (H7.out.ac (by unfold W5 VX DL; ac_rfl))
            have HSR : Hid (Stable (Star (fk FB ⟨x, al⟩) (Star (ik X x) R))) := Lib.hid (stable_star (stable_blk _ _) HSI.out)
            have HAI := Lib.hid (a37_info al HAL.out)
            clear CF bX cP HM1 H6 HFI HFO HFZ H7 H5 bF
            go_wp2_with (refine wpList_load_mid rfl _ _ rfl FB 9 rfl (nums al) _ hLM Tryz.underlying135 rfl HAI.out ?_)
            clear hLM HAI
            obtain ⟨RES, hRES⟩ : ∃ RES, RES = hasL n c L1 0 al := ⟨_, rfl⟩
            rw [← hRES] at HWF
            have HRS := Lib.hid hRES.symm
            clear hRES
            go_loopw [42] (fun v42 wx => ∃ (k : Nat) (L' : List UInt8), k ≤ 37 ∧ v42 = .int .i64 (k : Int) ∧ L'.length = 64 ∧ hasL n c L' k (al.drop k) = RES ∧ Own w0 wx (W5 d z l ml st D mb P Q U L' (Star (fk FB ⟨x, al⟩) (Star (ik X x) R)))) (fun v _ => 37 - (intOf v).toNat)
            case atStart => exact ⟨0, L1, Nat.zero_le _, rfl, HLN1.out, HRS.out, H8.out⟩
            case round =>
              clear H8 HRS
              obtain ⟨k, L', hk, rfl, hl2, hre, ho⟩ := hrel
              have HRE := Lib.hid hre
              have HO := Lib.hid ho
              clear hre ho
              by_cases hlt : k < 37
              · have dk : decide (k < 37) = true := decide_eq_true hlt
                have dk2 : decide ((k : Int) < 37) = true := decide_eq_true (by omega)
                have xi := idx37 al HAL.out k hlt wr
                obtain ⟨v, hv⟩ : ∃ v, al.getD k 0 = v := ⟨_, rfl⟩
                rw [hv] at xi
                have HV := Lib.hid hv
                clear hv
                by_cases hkc : k < c
                · have dkc : decide (k < c) = true := decide_eq_true hkc
                  have dkci : decide ((k : Int) < (c : Int)) = true := decide_eq_true (by omega)
                  have DKC := Lib.hid dkc
                  have CH2 := Lib.hid (c_hasw HO.out HSR.out HZ.out hl2 v true)
                  have HGO : Hid (RES = bif (hasF n L' v true).1 then hasL n c (hasF n L' v true).2 (k + 1) (al.drop (k + 1)) else none) := Lib.hid (by rw [← HRE.out, hasL_go (by rw [HAL.out]; exact hlt), HV.out, DKC.out])
                  have HLN2 : Hid ((hasF n L' v true).2.length = 64) := Lib.hid (by rw [hasF_len, hl2])
                  clear HRE HV
                  generalize hasF n L' v true = G at *
                  obtain ⟨gb, L2⟩ := G
                  dsimp only at *
                  cases gb with
                  | false =>
                    rw [cond_false] at HGO
                    go_wp2_with (go_at_call 125; refine CH2.out.mono ?_; rintro e w9 ⟨rfl, hx5⟩; have H9 := Lib.hid hx5; clear hx5)
                    go_ret
                    exact WfP.no (HWF.out.trans HGO.out) rfl HLN2.out (HDX.out _ _ _ _ (HDX.out _ _ _ _ (HD.out _ _ _ H9.out)))
                  | true =>
                    rw [cond_true] at HGO
                    go_wp2_with (go_at_call 125; refine CH2.out.mono ?_; rintro e w9 ⟨rfl, hx5⟩; have H9 := Lib.hid hx5; clear hx5)
                    go_roundw
                    case rel => exact ⟨k + 1, L2, by omega, by go_num, HLN2.out, HGO.out.symm, H9.out⟩
                    case measure => simp [intOf]; omega
                · have dkc : decide (k < c) = false := decide_eq_false hkc
                  have dkci : decide ((k : Int) < (c : Int)) = false := decide_eq_false (by omega)
                  have DKC := Lib.hid dkc
                  have CH2 := Lib.hid (c_hasw HO.out HSR.out HZ.out hl2 v false)
                  have HGO : Hid (RES = bif (hasF n L' v false).1 then hasL n c (hasF n L' v false).2 (k + 1) (al.drop (k + 1)) else none) := Lib.hid (by rw [← HRE.out, hasL_go (by rw [HAL.out]; exact hlt), HV.out, DKC.out])
                  have HLN2 : Hid ((hasF n L' v false).2.length = 64) := Lib.hid (by rw [hasF_len, hl2])
                  clear HRE HV
                  generalize hasF n L' v false = G at *
                  obtain ⟨gb, L2⟩ := G
                  dsimp only at *
                  cases gb with
                  | false =>
                    rw [cond_false] at HGO
                    go_wp2_with (go_at_call 125; refine CH2.out.mono ?_; rintro e w9 ⟨rfl, hx5⟩; have H9 := Lib.hid hx5; clear hx5)
                    go_ret
                    exact WfP.no (HWF.out.trans HGO.out) rfl HLN2.out (HDX.out _ _ _ _ (HDX.out _ _ _ _ (HD.out _ _ _ H9.out)))
                  | true =>
                    rw [cond_true] at HGO
                    go_wp2_with (go_at_call 125; refine CH2.out.mono ?_; rintro e w9 ⟨rfl, hx5⟩; have H9 := Lib.hid hx5; clear hx5)
                    go_roundw
                    case rel => exact ⟨k + 1, L2, by omega, by go_num, HLN2.out, HGO.out.symm, H9.out⟩
                    case measure => simp [intOf]; omega
              · have HK := Lib.hid (show k = 37 by omega)
                have dk : decide (k < 37) = false := decide_eq_false hlt
                have dk2 : decide ((k : Int) < 37) = false := decide_eq_false (by omega)
                have HRS : Hid (RES = some L') := Lib.hid (by rw [← HRE.out]; exact hasL_end n c L' al k (by rw [HAL.out, HK.out]; exact Nat.le_refl _))
                have HL2 := Lib.hid hl2
                clear HRE HK hl2
                go_wp2_with fail
                go_ret
                exact ⟨by rw [HWF.out, HRS.out]; rfl, L', HL2.out, fun M hM => (by rw [HWF.out, HRS.out] at hM; injection hM), HDX.out _ _ _ _ (HDX.out _ _ _ _ (HD.out _ _ _ HO.out))⟩
        · have dA : decide (5 < c) = false := decide_eq_false h5
          have dAi : decide ((5 : Int) < (c : Int)) = false := decide_eq_false (by omega)
          have CH := Lib.hid (c_hasw H3.out HSI.out HZ.out HL.out (lastX x) false)
          have HLN1 : Hid ((hasF n L (lastX x) false).2.length = 64) := Lib.hid (by rw [hasF_len, HL.out])
          have HWF : Hid (wfF (Vw z st) n x L = bif (hasF n L (lastX x) false).1 then hasL n c (hasF n L (lastX x) false).2 0 (allX (Vw z st) x) else none) := Lib.hid (by
            unfold wfF
            rw [decide_eq_true ⟨k1, k2⟩, cond_true, ← HC.out, dA])
          have HLA : Hid ((hasF n L (lastX x) false).1 = true → lastX x < n) := Lib.hid (fun hh => by
            unfold hasF at hh
            rw [if_neg (by decide)] at hh
            have := of_decide_eq_true hh
            omega)
          generalize hasF n L (lastX x) false = G at *
          obtain ⟨gb, L1⟩ := G
          dsimp only at *
          cases gb with
          | false =>
            rw [cond_false] at HWF
            clear HLA
            go_wp2_with (go_at_call 125; refine CH.out.mono ?_; rintro e w5 ⟨rfl, hx5⟩; have H5 := Lib.hid hx5; clear hx5)
            go_ret
            exact WfP.no HWF.out rfl HLN1.out (HDX.out _ _ _ _ (HD.out _ _ _ H5.out))
          | true =>
            rw [cond_true] at HWF
            have hla := HLA.out rfl
            clear HLA
            go_upto_region 7 with (go_at_call 125; refine CH.out.mono ?_; rintro e w5 ⟨rfl, hx5⟩; have H5 := Lib.hid hx5; clear hx5)
            clear CH cX8 H3 HBX
            have cP : w5.cell? ⟨P, 0, none⟩ = some (.pointer (some ⟨D, 0, none⟩)) := blk_cell (H5.out.ac (by unfold VX DL; ac_rfl) : Own w0 w5 (Star (ptA P D) (VX d z l ml st D mb [] (Star (puA Q U) (Star (uk U L1) (Star (ik X x) R)))))).blk 0 rfl
            have bX : w5.heap[X]? = some (.cells (inoL x).toArray 132) := (H5.out.ac (by unfold W5 VX DL; ac_rfl) : Own w0 w5 (Star (ik X x) (W5 d z l ml st D mb P Q U L1 R))).blk
            have CF := Lib.hid (c_vfile H5.out (HS4.out L1) HZ.out HST.out x HX.out hla)
            have HM1 := Lib.hid (ino_infoX x HX.out)
            obtain ⟨al, hal⟩ : ∃ al, al = allX (Vw z st) x := ⟨_, rfl⟩
            have hfe : fileV [] z st x = ⟨x, al⟩ := by rw [hal]; rfl
            rw [hfe] at CF
            rw [← hal] at HWF
            have HAL : Hid (al.length = 37) := Lib.hid (by rw [hal]; exact allX_len _ HX.out)
            have HFI := Lib.hid (fil_infoX (f := ⟨x, al⟩) HX.out HAL.out)
            have HFO := Lib.hid (fil_one ⟨x, al⟩)
            have HFZ : Hid ((filL f0).toArray.size = (filL ⟨x, al⟩).toArray.size) := Lib.hid (by rw [List.size_toArray, List.size_toArray, fil_len (f := ⟨x, al⟩) HX.out HAL.out]; rfl)
            clear hal hfe
            go_upto_region 8 with (first
              | (refine wpList_load_row rfl _ _ rfl X rfl _ (inoL x).toArray (0, 0) _ bX Tryz.underlying132 rfl HM1.out ?_)
              | (go_at_call 70; refine CF.out.mono ?_; rintro e w6 ⟨rfl, hx6⟩; have H6 := Lib.hid hx6; clear hx6)
              | (refine wpList_alloc_blk rfl 137 (filL f0).toArray rfl (fil_zero _) ?_)
              | (refine wpList_store_row rfl _ _ _ rfl w6.heap.size (filL ⟨x, al⟩).toArray rfl rfl _ _ (blk_new w6 _) HFI.out HFZ.out HFO.out ?_))
            have H7 : Hid (Own w0 ((w6.alloc (.cells (filL f0).toArray 137)).setRow w6.heap.size (filL ⟨x, al⟩).toArray) (Star (fk w6.heap.size ⟨x, al⟩) (W5 d z l ml st D mb P Q U L1 (Star (ik X x) R)))) := Lib.hid ((H6.out.alloc (stable_vx (HS4.out L1)) (.cells (filL f0).toArray 137)).setRow (stable_vx (HS4.out L1)) _)
            generalize (World.setRow _ _ _) = w7 at *
            generalize w6.heap.size = FB at *
            have bF := H7.out.blk
            have hLM : w7.rangeAt FB 9 (nums al) := fun j v hv => by
              have hj : j < al.length := by
                have := (List.getElem?_eq_some_iff.1 hv).1
                rw [nums_len] at this
                exact this
              rw [nums_at al j hj] at hv
              injection hv with hv
              rw [← hv]
              exact blk_cell bF (9 + j) (fil_at (f := ⟨x, al⟩) HX.out j hj)
            have H8 : Hid (Own w0 w7 (W5 d z l ml st D mb P Q U L1 (Star (fk FB ⟨x, al⟩) (Star (ik X x) R)))) := Lib.hid (H7.out.ac (by unfold W5 VX DL; ac_rfl))
            have HSR : Hid (Stable (Star (fk FB ⟨x, al⟩) (Star (ik X x) R))) := Lib.hid (stable_star (stable_blk _ _) HSI.out)
            have HAI := Lib.hid (a37_info al HAL.out)
            clear CF bX cP HM1 H6 HFI HFO HFZ H7 H5 bF
            go_wp2_with (refine wpList_load_mid rfl _ _ rfl FB 9 rfl (nums al) _ hLM Tryz.underlying135 rfl HAI.out ?_)
            clear hLM HAI
            obtain ⟨RES, hRES⟩ : ∃ RES, RES = hasL n c L1 0 al := ⟨_, rfl⟩
            rw [← hRES] at HWF
            have HRS := Lib.hid hRES.symm
            clear hRES
            go_loopw [42] (fun v42 wx => ∃ (k : Nat) (L' : List UInt8), k ≤ 37 ∧ v42 = .int .i64 (k : Int) ∧ L'.length = 64 ∧ hasL n c L' k (al.drop k) = RES ∧ Own w0 wx (W5 d z l ml st D mb P Q U L' (Star (fk FB ⟨x, al⟩) (Star (ik X x) R)))) (fun v _ => 37 - (intOf v).toNat)
            case atStart => exact ⟨0, L1, Nat.zero_le _, rfl, HLN1.out, HRS.out, H8.out⟩
            case round =>
              clear H8 HRS
              obtain ⟨k, L', hk, rfl, hl2, hre, ho⟩ := hrel
              have HRE := Lib.hid hre
              have HO := Lib.hid ho
              clear hre ho
              by_cases hlt : k < 37
              · have dk : decide (k < 37) = true := decide_eq_true hlt
                have dk2 : decide ((k : Int) < 37) = true := decide_eq_true (by omega)
                have xi := idx37 al HAL.out k hlt wr
                obtain ⟨v, hv⟩ : ∃ v, al.getD k 0 = v := ⟨_, rfl⟩
                rw [hv] at xi
                have HV := Lib.hid hv
                clear hv
                by_cases hkc : k < c
                · have dkc : decide (k < c) = true := decide_eq_true hkc
                  have dkci : decide ((k : Int) < (c : Int)) = true := decide_eq_true (by omega)
                  have DKC := Lib.hid dkc
                  have CH2 := Lib.hid (c_hasw HO.out HSR.out HZ.out hl2 v true)
                  have HGO : Hid (RES = bif (hasF n L' v true).1 then hasL n c (hasF n L' v true).2 (k + 1) (al.drop (k + 1)) else none) := Lib.hid (by rw [← HRE.out, hasL_go (by rw [HAL.out]; exact hlt), HV.out, DKC.out])
                  have HLN2 : Hid ((hasF n L' v true).2.length = 64) := Lib.hid (by rw [hasF_len, hl2])
                  clear HRE HV
                  generalize hasF n L' v true = G at *
                  obtain ⟨gb, L2⟩ := G
                  dsimp only at *
                  cases gb with
                  | false =>
                    rw [cond_false] at HGO
                    go_wp2_with (go_at_call 125; refine CH2.out.mono ?_; rintro e w9 ⟨rfl, hx5⟩; have H9 := Lib.hid hx5; clear hx5)
                    go_ret
                    exact WfP.no (HWF.out.trans HGO.out) rfl HLN2.out (HDX.out _ _ _ _ (HDX.out _ _ _ _ (HD.out _ _ _ H9.out)))
                  | true =>
                    rw [cond_true] at HGO
                    go_wp2_with (go_at_call 125; refine CH2.out.mono ?_; rintro e w9 ⟨rfl, hx5⟩; have H9 := Lib.hid hx5; clear hx5)
                    go_roundw
                    case rel => exact ⟨k + 1, L2, by omega, by go_num, HLN2.out, HGO.out.symm, H9.out⟩
                    case measure => simp [intOf]; omega
                · have dkc : decide (k < c) = false := decide_eq_false hkc
                  have dkci : decide ((k : Int) < (c : Int)) = false := decide_eq_false (by omega)
                  have DKC := Lib.hid dkc
                  have CH2 := Lib.hid (c_hasw HO.out HSR.out HZ.out hl2 v false)
                  have HGO : Hid (RES = bif (hasF n L' v false).1 then hasL n c (hasF n L' v false).2 (k + 1) (al.drop (k + 1)) else none) := Lib.hid (by rw [← HRE.out, hasL_go (by rw [HAL.out]; exact hlt), HV.out, DKC.out])
                  have HLN2 : Hid ((hasF n L' v false).2.length = 64) := Lib.hid (by rw [hasF_len, hl2])
                  clear HRE HV
                  generalize hasF n L' v false = G at *
                  obtain ⟨gb, L2⟩ := G
                  dsimp only at *
                  cases gb with
                  | false =>
                    rw [cond_false] at HGO
                    go_wp2_with (go_at_call 125; refine CH2.out.mono ?_; rintro e w9 ⟨rfl, hx5⟩; have H9 := Lib.hid hx5; clear hx5)
                    go_ret
                    exact WfP.no (HWF.out.trans HGO.out) rfl HLN2.out (HDX.out _ _ _ _ (HDX.out _ _ _ _ (HD.out _ _ _ H9.out)))
                  | true =>
                    rw [cond_true] at HGO
                    go_wp2_with (go_at_call 125; refine CH2.out.mono ?_; rintro e w9 ⟨rfl, hx5⟩; have H9 := Lib.hid hx5; clear hx5)
                    go_roundw
                    case rel => exact ⟨k + 1, L2, by omega, by go_num, HLN2.out, HGO.out.symm, H9.out⟩
                    case measure => simp [intOf]; omega
              · have HK := Lib.hid (show k = 37 by omega)
                have dk : decide (k < 37) = false := decide_eq_false hlt
                have dk2 : decide ((k : Int) < 37) = false := decide_eq_false (by omega)
                have HRS : Hid (RES = some L') := Lib.hid (by rw [← HRE.out]; exact hasL_end n c L' al k (by rw [HAL.out, HK.out]; exact Nat.le_refl _))
                have HL2 := Lib.hid hl2
                clear HRE HK hl2
                go_wp2_with fail
                go_ret
                exact ⟨by rw [HWF.out, HRS.out]; rfl, L', HL2.out, fun M hM => (by rw [HWF.out, HRS.out] at hM; injection hM), HDX.out _ _ _ _ (HDX.out _ _ _ _ (HD.out _ _ _ HO.out))⟩
    · have d2 : decide (2368 < x.size) = true := decide_eq_true (by omega)
      have d2i : decide (2368 < (x.size : Int)) = true := decide_eq_true (by omega)
      obtain ⟨b1, b2⟩ | ⟨b1, b2⟩ : (((x.kind : Int) != 1) = false ∧ ((x.kind : Int) != 2) = true) ∨ (((x.kind : Int) != 1) = true ∧ ((x.kind : Int) != 2) = false) := by
        rcases k1 with e | e
        · exact .inl ⟨by rw [e]; rfl, by rw [e]; rfl⟩
        · exact .inr ⟨by rw [e]; rfl, by rw [e]; rfl⟩
      all_goals
        have HNO : Hid (wfF (Vw z st) n x L = none) := Lib.hid (by unfold wfF; rw [decide_eq_false (by omega), cond_false])
        go_wp2_with fail
        go_ret
        exact WfP.no HNO.out rfl HL.out (HDX.out _ _ _ _ (HD.out _ _ _ H3.out))
  · have b1 : ((x.kind : Int) != 1) = true := by rw [bne_iff_ne]; omega
    have b2 : ((x.kind : Int) != 2) = true := by rw [bne_iff_ne]; omega
    have HNO : Hid (wfF (Vw z st) n x L = none) := Lib.hid (by unfold wfF; rw [decide_eq_false (by omega), cond_false])
    go_wp2_with fail
    go_ret
    exact WfP.no HNO.out rfl HL.out (HDX.out _ _ _ _ (HD.out _ _ _ H3.out))
end
end Go.Proofs.YtlpcccpagmipnaaGreat.P
namespace Go.Proofs.YtlpcccpagmipnaaGreat.P
open Go.RowKit Go.ChangeMaps Go.MapKept
theorem eqBits {L M : List UInt8} (hl : L.length = 64) (hm : M.length = 64) (w : World) : (Op.equalIn 10000 84 (.agg (bcL L)) (.agg (bcL M))).run Tryz.prog w = .ok (decide (L = M)) w := by
  obtain ⟨inf, hi⟩ := info_of_underlying Tryz.underlying5
  have e4 : Tryz.prog.cellsOf 5 = 1 := by kernel_rfl
  rw [run_equalIn_array w 9999 (bcL L) (bcL M) Tryz.underlying84 hi, e4, ← all_by hl hm]
  exact eqI8 L M hl hm 9997 w _ (fun i hi => by simpa using hi)
theorem ld_bits {w : World} {g : Nat} {C : Array Value} {t : TypeId} (h : w.heap[g]? = some (.cells C t)) (hi : (Tryz.prog.info? 84).map (·.size) = some C.size) : (loadVar 84 ⟨g, 0, none⟩).run Tryz.prog w = .ok (.agg C) w := run_loadVar_row w g t 84 C (0, 0) _ h Tryz.underlying84 rfl hi
theorem wpList_neqIno {ops : Array Oper} {rest : List Oper} {o : Oper} {a : Act} {w : World} {Q : Exit → Act → World → Prop} (hg : o.guard = none) (x y : Operand) (t2 : TypeId) (hop : o.op = .binOp .neq 132 x y t2) (X Y : Ino) (hx : X.pl.length = 6) (hy : Y.pl.length = 6) (ex : a.eval x = .agg (inoL X).toArray) (ey : a.eval y = .agg (inoL Y).toArray) (b : Bool) (hb : (!eqIno X Y) = b)
    (h : wpList Tryz.prog ops Q rest (a.put o.dst (.bool b)) w) : wpList Tryz.prog ops Q (o :: rest) a w := by
  have hm : Tryz.prog.eqGuardType Tryz.prog.depth 132 = false := Tryz.eqGuardType132
  have h1 := run_eqGuard_agg (P := Tryz.prog) w .neq 132 x y (inoL X).toArray (inoL Y).toArray hm
  have h2 := run_neq_struct (P := Tryz.prog) w 132 (inoL X).toArray (inoL Y).toArray
  rw [eqIn X Y hx hy w] at h2
  simp only [Result.andThen_ok] at h2
  rw [hb] at h2
  generalize (inoL X).toArray = XA at *
  generalize (inoL Y).toArray = YA at *
  refine wpList_plain hg fun K' hK' => ?_
  unfold Oper.wp
  have e : (execOp a.eval o).run Tryz.prog w = .ok (.value (.bool b)) w := by
    unfold execOp
    simp [hop, ex, ey, Sem.run_bind, h1, h2]
  rw [e]
  exact hK' _ _ h
theorem wpList_load_g8 {P : Program} {ops : Array Oper} {rest : List Oper} {o : Oper} {a : Act} {w : World} {Q : Exit → Act → World → Prop} (hgd : Region.wanted o (yielded ops a.tmps) = true) (ty : TypeId) (x : Operand) (ho : o.op = .load ty x)
    (g : Nat) (hx : a.eval x = .pointer (some ⟨g, 0, none⟩)) (t : TypeId) (cs : Array Value) (fr : Nat × Nat) (d : TypeDesc) (hg : w.heap[g]? = some (.cells cs t fr))
    (hu : P.underlying ty = some d) (hd : (match d with | .struct _ | .array _ _ => true | _ => false) = true) (hi : (P.info? ty).map (·.size) = some cs.size)
    (h : wpList P ops Q rest (a.put o.dst (.agg cs)) w) : wpList P ops Q (o :: rest) a w := by
  rw [wpList, if_pos hgd]
  refine .inl (wp_load_row ty x ho g hx t cs fr d hg hu ?_ hi h)
  cases d <;> simp_all
theorem built_ino0 : Tryz.prog.built 132 [] = some (inoL i0).toArray := by kernel_rfl
theorem eq_free {x : Ino} (hp : x.pl.length = 6) : eqIno x i0 = decide (x.kind = 0 ∧ FreeX x) := by
  have he : ((List.range 6).all fun i => decide (x.pl.getD i 0 = i0.pl.getD i 0)) = decide (x.pl = List.replicate 6 0) := by
    rw [Bool.eq_iff_iff, List.all_eq_true, decide_eq_true_eq]
    constructor
    · intro h
      exact getD_ext (by rw [hp, List.length_replicate]) fun j hj => of_decide_eq_true (h j (List.mem_range.2 (by omega)))
    · intro h i _
      rw [h]
      exact decide_eq_true rfl
  unfold eqIno FreeX
  rw [he]
  show (decide (x.kind = 0) && (decide (x.links = 0) && (decide (x.size = 0) && _))) = _
  rw [Bool.eq_iff_iff]
  simp
theorem wK_free {V : Nat → List UInt8} {n k : Nat} {L : List UInt8} (h : wK V n k = some L) (hf : (inoX V k).kind = 0 ∧ FreeX (inoX V k)) : wK V n (k + 1) = some L := by
  unfold wK
  rw [h]
  show (if _ then _ else _) = _
  rw [if_pos hf]
theorem wK_file {V : Nat → List UInt8} {n k : Nat} {L : List UInt8} (h : wK V n k = some L) (hf : ¬ ((inoX V k).kind = 0 ∧ FreeX (inoX V k))) : wK V n (k + 1) = wfF V n (inoX V k) L := by
  unfold wK
  rw [h]
  show (if _ then _ else _) = _
  rw [if_neg hf]
theorem whole_none {V : Nat → List UInt8} {n k : Nat} (hk : k ≤ 32) (h : wK V n k = none) : wholeF V n = false := by
  unfold wholeF
  rw [wK_none h 32 hk]
section
variable {w0 w : World} {d : Nat} {z : DState} {l ml : Nat} {st : List (Int × ByteArray)} {D mb n : Nat} {R : Asn}
set_option maxHeartbeats 6400000 in
theorem c_whole8 (h : Own w0 w (VX d z l ml st D mb [] R)) (hs : Stable R) (hz : LI z n) (hst : okSt (n + 32) st) :
    Calls Tryz.prog 58 #[.pointer (some ⟨D, 0, none⟩)] w fun e w' => e = .returned (.bool (wholeF (Vw z st) n)) ∧ Own w0 w' (VX d z l ml st D mb [] R) := by
  have hlo := hz.lo
  have hhi := hz.hi
  have HS := Lib.hid hs
  have HST := Lib.hid hst
  have HZ := Lib.hid hz
  have HSU : Hid (∀ U L, Stable (Star (uk U L) R)) := Lib.hid (fun U L => stable_star (stable_blk _ _) hs)
  have H0 := Lib.hid h
  have CM := Lib.hid (c_systemMap w)
  have HB1 : Hid (∀ wx, Gr w wx → Own w0 ((wx.alloc (.cells (bcL zL) 84)).setRow wx.heap.size (bcL (mapK 9))) (VX d z l ml st D mb [] (Star (uk wx.heap.size (mapK 9)) R))) := Lib.hid (fun wx g => (((h.gr (stable_vx hs) g).box4 (stable_vx hs) _).out4.setRow (stable_vx hs) _).in4)
  have HM9 := Lib.hid (mapK_len 9)
  have HC1 : Hid ((Tryz.prog.info? 84).map (·.size) = some (bcL (mapK 9)).size) := Lib.hid (by rw [bcL_size, HM9.out]; exact bits_info)
  have HC2 := Lib.hid (bcL_all1 (mapK 9))
  have HC3 : Hid ((bcL zL).size = (bcL (mapK 9)).size) := Lib.hid (by rw [bcL_size, bcL_size, HM9.out]; rfl)
  have HW0 : Hid (wK (Vw z st) n 0 = some (mapK 9)) := Lib.hid rfl
  clear h
  generalize mapK 9 = M9 at *
  go_enter Tryz.func58, Tryz.ntmps58
  go_upto_region 2 with (first
    | (go_at_call 44; refine CM.out.mono ?_; rintro e w2 ⟨rfl, g2⟩; have H2 := Lib.hid (HB1.out _ g2); clear g2)
    | (refine wpList_alloc_blk rfl 84 (bcL zL) rfl (bits_zero _) ?_)
    | (refine wpList_store_row rfl _ _ _ rfl w2.heap.size (bcL M9) rfl rfl _ _ (blk_new w2 _) HC1.out HC3.out HC2.out ?_))
  generalize (World.setRow _ _ _) = w3 at *
  generalize w2.heap.size = U at *
  clear CM HB1 HC1 HC2 HC3 H0
  go_wp2_with fail
  go_loopw [7] (fun v7 wx => ∃ (k : Nat) (L : List UInt8), k ≤ 32 ∧ v7 = .int .i64 (k : Int) ∧ L.length = 64 ∧ wK (Vw z st) n k = some L ∧ Own w0 wx (VX d z l ml st D mb [] (Star (uk U L) R))) (fun v _ => 32 - (intOf v).toNat)
  case atStart => exact ⟨0, M9, Nat.zero_le _, rfl, HM9.out, HW0.out, H2.out⟩
  case round =>
    clear HM9 HW0 H2
    obtain ⟨k, L, hk, rfl, hl, hw, ho⟩ := hrel
    have HW := Lib.hid hw
    have HO := Lib.hid ho
    have HL := Lib.hid hl
    clear hw ho hl
    by_cases hlt : k < 32
    · have dk : decide (k < 32) = true := decide_eq_true hlt
      have dk2 : decide ((k : Int) < 32) = true := decide_eq_true (by omega)
      obtain ⟨X, hX⟩ : ∃ X, X = inoX (Vw z st) k := ⟨_, rfl⟩
      have CV0 := c_vinode HO.out (HSU.out U L) HZ.out HST.out k hlt
      have e1 : inoV [] z st k = X := hX.symm
      rw [e1] at CV0
      have CV := Lib.hid CV0
      have hx6 : X.pl.length = 6 := by rw [hX]; exact inoX_len _ _
      have hxs : X.size < 65536 := by
        rw [hX]
        have := byL_lt (Vw z st (1 + k / 4)) (k % 4 * 16 + 2)
        have := byL_lt (Vw z st (1 + k / 4)) (k % 4 * 16 + 2 + 1)
        show byL _ _ + 256 * byL _ _ < 65536
        omega
      have HM1 := Lib.hid (ino_infoX X hx6)
      have HM2 := Lib.hid (ino_one X)
      have HM3 : Hid ((inoL i0).toArray.size = (inoL X).toArray.size) := Lib.hid (by rw [ino_size _ hx6]; rfl)
      have HEF := Lib.hid (eq_free hx6)
      have HWF : Hid (X.kind = 0 ∧ FreeX X → wK (Vw z st) n (k + 1) = some L) := Lib.hid (fun hf => by rw [hX] at hf; exact wK_free HW.out hf)
      have HWN : Hid (¬ (X.kind = 0 ∧ FreeX X) → wK (Vw z st) n (k + 1) = wfF (Vw z st) n X L) := Lib.hid (fun hf => by rw [hX] at hf ⊢; exact wK_file HW.out hf)
      have HX6 := Lib.hid hx6
      clear CV0 e1 hX hx6
      go_upto_region 6 with (first
        | (go_at_call 75; refine CV.out.mono ?_; rintro e w5 ⟨rfl, h5⟩; have H5 := Lib.hid ((((h5.box4 (stable_vx (HSU.out U L)) (.cells (inoL i0).toArray 132)).out4.setRow (stable_vx (HSU.out U L)) (inoL X).toArray).in4)); clear h5)
        | (refine wpList_alloc_blk rfl 132 (inoL i0).toArray rfl (ino_zero _) ?_)
        | (refine wpList_store_row rfl _ _ _ rfl w5.heap.size (inoL X).toArray rfl rfl _ _ (blk_new w5 _) HM1.out HM3.out HM2.out ?_))
      generalize (World.setRow _ _ _) = w6 at *
      generalize w5.heap.size = G at *
      have bG : w6.heap[G]? = some (.cells (inoL X).toArray 132) := H5.out.out4.blk
      have HDR : Hid (∀ wx L', Own w0 wx (VX d z l ml st D mb [] (Star (uk U L') (Star (ik G X) R))) → Own w0 wx (VX d z l ml st D mb [] (Star (uk U L') R))) := Lib.hid (fun wx L' hw => by
        have h2 : Own w0 wx (Star (ik G X) (VX d z l ml st D mb [] (Star (uk U L') R))) := hw.ac (by unfold VX DL; ac_rfl)
        exact h2.right)
      have H5b : Own w0 w6 (VX d z l ml st D mb [] (Star (ik G X) (Star (uk U L) R))) := H5.out
      have H6 : Hid (Own w0 w6 (VX d z l ml st D mb [] (Star (uk U L) (Star (ik G X) R)))) := Lib.hid (H5b.ac (by unfold VX DL; ac_rfl))
      clear H5b
      clear CV HO H5 HM2 HM3
      by_cases hf : X.kind = 0 ∧ FreeX X
      · have hb : (!eqIno X i0) = false := by rw [HEF.out, decide_eq_true hf]; rfl
        have HWK := Lib.hid (HWF.out hf)
        clear HEF HWF HWN hf hxs
        go_wp2_with (first
          | (refine wpList_load_g8 (by first | rfl | fail) 132 _ rfl G rfl 132 _ (0, 0) _ bG Tryz.underlying132 rfl HM1.out ?_)
          | (refine wpList_build0 rfl 132 rfl (inoL i0).toArray built_ino0 ?_)
          | (refine wpList_neqIno rfl _ _ _ rfl X i0 HX6.out rfl rfl rfl false hb ?_))
        go_roundw
        case rel => exact ⟨k + 1, L, by omega, by go_num, HL.out, HWK.out, HDR.out _ _ H6.out⟩
        case measure => simp [intOf]; omega
      · have hb : (!eqIno X i0) = true := by rw [HEF.out, decide_eq_false hf]; rfl
        have HWK := Lib.hid (HWN.out hf)
        have CW := Lib.hid (c_wfile H6.out (stable_star (stable_blk _ _) HS.out) HZ.out HST.out HL.out X HX6.out hxs)
        clear HEF HWF HWN hf hxs
        generalize wfF (Vw z st) n X L = O at *
        cases O with
        | none =>
          go_wp2_with (first
            | (refine wpList_load_g8 (by first | rfl | fail) 132 _ rfl G rfl 132 _ (0, 0) _ bG Tryz.underlying132 rfl HM1.out ?_)
            | (refine wpList_build0 rfl 132 rfl (inoL i0).toArray built_ino0 ?_)
            | (refine wpList_neqIno rfl _ _ _ rfl X i0 HX6.out rfl rfl rfl true hb ?_)
            | (go_at_call 96; refine CW.out.mono ?_; rintro e w7 ⟨rfl, L', hL', _, h7⟩; have H7 := Lib.hid h7; clear h7 hL'))
          go_ret
          exact ⟨by rw [whole_none (by omega) HWK.out]; rfl, (HDR.out _ _ H7.out).unbox4⟩
        | some M =>
          go_wp2_with (first
            | (refine wpList_load_g8 (by first | rfl | fail) 132 _ rfl G rfl 132 _ (0, 0) _ bG Tryz.underlying132 rfl HM1.out ?_)
            | (refine wpList_build0 rfl 132 rfl (inoL i0).toArray built_ino0 ?_)
            | (refine wpList_neqIno rfl _ _ _ rfl X i0 HX6.out rfl rfl rfl true hb ?_)
            | (go_at_call 96; refine CW.out.mono ?_; rintro e w7 ⟨rfl, L', hL', hM', h7⟩; have H7 := Lib.hid h7; have HM7 := Lib.hid (hM' M rfl); have HL7 := Lib.hid hL'; clear h7 hL' hM'))
          go_roundw
          case rel => exact ⟨k + 1, L', by omega, by go_num, HL7.out, by rw [HWK.out, HM7.out], HDR.out _ _ H7.out⟩
          case measure => simp [intOf]; omega
    · have HK := Lib.hid (show k = 32 by omega)
      have dk : decide (k < 32) = false := decide_eq_false hlt
      have dk2 : decide ((k : Int) < 32) = false := decide_eq_false (by omega)
      have HWH : Hid (wholeF (Vw z st) n = decide (Vw z st 0 = L)) := Lib.hid (by
        have h := HW.out
        rw [HK.out] at h
        unfold wholeF
        rw [h])
      have HSS : Hid (∀ wx, Own w0 wx (VX d z l ml st D mb [] (Star (uk U L) R)) → wx.heap[U]? = some (.cells (bcL L) 84)) := Lib.hid (fun wx hw => hw.out4.blk)
      have hd := HO.out.drew (stable_vx (HSU.out U L))
      have HS1 := Lib.hid (HSS.out _ hd)
      have hl0 := (rowL_len HO.out HZ.out HST.out (i := 0) (by omega)).1
      have CU0 := c_used hd (HSU.out U L) HZ.out HST.out
      have HI : Hid ((Tryz.prog.info? 84).map (·.size) = some (bcL L).size) := Lib.hid (by rw [bcL_size, HL.out]; exact bits_info)
      have HEQ := Lib.hid (fun wx => eqBits hl0 HL.out wx)
      obtain ⟨A, hA⟩ : ∃ A, A = Vw z st 0 := ⟨_, rfl⟩
      have e1 : rowL [] z st 0 = A := hA.symm
      rw [e1] at CU0 HEQ
      rw [← hA] at HWH
      have CU := Lib.hid CU0
      clear CU0 hd hl0 hA e1 HW HK
      go_upto_region 9 with fail
      refine wp_region_held_drew (S := fun w' => w'.heap[U]? = some (.cells (bcL L) 84)) (by kernel_rfl) (HS1.out) (fun hH => ?_)
      generalize wr.drew = wd at *
      try simp only [Act.put, List.setIfInBounds_toArray, List.set_cons_zero, List.set_cons_succ]
      refine wpAnyH_take (i := 0) (oi := { dst := some 23, op := Go.Op.move (Go.Operand.tmp 0), type := 114, pos := "map.go:86", after := #[], guard := none }) (v := .pointer (some ⟨D, 0, none⟩)) rfl (by kernel_rfl) (by kernel_rfl) (by kernel_rfl) (fun _ _ _ h => h) (Or.inl ⟨by rfl, fun w' hS' => by first | rfl | (go_simp; done) | (go_simp; rfl)⟩) HS1.out ?_
      try simp only [Act.put, List.setIfInBounds_toArray, List.set_cons_zero, List.set_cons_succ]
      refine wpAnyH_take (i := 2) (oi := { dst := some 25, op := Go.Op.load 84 (Go.Operand.tmp 3), type := 84, pos := "map.go:86", after := #[], guard := none }) (v := .agg (bcL L)) rfl (by kernel_rfl) (by kernel_rfl) (by kernel_rfl) (fun _ _ _ h => h) (Or.inl ⟨by rfl, fun w' hS' => ex_row (ld_bits hS' HI.out) rfl⟩) HS1.out ?_
      try simp only [Act.put, List.setIfInBounds_toArray, List.set_cons_zero, List.set_cons_succ]
      refine wpAnyH_ready (rs := [1]) (by kernel_rfl) (by simp) ?_
      refine AllReadyH.cons (o := { dst := some 24, op := Go.Op.call { callee := Go.Callee.value (Go.Operand.func 60), args := #[Go.Operand.tmp 23], argTypes := #[114] }, type := 84, pos := "map.go:86", after := #[{ on := 0, ground := Go.Ground.data }], guard := none }) rfl (fun K' hK => ?_) AllReadyH.nil
      rw [if_pos (by rfl)]
      go_wp2_with (go_at_call 60; refine CU.out.mono ?_; rintro e w5 ⟨rfl, h5⟩; have H5 := Lib.hid h5; have HS5 := Lib.hid (HSS.out _ h5); clear h5)
      refine hK.out _ _ (HS5.out) (fun hH1 => ?_)
      clear hK K'
      try simp only [Act.put, List.setIfInBounds_toArray, List.set_cons_zero, List.set_cons_succ]
      refine wpAnyH_take (i := 3) (oi := { dst := some 26, op := Go.Op.binOp Go.BinOp.eql 84 (Go.Operand.tmp 24) (Go.Operand.tmp 25) 84, type := 4, pos := "map.go:86", after := #[{ on := 1, ground := Go.Ground.data }, { on := 2, ground := Go.Ground.data }], guard := none }) (v := .bool (decide (A = L))) rfl (by kernel_rfl) (by kernel_rfl) (by kernel_rfl) (fun _ _ _ h => h) (Or.inl ⟨by rfl, fun w' hS' => by have c := HEQ.out w'; go_simp⟩) HS5.out ?_
      try simp only [Act.put, List.setIfInBounds_toArray, List.set_cons_zero, List.set_cons_succ]
      refine wpAnyH_take (i := 4) (oi := { dst := some 2, op := Go.Op.assign (Go.Operand.tmp 26), type := 4, pos := "map.go:86", after := #[{ on := 3, ground := Go.Ground.data }, { on := 1, ground := Go.Ground.chain }, { on := 0, ground := Go.Ground.phase }, { on := 1, ground := Go.Ground.phase }, { on := 2, ground := Go.Ground.phase }, { on := 3, ground := Go.Ground.phase }], guard := none }) (v := .bool (decide (A = L))) rfl (by kernel_rfl) (by kernel_rfl) (by kernel_rfl) (fun _ _ _ h => h) (Or.inl ⟨by rfl, fun w' hS' => by first | rfl | (go_simp; done) | (go_simp; rfl)⟩) HS5.out ?_
      try simp only [Act.put, List.setIfInBounds_toArray, List.set_cons_zero, List.set_cons_succ]
      refine wpAnyH_done (by kernel_rfl) ?_ _
      go_wp2_with fail
      go_ret
      exact ⟨by rw [HWH.out]; rfl, H5.out.unbox4⟩
set_option maxHeartbeats 3200000 in
theorem c_mount8 (h : Own w0 w (DL d z l ml st false R)) (hs : Stable R) (hz : LI z n) (hst : okSt (n + 32) st) (hl : st.length ≤ 1000) :
    Calls Tryz.prog 24 #[.pointer (some ⟨l, 0, none⟩)] w fun e w' => (wholeF (Vw z st) n = true ∧ ∃ V, e = .returned (.tuple #[.pointer (some ⟨V, 0, none⟩), .int .i64 0]) ∧ Own w0 w' (VL d z l ml st V R)) ∨ (wholeF (Vw z st) n = false ∧ e = .returned (.tuple #[.pointer none, .int .i64 6]) ∧ Own w0 w' (DL d z l ml st false R)) := by
  have CU := Lib.hid (c_lusable h hs hl)
  have CN : Hid (∀ wx, Own w0 wx (DL d z l ml st false R) → Calls Tryz.prog 57 #[.pointer (some ⟨l, 0, none⟩)] wx (NewDP w0 d z l ml st R)) := Lib.hid (fun wx hw => c_newDraft hw hs)
  have CW : Hid (∀ wx D mb, Own w0 wx (VX d z l ml st D mb [] R) → Calls Tryz.prog 58 #[.pointer (some ⟨D, 0, none⟩)] wx fun e w' => e = .returned (.bool (wholeF (Vw z st) n)) ∧ Own w0 w' (VX d z l ml st D mb [] R)) := Lib.hid (fun wx D mb hw => c_whole8 hw hs hz hst)
  have HE : Hid (∀ wx D mb, Own w0 wx (VX d z l ml st D mb [] R) → wx.cell? ⟨D, 2, none⟩ = some (.int .i64 0) ∧ Own w0 wx (DL d z l ml st false R) ∧ Own w0 (wx.alloc (.cells #[.pointer (some ⟨l, 0, none⟩)] 89)) (VL d z l ml st wx.heap.size R)) := Lib.hid (fun wx D mb hw => by
    have h1 : Own w0 wx (DL d z l ml st false R) := own_drop (own_drop hw)
    have h2 : Own w0 _ (Star (volA wx.heap.size l) (DL d z l ml st false R)) := h1.alloc (stable_dl _ _ _ _ _ _ hs) _
    exact ⟨blk_cell (vx_map hw).1 2 rfl, h1, h2.ac (by unfold VL DL; ac_rfl)⟩)
  clear h hs hz hst hl
  unfold NewDP at CN
  cases hw : wholeF (Vw z st) n with
  | true =>
    rw [hw] at CW
    go_enter Tryz.func24, Tryz.ntmps24
    go_upto_region 6 with (first
      | (go_at_call 43; refine CU.out.mono ?_; rintro e w2 ⟨rfl, h2⟩; have H2 := Lib.hid h2; clear h2)
      | (go_at_call 57; refine (CN.out _ H2.out).mono ?_; rintro e w3 ⟨D, mb, rfl, h3⟩; have H3 := Lib.hid h3; clear h3)
      | (go_at_call 58; refine (CW.out _ _ _ H3.out).mono ?_; rintro e w4 ⟨rfl, h4⟩; have H4 := Lib.hid h4; clear h4))
    obtain ⟨c2, _, h5⟩ := HE.out _ _ _ H4.out
    have H5 := Lib.hid h5
    clear h5 CU CN CW HE H2 H3
    go_wp2_with fail
    go_ret2
    exact .inl ⟨trivial, _, rfl, H5.out⟩
  | false =>
    rw [hw] at CW
    go_enter Tryz.func24, Tryz.ntmps24
    go_upto_region 6 with (first
      | (go_at_call 43; refine CU.out.mono ?_; rintro e w2 ⟨rfl, h2⟩; have H2 := Lib.hid h2; clear h2)
      | (go_at_call 57; refine (CN.out _ H2.out).mono ?_; rintro e w3 ⟨D, mb, rfl, h3⟩; have H3 := Lib.hid h3; clear h3)
      | (go_at_call 58; refine (CW.out _ _ _ H3.out).mono ?_; rintro e w4 ⟨rfl, h4⟩; have H4 := Lib.hid h4; clear h4))
    obtain ⟨c2, h5, _⟩ := HE.out _ _ _ H4.out
    have H5 := Lib.hid h5
    clear h5 CU CN CW HE H2 H3
    go_wp2_with fail
    go_ret2
    exact .inr ⟨trivial, rfl, H5.out⟩
end
end Go.Proofs.YtlpcccpagmipnaaGreat.P
