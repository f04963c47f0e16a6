/- Stage 2: numbers in a text: plain facts. No condition. -/
import Derived.Test.YthcfobefpknjeaaDoorNI
import Derived.Test.YthcfobefpknjeaaDoorTA
import Derived.Laws.RangeString
import Derived.Lib.ParseIntBCases
import Derived.Test.YthcfobefpknjeaaDoorNJ
import Derived.Test.YthcfobefpknjeaaDoorNL
import Derived.Test.YthcfobefpknjeaaDoorNP
import Derived.Test.YthcfobefpknjeaaDoorNQ
import Derived.Test.YthcfobefpknjeaaDoorTD
import Derived.Lib.ParseIntBTie
import Derived.Test.YthcfobefpknjeaaDoorDV
import Derived.Test.YthcfobefpknjeaaDoorO1
import Derived.Deep.DeepCutAuto
import Derived.Stop.LaidErr
set_option linter.unusedVariables false
set_option linter.unusedSimpArgs false
set_option maxRecDepth 100000
namespace Go.Proofs.YthcfobefpknjeaaDoor.P
open Go.RowKit
def bL (l : List UInt8) : ByteArray := ⟨l.toArray⟩
theorem bL_size (l : List UInt8) : (bL l).size = l.length := by unfold bL ByteArray.size; simp
theorem bL_list (l : List UInt8) : (bL l).data.toList = l := rfl
theorem bL_of (x : ByteArray) : bL x.data.toList = x := ByteArray.ext (Array.ext' rfl)
theorem bL_ext (l : List UInt8) (a b : Nat) : (bL l).extract a b = bL ((l.take b).drop a) := by
  apply ByteArray.ext
  apply Array.ext'
  rw [bL_list]
  simp [bL, ByteArray.data_extract, List.extract_eq_take_drop, List.drop_take]
theorem bL_at (l : List UInt8) (j : Nat) (h : j < (bL l).size) : (bL l)[j]'h = l[j]'(by rw [bL_size] at h; exact h) := by
  show (bL l).data[j]'_ = _
  simp [bL]
theorem idx_is (p : Nat → Bool) (l : List UInt8) (h : ∀ c ∈ l, c.toNat < 128) : ∀ (f pos : Nat), l.length ≤ pos + f → Lib.idxFuncFrom p true (bL l) f pos = (match (l.drop pos).findIdx? (fun c => p c.toNat) with | some j => ((pos + j : Nat) : Int) | none => -1)
  | 0, pos, hl => by
    rw [List.drop_eq_nil_of_le (by omega)]
    rfl
  | f + 1, pos, hl => by
    unfold Lib.idxFuncFrom
    by_cases hp : pos < l.length
    · rw [if_pos (by rw [bL_size]; exact hp)]
      have hb := bL_at l pos (by rw [bL_size]; exact hp)
      have ha : ((bL l)[pos]'(by rw [bL_size]; exact hp)).toNat < 128 := by rw [hb]; exact h _ (List.getElem_mem hp)
      rw [Go.decode_ascii (bL l) pos (by rw [bL_size]; exact hp) ha, hb, List.drop_eq_getElem_cons hp, List.findIdx?_cons]
      cases hc : p l[pos].toNat with
      | true => simp
      | false =>
        simp only [Bool.false_eq_true, if_false]
        rw [idx_is p l h f (pos + 1) (by omega)]
        cases (l.drop (pos + 1)).findIdx? (fun c => p c.toNat) with
        | none => rfl
        | some j => simp only [Option.map_some]; congr 1; omega
    · rw [if_neg (by rw [bL_size]; exact hp), List.drop_eq_nil_of_le (by omega)]
      rfl
theorem idx_all (p : Nat → Bool) (l : List UInt8) (h : ∀ c ∈ l, c.toNat < 128) : Lib.idxFunc p true (bL l) = (match l.findIdx? (fun c => p c.toNat) with | some j => (j : Int) | none => -1) := by
  unfold Lib.idxFunc
  rw [idx_is p l h _ 0 (by rw [bL_size]; omega), List.drop_zero]
  cases l.findIdx? (fun c => p c.toNat) with
  | none => rfl
  | some j => simp
theorem find_pre (p : UInt8 → Bool) : ∀ (pre rest : List UInt8), (∀ c ∈ pre, p c = false) → (pre ++ rest).findIdx? p = (rest.findIdx? p).map (· + pre.length)
  | [], rest, _ => by simp
  | c :: pre, rest, h => by
    rw [List.cons_append, List.findIdx?_cons, h c List.mem_cons_self, find_pre p pre rest (fun x hx => h x (List.mem_cons_of_mem _ hx))]
    cases rest.findIdx? p with
    | none => rfl
    | some j => simp; omega
/-- The first number of a text that is nothing, a number, and something else. -/
theorem tok (pre num post : List UInt8) (v : Int) (hp : ∀ c ∈ pre, c.toNat < 128 ∧ insN c.toNat = false) (hn : ∀ c ∈ num, c.toNat < 128 ∧ insN c.toNat = true) (h0 : num ≠ []) (ha : ∀ c ∈ post, c.toNat < 128) (hq : post = [] ∨ ∃ c r, post = c :: r ∧ insN c.toNat = false) (hv : Lib.parseIntB 64 num = .ok v) : stepN (bL (pre ++ (num ++ post))) = some (v, bL post) := by
  have hall : ∀ c ∈ pre ++ (num ++ post), c.toNat < 128 := by
    intro c hc
    rw [List.mem_append, List.mem_append] at hc
    rcases hc with hc | hc | hc
    · exact (hp c hc).1
    · exact (hn c hc).1
    · exact ha c hc
  have hall2 : ∀ c ∈ num ++ post, c.toNat < 128 := fun c hc => hall c (List.mem_append_right _ hc)
  have e1 : Lib.idxFunc insN true (bL (pre ++ (num ++ post))) = (pre.length : Int) := by
    rw [idx_all _ _ hall, find_pre _ _ _ (fun c hc => (hp c hc).2)]
    match num, h0, hn with
    | d :: num, _, hn =>
      rw [List.cons_append, List.findIdx?_cons, (hn d List.mem_cons_self).2]
      simp
  have e2 : restN (bL (pre ++ (num ++ post))) = bL (num ++ post) := by
    unfold restN fromN
    rw [e1, bL_size, bL_ext, List.take_length]
    simp
  have e3 : toN (bL (num ++ post)) = num.length := by
    unfold toN
    rw [idx_all _ _ hall2, find_pre _ _ _ (fun c hc => by show outN c.toNat = false; unfold outN; rw [(hn c hc).2]; rfl)]
    rcases hq with rfl | ⟨c, r, rfl, hc⟩
    · simp [bL_size]
    · rw [List.findIdx?_cons, show outN c.toNat = true by unfold outN; rw [hc]; rfl]
      simp
  have e4 : numN (bL (pre ++ (num ++ post))) = bL num := by unfold numN; rw [e2, e3, bL_ext]; simp
  have e5 : nextN (bL (pre ++ (num ++ post))) = bL post := by unfold nextN; rw [e2, e3, bL_ext, bL_size, List.take_length]; simp
  unfold stepN
  rw [if_neg (by rw [e1]; omega), e4, bL_list, hv, e5]
theorem no_tok (post : List UInt8) (h : ∀ c ∈ post, c.toNat < 128 ∧ insN c.toNat = false) : stepN (bL post) = none := by
  unfold stepN
  rw [if_pos]
  rw [idx_all _ _ (fun c hc => (h c hc).1)]
  have : post.findIdx? (fun c => insN c.toNat) = none := by
    rw [List.findIdx?_eq_none_iff]
    intro c hc
    exact (h c hc).2
  rw [this]
theorem fold_le : ∀ (l : List UInt8) (acc : Nat), acc ≤ l.foldl (fun a d => a * 10 + (d.toNat - 48)) acc
  | [], acc => Nat.le_refl _
  | d :: l, acc => by
    rw [List.foldl_cons]
    exact Nat.le_trans (by omega) (fold_le l _)
theorem pum : ∀ (l : List UInt8) (acc : Nat), (∀ d ∈ l, 48 ≤ d.toNat ∧ d.toNat ≤ 57) → l.foldl (fun a d => a * 10 + (d.toNat - 48)) acc ≤ 1000000000000 → Lib.parseUintM (2 ^ 64 - 1) acc l = .ok (l.foldl (fun a d => a * 10 + (d.toNat - 48)) acc)
  | [], acc, _, _ => rfl
  | d :: l, acc, h, hb => by
    rw [List.foldl_cons] at hb ⊢
    have h1 := fold_le l (acc * 10 + (d.toNat - 48))
    unfold Lib.parseUintM
    rw [if_pos (h d List.mem_cons_self), if_neg (by omega), if_neg (by omega)]
    exact pum l _ (fun x hx => h x (List.mem_cons_of_mem _ hx)) hb
theorem dec_ne (u : Nat) : Lib.decDigits u ≠ [] := by
  rw [Lib.decDigits]
  split <;> simp
theorem pub (u : Nat) (h : u ≤ 1000000000000) : Lib.parseUintB 64 (Lib.decDigits u) = .ok u := by
  unfold Lib.parseUintB
  rw [if_neg (dec_ne u)]
  have e := digV_dec u
  unfold digV at e
  rw [pum _ 0 (dig_in u) (by rw [e]; exact h), e]
theorem pib_nat (u : Nat) (h : u ≤ 1000000000000) : Lib.parseIntB 64 (Lib.decDigits u) = .ok (u : Int) := by
  have hb := pub u h
  match hl : Lib.decDigits u with
  | [] => exact absurd hl (dec_ne u)
  | c :: r =>
    have hc := dig_in u c (by rw [hl]; exact List.mem_cons_self)
    rw [Lib.parseIntB_plain 64 c r (by omega) (by omega), ← hl, hb]
    show (if 2 ^ (64 - 1) ≤ u then Lib.NumEnd.range else Lib.NumEnd.ok (u : Int)) = _
    rw [if_neg (by omega)]
theorem pib_itoa (i : Int) (h : -1000000000000 ≤ i ∧ i ≤ 1000000000000) : Lib.parseIntB 64 (Lib.itoa i) = .ok i := by
  unfold Lib.itoa
  split
  · rw [Lib.parseIntB_minus, pub _ (by omega)]
    show (if 2 ^ (64 - 1) < i.natAbs then Lib.NumEnd.range else Lib.NumEnd.ok (-(i.natAbs : Int))) = _
    rw [if_neg (by omega)]
    congr 1
    omega
  · rw [pib_nat _ (by omega)]
    congr 1
    omega
theorem ins_dig (u : Nat) : ∀ c ∈ Lib.decDigits u, c.toNat < 128 ∧ insN c.toNat = true := by
  intro c hc
  have := dig_in u c hc
  refine ⟨by omega, ?_⟩
  unfold insN
  rw [decide_eq_true (this.1), decide_eq_true (this.2)]
  simp
theorem ins_itoa (i : Int) : ∀ c ∈ Lib.itoa i, c.toNat < 128 ∧ insN c.toNat = true := by
  intro c hc
  rcases itoa_in i c hc with h | h
  · refine ⟨by omega, ?_⟩
    unfold insN
    rw [decide_eq_true h]; rfl
  · refine ⟨by omega, ?_⟩
    unfold insN
    rw [decide_eq_true (h.1), decide_eq_true (h.2)]
    simp
theorem itoa_ne (i : Int) : Lib.itoa i ≠ [] := by
  unfold Lib.itoa
  split
  · simp
  · exact dec_ne _
end Go.Proofs.YthcfobefpknjeaaDoor.P
namespace Go.Proofs.YthcfobefpknjeaaDoor.P
open Go.RowKit
def namP (name : ByteArray) : Nat × Int := match (List.range 88).find? (fun k => decide (1 ≤ k) && (namAt name k).isSome) with
  | none => (0, 0)
  | some k => (k, (namAt name k).getD 0)
theorem find_first {p : Nat → Bool} : ∀ (n : Nat), ((List.range n).find? p = none ∧ ∀ j, j < n → p j = false) ∨ ∃ k, (List.range n).find? p = some k ∧ k < n ∧ p k = true ∧ ∀ j, j < k → p j = false
  | 0 => .inl ⟨rfl, fun j h => absurd h (Nat.not_lt_zero _)⟩
  | n + 1 => by
    rw [List.range_succ, List.find?_append]
    rcases find_first (p := p) n with ⟨h, hn⟩ | ⟨k, h, hk, hp, hl⟩
    · rw [h, Option.none_or]
      cases hp : p n with
      | false =>
        refine .inl ⟨by simp [List.find?, hp], fun j hj => ?_⟩
        by_cases e : j = n
        · rw [e]; exact hp
        · exact hn j (by omega)
      | true => exact .inr ⟨n, by simp [List.find?, hp], by omega, hp, hn⟩
    · rw [h]
      exact .inr ⟨k, rfl, by omega, hp, hl⟩
theorem namP_cases (name : ByteArray) : (namP name = (0, 0) ∧ ∀ j, 1 ≤ j → j < 88 → namAt name j = none) ∨ (∃ k i, namP name = (k, i) ∧ 1 ≤ k ∧ k < 88 ∧ namAt name k = some i ∧ ∀ j, 1 ≤ j → j < k → namAt name j = none) := by
  have nn : ∀ j, 1 ≤ j → (decide (1 ≤ j) && (namAt name j).isSome) = false → namAt name j = none := by
    intro j h1 h
    rw [decide_eq_true h1, Bool.true_and] at h
    cases e : namAt name j with
    | none => rfl
    | some v => rw [e] at h; cases h
  unfold namP
  rcases find_first (p := fun k => decide (1 ≤ k) && (namAt name k).isSome) 88 with ⟨h, hn⟩ | ⟨k, h, hk, hp, hl⟩
  · rw [h]
    exact .inl ⟨rfl, fun j h1 h2 => nn j h1 (hn j h2)⟩
  · rw [h]
    rw [Bool.and_eq_true, decide_eq_true_eq] at hp
    obtain ⟨v, hv⟩ := Option.isSome_iff_exists.1 hp.2
    exact .inr ⟨k, v, by simp only [hv, Option.getD_some], hp.1, hk, hv, fun j h1 h2 => nn j h1 (hl j h2)⟩
theorem c_named2 (name : ByteArray) (hl : name.size ≤ 100) (w : World) (hF : FT w) : Calls Tryd.prog 53 #[.string name] w fun e w' => e = .returned (iv ((namP name).1 : Int) 0 0 0 (namP name).2) ∧ Gr w w' := by
  rcases namP_cases name with ⟨e, hn⟩ | ⟨k, i, e, h1, h2, hv, hn⟩
  · rw [e]
    exact c_named_to name hl 88 (by decide) (Nat.le_refl _) hn 0 _ (.inl ⟨rfl, rfl⟩) w hF
  · rw [e]
    exact c_named_to name hl k h1 (by omega) hn i _ (.inr ⟨h2, hv, rfl⟩) w hF
def guessI (k : Nat) (im v0 v1 v2 : Int) : Int × Int × Int × Int :=
  if fmT k = 85 ∨ fmT k = 74 then (v0, 0, 0, v1) else
  if fmT k = 66 then (0, v0, v1, v2) else
  if fmT k = 83 then (0, v2, v0, v1) else
  if fmT k = 82 then (v0, v1, v2, im) else
  if fmT k = 65 then (bif resB k then (v0, v1, 0, im) else (v0, v2, v1, im)) else
  if fmT k = 78 then (0, 0, 0, im) else
  bif loadB k then (v0, v2, 0, v1) else (v0, v1, 0, v2)
structure Ins where
  op : Int
  rd : Int
  a : Int
  b : Int
  i : Int
def Ins.v (x : Ins) : Value := iv x.op x.rd x.a x.b x.i
def headT (s : ByteArray) : ByteArray := ⟨(Lib.cut s.data.toList [32]).1.toArray⟩
def tailT (s : ByteArray) : ByteArray := ⟨(Lib.cut s.data.toList [32]).2.1.toArray⟩
def guessT (s : ByteArray) : Ins :=
  if (namP (headT s)).1 = 0 then ⟨0, 0, 0, 0, 0⟩ else
  let g := guessI (namP (headT s)).1 (namP (headT s)).2 (numsF (tailT s)).1 (numsF (tailT s)).2.1 (numsF (tailT s)).2.2
  ⟨(namP (headT s)).1, g.1, g.2.1, g.2.2.1, g.2.2.2⟩
theorem cut_sizes (s : ByteArray) : (headT s).size ≤ s.size ∧ (tailT s).size ≤ s.size := by
  have e : s.data.toList.length = s.size := by simp
  unfold headT tailT Lib.cut
  split
  · refine ⟨?_, ?_⟩
    · show ((s.data.toList.take _).toArray).size ≤ _
      simp only [List.size_toArray, List.length_take]; omega
    · show ((s.data.toList.drop _).toArray).size ≤ _
      simp only [List.size_toArray, List.length_drop]; omega
  · refine ⟨?_, Nat.zero_le _⟩
    show (s.data.toList.toArray).size ≤ _
    simp only [List.size_toArray]; omega
theorem ld_no : ∀ k : Nat, k < 88 → (fmT k = 72 ∨ fmT k = 86) → loadB k = false := by decide +kernel
theorem c_guess (s : ByteArray) (hl : s.size ≤ 100) (w : World) (hF : FT w) (hM : ML w) (hE : EV w) : Calls Tryd.prog 41 #[.string s] w fun e w' => e = .returned (guessT s).v ∧ Gr w w' := by
  obtain ⟨z1, z2⟩ := cut_sizes s
  have hc : Lib.cut s.data.toList [32] = ((headT s).data.toList, (tailT s).data.toList, (Lib.cut s.data.toList [32]).2.2) := rfl
  have CN := fun w1 (g : Gr w w1) => c_named2 (headT s) (by omega) w1 (hF.gr g)
  have CU := fun w1 (g : Gr w w1) => c_nums (tailT s) (by omega) w1 (hE.gr g)
  unfold guessT
  generalize (Lib.cut s.data.toList [32]).2.2 = f at hc
  generalize (numsF (tailT s)).1 = v0 at *
  generalize (numsF (tailT s)).2.1 = v1 at *
  generalize (numsF (tailT s)).2.2 = v2 at *
  rcases namP_cases (headT s) with ⟨e, hn⟩ | ⟨k, im, e, h1, hk, hv, hn⟩
  · rw [e] at CN ⊢
    rw [if_pos rfl]
    exact c_gue_none s _ _ f hl hc w hF hM CN
  · rw [e] at CN ⊢
    rw [if_neg (by show ¬ k = 0; omega)]
    show Calls _ _ _ _ fun e w' => e = .returned (iv (k : Int) (guessI k im v0 v1 v2).1 (guessI k im v0 v1 v2).2.1 (guessI k im v0 v1 v2).2.2.1 (guessI k im v0 v1 v2).2.2.2) ∧ Gr w w'
    rcases fm_cases k hk h1 with hf | hf | hf | hf | hf | hf | hf | hf | hf | hf
    · rw [show guessI k im v0 v1 v2 = (v0, 0, 0, v1) by unfold guessI; rw [hf]; rfl]
      exact c_gue_85 k hk h1 hf s _ _ f hl hc im v0 v1 v2 w hF hM CN CU
    · rw [show guessI k im v0 v1 v2 = (v0, 0, 0, v1) by unfold guessI; rw [hf]; rfl]
      exact c_gue_74 k hk h1 hf s _ _ f hl hc im v0 v1 v2 w hF hM CN CU
    · cases hd : loadB k with
      | false =>
        rw [show guessI k im v0 v1 v2 = (v0, v1, 0, v2) by unfold guessI; rw [hf, hd]; rfl]
        exact c_gue_73n k hk h1 hf s _ _ f hl hc im v0 v1 v2 w hF hM CN hd CU
      | true =>
        rw [show guessI k im v0 v1 v2 = (v0, v2, 0, v1) by unfold guessI; rw [hf, hd]; rfl]
        exact c_gue_73y k hk h1 hf s _ _ f hl hc im v0 v1 v2 w hF hM CN hd CU
    · rw [show guessI k im v0 v1 v2 = (0, v0, v1, v2) by unfold guessI; rw [hf]; rfl]
      exact c_gue_66 k hk h1 hf s _ _ f hl hc im v0 v1 v2 w hF hM CN CU
    · rw [show guessI k im v0 v1 v2 = (0, v2, v0, v1) by unfold guessI; rw [hf]; rfl]
      exact c_gue_83 k hk h1 hf s _ _ f hl hc im v0 v1 v2 w hF hM CN CU
    · have hd := ld_no k hk (.inl hf)
      rw [show guessI k im v0 v1 v2 = (v0, v1, 0, v2) by unfold guessI; rw [hf, hd]; rfl]
      exact c_gue_72n k hk h1 hf s _ _ f hl hc im v0 v1 v2 w hF hM CN hd CU
    · have hd := ld_no k hk (.inr hf)
      rw [show guessI k im v0 v1 v2 = (v0, v1, 0, v2) by unfold guessI; rw [hf, hd]; rfl]
      exact c_gue_86n k hk h1 hf s _ _ f hl hc im v0 v1 v2 w hF hM CN hd CU
    · rw [show guessI k im v0 v1 v2 = (v0, v1, v2, im) by unfold guessI; rw [hf]; rfl]
      exact c_gue_82 k hk h1 hf s _ _ f hl hc im v0 v1 v2 w hF hM CN CU
    · cases hd : resB k with
      | false =>
        rw [show guessI k im v0 v1 v2 = (v0, v2, v1, im) by unfold guessI; rw [hf, hd]; rfl]
        exact c_gue_65n k hk h1 hf s _ _ f hl hc im v0 v1 v2 w hF hM CN hd CU
      | true =>
        rw [show guessI k im v0 v1 v2 = (v0, v1, 0, im) by unfold guessI; rw [hf, hd]; rfl]
        exact c_gue_65y k hk h1 hf s _ _ f hl hc im v0 v1 v2 w hF hM CN hd CU
    · rw [show guessI k im v0 v1 v2 = (0, 0, 0, im) by unfold guessI; rw [hf]; rfl]
      exact c_gue_78 k hk h1 hf s _ _ f hl hc im v0 v1 v2 w hF hM CN CU
end Go.Proofs.YthcfobefpknjeaaDoor.P
namespace Go.Proofs.YthcfobefpknjeaaDoor.P
open Go.RowKit
theorem ix_hit : ∀ (n r : List UInt8), (32 : UInt8) ∉ n → Lib.index (n ++ 32 :: r) [32] = (n.length : Int)
  | [], r, _ => by
    show Lib.index (32 :: r) [32] = 0
    unfold Lib.index
    rw [if_pos (by simp [List.isPrefixOf])]
  | c :: n, r, h => by
    have hc : ¬ (32 : UInt8) = c := fun e => h (by rw [e]; exact List.mem_cons_self)
    have ih := ix_hit n r (fun m => h (List.mem_cons_of_mem _ m))
    show Lib.index (c :: (n ++ 32 :: r)) [32] = _
    unfold Lib.index
    rw [if_neg (by simp [List.isPrefixOf, hc]), ih, if_neg (by simp)]
    simp
theorem ix_none : ∀ (n : List UInt8), (32 : UInt8) ∉ n → Lib.index n [32] = -1
  | [], _ => by rfl
  | c :: n, h => by
    have hc : ¬ (32 : UInt8) = c := fun e => h (by rw [e]; exact List.mem_cons_self)
    have ih := ix_none n (fun m => h (List.mem_cons_of_mem _ m))
    unfold Lib.index
    rw [if_neg (by simp [List.isPrefixOf, hc]), ih, if_pos (by rfl)]
theorem cut_hit (n r : List UInt8) (h : (32 : UInt8) ∉ n) : headT (bL (n ++ 32 :: r)) = bL n ∧ tailT (bL (n ++ 32 :: r)) = bL r := by
  unfold headT tailT Lib.cut
  rw [bL_list, ix_hit n r h, if_pos (by omega)]
  simp [bL]
theorem cut_none (n : List UInt8) (h : (32 : UInt8) ∉ n) : headT (bL n) = bL n ∧ tailT (bL n) = bL [] := by
  unfold headT tailT Lib.cut
  rw [bL_list, ix_none n h, if_neg (by omega)]
  simp [bL]
theorem nam_list {name : ByteArray} {k : Nat} {i : Int} (hk : k < 88) (h1 : 1 ≤ k) (h : namAt name k = some i) : ∃ n : Nat, i = (n : Int) ∧ n < 4 ∧ okE k n = true ∧ name.data.toList = nmE k n := by
  rcases nam_some h with ⟨rfl, hn⟩ | ⟨_, hf, n, rfl, n1, n2, hn, _⟩
  · refine ⟨0, rfl, by decide, ?_, by rw [nmE_0, hn]⟩
    unfold okE; rw [decide_eq_true h1]; rfl
  · refine ⟨n, rfl, n2, ?_, ?_⟩
    · unfold okE; rw [decide_eq_true h1, decide_eq_true hf, Bool.or_true, Bool.and_true]
    · rw [hn]; unfold nmE; simp [ByteArray.data_append]
theorem namP_is {k e : Nat} (hk : k < 88) (h1 : 1 ≤ k) (he : e < 4) (ok : okE k e = true) : namP (bL (nmE k e)) = (k, (e : Int)) := by
  rcases namP_cases (bL (nmE k e)) with ⟨_, hn⟩ | ⟨j, i, hp, j1, j88, hv, _⟩
  · exfalso
    obtain ⟨a, b⟩ := nam_none (hn k h1 hk)
    by_cases h0 : e = 0
    · subst h0
      exact a (by rw [nmE_0, bL_of])
    · have hf : fmT k = 65 := by
        unfold okE at ok
        rw [decide_eq_false h0, Bool.false_or, Bool.and_eq_true, decide_eq_true_eq, decide_eq_true_eq] at ok
        exact ok.2
      refine b hf e (by omega) he ?_
      apply ByteArray.ext
      apply Array.ext'
      rw [bL_list]
      unfold nmE
      simp [ByteArray.data_append]
  · obtain ⟨n, rfl, n4, okn, hl⟩ := nam_list j88 j1 hv
    rw [bL_list] at hl
    obtain ⟨rfl, rfl⟩ := nmE_inj hk j88 he n4 ok okn hl
    exact hp
def Sep (p : List UInt8) : Prop := ∀ c ∈ p, c.toNat < 128 ∧ insN c.toNat = false
def Num (n : List UInt8) (v : Int) : Prop := (∀ c ∈ n, c.toNat < 128 ∧ insN c.toNat = true) ∧ n ≠ [] ∧ Lib.parseIntB 64 n = .ok v
theorem num_dec (u : Nat) (h : u < 32) : Num (Lib.decDigits u) (u : Int) := ⟨ins_dig u, dec_ne u, pib_nat u (by omega)⟩
theorem num_itoa (i : Int) (h : -1000000000000 ≤ i ∧ i ≤ 1000000000000) : Num (Lib.itoa i) i := ⟨ins_itoa i, itoa_ne i, pib_itoa i h⟩
theorem tok2 {p n : List UInt8} {v : Int} (hp : Sep p) (hn : Num n v) (q : List UInt8) (ha : ∀ c ∈ q, c.toNat < 128) (hq : q = [] ∨ ∃ c r, q = c :: r ∧ insN c.toNat = false) : stepN (bL (p ++ (n ++ q))) = some (v, bL q) :=
  tok p n q v hp hn.1 hn.2.1 ha hq hn.2.2
theorem asc_app {x y : List UInt8} (hx : ∀ c ∈ x, c.toNat < 128) (hy : ∀ c ∈ y, c.toNat < 128) : ∀ c ∈ x ++ y, c.toNat < 128 := by
  intro c hc
  rw [List.mem_append] at hc
  rcases hc with h | h
  · exact hx c h
  · exact hy c h
theorem nums3 {p0 n0 p1 n1 p2 n2 q : List UInt8} {v0 v1 v2 : Int} (h0 : Sep p0) (m0 : Num n0 v0) (h1 : Sep p1) (e1 : p1 ≠ []) (m1 : Num n1 v1) (h2 : Sep p2) (e2 : p2 ≠ []) (m2 : Num n2 v2) (hq : Sep q) : numsF (bL (p0 ++ (n0 ++ (p1 ++ (n1 ++ (p2 ++ (n2 ++ q))))))) = (v0, v1, v2) := by
  have a : ∀ {p : List UInt8}, Sep p → ∀ c ∈ p, c.toNat < 128 := fun h c hc => (h c hc).1
  have b : ∀ {n : List UInt8} {v : Int}, Num n v → ∀ c ∈ n, c.toNat < 128 := fun h c hc => (h.1 c hc).1
  have hd : ∀ {p : List UInt8} (r : List UInt8), Sep p → p ≠ [] → (p ++ r = [] ∨ ∃ c t, p ++ r = c :: t ∧ insN c.toNat = false) := by
    intro p r hp he
    match p, he, hp with
    | c :: p, _, hp => exact .inr ⟨c, p ++ r, rfl, (hp c List.mem_cons_self).2⟩
  have t2 : q = [] ∨ ∃ c r, q = c :: r ∧ insN c.toNat = false := by
    match q, hq with
    | [], _ => exact .inl rfl
    | c :: q, hq => exact .inr ⟨c, q, rfl, (hq c List.mem_cons_self).2⟩
  unfold numsF
  rw [tok2 h0 m0 _ (asc_app (a h1) (asc_app (b m1) (asc_app (a h2) (asc_app (b m2) (a hq))))) (hd _ h1 e1)]
  simp only
  rw [tok2 h1 m1 _ (asc_app (a h2) (asc_app (b m2) (a hq))) (hd _ h2 e2)]
  simp only
  rw [tok2 h2 m2 _ (a hq) t2]
theorem nums2 {p0 n0 p1 n1 q : List UInt8} {v0 v1 : Int} (h0 : Sep p0) (m0 : Num n0 v0) (h1 : Sep p1) (e1 : p1 ≠ []) (m1 : Num n1 v1) (hq : Sep q) : numsF (bL (p0 ++ (n0 ++ (p1 ++ (n1 ++ q))))) = (v0, v1, 0) := by
  have a : ∀ {p : List UInt8}, Sep p → ∀ c ∈ p, c.toNat < 128 := fun h c hc => (h c hc).1
  have b : ∀ {n : List UInt8} {v : Int}, Num n v → ∀ c ∈ n, c.toNat < 128 := fun h c hc => (h.1 c hc).1
  have hd : ∀ {p : List UInt8} (r : List UInt8), Sep p → p ≠ [] → (p ++ r = [] ∨ ∃ c t, p ++ r = c :: t ∧ insN c.toNat = false) := by
    intro p r hp he
    match p, he, hp with
    | c :: p, _, hp => exact .inr ⟨c, p ++ r, rfl, (hp c List.mem_cons_self).2⟩
  have t2 : q = [] ∨ ∃ c r, q = c :: r ∧ insN c.toNat = false := by
    match q, hq with
    | [], _ => exact .inl rfl
    | c :: q, hq => exact .inr ⟨c, q, rfl, (hq c List.mem_cons_self).2⟩
  unfold numsF
  rw [tok2 h0 m0 _ (asc_app (a h1) (asc_app (b m1) (a hq))) (hd _ h1 e1)]
  simp only
  rw [tok2 h1 m1 _ (a hq) t2]
  simp only
  rw [no_tok q hq]
theorem sep_of {p : List UInt8} (h : (p.all fun c => decide (c.toNat < 128) && !insN c.toNat) = true) : Sep p := by
  intro c hc
  have := List.all_eq_true.1 h c hc
  rw [Bool.and_eq_true, decide_eq_true_eq] at this
  exact ⟨this.1, by simpa using this.2⟩
theorem imm_small (k : Nat) (hk : k < 88) (h1 : 1 ≤ k) (rd a b i : Int) (hm : mayF (k : Int) rd a b i = true) : -1000000000000 ≤ i ∧ i ≤ 1000000000000 := by
  rw [may_in hk h1] at hm
  generalize resB k = q at *
  rcases fm_cases k hk h1 with hv | hv | hv | hv | hv | hv | hv | hv | hv | hv
  all_goals
    rw [hv] at hm
    simp only [mayR, mayI, fitsB, oneB, Int.reduceEq, if_false, if_true, Bool.and_eq_true, Bool.or_eq_true, decide_eq_true_eq, Bool.true_and, Bool.false_and, Bool.and_true, Bool.not_true, Bool.not_false, Bool.false_or, Bool.true_or, Bool.or_false, Bool.false_eq_true, or_false, false_and, true_and, and_true, reduceCtorEq] at hm
    omega
def tailL (k rd a b : Nat) (i : Int) : List UInt8 := (argL k rd a b i).drop 1
theorem guess_nums (k : Nat) (hk : k < 88) (h1 : 1 ≤ k) (rd a b : Nat) (i : Int) (hm : mayF (k : Int) rd a b i = true) (hrd : rd < 32) (ha : a < 32) (hb : b < 32) : guessI k (eF k i : Int) (numsF (bL (tailL k rd a b i))).1 (numsF (bL (tailL k rd a b i))).2.1 (numsF (bL (tailL k rd a b i))).2.2 = ((rd : Int), (a : Int), (b : Int), i) := by
  have m := may_fields k hk h1 _ _ _ _ hm
  have hs := imm_small k hk h1 _ _ _ _ hm
  clear hm
  have N1 := num_dec rd hrd
  have N2 := num_dec a ha
  have N3 := num_dec b hb
  have N4 := num_itoa i hs
  have s1 : Sep [120] := sep_of rfl
  have s2 : Sep [44, 32] := sep_of rfl
  have s3 : Sep [44, 32, 120] := sep_of rfl
  have s4 : Sep [44, 32, 40, 120] := sep_of rfl
  have s5 : Sep [40, 120] := sep_of rfl
  have s6 : Sep [41] := sep_of rfl
  have s0 : Sep [] := sep_of rfl
  unfold tailL argL guessI eF D
  rcases fm_cases k hk h1 with hv | hv | hv | hv | hv | hv | hv | hv | hv | hv
  all_goals
    rw [hv] at m ⊢
    simp only [Int.reduceEq, or_false, false_or, or_true, true_or, if_false, if_true, false_implies, true_implies, true_and, and_true] at m ⊢
  · have e := nums2 s1 N1 s2 (by simp) N4 s0
    simp only [List.append_nil, List.cons_append, List.nil_append, List.drop_succ_cons, List.drop_zero, List.append_assoc] at e ⊢
    rw [e, m.1, m.2]
  · have e := nums2 s1 N1 s2 (by simp) N4 s0
    simp only [List.append_nil, List.cons_append, List.nil_append, List.drop_succ_cons, List.drop_zero, List.append_assoc] at e ⊢
    rw [e, m.1, m.2]
  · cases hl : loadB k with
    | false =>
      have e := nums3 s1 N1 s3 (by simp) N2 s2 (by simp) N4 s0
      simp only [cond_false, List.append_nil, List.cons_append, List.nil_append, List.drop_succ_cons, List.drop_zero, List.append_assoc] at e ⊢
      rw [e, m]
    | true =>
      have e := nums3 s1 N1 s2 (by simp) N4 s5 (by simp) N2 s6
      simp only [cond_true, List.append_nil, List.cons_append, List.nil_append, List.drop_succ_cons, List.drop_zero, List.append_assoc] at e ⊢
      rw [e, m]
  · have e := nums3 s1 N2 s3 (by simp) N3 s2 (by simp) N4 s0
    simp only [List.append_nil, List.cons_append, List.nil_append, List.drop_succ_cons, List.drop_zero, List.append_assoc] at e ⊢
    rw [e, m]
  · have e := nums3 s1 N3 s2 (by simp) N4 s5 (by simp) N2 s6
    simp only [List.append_nil, List.cons_append, List.nil_append, List.drop_succ_cons, List.drop_zero, List.append_assoc] at e ⊢
    rw [e, m]
  · cases hl : loadB k with
    | false =>
      have e := nums3 s1 N1 s3 (by simp) N2 s2 (by simp) N4 s0
      simp only [cond_false, List.append_nil, List.cons_append, List.nil_append, List.drop_succ_cons, List.drop_zero, List.append_assoc] at e ⊢
      rw [e, m]
    | true => rw [ld_no k hk (.inl hv)] at hl; cases hl
  · cases hl : loadB k with
    | false =>
      have e := nums3 s1 N1 s3 (by simp) N2 s2 (by simp) N4 s0
      simp only [cond_false, List.append_nil, List.cons_append, List.nil_append, List.drop_succ_cons, List.drop_zero, List.append_assoc] at e ⊢
      rw [e, m]
    | true => rw [ld_no k hk (.inr hv)] at hl; cases hl
  · have e := nums3 s1 N1 s3 (by simp) N2 s3 (by simp) N3 s0
    simp only [List.append_nil, List.cons_append, List.nil_append, List.drop_succ_cons, List.drop_zero, List.append_assoc] at e ⊢
    rw [e, m]
    rfl
  · have hi : ((i.toNat : Nat) : Int) = i := Int.toNat_of_nonneg m.1
    cases hl : resB k with
    | false =>
      have e := nums3 s1 N1 s3 (by simp) N3 s4 (by simp) N2 s6
      simp only [cond_false, List.append_nil, List.cons_append, List.nil_append, List.drop_succ_cons, List.drop_zero, List.append_assoc] at e ⊢
      rw [e, hi]
    | true =>
      have e := nums2 s1 N1 s4 (by simp) N2 s6
      simp only [cond_true, List.append_nil, List.cons_append, List.nil_append, List.drop_succ_cons, List.drop_zero, List.append_assoc] at e ⊢
      rw [e, hi, m.2.2 hl]
  · rw [m.1, m.2.1, m.2.2.1, m.2.2.2]
    rfl
end Go.Proofs.YthcfobefpknjeaaDoor.P
namespace Go.Proofs.YthcfobefpknjeaaDoor.P
open Go.RowKit
theorem step_i64 {s s' : ByteArray} {v : Int} (h : stepN s = some (v, s')) : i64 v := by
  unfold stepN at h
  by_cases hi : Lib.idxFunc insN true s = -1
  · rw [if_pos hi] at h; cases h
  · rw [if_neg hi] at h
    cases hp : Lib.parseIntB 64 (numN s).data.toList with
    | ok u =>
      rw [hp] at h
      injection h with h
      injection h with h1 h2
      subst h1
      have := Lib.parseIntB_bounds hp
      unfold i64
      omega
    | «syntax» => rw [hp] at h; cases h
    | range => rw [hp] at h; cases h
theorem z_i64 : i64 0 := by unfold i64; omega
theorem nums_i64 (s : ByteArray) : i64 (numsF s).1 ∧ i64 (numsF s).2.1 ∧ i64 (numsF s).2.2 := by
  unfold numsF
  cases h0 : stepN s with
  | none => exact ⟨z_i64, z_i64, z_i64⟩
  | some p0 =>
    obtain ⟨v0, s1⟩ := p0
    cases h1 : stepN s1 with
    | none => simp only [h1]; exact ⟨step_i64 h0, z_i64, z_i64⟩
    | some p1 =>
      obtain ⟨v1, s2⟩ := p1
      cases h2 : stepN s2 with
      | none => simp only [h1, h2]; exact ⟨step_i64 h0, step_i64 h1, z_i64⟩
      | some p2 =>
        obtain ⟨v2, s3⟩ := p2
        simp only [h1, h2]
        exact ⟨step_i64 h0, step_i64 h1, step_i64 h2⟩
theorem namP_i64 (name : ByteArray) : i64 (namP name).2 := by
  rcases namP_cases name with ⟨e, _⟩ | ⟨k, i, e, h1, h2, hv, _⟩
  · rw [e]; exact z_i64
  · rw [e]
    obtain ⟨n, rfl, n4, _, _⟩ := nam_list h2 h1 hv
    show i64 (n : Int)
    unfold i64
    omega
theorem guess_i64 (s : ByteArray) : i64 (guessT s).i := by
  unfold guessT
  obtain ⟨a, b, c⟩ := nums_i64 (tailT s)
  have d := namP_i64 (headT s)
  generalize (numsF (tailT s)).1 = v0 at *
  generalize (numsF (tailT s)).2.1 = v1 at *
  generalize (numsF (tailT s)).2.2 = v2 at *
  generalize (namP (headT s)).2 = im at *
  generalize (namP (headT s)).1 = k at *
  split
  · exact z_i64
  · show i64 (guessI k im v0 v1 v2).2.2.2
    unfold guessI
    cases resB k <;> cases loadB k
    all_goals
      repeat' split
    all_goals first | assumption
def parB (s : ByteArray) : Bool := decide (s.size ≤ 64) && (mayF (guessT s).op (guessT s).rd (guessT s).a (guessT s).b (guessT s).i && decide (textV (guessT s).op (guessT s).rd (guessT s).a (guessT s).b (guessT s).i = s))
def parX (s : ByteArray) : Ins := bif parB s then guessT s else ⟨0, 0, 0, 0, 0⟩
def parE (s : ByteArray) : Int := bif parB s then 0 else 2
theorem c_parse (s : ByteArray) (w : World) (hF : FT w) (hM : ML w) (hE : EV w) (hT : TBw w) : Calls Tryd.prog 19 #[.string s] w fun e w' => e = .returned (.tuple #[(parX s).v, .int .i64 (parE s)]) ∧ Gr w w' := by
  have hi := guess_i64 s
  have CG := fun (hl : s.size ≤ 64) w1 (g : Gr w w1) => c_guess s (by omega) w1 (hF.gr g) (hM.gr g) (hE.gr g)
  have CT := fun w1 (g : Gr w w1) => c_text (guessT s).op (guessT s).rd (guessT s).a (guessT s).b (guessT s).i hi w1 (hF.gr g) (hT.gr g)
  unfold parX parE parB
  by_cases hl : s.size ≤ 64
  · rw [decide_eq_true hl, Bool.true_and]
    cases hm : mayF (guessT s).op (guessT s).rd (guessT s).a (guessT s).b (guessT s).i with
    | false =>
      rw [Bool.false_and]
      exact c_parse_bad s _ _ (by unfold encE; rw [hm]; rfl) hl _ _ _ _ _ w (CG hl) CT
    | true =>
      by_cases ht : textV (guessT s).op (guessT s).rd (guessT s).a (guessT s).b (guessT s).i = s
      · rw [decide_eq_true ht, Bool.true_and, cond_true, cond_true]
        refine c_parse_yes s hl _ _ _ _ _ w (CG hl) ?_
        intro w1 g
        have := CT w1 g
        rw [ht] at this
        unfold encE at this
        rw [hm] at this
        exact this
      · rw [decide_eq_false ht, Bool.true_and]
        exact c_parse_other s _ _ (by unfold encE; rw [hm]; rfl) ht hl _ _ _ _ _ w (CG hl) CT
  · rw [decide_eq_false hl, Bool.false_and]
    exact c_parse_long s hl w
theorem D_len (n : Nat) (h : n < 32) : (D n).length ≤ 3 := by
  have := dig_len n h
  unfold D
  rw [List.length_cons]
  omega
theorem nmE_len : ∀ k : Nat, k < 88 → ∀ e : Nat, e < 4 → (nmE k e).length ≤ 20 := by decide +kernel
theorem text_len (k : Nat) (hk : k < 88) (h1 : 1 ≤ k) (rd a b : Nat) (i : Int) (hm : mayF (k : Int) rd a b i = true) (hrd : rd < 32) (ha : a < 32) (hb : b < 32) (hi : i64 i) : (textL k rd a b i).length ≤ 64 := by
  have m := (may_fields k hk h1 _ _ _ _ hm).2.2.2.2.1
  have l0 := nmE_len k hk _ (eF_in k i (fun e => ⟨(m e).1, (m e).2.1⟩))
  have l1 := D_len rd hrd
  have l2 := D_len a ha
  have l3 := D_len b hb
  have l4 := Lib.itoa_length_le i hi.1 hi.2
  unfold textL argL
  rw [List.length_append]
  cases resB k <;> cases loadB k
  all_goals
    repeat' split
  all_goals
    simp only [cond_true, cond_false, List.length_cons, List.length_append, List.length_nil]
    omega
/-- The text that was written is read as the instruction. -/
theorem guess_back (k : Nat) (hk : k < 88) (h1 : 1 ≤ k) (rd a b : Nat) (i : Int) (hm : mayF (k : Int) rd a b i = true) (hrd : rd < 32) (ha : a < 32) (hb : b < 32) : guessT (textB k rd a b i) = ⟨(k : Int), (rd : Int), (a : Int), (b : Int), i⟩ := by
  have m := (may_fields k hk h1 _ _ _ _ hm).2.2.2.2.1
  have b1 := eF_in k i (fun e => ⟨(m e).1, (m e).2.1⟩)
  have n32 := nmE_32 k hk _ b1
  have hh : headT (textB k rd a b i) = bL (nmE k (eF k i)) ∧ tailT (textB k rd a b i) = bL (tailL k rd a b i) := by
    show headT (bL (textL k rd a b i)) = _ ∧ tailT (bL (textL k rd a b i)) = _
    unfold textL tailL
    rcases argL_shape k rd a b i with h | ⟨r, h⟩
    · rw [h, List.append_nil]; exact cut_none _ n32
    · rw [h]; exact cut_hit _ r n32
  have hg := guess_nums k hk h1 rd a b i hm hrd ha hb
  unfold guessT
  rw [hh.1, hh.2, namP_is hk h1 b1 (okE_eF k h1 i), if_neg (by show ¬ k = 0; omega)]
  simp only
  rw [hg]
theorem par_back (k : Nat) (hk : k < 88) (h1 : 1 ≤ k) (rd a b : Nat) (i : Int) (hm : mayF (k : Int) rd a b i = true) (hrd : rd < 32) (ha : a < 32) (hb : b < 32) (hi : i64 i) : parX (textB k rd a b i) = ⟨(k : Int), (rd : Int), (a : Int), (b : Int), i⟩ ∧ parE (textB k rd a b i) = 0 := by
  have hg := guess_back k hk h1 rd a b i hm hrd ha hb
  have hs : (textB k rd a b i).size ≤ 64 := by
    show (bL (textL k rd a b i)).size ≤ 64
    rw [bL_size]
    exact text_len k hk h1 rd a b i hm hrd ha hb hi
  have hp : parB (textB k rd a b i) = true := by
    unfold parB
    rw [hg]
    simp only
    rw [decide_eq_true hs, hm, Bool.true_and, Bool.true_and, decide_eq_true_eq]
    unfold textV
    rw [hm]
    rfl
  unfold parX parE
  rw [hp, hg]
  exact ⟨rfl, rfl⟩
/-- The word that was written is read as the instruction. -/
theorem dec_back (k : Nat) (hk : k < 88) (h1 : 1 ≤ k) (rd a b i : Int) (hm : mayF (k : Int) rd a b i = true) : decV (encF k rd a b i) = iv (k : Int) rd a b i ∧ decE (encF k rd a b i) = 0 ∧ u32 (encF k rd a b i) := by
  obtain ⟨f0, f1, f2, f3, f4⟩ := enc_fit k hk h1 rd a b i hm
  have hmat := enc_mat k hk h1 rd a b i hm
  have hd : decK (encF k rd a b i) = k := by
    rcases decK_cases (encF k rd a b i) with ⟨_, hn⟩ | ⟨g1, g2, g3, _⟩
    · rw [hn k h1 hk] at hmat; cases hmat
    · exact mat_one g2 g1 hk h1 f0 g3 hmat
  unfold decV decE
  rw [hd, if_neg (by omega), if_neg (by omega), f1, f2, f3, f4]
  exact ⟨rfl, rfl, f0⟩
/-- What a word is read as is written as the word. -/
theorem enc_back (x : Int) (hx : u32 x) (h : decE x = 0) : ∃ op rd a b i : Int, decV x = iv op rd a b i ∧ i64 i ∧ encV op rd a b i = x ∧ encE op rd a b i = 0 := by
  unfold decE at h
  unfold decV
  rcases decK_cases x with ⟨h0, _⟩ | ⟨h1, h2, h3, _⟩
  · rw [if_pos h0] at h; cases h
  · rw [if_neg (by omega)]
    have hm := fit_may (decK x) h2 h1 x hx
    have he := fit_enc (decK x) h2 h1 x hx
    rw [h3, beq_iff_eq] at he
    refine ⟨_, _, _, _, _, rfl, fitI_in (decK x) h2 h1 x hx, ?_, ?_⟩
    · unfold encV; rw [hm, Int.toNat_natCast, he]; rfl
    · unfold encE; rw [hm]; rfl
/-- What a text is read as is written as the text. -/
theorem text_back (s : ByteArray) (h : parE s = 0) : i64 (parX s).i ∧ textV (parX s).op (parX s).rd (parX s).a (parX s).b (parX s).i = s ∧ encE (parX s).op (parX s).rd (parX s).a (parX s).b (parX s).i = 0 := by
  unfold parE at h
  unfold parX
  cases hp : parB s with
  | false => rw [hp] at h; cases h
  | true =>
    rw [cond_true]
    unfold parB at hp
    rw [Bool.and_eq_true, Bool.and_eq_true, decide_eq_true_eq, decide_eq_true_eq] at hp
    refine ⟨guess_i64 s, hp.2.2, ?_⟩
    unfold encE
    rw [hp.2.1]
    rfl
theorem parE_or (s : ByteArray) : parE s = 0 ∨ (parE s = 2 ∧ (parX s).v = iv 0 0 0 0 0) := by
  unfold parE parX
  cases parB s
  · exact .inr ⟨rfl, rfl⟩
  · exact .inl rfl
theorem decE_or (x : Int) : decE x = 0 ∨ decE x = 2 := by
  unfold decE
  split
  · exact .inr rfl
  · exact .inl rfl
end Go.Proofs.YthcfobefpknjeaaDoor.P
namespace Go.Proofs.YthcfobefpknjeaaDoor.P
open Go.RowKit
set_option maxHeartbeats 12800000 in
theorem l_back_core (w : World) (op rd a b i ev ee x de pe d0 d1 d2 d3 d4 p0 p1 p2 p3 p4 : Int) (tt s : ByteArray)
    (CS0 : ∀ w1, Gr w w1 → Calls Tryd.prog 10 #[] w1 fun e w' => e = .returned (.bool true) ∧ Gr w1 w')
    (C10 : ∀ w1, Gr w w1 → Calls Tryd.prog 13 #[iv op rd a b i] w1 fun e w' => e = .returned (.tuple #[.int .u32 ev, .int .i64 ee]) ∧ Gr w1 w')
    (C20 : ∀ w1, Gr w w1 → Calls Tryd.prog 17 #[iv op rd a b i] w1 fun e w' => e = .returned (.tuple #[.string tt, .int .i64 ee]) ∧ Gr w1 w')
    (hee : ee = 2 ∨ ee = 0)
    (C30 : ee = 0 → ∀ w1, Gr w w1 → Calls Tryd.prog 15 #[.int .u32 ev] w1 fun e w' => e = .returned (.tuple #[iv op rd a b i, .int .i64 0]) ∧ Gr w1 w')
    (C40 : ee = 0 → ∀ w1, Gr w w1 → Calls Tryd.prog 19 #[.string tt] w1 fun e w' => e = .returned (.tuple #[iv op rd a b i, .int .i64 0]) ∧ Gr w1 w')
    (C50 : ∀ w1, Gr w w1 → Calls Tryd.prog 15 #[.int .u32 x] w1 fun e w' => e = .returned (.tuple #[iv d0 d1 d2 d3 d4, .int .i64 de]) ∧ Gr w1 w')
    (hde : de = 2 ∨ de = 0)
    (C60 : de = 0 → ∀ w1, Gr w w1 → Calls Tryd.prog 13 #[iv d0 d1 d2 d3 d4] w1 fun e w' => e = .returned (.tuple #[.int .u32 x, .int .i64 0]) ∧ Gr w1 w')
    (C70 : ∀ w1, Gr w w1 → Calls Tryd.prog 19 #[.string s] w1 fun e w' => e = .returned (.tuple #[iv p0 p1 p2 p3 p4, .int .i64 pe]) ∧ Gr w1 w')
    (hpe : pe = 2 ∨ pe = 0)
    (C80 : pe = 0 → ∀ w1, Gr w w1 → Calls Tryd.prog 17 #[iv p0 p1 p2 p3 p4] w1 fun e w' => e = .returned (.tuple #[.string s, .int .i64 0]) ∧ Gr w1 w') :
    Calls Tryd.prog 6 #[iv op rd a b i, .int .u32 x, .string s] w fun e w' => e = .returned (.bool true) ∧ Gr w w' := by
  have CS := Lib.hid CS0
  have C1 := Lib.hid C10
  have C2 := Lib.hid C20
  have C3 := Lib.hid C30
  have C4 := Lib.hid C40
  have C5 := Lib.hid C50
  have C6 := Lib.hid C60
  have C7 := Lib.hid C70
  have C8 := Lib.hid C80
  clear CS0 C10 C20 C30 C40 C50 C60 C70 C80
  have HD := Lib.hid hde
  have HP := Lib.hid hpe
  have HE := Lib.hid hee
  clear hde hpe hee
  have es := tl_eq (x := s) (s := s) rfl
  have h1 := blk_new w (.cells #[.int .i64 op, .int .i64 rd, .int .i64 a, .int .i64 b, .int .i64 i] 23)
  have gb := gr_al (Gr.refl w) (.cells #[.int .i64 op, .int .i64 rd, .int .i64 a, .int .i64 b, .int .i64 i] 23)
  go_enter Tryd.func6, Tryd.ntmps6
  go_upto_region 1 with fail
  generalize w.alloc (.cells #[.int .i64 op, .int .i64 rd, .int .i64 a, .int .i64 b, .int .i64 i] 23) = wA at *
  generalize w.heap.size = B at *
  have H := Lib.hid h1
  have G := Lib.hid gb
  clear h1 gb
  go_upto_region 2 with (go_at_call 10; refine (CS.out _ G.out).mono ?_; rintro e w1 ⟨rfl, g⟩)
  have hk := blk_gr g H.out
  have gg := gtrans G.out g
  clear H G g
  have H := Lib.hid hk
  have G := Lib.hid gg
  clear hk gg
  have c0 := blk_cell H.out 0 (v := .int .i64 op) rfl
  have c1 := blk_cell H.out 1 (v := .int .i64 rd) rfl
  have c2 := blk_cell H.out 2 (v := .int .i64 a) rfl
  have c3 := blk_cell H.out 3 (v := .int .i64 b) rfl
  have c4 := blk_cell H.out 4 (v := .int .i64 i) rfl
  go_upto_region 3 with (go_at_call 13; refine (C1.out _ G.out).mono ?_; rintro e w2 ⟨rfl, g⟩)
  have hk := blk_gr g H.out
  have gg := gtrans G.out g
  clear H G g
  have H := Lib.hid hk
  have G := Lib.hid gg
  clear hk gg
  clear c0 c1 c2 c3 c4
  have c0 := blk_cell H.out 0 (v := .int .i64 op) rfl
  have c1 := blk_cell H.out 1 (v := .int .i64 rd) rfl
  have c2 := blk_cell H.out 2 (v := .int .i64 a) rfl
  have c3 := blk_cell H.out 3 (v := .int .i64 b) rfl
  have c4 := blk_cell H.out 4 (v := .int .i64 i) rfl
  go_upto_region 4 with (go_at_call 17; refine (C2.out _ G.out).mono ?_; rintro e w3 ⟨rfl, g⟩)
  have hk := blk_gr g H.out
  have gg := gtrans G.out g
  clear H G g
  have H := Lib.hid hk
  have G := Lib.hid gg
  clear hk gg
  clear c0 c1 c2 c3 c4 CS C1 C2
  have c0 := blk_cell H.out 0 (v := .int .i64 op) rfl
  have c1 := blk_cell H.out 1 (v := .int .i64 rd) rfl
  have c2 := blk_cell H.out 2 (v := .int .i64 a) rfl
  have c3 := blk_cell H.out 3 (v := .int .i64 b) rfl
  have c4 := blk_cell H.out 4 (v := .int .i64 i) rfl
  go_upto_if 39 with fail
  go_cut [] (fun wx => Gr w wx)
  case first =>
    have he := HE.out
    rcases he with rfl | rfl
    · go_wp2_with fail
      go_meet
      exact G.out
    · have C33 := Lib.hid (C3.out rfl)
      have C44 := Lib.hid (C4.out rfl)
      clear C3 C4
      go_upto_region 8 with (go_at_call 15; refine (C33.out _ G.out).mono ?_; rintro e w4 ⟨rfl, g⟩)
      have hk := blk_alloc (.cells #[.int .i64 op, .int .i64 rd, .int .i64 a, .int .i64 b, .int .i64 i] 23) (blk_gr g H.out)
      have hb := blk_new w4 (.cells #[.int .i64 op, .int .i64 rd, .int .i64 a, .int .i64 b, .int .i64 i] 23)
      have gg := gr_al (gtrans G.out g) (.cells #[.int .i64 op, .int .i64 rd, .int .i64 a, .int .i64 b, .int .i64 i] 23)
      clear H G g c0 c1 c2 c3 c4
      generalize w4.alloc (.cells #[.int .i64 op, .int .i64 rd, .int .i64 a, .int .i64 b, .int .i64 i] 23) = wB at *
      generalize w4.heap.size = B1 at *
      have H := Lib.hid hk
      have H1 := Lib.hid hb
      have G := Lib.hid gg
      clear hk hb gg
      go_upto_region 9 with (go_at_call 19; refine (C44.out _ G.out).mono ?_; rintro e w5 ⟨rfl, g⟩)
      have hk := blk_alloc (.cells #[.int .i64 op, .int .i64 rd, .int .i64 a, .int .i64 b, .int .i64 i] 23) (blk_gr g H.out)
      have hk1 := blk_alloc (.cells #[.int .i64 op, .int .i64 rd, .int .i64 a, .int .i64 b, .int .i64 i] 23) (blk_gr g H1.out)
      have hb := blk_new w5 (.cells #[.int .i64 op, .int .i64 rd, .int .i64 a, .int .i64 b, .int .i64 i] 23)
      have gg := gr_al (gtrans G.out g) (.cells #[.int .i64 op, .int .i64 rd, .int .i64 a, .int .i64 b, .int .i64 i] 23)
      clear H H1 G g
      generalize w5.alloc (.cells #[.int .i64 op, .int .i64 rd, .int .i64 a, .int .i64 b, .int .i64 i] 23) = wC at *
      generalize w5.heap.size = B2 at *
      have G := Lib.hid gg
      have c0 := blk_cell hk 0 (v := .int .i64 op) rfl
      have c1 := blk_cell hk 1 (v := .int .i64 rd) rfl
      have c2 := blk_cell hk 2 (v := .int .i64 a) rfl
      have c3 := blk_cell hk 3 (v := .int .i64 b) rfl
      have c4 := blk_cell hk 4 (v := .int .i64 i) rfl
      have q0 := blk_cell hk1 0 (v := .int .i64 op) rfl
      have q1 := blk_cell hk1 1 (v := .int .i64 rd) rfl
      have q2 := blk_cell hk1 2 (v := .int .i64 a) rfl
      have q3 := blk_cell hk1 3 (v := .int .i64 b) rfl
      have q4 := blk_cell hk1 4 (v := .int .i64 i) rfl
      have r0 := blk_cell hb 0 (v := .int .i64 op) rfl
      have r1 := blk_cell hb 1 (v := .int .i64 rd) rfl
      have r2 := blk_cell hb 2 (v := .int .i64 a) rfl
      have r3 := blk_cell hb 3 (v := .int .i64 b) rfl
      have r4 := blk_cell hb 4 (v := .int .i64 i) rfl
      clear hk hk1 hb gg
      go_wp2_with fail
      all_goals
        go_meet
        exact G.out
  case rest =>
    clear G H c0 c1 c2 c3 c4 C3 C4
    have G := Lib.hid hcut
    clear hcut
    go_upto_region 12 with (go_at_call 15; refine (C5.out _ G.out).mono ?_; rintro e w6 ⟨rfl, g⟩)
    have hb := blk_new w6 (.cells #[.int .i64 d0, .int .i64 d1, .int .i64 d2, .int .i64 d3, .int .i64 d4] 23)
    have gg := gr_al (gtrans G.out g) (.cells #[.int .i64 d0, .int .i64 d1, .int .i64 d2, .int .i64 d3, .int .i64 d4] 23)
    clear G g
    generalize w6.alloc (.cells #[.int .i64 d0, .int .i64 d1, .int .i64 d2, .int .i64 d3, .int .i64 d4] 23) = wB at *
    generalize w6.heap.size = B1 at *
    have H := Lib.hid hb
    have G := Lib.hid gg
    have c0 := blk_cell hb 0 (v := .int .i64 d0) rfl
    have c1 := blk_cell hb 1 (v := .int .i64 d1) rfl
    have c2 := blk_cell hb 2 (v := .int .i64 d2) rfl
    have c3 := blk_cell hb 3 (v := .int .i64 d3) rfl
    have c4 := blk_cell hb 4 (v := .int .i64 d4) rfl
    clear hb gg
    go_upto_if 72 with fail
    go_cut [] (fun wx => Gr w wx)
    case first =>
      have he := HD.out
      rcases he with rfl | rfl
      · go_wp2_with fail
        go_meet
        exact G.out
      · have C66 := Lib.hid (C6.out rfl)
        go_wp2_with (go_at_call 13; refine (C66.out _ G.out).mono ?_; rintro e w7 ⟨rfl, g⟩)
        all_goals
          go_meet
          exact gtrans G.out g
    case rest =>
      clear G H c0 c1 c2 c3 c4 C5 C6
      have G := Lib.hid hcut
      clear hcut
      go_upto_region 17 with (go_at_call 19; refine (C7.out _ G.out).mono ?_; rintro e w8 ⟨rfl, g⟩)
      have hb := blk_new w8 (.cells #[.int .i64 p0, .int .i64 p1, .int .i64 p2, .int .i64 p3, .int .i64 p4] 23)
      have gg := gr_al (gtrans G.out g) (.cells #[.int .i64 p0, .int .i64 p1, .int .i64 p2, .int .i64 p3, .int .i64 p4] 23)
      clear G g
      generalize w8.alloc (.cells #[.int .i64 p0, .int .i64 p1, .int .i64 p2, .int .i64 p3, .int .i64 p4] 23) = wD at *
      generalize w8.heap.size = B3 at *
      have G := Lib.hid gg
      have c0 := blk_cell hb 0 (v := .int .i64 p0) rfl
      have c1 := blk_cell hb 1 (v := .int .i64 p1) rfl
      have c2 := blk_cell hb 2 (v := .int .i64 p2) rfl
      have c3 := blk_cell hb 3 (v := .int .i64 p3) rfl
      have c4 := blk_cell hb 4 (v := .int .i64 p4) rfl
      clear hb gg
      have he := HP.out
      rcases he with rfl | rfl
      · go_wp2_with fail
        go_ret
        exact ⟨rfl, G.out⟩
      · have C88 := Lib.hid (C8.out rfl)
        go_wp2_with (go_at_call 17; refine (C88.out _ G.out).mono ?_; rintro e w9 ⟨rfl, g⟩)
        all_goals
          go_ret
          exact ⟨rfl, gtrans G.out g⟩
theorem encE_or (op rd a b i : Int) : encE op rd a b i = 2 ∨ encE op rd a b i = 0 := by
  unfold encE
  cases mayF op rd a b i
  · exact .inl rfl
  · exact .inr rfl
theorem l_back (w : World) (hF : FT w) (hM : ML w) (hE : EV w) (hT : TBw w) (op rd a b i x : Int) (hi : i64 i) (hx : u32 x) (s : ByteArray) : Calls Tryd.prog 6 #[iv op rd a b i, .int .u32 x, .string s] w fun e w' => e = .returned (.bool true) ∧ Gr w w' := by
  obtain ⟨d0, d1, d2, d3, d4, hd⟩ : ∃ d0 d1 d2 d3 d4 : Int, decV x = iv d0 d1 d2 d3 d4 := by
    unfold decV
    split
    · exact ⟨_, _, _, _, _, rfl⟩
    · exact ⟨_, _, _, _, _, rfl⟩
  have C5 := fun w1 (g : Gr w w1) => c_decode x hx w1 (hF.gr g)
  rw [hd] at C5
  have yes : encE op rd a b i = 0 → (decV (encV op rd a b i) = iv op rd a b i ∧ decE (encV op rd a b i) = 0 ∧ u32 (encV op rd a b i)) ∧ (parX (textV op rd a b i)).v = iv op rd a b i ∧ parE (textV op rd a b i) = 0 := by
    intro h
    cases hm : mayF op rd a b i with
    | false => unfold encE at h; rw [hm] at h; cases h
    | true =>
      obtain ⟨k, p, q, r, rfl, rfl, rfl, rfl, hk, h1, hp, hq, hr⟩ := may_nat hm
      have e1 := dec_back k hk h1 _ _ _ _ hm
      obtain ⟨e2, e3⟩ := par_back k hk h1 p q r i hm hp hq hr hi
      unfold encV textV
      rw [hm, cond_true, cond_true]
      simp only [Int.toNat_natCast]
      exact ⟨e1, by rw [e2]; rfl, e3⟩
  refine l_back_core w op rd a b i _ _ x _ _ d0 d1 d2 d3 d4 _ _ _ _ _ _ s (fun w1 g => c_shown2 w1 (hF.gr g) (hM.gr g)) (fun w1 g => c_encode op rd a b i hi w1 (hF.gr g)) (fun w1 g => c_text op rd a b i hi w1 (hF.gr g) (hT.gr g)) (encE_or ..) ?_ ?_ C5 (decE_or x).symm ?_ (fun w1 g => c_parse s w1 (hF.gr g) (hM.gr g) (hE.gr g) (hT.gr g)) ?_ ?_
  · intro h w1 g
    obtain ⟨⟨y1, y2, y3⟩, _⟩ := yes h
    have := c_decode _ y3 w1 (hF.gr g)
    rw [y1, y2] at this
    exact this
  · intro h w1 g
    obtain ⟨_, y4, y5⟩ := yes h
    have := c_parse (textV op rd a b i) w1 (hF.gr g) (hM.gr g) (hE.gr g) (hT.gr g)
    rw [y4, y5] at this
    exact this
  · intro h w1 g
    obtain ⟨e0, e1, e2, e3, e4, hd2, hi2, ev2, ee2⟩ := enc_back x hx h
    rw [hd] at hd2
    have hc := c_encode e0 e1 e2 e3 e4 hi2 w1 (hF.gr g)
    rw [ev2, ee2, ← hd2] at hc
    exact hc
  · rcases parE_or s with h | h
    · exact .inr h
    · exact .inl h.1
  · intro h w1 g
    obtain ⟨hi2, ht, he⟩ := text_back s h
    have hc := c_text (parX s).op (parX s).rd (parX s).a (parX s).b (parX s).i hi2 w1 (hF.gr g) (hT.gr g)
    rw [ht, he] at hc
    exact hc
end Go.Proofs.YthcfobefpknjeaaDoor.P
namespace Go.Proofs.YthcfobefpknjeaaDoor.P
open Go.RowKit
theorem wf_u32b {x : Int} (h : (Lit.int .u32 x).wf = true) : u32 x := by
  simp [Lit.wf, IntKind.min, IntKind.max, IntKind.bits, IntKind.signed] at h; exact ⟨by omega, by omega⟩
theorem star_name : "*" ++ "errors.errorString" = "*errors.errorString" := by decide
theorem row_name (u : TypeId) (h : Tryd.prog.typeName? 3 u = some "*errors.errorString") : u = 136 :=
  typeName_ptr_named (nm := "errors.errorString") (by rw [star_name]; kernel_rfl) (by kernel_rfl) (by decide) u (by rw [star_name]; exact h)
theorem ev_of_laid {W : World} (h : laidMetH Tryd.prog laidL W) : EV W := by
  rw [MakeChecks.laidMetH_plain _ _ _ (by kernel_rfl)] at h
  have hr := h.tail.tail.tail
  obtain ⟨a, s, hv, _⟩ := laid_sentinel hr gRan (by kernel_rfl) Tryd.underlying98 row_name Tryd.underlying136 Tryd.underlying138 rfl rfl Tryd.underlying9 (by kernel_rfl) (by kernel_rfl)
  obtain ⟨a2, s2, hv2, _⟩ := laid_sentinel hr.tail gSyn (by kernel_rfl) Tryd.underlying98 row_name Tryd.underlying136 Tryd.underlying138 rfl rfl Tryd.underlying9 (by kernel_rfl) (by kernel_rfl)
  exact ⟨ev_var gSyn hv2, ev_var gRan hv⟩
end Go.Proofs.YthcfobefpknjeaaDoor.P
