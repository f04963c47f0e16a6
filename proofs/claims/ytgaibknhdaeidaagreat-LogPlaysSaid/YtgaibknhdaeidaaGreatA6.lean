/- Stage 7: the staged sectors as a map of the program's: plain facts. No condition. -/
import Derived.Test.YtgaibknhdaeidaaGreatA4
import Derived.Maps.OwnSet
import Derived.Lib.SlKeysI
set_option linter.unusedVariables false
set_option maxRecDepth 50000
namespace Go.Proofs.YtgaibknhdaeidaaGreat.P
open Go.RowKit Go.ChangeMaps Go.MapKept
def E1 (s : ByteArray) : DataW Nat := .agg [.lit (.string s.data.toList)]
def mEnt (x : Int × ByteArray) : Lit × DataW Nat := (.int .i64 x.1, E1 x.2)
def mapD (st : List (Int × ByteArray)) : DataW Nat := .map (st.map mEnt)
def secElem (v : Value) : Option (DataW Nat × List MemPlace) :=
  match v with
  | .agg cs => match cs.toList with
    | [.string s] => some (E1 s, [])
    | _ => none
  | _ => none
theorem secElem_mk (s : ByteArray) : secElem (.agg #[.string s]) = some (E1 s, []) := rfl
theorem secElem_inv {v : Value} {z : DataW Nat × List MemPlace} (h : secElem v = some z) : ∃ s, v = .agg #[.string s] ∧ z = (E1 s, []) := by
  unfold secElem at h
  split at h
  · rename_i cs
    split at h
    · rename_i s e
      injection h with h
      refine ⟨s, ?_, h.symm⟩
      rw [← Array.toArray_toList (xs := cs), e]
    · cases h
  · cases h
theorem E1_inj {s t : ByteArray} (h : E1 s = E1 t) : s = t := by
  unfold E1 at h
  injection h with h
  injection h with h
  injection h with h
  injection h with h
  cases s; cases t
  exact congrArg ByteArray.mk (Array.toList_inj.1 h)
theorem nk_ne {i : Int} {x : Int × ByteArray} (h : x.1 ≠ i) : notKey (.int .i64 i) (mEnt x) = true := by
  unfold notKey mEnt
  show (!decide (IntKind.i64 = IntKind.i64 ∧ x.1 = i)) = true
  rw [decide_eq_false (by exact fun e => h e.2)]; rfl
theorem nk_eq {i : Int} {x : Int × ByteArray} (h : x.1 = i) : notKey (.int .i64 i) (mEnt x) = false := by
  unfold notKey mEnt
  show (!decide (IntKind.i64 = IntKind.i64 ∧ x.1 = i)) = false
  rw [decide_eq_true (by exact ⟨rfl, h⟩)]; rfl
theorem filter_gt {i : Int} : ∀ (l : List (Int × ByteArray)), (∀ y ∈ l, i < y.1) → (l.map mEnt).filter (notKey (.int .i64 i)) = l.map mEnt
  | [], _ => rfl
  | x :: l, h => by
    rw [List.map_cons, List.filter_cons_of_pos (nk_ne (by have := h x (List.mem_cons_self ..); omega)), filter_gt l (fun y hy => h y (List.mem_cons_of_mem _ hy))]
theorem insert_gt {i : Int} (s : ByteArray) : ∀ (l : List (Int × ByteArray)), (∀ y ∈ l, i < y.1) → DataW.insert (mEnt (i, s)) (l.map mEnt) = mEnt (i, s) :: l.map mEnt
  | [], _ => rfl
  | x :: l, h => by
    rw [List.map_cons]
    unfold DataW.insert
    have : (mEnt (i, s)).1.before (mEnt x).1 = true := decide_eq_true (h x (List.mem_cons_self ..))
    rw [this]; rfl
theorem putKey_map (i : Int) (s : ByteArray) : ∀ st, Rising st → putKey (.int .i64 i) (E1 s) (st.map mEnt) = (putS i s st).map mEnt
  | [], _ => rfl
  | x :: l, h => by
    unfold putKey putS
    by_cases h1 : x.1 < i
    · rw [if_pos h1, List.map_cons, List.filter_cons_of_pos (nk_ne (by omega)), List.map_cons, ← putKey_map i s l h.2]
      unfold putKey
      conv => lhs; unfold DataW.insert
      have : (Lit.int .i64 i).before (mEnt x).1 = false := decide_eq_false (by show ¬ i < x.1; omega)
      rw [this]; rfl
    · rw [if_neg h1]
      by_cases h2 : x.1 = i
      · rw [if_pos h2, List.map_cons, List.filter_cons_of_neg (by rw [nk_eq h2]; decide), List.map_cons, filter_gt l (fun y hy => by have := h.1 y hy; omega)]
        exact insert_gt s l (fun y hy => by have := h.1 y hy; omega)
      · rw [if_neg h2]
        have hg : ∀ y ∈ x :: l, i < y.1 := fun y hy => by
          rcases List.mem_cons.1 hy with e | e
          · rw [e]; omega
          · have := h.1 y e; omega
        rw [filter_gt _ hg]
        exact insert_gt s _ hg
theorem mapD_put (i : Int) (s : ByteArray) (st : List (Int × ByteArray)) (h : Rising st) : (mapD st).put (.int .i64 i) (E1 s) = mapD (putS i s st) := by
  unfold mapD; rw [DataW.put_eq, putKey_map i s st h]
theorem mapD_has (i : Int) : ∀ st, Maps.has (mapD st) (.int .i64 i) = (lookS i st).isSome := by
  intro st
  unfold mapD; rw [Maps.has_eq]
  induction st with
  | nil => rfl
  | cons x l ih =>
    rw [List.map_cons, List.any_cons, ih, show lookS i (x :: l) = if x.1 = i then some x.2 else lookS i l from rfl]
    by_cases h : x.1 = i
    · rw [if_pos h]
      have : (mEnt x).1.sameKey (.int .i64 i) = true := decide_eq_true ⟨rfl, h⟩
      rw [this]; rfl
    · rw [if_neg h]
      have : (mEnt x).1.sameKey (.int .i64 i) = false := decide_eq_false (fun e => h e.2)
      rw [this, Bool.false_or]
theorem at_find (es : List (Lit × DataW Nat)) (k : Lit) (z : DataW Nat) : (DataW.map es).atKey k z = (es.find? (fun p => p.1.sameKey k)).elim z (·.2) := by
  unfold DataW.atKey
  cases h : es.find? (fun p => p.1.sameKey k) <;> simp [h]
theorem mapD_at (i : Int) (zd : DataW Nat) : ∀ st, (mapD st).atKey (.int .i64 i) zd = match lookS i st with | some s => E1 s | none => zd := by
  intro st
  unfold mapD; rw [at_find]
  induction st with
  | nil => rfl
  | cons x l ih =>
    rw [List.map_cons, show lookS i (x :: l) = if x.1 = i then some x.2 else lookS i l from rfl]
    by_cases h : x.1 = i
    · have : (mEnt x).1.sameKey (.int .i64 i) = true := decide_eq_true ⟨rfl, h⟩
      rw [if_pos h, List.find?_cons]; simp only [this]; rfl
    · have : (mEnt x).1.sameKey (.int .i64 i) = false := decide_eq_false (fun e => h e.2)
      rw [if_neg h, List.find?_cons]; simp only [this]; exact ih
theorem mapD_size (st : List (Int × ByteArray)) : Maps.size (mapD st) = st.length := by
  unfold mapD; rw [Maps.size_eq, List.length_map]
theorem mapD_keys (st : List (Int × ByteArray)) : intKeys (mapD st) = st.map (·.1) := by
  unfold mapD intKeys
  show (st.map mEnt).map _ = _
  rw [List.map_map]; rfl
theorem rising_pair : ∀ (st : List (Int × ByteArray)), Rising st → (st.map (·.1)).Pairwise (fun a b => a ≤ b)
  | [], _ => List.Pairwise.nil
  | x :: l, h => List.Pairwise.cons (fun y hy => by
      obtain ⟨z, hz, rfl⟩ := List.mem_map.1 hy
      have := h.1 z hz
      show x.1 ≤ z.1
      omega) (rising_pair l h.2)
theorem sort_rising (st : List (Int × ByteArray)) (h : Rising st) (ss : List Int) (hp : ss.Perm (st.map (·.1))) : ss.mergeSort (fun x y => decide (x ≤ y)) = st.map (·.1) := by
  have h1 : (ss.mergeSort (fun x y => decide (x ≤ y))).Pairwise (fun a b => decide (a ≤ b) = true) := List.pairwise_mergeSort (fun a b c => by simp; omega) (fun a b => by simp; omega) ss
  have h2 : (ss.mergeSort (fun x y => decide (x ≤ y))).Perm (st.map (·.1)) := (List.mergeSort_perm ss _).trans hp
  refine List.Perm.eq_of_pairwise (le := fun a b => a ≤ b) (fun a b _ _ k1 k2 => by omega) (h1.imp (fun h => of_decide_eq_true h)) (rising_pair st h) h2
theorem map_reset {P : Program} {k : TypeId} {w : World} {b n : Nat} {st : List (Int × ByteArray)} (h : w.ownsMap P k secElem b n (mapD st)) : w.ownsMap P k secElem b st.length (mapD st) := by
  obtain ⟨es, clock, hb, F, hs, hD⟩ := h
  refine ⟨es, clock, hb, F, ?_, hD⟩
  have := congrArg Maps.size hD
  have e : Maps.size (DataW.map ((es.toList.map (WideElems.rg P k secElem)).foldr DataW.insert [])) = es.size := by
    rw [Maps.size_eq, length_sorted, List.length_map, Array.length_toList]
  rw [e, mapD_size] at this
  omega
theorem wpList_clear_own {P : Program} (w : World) {ops : Array Oper} {rest : List Oper} {o : Oper} {a : Act} {Q : Exit → Act → World → Prop} (hg : o.guard = none) (m : Operand) (t : TypeId) (hop : o.op = Op.call { callee := Callee.builtin Builtin.clear, args := #[m], argTypes := #[t] })
    (k e : TypeId) (ht : P.underlying t = some (.map k e)) (b n : Nat) (D : DataW Nat) (hm : a.eval m = .map (some b)) (hown : w.ownsMap P k secElem b n D)
    (hK : ∀ w', w'.ownsMap P k secElem b 0 (mapD []) → w.mapTurned w' b → wpList P ops Q rest (a.put o.dst (.tuple #[])) w') : wpList P ops Q (o :: rest) a w := by
  refine wpList_plain hg fun K' hK' => ?_
  obtain ⟨es, clock, hb, F, hs, rfl⟩ := hown
  unfold Oper.wp
  simp [execOp, hop, resolve, invoke, builtin, hm, Builtin.clear_, run_underlying ht, MapKept.run_getObj_map hb, MapKept.run_setObj_map _ hb, Result.andThen]
  exact hK' _ _ (hK (setBlock w b (.map #[] clock)) ⟨#[], clock, heap_setBlock_same hb _, ⟨by simp, stamped_empty clock, by simp⟩, Nat.le_refl _, rfl⟩ ⟨es, clock, #[], clock, hb, rfl⟩)
end Go.Proofs.YtgaibknhdaeidaaGreat.P
namespace Go.Proofs.YtgaibknhdaeidaaGreat.P
open Go.RowKit
theorem n_home (w : World) : Calls Tryz.prog 17 #[.pointer none] w fun e w' => e = .returned (.int .i64 0) ∧ w' = w := by
  go_enter Tryz.func17, Tryz.ntmps17
  go_wp2
  go_ret
  exact ⟨rfl, rfl⟩
theorem n_staged (w : World) : Calls Tryz.prog 15 #[.pointer none] w fun e w' => e = .returned (.int .i64 0) ∧ w' = w := by
  go_enter Tryz.func15, Tryz.ntmps15
  go_wp2
  go_ret
  exact ⟨rfl, rfl⟩
theorem n_abort (w : World) : Calls Tryz.prog 39 #[.pointer none] w fun e w' => e = .returned (.tuple #[]) ∧ w' = w := by
  go_enter Tryz.func39, Tryz.ntmps39
  go_wp2
  exact bodyPost_end (results_none rfl _ _ _) rfl ⟨rfl, rfl⟩
theorem n_commit (w : World) : Calls Tryz.prog 23 #[.pointer none] w fun e w' => e = .returned (.int .i64 1) ∧ w' = w := by
  go_enter Tryz.func23, Tryz.ntmps23
  go_wp2
  go_ret
  exact ⟨rfl, rfl⟩
theorem n_refuses (i : Int) (w : World) : Calls Tryz.prog 46 #[.pointer none, .int .i64 i] w fun e w' => e = .returned (.int .i64 1) ∧ w' = w := by
  go_enter Tryz.func46, Tryz.ntmps46
  go_wp2
  go_ret
  exact ⟨rfl, rfl⟩
theorem n_get (i : Int) (w : World) : Calls Tryz.prog 24 #[.pointer none, .int .i64 i] w fun e w' => e = .returned (.tuple #[.string ⟨#[]⟩, .int .i64 1]) ∧ w' = w := by
  go_enter Tryz.func24, Tryz.ntmps24
  go_wp2_with (go_at_call 46; refine (n_refuses _ _).mono ?_; rintro e w' ⟨rfl, rfl⟩)
  exact bodyPost_ret (results_tmp2 rfl _ _ _) rfl ⟨rfl, rfl⟩
theorem n_set (i : Int) (s : ByteArray) (w : World) : Calls Tryz.prog 21 #[.pointer none, .int .i64 i, .string s] w fun e w' => e = .returned (.int .i64 1) ∧ w' = w := by
  go_enter Tryz.func21, Tryz.ntmps21
  go_wp2_with (go_at_call 46; refine (n_refuses _ _).mono ?_; rintro e w' ⟨rfl, rfl⟩)
  go_ret
  exact ⟨rfl, rfl⟩
theorem n_open (w : World) : Calls Tryz.prog 6 #[.pointer none] w fun e w' => e = .returned (.tuple #[.pointer none, .int .i64 1]) ∧ w' = w := by
  go_enter Tryz.func6, Tryz.ntmps6
  go_wp2
  exact bodyPost_ret (results_tmp2 rfl _ _ _) rfl ⟨rfl, rfl⟩
end Go.Proofs.YtgaibknhdaeidaaGreat.P
