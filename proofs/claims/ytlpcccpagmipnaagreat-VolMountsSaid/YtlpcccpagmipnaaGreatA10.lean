/- Stage 7: the staged sectors as a map of the program's: plain facts. No condition. -/
import Derived.Test.YtlpcccpagmipnaaGreatA4
import Derived.Maps.OwnSet
import Derived.Lib.SlKeysI
import Derived.Test.YtlpcccpagmipnaaGreatA0
set_option linter.unusedVariables false
set_option maxRecDepth 50000
namespace Go.Proofs.YtlpcccpagmipnaaGreat.P
open Go.RowKit Go.ChangeMaps Go.MapKept
def E1 (s : ByteArray) : DataW Nat := .agg [.lit (.string s.data.toList)]
def mEnt (x : Int × ByteArray) : Lit × DataW Nat := (.int .i64 x.1, E1 x.2)
def mapD (st : List (Int × ByteArray)) : DataW Nat := .map (st.map mEnt)
def secElem (v : Value) : Option (DataW Nat × List MemPlace) :=
  match v with
  | .agg cs => match cs.toList with
    | [.string s] => some (E1 s, [])
    | _ => none
  | _ => none
theorem secElem_mk (s : ByteArray) : secElem (.agg #[.string s]) = some (E1 s, []) := rfl
theorem secElem_inv {v : Value} {z : DataW Nat × List MemPlace} (h : secElem v = some z) : ∃ s, v = .agg #[.string s] ∧ z = (E1 s, []) := by
  unfold secElem at h
  split at h
  · rename_i cs
    split at h
    · rename_i s e
      injection h with h
      refine ⟨s, ?_, h.symm⟩
      rw [← Array.toArray_toList (xs := cs), e]
    · cases h
  · cases h
theorem E1_inj {s t : ByteArray} (h : E1 s = E1 t) : s = t := by
  unfold E1 at h
  injection h with h
  injection h with h
  injection h with h
  injection h with h
  cases s; cases t
  exact congrArg ByteArray.mk (Array.toList_inj.1 h)
theorem nk_ne {i : Int} {x : Int × ByteArray} (h : x.1 ≠ i) : notKey (.int .i64 i) (mEnt x) = true := by
  unfold notKey mEnt
  show (!decide (IntKind.i64 = IntKind.i64 ∧ x.1 = i)) = true
  rw [decide_eq_false (by exact fun e => h e.2)]; rfl
theorem nk_eq {i : Int} {x : Int × ByteArray} (h : x.1 = i) : notKey (.int .i64 i) (mEnt x) = false := by
  unfold notKey mEnt
  show (!decide (IntKind.i64 = IntKind.i64 ∧ x.1 = i)) = false
  rw [decide_eq_true (by exact ⟨rfl, h⟩)]; rfl
theorem filter_gt {i : Int} : ∀ (l : List (Int × ByteArray)), (∀ y ∈ l, i < y.1) → (l.map mEnt).filter (notKey (.int .i64 i)) = l.map mEnt
  | [], _ => rfl
  | x :: l, h => by
    rw [List.map_cons, List.filter_cons_of_pos (nk_ne (by have := h x (List.mem_cons_self ..); omega)), filter_gt l (fun y hy => h y (List.mem_cons_of_mem _ hy))]
theorem insert_gt {i : Int} (s : ByteArray) : ∀ (l : List (Int × ByteArray)), (∀ y ∈ l, i < y.1) → DataW.insert (mEnt (i, s)) (l.map mEnt) = mEnt (i, s) :: l.map mEnt
  | [], _ => rfl
  | x :: l, h => by
    rw [List.map_cons]
    unfold DataW.insert
    have : (mEnt (i, s)).1.before (mEnt x).1 = true := decide_eq_true (h x (List.mem_cons_self ..))
    rw [this]; rfl
theorem putKey_map (i : Int) (s : ByteArray) : ∀ st, Rising st → putKey (.int .i64 i) (E1 s) (st.map mEnt) = (putS i s st).map mEnt
  | [], _ => rfl
  | x :: l, h => by
    unfold putKey putS
    by_cases h1 : x.1 < i
    · rw [if_pos h1, List.map_cons, List.filter_cons_of_pos (nk_ne (by omega)), List.map_cons, ← putKey_map i s l h.2]
      unfold putKey
      conv => lhs; unfold DataW.insert
      have : (Lit.int .i64 i).before (mEnt x).1 = false := decide_eq_false (by show ¬ i < x.1; omega)
      rw [this]; rfl
    · rw [if_neg h1]
      by_cases h2 : x.1 = i
      · rw [if_pos h2, List.map_cons, List.filter_cons_of_neg (by rw [nk_eq h2]; decide), List.map_cons, filter_gt l (fun y hy => by have := h.1 y hy; omega)]
        exact insert_gt s l (fun y hy => by have := h.1 y hy; omega)
      · rw [if_neg h2]
        have hg : ∀ y ∈ x :: l, i < y.1 := fun y hy => by
          rcases List.mem_cons.1 hy with e | e
          · rw [e]; omega
          · have := h.1 y e; omega
        rw [filter_gt _ hg]
        exact insert_gt s _ hg
theorem mapD_put (i : Int) (s : ByteArray) (st : List (Int × ByteArray)) (h : Rising st) : (mapD st).put (.int .i64 i) (E1 s) = mapD (putS i s st) := by
  unfold mapD; rw [DataW.put_eq, putKey_map i s st h]
theorem mapD_has (i : Int) : ∀ st, Maps.has (mapD st) (.int .i64 i) = (lookS i st).isSome := by
  intro st
  unfold mapD; rw [Maps.has_eq]
  induction st with
  | nil => rfl
  | cons x l ih =>
    rw [List.map_cons, List.any_cons, ih, show lookS i (x :: l) = if x.1 = i then some x.2 else lookS i l from rfl]
    by_cases h : x.1 = i
    · rw [if_pos h]
      have : (mEnt x).1.sameKey (.int .i64 i) = true := decide_eq_true ⟨rfl, h⟩
      rw [this]; rfl
    · rw [if_neg h]
      have : (mEnt x).1.sameKey (.int .i64 i) = false := decide_eq_false (fun e => h e.2)
      rw [this, Bool.false_or]
theorem at_find (es : List (Lit × DataW Nat)) (k : Lit) (z : DataW Nat) : (DataW.map es).atKey k z = (es.find? (fun p => p.1.sameKey k)).elim z (·.2) := by
  unfold DataW.atKey
  cases h : es.find? (fun p => p.1.sameKey k) <;> simp [h]
theorem mapD_at (i : Int) (zd : DataW Nat) : ∀ st, (mapD st).atKey (.int .i64 i) zd = match lookS i st with | some s => E1 s | none => zd := by
  intro st
  unfold mapD; rw [at_find]
  induction st with
  | nil => rfl
  | cons x l ih =>
    rw [List.map_cons, show lookS i (x :: l) = if x.1 = i then some x.2 else lookS i l from rfl]
    by_cases h : x.1 = i
    · have : (mEnt x).1.sameKey (.int .i64 i) = true := decide_eq_true ⟨rfl, h⟩
      rw [if_pos h, List.find?_cons]; simp only [this]; rfl
    · have : (mEnt x).1.sameKey (.int .i64 i) = false := decide_eq_false (fun e => h e.2)
      rw [if_neg h, List.find?_cons]; simp only [this]; exact ih
theorem mapD_size (st : List (Int × ByteArray)) : Maps.size (mapD st) = st.length := by
  unfold mapD; rw [Maps.size_eq, List.length_map]
theorem mapD_keys (st : List (Int × ByteArray)) : intKeys (mapD st) = st.map (·.1) := by
  unfold mapD intKeys
  show (st.map mEnt).map _ = _
  rw [List.map_map]; rfl
theorem rising_pair : ∀ (st : List (Int × ByteArray)), Rising st → (st.map (·.1)).Pairwise (fun a b => a ≤ b)
  | [], _ => List.Pairwise.nil
  | x :: l, h => List.Pairwise.cons (fun y hy => by
      obtain ⟨z, hz, rfl⟩ := List.mem_map.1 hy
      have := h.1 z hz
      show x.1 ≤ z.1
      omega) (rising_pair l h.2)
theorem sort_rising (st : List (Int × ByteArray)) (h : Rising st) (ss : List Int) (hp : ss.Perm (st.map (·.1))) : ss.mergeSort (fun x y => decide (x ≤ y)) = st.map (·.1) := by
  have h1 : (ss.mergeSort (fun x y => decide (x ≤ y))).Pairwise (fun a b => decide (a ≤ b) = true) := List.pairwise_mergeSort (fun a b c => by simp; omega) (fun a b => by simp; omega) ss
  have h2 : (ss.mergeSort (fun x y => decide (x ≤ y))).Perm (st.map (·.1)) := (List.mergeSort_perm ss _).trans hp
  refine List.Perm.eq_of_pairwise (le := fun a b => a ≤ b) (fun a b _ _ k1 k2 => by omega) (h1.imp (fun h => of_decide_eq_true h)) (rising_pair st h) h2
theorem map_reset {P : Program} {k : TypeId} {w : World} {b n : Nat} {st : List (Int × ByteArray)} (h : w.ownsMap P k secElem b n (mapD st)) : w.ownsMap P k secElem b st.length (mapD st) := by
  obtain ⟨es, clock, hb, F, hs, hD⟩ := h
  refine ⟨es, clock, hb, F, ?_, hD⟩
  have := congrArg Maps.size hD
  have e : Maps.size (DataW.map ((es.toList.map (WideElems.rg P k secElem)).foldr DataW.insert [])) = es.size := by
    rw [Maps.size_eq, length_sorted, List.length_map, Array.length_toList]
  rw [e, mapD_size] at this
  omega
theorem wpList_clear_own {P : Program} (w : World) {ops : Array Oper} {rest : List Oper} {o : Oper} {a : Act} {Q : Exit → Act → World → Prop} (hg : o.guard = none) (m : Operand) (t : TypeId) (hop : o.op = Op.call { callee := Callee.builtin Builtin.clear, args := #[m], argTypes := #[t] })
    (k e : TypeId) (ht : P.underlying t = some (.map k e)) (b n : Nat) (D : DataW Nat) (hm : a.eval m = .map (some b)) (hown : w.ownsMap P k secElem b n D)
    (hK : ∀ w', w'.ownsMap P k secElem b 0 (mapD []) → w.mapTurned w' b → wpList P ops Q rest (a.put o.dst (.tuple #[])) w') : wpList P ops Q (o :: rest) a w := by
  refine wpList_plain hg fun K' hK' => ?_
  obtain ⟨es, clock, hb, F, hs, rfl⟩ := hown
  unfold Oper.wp
  simp [execOp, hop, resolve, invoke, builtin, hm, Builtin.clear_, run_underlying ht, MapKept.run_getObj_map hb, MapKept.run_setObj_map _ hb, Result.andThen]
  exact hK' _ _ (hK (setBlock w b (.map #[] clock)) ⟨#[], clock, heap_setBlock_same hb _, ⟨by simp, stamped_empty clock, by simp⟩, Nat.le_refl _, rfl⟩ ⟨es, clock, #[], clock, hb, rfl⟩)
end Go.Proofs.YtlpcccpagmipnaaGreat.P
namespace Go.Proofs.YtlpcccpagmipnaaGreat.P
open Go.RowKit
theorem n_home (w : World) : Calls Tryz.prog 16 #[.pointer none] w fun e w' => e = .returned (.int .i64 0) ∧ w' = w := by
  go_enter Tryz.func16, Tryz.ntmps16
  go_wp2
  go_ret
  exact ⟨rfl, rfl⟩
theorem n_staged (w : World) : Calls Tryz.prog 18 #[.pointer none] w fun e w' => e = .returned (.int .i64 0) ∧ w' = w := by
  go_enter Tryz.func18, Tryz.ntmps18
  go_wp2
  go_ret
  exact ⟨rfl, rfl⟩
theorem n_abort (w : World) : Calls Tryz.prog 20 #[.pointer none] w fun e w' => e = .returned (.tuple #[]) ∧ w' = w := by
  go_enter Tryz.func20, Tryz.ntmps20
  go_wp2
  exact bodyPost_end (results_none rfl _ _ _) rfl ⟨rfl, rfl⟩
theorem n_commit (w : World) : Calls Tryz.prog 14 #[.pointer none] w fun e w' => e = .returned (.int .i64 1) ∧ w' = w := by
  go_enter Tryz.func14, Tryz.ntmps14
  go_wp2
  go_ret
  exact ⟨rfl, rfl⟩
theorem n_refuses (i : Int) (w : World) : Calls Tryz.prog 87 #[.pointer none, .int .i64 i] w fun e w' => e = .returned (.int .i64 1) ∧ w' = w := by
  go_enter Tryz.func87, Tryz.ntmps87
  go_wp2
  go_ret
  exact ⟨rfl, rfl⟩
theorem n_get (i : Int) (w : World) : Calls Tryz.prog 106 #[.pointer none, .int .i64 i] w fun e w' => e = .returned (.tuple #[.string ⟨#[]⟩, .int .i64 1]) ∧ w' = w := by
  go_enter Tryz.func106, Tryz.ntmps106
  go_wp2_with (go_at_call 87; refine (n_refuses _ _).mono ?_; rintro e w' ⟨rfl, rfl⟩)
  exact bodyPost_ret (results_tmp2 rfl _ _ _) rfl ⟨rfl, rfl⟩
theorem n_set (i : Int) (s : ByteArray) (w : World) : Calls Tryz.prog 45 #[.pointer none, .int .i64 i, .string s] w fun e w' => e = .returned (.int .i64 1) ∧ w' = w := by
  go_enter Tryz.func45, Tryz.ntmps45
  go_wp2_with (go_at_call 87; refine (n_refuses _ _).mono ?_; rintro e w' ⟨rfl, rfl⟩)
  go_ret
  exact ⟨rfl, rfl⟩
theorem n_open (w : World) : Calls Tryz.prog 30 #[.pointer none] w fun e w' => e = .returned (.tuple #[.pointer none, .int .i64 1]) ∧ w' = w := by
  go_enter Tryz.func30, Tryz.ntmps30
  go_wp2
  exact bodyPost_ret (results_tmp2 rfl _ _ _) rfl ⟨rfl, rfl⟩
end Go.Proofs.YtlpcccpagmipnaaGreat.P
namespace Go.Proofs.YtlpcccpagmipnaaGreat.P
open Go.RowKit
/-- A log at l of the disk d, what is staged in the map mb. -/
def lgA (l d mb : Nat) (st : List (Int × ByteArray)) (dead : Bool) : Asn := fun w F => F l ∧ F mb ∧ l ≠ mb ∧ Rising st ∧ w.heap[l]? = some (.cells #[.pointer (some ⟨d, 0, none⟩), .map (some mb), .bool dead] 92) ∧ w.ownsMap Tryz.prog 3 secElem mb st.length (mapD st)
theorem stable_lg (l d mb : Nat) (st : List (Int × ByteArray)) (dead : Bool) : Stable (lgA l d mb st dead) := by
  rintro w w' F G ⟨h1, h2, h3, h4, h5, h6⟩ hc hd
  obtain ⟨es, clock, hb, k⟩ := h6
  exact ⟨h1, h2, h3, h4, hc.blk h5 (hd l h1), es, clock, hc.blk hb (hd mb h2), k⟩
abbrev DL (d : Nat) (z : DState) (l mb : Nat) (st : List (Int × ByteArray)) (dead : Bool) (R : Asn) : Asn := Star (dsk d z) (Star (lgA l d mb st dead) R)
theorem stable_dl (d : Nat) (z : DState) (l mb : Nat) (st : List (Int × ByteArray)) (dead : Bool) {R : Asn} (hs : Stable R) : Stable (DL d z l mb st dead R) := stable_star (stable_dsk _ _) (stable_star (stable_lg _ _ _ _ _) hs)
theorem Own.log {w0 w : World} {d : Nat} {z : DState} {l mb : Nat} {st : List (Int × ByteArray)} {dead : Bool} {R : Asn} (h : Own w0 w (DL d z l mb st dead R)) :
    w.heap[l]? = some (.cells #[.pointer (some ⟨d, 0, none⟩), .map (some mb), .bool dead] 92) ∧ w.ownsMap Tryz.prog 3 secElem mb st.length (mapD st) ∧ Rising st ∧ l ≠ mb := by
  obtain ⟨F, k1, k2, k3, k4, k5, k6⟩ := h.right.left.get
  exact ⟨k5, k6, k4, k3⟩
theorem o_home {w0 w : World} {d : Nat} {z : DState} {l mb : Nat} {st : List (Int × ByteArray)} {dead : Bool} {R : Asn} (h : Own w0 w (DL d z l mb st dead R)) :
    Calls Tryz.prog 16 #[.pointer (some ⟨l, 0, none⟩)] w fun e w' => e = .returned (.int .i64 ((z.safe.length : Int) - 32)) ∧ w' = w := by
  have HS := o_sectors h
  have hw := own_wz h
  have h1 := hw.1
  have h2 := hw.2.1
  have c0 := blk_cell h.log.1 0 (v := .pointer (some ⟨d, 0, none⟩)) rfl
  clear hw h
  go_enter Tryz.func16, Tryz.ntmps16
  go_wp2_with (go_at_call 49; refine HS.mono ?_; rintro e w' ⟨rfl, rfl⟩)
  go_ret
  exact ⟨rfl, rfl⟩
def refF (dead : Bool) (n : Nat) (i : Int) : Int := bif dead then 7 else bif decide (0 ≤ i) && decide (i < (n : Int) - 32) then 0 else 1
theorem o_refuses {w0 w : World} {d : Nat} {z : DState} {l mb : Nat} {st : List (Int × ByteArray)} {dead : Bool} {R : Asn} (h : Own w0 w (DL d z l mb st dead R)) (i : Int) :
    Calls Tryz.prog 87 #[.pointer (some ⟨l, 0, none⟩), .int .i64 i] w fun e w' => e = .returned (.int .i64 (refF dead z.safe.length i)) ∧ w' = w := by
  have HH := o_home h
  have c2 := blk_cell h.log.1 2 (v := .bool dead) rfl
  clear h
  unfold refF
  cases dead with
  | true =>
    clear HH
    go_enter Tryz.func87, Tryz.ntmps87
    go_wp2
    go_ret
    exact ⟨rfl, rfl⟩
  | false =>
    rw [cond_false]
    by_cases h0 : 0 ≤ i
    · rw [decide_eq_true h0, Bool.true_and]
      by_cases h1 : i < (z.safe.length : Int) - 32
      · rw [decide_eq_true h1, cond_true]
        go_enter Tryz.func87, Tryz.ntmps87
        go_wp2_with (go_at_call 16; refine HH.mono ?_; rintro e w' ⟨rfl, rfl⟩)
        go_ret
        exact ⟨rfl, rfl⟩
      · rw [decide_eq_false h1, cond_false]
        go_enter Tryz.func87, Tryz.ntmps87
        go_wp2_with (go_at_call 16; refine HH.mono ?_; rintro e w' ⟨rfl, rfl⟩)
        go_ret
        exact ⟨rfl, rfl⟩
    · rw [decide_eq_false h0, Bool.false_and, cond_false]
      go_enter Tryz.func87, Tryz.ntmps87
      go_wp2_with (go_at_call 16; refine HH.mono ?_; rintro e w' ⟨rfl, rfl⟩)
      go_ret
      exact ⟨rfl, rfl⟩
theorem o_staged {w0 w : World} {d : Nat} {z : DState} {l mb : Nat} {st : List (Int × ByteArray)} {dead : Bool} {R : Asn} (h : Own w0 w (DL d z l mb st dead R)) :
    Calls Tryz.prog 18 #[.pointer (some ⟨l, 0, none⟩)] w fun e w' => e = .returned (.int .i64 (st.length : Int)) ∧ w' = w := by
  obtain ⟨hb, hm, hr, hne⟩ := h.log
  have c1 := blk_cell hb 1 (v := .map (some mb)) rfl
  have HM := Lib.hid hm
  rw [← mapD_size st]
  clear h hb hm
  go_enter Tryz.func18, Tryz.ntmps18
  go_wp2_with (at_len; refine wpList_len_own _ rfl _ 90 rfl 3 99 Tryz.underlying90 _ mb _ _ rfl HM.out ?_)
  go_ret
  exact ⟨rfl, rfl⟩
end Go.Proofs.YtlpcccpagmipnaaGreat.P
namespace Go.Proofs.YtlpcccpagmipnaaGreat.P
open Go.RowKit
theorem key_int : Maps.Keyed Tryz.prog 3 := Maps.int_keyed Tryz.underlying3
theorem ch_turned {w w' : World} {n b : Nat} {D : DataW Nat} (h : w.ownsMap Tryz.prog 3 secElem b n D) (ht : w.mapTurned w' b) : Ch (fun x => x = b) w w' := by
  refine (Ch.of_grown ht.grown).mono fun x hx => ?_
  injection hx with hx; exact hx.symm
theorem wpList_wanted {P : Program} {ops : Array Oper} {rest : List Oper} {o : Oper} {a : Act} {w : World} {Q : Exit → Act → World → Prop} (hgd : Region.wanted o (yielded ops a.tmps) = true)
    (h : ∀ K : Act → World → Prop, (∀ a w, wpList P ops Q rest a w → K a w) → o.wp P a w K Q) : wpList P ops Q (o :: rest) a w :=
  wpList_step fun K hK => by rw [if_pos hgd]; exact h K hK
theorem sec_look {w : World} {mb n : Nat} {st : List (Int × ByteArray)} (hown : w.ownsMap Tryz.prog 3 secElem mb n (mapD st)) {i : Int} (hw : (Lit.int .i64 i).wf = true) :
    (Instr.lookup 90 (.map (some mb)) (.int .i64 i) true).run Tryz.prog w = .ok (.tuple #[.agg #[.string ((lookS i st).getD ⟨#[]⟩)], .bool (lookS i st).isSome]) w := by
  obtain ⟨v, ps, hrun, hv⟩ := hown.look_ok key_int Tryz.underlying90 (Tryz.zeroValue99 w) (secElem_mk _) (Maps.keyOf_int_mk Tryz.underlying3 hw)
  obtain ⟨s, rfl, hz⟩ := secElem_inv hv
  have e := congrArg Prod.fst hz
  dsimp only at e
  rw [mapD_at] at e
  rw [mapD_has] at hrun
  have es : s = (lookS i st).getD ⟨#[]⟩ := by
    cases h : lookS i st with
    | none => rw [h] at e; exact (E1_inj e).symm
    | some t => rw [h] at e; exact (E1_inj e).symm
  rw [es] at hrun
  exact hrun
theorem sec_look1 {w : World} {mb n : Nat} {st : List (Int × ByteArray)} (hown : w.ownsMap Tryz.prog 3 secElem mb n (mapD st)) {i : Int} (hw : (Lit.int .i64 i).wf = true) :
    (Instr.lookup 90 (.map (some mb)) (.int .i64 i) false).run Tryz.prog w = .ok (.agg #[.string ((lookS i st).getD ⟨#[]⟩)]) w := by
  obtain ⟨v, ps, hrun, hv⟩ := hown.lookup key_int Tryz.underlying90 (Tryz.zeroValue99 w) (secElem_mk _) (Maps.keyOf_int_mk Tryz.underlying3 hw)
  obtain ⟨s, rfl, hz⟩ := secElem_inv hv
  have e := congrArg Prod.fst hz
  dsimp only at e
  rw [mapD_at] at e
  have es : s = (lookS i st).getD ⟨#[]⟩ := by
    cases h : lookS i st with
    | none => rw [h] at e; exact (E1_inj e).symm
    | some t => rw [h] at e; exact (E1_inj e).symm
  rw [es] at hrun
  exact hrun
theorem wpList_lookup_sec {w : World} {ops : Array Oper} {rest : List Oper} {o : Oper} {a : Act} {Q : Exit → Act → World → Prop} (hg : o.guard = none) (m x : Operand) (hop : o.op = Op.lookup 90 m x true)
    (mb n : Nat) (st : List (Int × ByteArray)) (hm : a.eval m = .map (some mb)) (hown : w.ownsMap Tryz.prog 3 secElem mb n (mapD st)) (i : Int) (hx : a.eval x = .int .i64 i) (hw : (Lit.int .i64 i).wf = true)
    (hK : wpList Tryz.prog ops Q rest (a.put o.dst (.tuple #[.agg #[.string ((lookS i st).getD ⟨#[]⟩)], .bool (lookS i st).isSome])) w) : wpList Tryz.prog ops Q (o :: rest) a w := by
  refine wpList_plain hg fun K' hK' => ?_
  unfold Oper.wp
  simp [execOp, hop, hm, hx, sec_look hown hw, Result.andThen]
  exact hK' _ _ (by simpa using hK)
theorem wpList_lookup_sec1 {w : World} {ops : Array Oper} {rest : List Oper} {o : Oper} {a : Act} {Q : Exit → Act → World → Prop} (hg : o.guard = none) (m x : Operand) (hop : o.op = Op.lookup 90 m x false)
    (mb n : Nat) (st : List (Int × ByteArray)) (hm : a.eval m = .map (some mb)) (hown : w.ownsMap Tryz.prog 3 secElem mb n (mapD st)) (i : Int) (hx : a.eval x = .int .i64 i) (hw : (Lit.int .i64 i).wf = true)
    (hK : wpList Tryz.prog ops Q rest (a.put o.dst (.agg #[.string ((lookS i st).getD ⟨#[]⟩)])) w) : wpList Tryz.prog ops Q (o :: rest) a w := by
  refine wpList_plain hg fun K' hK' => ?_
  unfold Oper.wp
  simp [execOp, hop, hm, hx, sec_look1 hown hw, Result.andThen]
  exact hK' _ _ (by simpa using hK)
theorem wpList_len_sec_g {w : World} {ops : Array Oper} {rest : List Oper} {o : Oper} {a : Act} {Q : Exit → Act → World → Prop} (hgd : Region.wanted o (yielded ops a.tmps) = true) (m : Operand) (hop : o.op = Op.call { callee := Callee.builtin Builtin.len, args := #[m], argTypes := #[90] })
    (mb n : Nat) (st : List (Int × ByteArray)) (hm : a.eval m = .map (some mb)) (hown : w.ownsMap Tryz.prog 3 secElem mb n (mapD st))
    (hK : wpList Tryz.prog ops Q rest (a.put o.dst (.int .i64 (st.length : Int))) w) : wpList Tryz.prog ops Q (o :: rest) a w := by
  refine wpList_wanted hgd fun K' hK' => ?_
  rw [← mapD_size st] at hK
  unfold Oper.wp
  simp [execOp, hop, resolve, invoke, builtin, hm, hown.len Tryz.underlying90 o.type, Result.andThen]
  exact hK' _ _ hK
/-- Behind a step on the map alone. -/
theorem lg_turned {w w' : World} {F : Nat → Prop} {l d mb n : Nat} {st st' : List (Int × ByteArray)} {dead : Bool} (h : lgA l d mb st dead w F) (hsz : w'.heap.size = w.heap.size ∨ w.heap.size ≤ w'.heap.size) (hc : Ch (fun x => x = mb) w w') (hr : Rising st') (ho : w'.ownsMap Tryz.prog 3 secElem mb n (mapD st')) : Out (lgA l d mb st' dead) w w' F := by
  obtain ⟨h1, h2, h3, h4, h5, h6⟩ := h
  refine ⟨fun x => x = l ∨ x = mb, ⟨.inl rfl, .inr rfl, h3, hr, hc.blk h5 h3, map_reset ho⟩, fun x hx => ?_, hc.mono fun x hx => by rw [hx]; exact h2⟩
  have hl := blk_lt h5
  have hm := h6.lt
  rcases hx with hx | hx
  · exact ⟨.inl (by rw [hx]; exact h1), by rw [hx]; have := hc.size; omega⟩
  · exact ⟨.inl (by rw [hx]; exact h2), by rw [hx]; have := hc.size; omega⟩
end Go.Proofs.YtlpcccpagmipnaaGreat.P
namespace Go.Proofs.YtlpcccpagmipnaaGreat.P
open Go.RowKit
theorem wf_small {i : Int} (h0 : 0 ≤ i) (h1 : i < 9223372036854775808) : (Lit.int .i64 i).wf = true := by
  simp [Lit.wf, IntKind.min, IntKind.max, IntKind.signed, IntKind.bits]; omega
def getB (dead : Bool) (z : DState) (st : List (Int × ByteArray)) (i : Int) : ByteArray := bif decide (refF dead z.safe.length i = 0) then (bif (lookS i st).isSome then (lookS i st).getD ⟨#[]⟩ else readB z (32 + i)) else ⟨#[]⟩
def getR (dead : Bool) (z : DState) (st : List (Int × ByteArray)) (i : Int) : Int := bif decide (refF dead z.safe.length i = 0) then (bif (lookS i st).isSome then 0 else readR z (32 + i)) else refF dead z.safe.length i
def setR (dead : Bool) (n : Nat) (st : List (Int × ByteArray)) (i : Int) (s : ByteArray) : Int :=
  bif decide (refF dead n i = 0) then (bif decide (s.size = 64) then (bif (lookS i st).isSome then 0 else bif decide (30 ≤ st.length) then 4 else 0) else 1) else refF dead n i
theorem refF_ok {dead : Bool} {n : Nat} {i : Int} (h : refF dead n i = 0) : dead = false ∧ 0 ≤ i ∧ i < (n : Int) - 32 := by
  unfold refF at h
  cases dead with
  | true => cases h
  | false =>
    rw [cond_false] at h
    by_cases h0 : 0 ≤ i
    · by_cases h1 : i < (n : Int) - 32
      · exact ⟨rfl, h0, h1⟩
      · rw [decide_eq_false h1, Bool.and_false, cond_false] at h; cases h
    · rw [decide_eq_false h0, Bool.false_and, cond_false] at h; cases h
set_option maxHeartbeats 1000000 in
theorem o_get {w0 w : World} {d : Nat} {z : DState} {l mb : Nat} {st : List (Int × ByteArray)} {dead : Bool} {R : Asn} (h : Own w0 w (DL d z l mb st dead R)) (hs : Stable R) (i : Int) (hl : z.wait.length ≤ 4000000000000) :
    Calls Tryz.prog 106 #[.pointer (some ⟨l, 0, none⟩), .int .i64 i] w fun e w' => e = .returned (.tuple #[.string (getB dead z st i), .int .i64 (getR dead z st i)]) ∧ Own w0 w' (DL d z l mb st dead R) := by
  have HR := o_refuses h i
  have hst : Stable (DL d z l mb st dead R) := stable_dl _ _ _ _ _ _ hs
  unfold getB getR
  by_cases hr : refF dead z.safe.length i = 0
  · obtain ⟨hd, i0, i1⟩ := refF_ok hr
    have hz := own_wz h
    have hz2 := hz.2.1
    have HX : Hid (∀ w', Gr w w' → Calls Tryz.prog 65 #[.pointer (some ⟨d, 0, none⟩), .int .i64 (32 + i)] w' fun e w'' => e = .returned (.tuple #[.string (readB z (32 + i)), .int .i64 (readR z (32 + i))]) ∧ Own w0 w'' (DL d z l mb st dead R)) :=
      Lib.hid (fun w' g => o_read (h.gr hst g) (stable_star (stable_lg _ _ _ _ _) hs) (32 + i) hl)
    have HO : Hid (∀ w', Gr w w' → Own w0 w' (DL d z l mb st dead R)) := Lib.hid (fun w' g => h.gr hst g)
    rw [hr] at HR ⊢
    rw [decide_eq_true rfl, cond_true, cond_true]
    obtain ⟨hb, hm, hri, hne⟩ := h.log
    have c0 := blk_cell hb 0 (v := .pointer (some ⟨d, 0, none⟩)) rfl
    have c1 := blk_cell hb 1 (v := .map (some mb)) rfl
    have c0a : ∀ o, (w.alloc o).cell? ⟨l, 0, none⟩ = some (.pointer (some ⟨d, 0, none⟩)) := fun o => blk_cell (blk_alloc o hb) 0 rfl
    have HM := Lib.hid hm
    have hw := wf_small i0 (by omega)
    clear h hb hm hz hst hs
    cases hlk : (lookS i st).isSome with
    | true =>
      rw [cond_true, cond_true]
      go_enter Tryz.func106, Tryz.ntmps106
      go_wp2_with (first
        | (go_at_call 87; refine HR.mono ?_; rintro e w' ⟨rfl, rfl⟩)
        | (refine wpList_lookup_sec rfl _ _ rfl mb _ st rfl HM.out i rfl hw ?_; rw [hlk]))
      refine bodyPost_ret (results_tmp2 rfl _ _ _) rfl ⟨rfl, HO.out _ ?_⟩
      go_grown
    | false =>
      rw [cond_false, cond_false]
      go_enter Tryz.func106, Tryz.ntmps106
      go_wp2_with (first
        | (go_at_call 87; refine HR.mono ?_; rintro e w' ⟨rfl, rfl⟩)
        | (refine wpList_lookup_sec rfl _ _ rfl mb _ st rfl HM.out i rfl hw ?_; rw [hlk])
        | (go_at_call 65; refine (HX.out _ ((Gr.refl _).alloc (Nat.le_refl _) _)).mono ?_; rintro e w' ⟨rfl, hO⟩))
      refine bodyPost_ret (results_tmp2 rfl _ _ _) rfl ⟨rfl, hO⟩
  · have HO : Hid (Own w0 w (DL d z l mb st dead R)) := Lib.hid h
    rw [decide_eq_false hr, cond_false, cond_false]
    clear h hst hs
    generalize refF dead z.safe.length i = r at *
    go_enter Tryz.func106, Tryz.ntmps106
    go_wp2_with (go_at_call 87; refine HR.mono ?_; rintro e w' ⟨rfl, rfl⟩)
    refine bodyPost_ret (results_tmp2 rfl _ _ _) rfl ⟨rfl, HO.out⟩
end Go.Proofs.YtlpcccpagmipnaaGreat.P
namespace Go.Proofs.YtlpcccpagmipnaaGreat.P
open Go.RowKit
def setSt (r : Int) (st : List (Int × ByteArray)) (i : Int) (s : ByteArray) : List (Int × ByteArray) := bif decide (r = 0) then putS i s st else st
theorem own_turned {w0 w w1 : World} {d : Nat} {z : DState} {l mb n : Nat} {st st' : List (Int × ByteArray)} {dead : Bool} {R : Asn} (h : Own w0 w (DL d z l mb st dead R)) (hs : Stable R) (hc : Ch (fun x => x = mb) w w1) (hr : Rising st') (ho : w1.ownsMap Tryz.prog 3 secElem mb n (mapD st')) : Own w0 w1 (DL d z l mb st' dead R) :=
  (h.swap2.step (stable_star (stable_dsk _ _) hs) (fun F hF => lg_turned hF (.inr hc.size) hc hr ho)).swap2
set_option maxHeartbeats 1000000 in
theorem o_set {w0 w : World} {d : Nat} {z : DState} {l mb : Nat} {st : List (Int × ByteArray)} {dead : Bool} {R : Asn} (h : Own w0 w (DL d z l mb st dead R)) (hs : Stable R) (i : Int) (s : ByteArray) (hn : st.length ≤ 1000) :
    Calls Tryz.prog 45 #[.pointer (some ⟨l, 0, none⟩), .int .i64 i, .string s] w fun e w' => e = .returned (.int .i64 (setR dead z.safe.length st i s)) ∧ Own w0 w' (DL d z l mb (setSt (setR dead z.safe.length st i s) st i s) dead R) := by
  have HR := o_refuses h i
  have hst : Stable (DL d z l mb st dead R) := stable_dl _ _ _ _ _ _ hs
  unfold setR
  by_cases hr : refF dead z.safe.length i = 0
  · obtain ⟨hd, i0, i1⟩ := refF_ok hr
    have hz2 := (own_wz h).2.1
    have HO : Hid (∀ w', Gr w w' → Own w0 w' (DL d z l mb st dead R)) := Lib.hid (fun w' g => h.gr hst g)
    rw [hr] at HR ⊢
    rw [decide_eq_true rfl, cond_true]
    by_cases h64 : s.size = 64
    · rw [decide_eq_true h64, cond_true]
      have h64i : (s.size : Int) = 64 := by omega
      obtain ⟨hb, hm, hri, hne⟩ := h.log
      have c1 := blk_cell hb 1 (v := .map (some mb)) rfl
      have c1a : ∀ o, (w.alloc o).cell? ⟨l, 1, none⟩ = some (.map (some mb)) := fun o => blk_cell (blk_alloc o hb) 1 rfl
      have HM := Lib.hid hm
      have hw := wf_small i0 (by omega)
      have HE : Hid (∀ o w1, w1.ownsMap Tryz.prog 3 secElem mb (st.length + 1) ((mapD st).put (.int .i64 i) (E1 s)) → (w.alloc o).mapTurned w1 mb → Own w0 w1 (DL d z l mb (putS i s st) dead R)) :=
        Lib.hid (fun o w1 ho ht => own_turned (h.gr hst ((Gr.refl _).alloc (Nat.le_refl _) o)) hs (ch_turned (hm.alloc o) ht) (rising_put i s st hri) (by rw [← mapD_put i s st hri]; exact ho))
      clear h hb hm hst hs
      cases hlk : (lookS i st).isSome with
      | true =>
        rw [cond_true]
        go_enter Tryz.func45, Tryz.ntmps45
        go_wp2_with (first
          | (go_at_call 87; refine HR.mono ?_; rintro e w' ⟨rfl, rfl⟩)
          | (refine wpList_lookup_sec rfl _ _ rfl mb _ st rfl HM.out i rfl hw ?_; rw [hlk])
          | (refine wpList_mapUpdate_in _ rfl _ _ _ 90 rfl 3 99 key_int Tryz.underlying90 secElem mb _ (mapD st) rfl (HM.out.alloc _) (by unfold maxLen; omega) _ _ _ rfl rfl (Maps.keyOf_int_mk Tryz.underlying3 hw) (E1 s) [] (secElem_mk s) ?_; intro w1 ho1 ht1; have H1 := HE.out _ _ ho1 ht1; clear ho1 ht1))
        go_ret
        exact ⟨rfl, H1⟩
      | false =>
        rw [cond_false]
        by_cases h30 : 30 ≤ st.length
        · rw [decide_eq_true h30, cond_true]
          go_enter Tryz.func45, Tryz.ntmps45
          go_wp2_with (first
            | (go_at_call 87; refine HR.mono ?_; rintro e w' ⟨rfl, rfl⟩)
            | (refine wpList_lookup_sec rfl _ _ rfl mb _ st rfl HM.out i rfl hw ?_; rw [hlk])
            | (at_len; refine wpList_len_sec_g (by kernel_rfl) _ rfl mb _ st rfl (HM.out.alloc _) ?_))
          go_ret
          exact ⟨rfl, HO.out _ ((Gr.refl _).alloc (Nat.le_refl _) _)⟩
        · rw [decide_eq_false h30, cond_false]
          go_enter Tryz.func45, Tryz.ntmps45
          go_wp2_with (first
            | (go_at_call 87; refine HR.mono ?_; rintro e w' ⟨rfl, rfl⟩)
            | (refine wpList_lookup_sec rfl _ _ rfl mb _ st rfl HM.out i rfl hw ?_; rw [hlk])
            | (at_len; refine wpList_len_sec_g (by kernel_rfl) _ rfl mb _ st rfl (HM.out.alloc _) ?_)
            | (refine wpList_mapUpdate_in _ rfl _ _ _ 90 rfl 3 99 key_int Tryz.underlying90 secElem mb _ (mapD st) rfl (HM.out.alloc _) (by unfold maxLen; omega) _ _ _ rfl rfl (Maps.keyOf_int_mk Tryz.underlying3 hw) (E1 s) [] (secElem_mk s) ?_; intro w1 ho1 ht1; have H1 := HE.out _ _ ho1 ht1; clear ho1 ht1))
          go_ret
          exact ⟨rfl, H1⟩
    · rw [decide_eq_false h64, cond_false]
      have h64i : ¬ (s.size : Int) = 64 := by omega
      clear h hst hs
      go_enter Tryz.func45, Tryz.ntmps45
      go_wp2_with (go_at_call 87; refine HR.mono ?_; rintro e w' ⟨rfl, rfl⟩)
      go_ret
      exact ⟨rfl, HO.out _ (Gr.refl _)⟩
  · have HO : Hid (Own w0 w (DL d z l mb st dead R)) := Lib.hid h
    rw [decide_eq_false hr, cond_false]
    have e : setSt (refF dead z.safe.length i) st i s = st := by unfold setSt; rw [decide_eq_false hr]; rfl
    rw [e]
    clear h hst hs e
    generalize refF dead z.safe.length i = r at *
    go_enter Tryz.func45, Tryz.ntmps45
    go_wp2_with (go_at_call 87; refine HR.mono ?_; rintro e w' ⟨rfl, rfl⟩)
    go_ret
    exact ⟨rfl, HO.out⟩
theorem o_abort {w0 w : World} {d : Nat} {z : DState} {l mb : Nat} {st : List (Int × ByteArray)} {dead : Bool} {R : Asn} (h : Own w0 w (DL d z l mb st dead R)) (hs : Stable R) :
    Calls Tryz.prog 20 #[.pointer (some ⟨l, 0, none⟩)] w fun e w' => e = .returned (.tuple #[]) ∧ Own w0 w' (DL d z l mb [] dead R) := by
  obtain ⟨hb, hm, hri, hne⟩ := h.log
  have c1 := blk_cell hb 1 (v := .map (some mb)) rfl
  have HM := Lib.hid hm
  have HE : Hid (∀ w1, w1.ownsMap Tryz.prog 3 secElem mb 0 (mapD []) → w.mapTurned w1 mb → Own w0 w1 (DL d z l mb [] dead R)) :=
    Lib.hid (fun w1 ho ht => own_turned h hs (ch_turned hm ht) trivial ho)
  clear h hb hm hs
  go_enter Tryz.func20, Tryz.ntmps20
  go_wp2_with (refine wpList_clear_own _ rfl _ 90 rfl 3 99 Tryz.underlying90 mb _ _ rfl HM.out ?_; intro w1 ho1 ht1; have H1 := HE.out _ ho1 ht1; clear ho1 ht1)
  exact bodyPost_end (results_none rfl _ _ _) rfl ⟨rfl, H1⟩
end Go.Proofs.YtlpcccpagmipnaaGreat.P
