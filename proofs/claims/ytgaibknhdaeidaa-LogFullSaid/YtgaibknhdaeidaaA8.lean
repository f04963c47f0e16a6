/- Stage 7: Get, Set, Abort. No condition. -/
import Derived.Test.YtgaibknhdaeidaaA7
set_option linter.unusedVariables false
set_option maxRecDepth 50000
namespace Go.Proofs.Ytgaibknhdaeidaa.P
open Go.RowKit
theorem key_int : Maps.Keyed Try.prog 3 := Maps.int_keyed Try.underlying3
theorem ch_turned {w w' : World} {n b : Nat} {D : DataW Nat} (h : w.ownsMap Try.prog 3 secElem b n D) (ht : w.mapTurned w' b) : Ch (fun x => x = b) w w' := by
  refine (Ch.of_grown ht.grown).mono fun x hx => ?_
  injection hx with hx; exact hx.symm
theorem wpList_wanted {P : Program} {ops : Array Oper} {rest : List Oper} {o : Oper} {a : Act} {w : World} {Q : Exit → Act → World → Prop} (hgd : Region.wanted o (yielded ops a.tmps) = true)
    (h : ∀ K : Act → World → Prop, (∀ a w, wpList P ops Q rest a w → K a w) → o.wp P a w K Q) : wpList P ops Q (o :: rest) a w :=
  wpList_step fun K hK => by rw [if_pos hgd]; exact h K hK
theorem sec_look {w : World} {mb n : Nat} {st : List (Int × ByteArray)} (hown : w.ownsMap Try.prog 3 secElem mb n (mapD st)) {i : Int} (hw : (Lit.int .i64 i).wf = true) :
    (Instr.lookup 62 (.map (some mb)) (.int .i64 i) true).run Try.prog w = .ok (.tuple #[.agg #[.string ((lookS i st).getD ⟨#[]⟩)], .bool (lookS i st).isSome]) w := by
  obtain ⟨v, ps, hrun, hv⟩ := hown.look_ok key_int Try.underlying62 (Try.zeroValue73 w) (secElem_mk _) (Maps.keyOf_int_mk Try.underlying3 hw)
  obtain ⟨s, rfl, hz⟩ := secElem_inv hv
  have e := congrArg Prod.fst hz
  dsimp only at e
  rw [mapD_at] at e
  rw [mapD_has] at hrun
  have es : s = (lookS i st).getD ⟨#[]⟩ := by
    cases h : lookS i st with
    | none => rw [h] at e; exact (E1_inj e).symm
    | some t => rw [h] at e; exact (E1_inj e).symm
  rw [es] at hrun
  exact hrun
theorem sec_look1 {w : World} {mb n : Nat} {st : List (Int × ByteArray)} (hown : w.ownsMap Try.prog 3 secElem mb n (mapD st)) {i : Int} (hw : (Lit.int .i64 i).wf = true) :
    (Instr.lookup 62 (.map (some mb)) (.int .i64 i) false).run Try.prog w = .ok (.agg #[.string ((lookS i st).getD ⟨#[]⟩)]) w := by
  obtain ⟨v, ps, hrun, hv⟩ := hown.lookup key_int Try.underlying62 (Try.zeroValue73 w) (secElem_mk _) (Maps.keyOf_int_mk Try.underlying3 hw)
  obtain ⟨s, rfl, hz⟩ := secElem_inv hv
  have e := congrArg Prod.fst hz
  dsimp only at e
  rw [mapD_at] at e
  have es : s = (lookS i st).getD ⟨#[]⟩ := by
    cases h : lookS i st with
    | none => rw [h] at e; exact (E1_inj e).symm
    | some t => rw [h] at e; exact (E1_inj e).symm
  rw [es] at hrun
  exact hrun
theorem wpList_lookup_sec {w : World} {ops : Array Oper} {rest : List Oper} {o : Oper} {a : Act} {Q : Exit → Act → World → Prop} (hg : o.guard = none) (m x : Operand) (hop : o.op = Op.lookup 62 m x true)
    (mb n : Nat) (st : List (Int × ByteArray)) (hm : a.eval m = .map (some mb)) (hown : w.ownsMap Try.prog 3 secElem mb n (mapD st)) (i : Int) (hx : a.eval x = .int .i64 i) (hw : (Lit.int .i64 i).wf = true)
    (hK : wpList Try.prog ops Q rest (a.put o.dst (.tuple #[.agg #[.string ((lookS i st).getD ⟨#[]⟩)], .bool (lookS i st).isSome])) w) : wpList Try.prog ops Q (o :: rest) a w := by
  refine wpList_plain hg fun K' hK' => ?_
  unfold Oper.wp
  simp [execOp, hop, hm, hx, sec_look hown hw, Result.andThen]
  exact hK' _ _ (by simpa using hK)
theorem wpList_lookup_sec1 {w : World} {ops : Array Oper} {rest : List Oper} {o : Oper} {a : Act} {Q : Exit → Act → World → Prop} (hg : o.guard = none) (m x : Operand) (hop : o.op = Op.lookup 62 m x false)
    (mb n : Nat) (st : List (Int × ByteArray)) (hm : a.eval m = .map (some mb)) (hown : w.ownsMap Try.prog 3 secElem mb n (mapD st)) (i : Int) (hx : a.eval x = .int .i64 i) (hw : (Lit.int .i64 i).wf = true)
    (hK : wpList Try.prog ops Q rest (a.put o.dst (.agg #[.string ((lookS i st).getD ⟨#[]⟩)])) w) : wpList Try.prog ops Q (o :: rest) a w := by
  refine wpList_plain hg fun K' hK' => ?_
  unfold Oper.wp
  simp [execOp, hop, hm, hx, sec_look1 hown hw, Result.andThen]
  exact hK' _ _ (by simpa using hK)
theorem wpList_len_sec_g {w : World} {ops : Array Oper} {rest : List Oper} {o : Oper} {a : Act} {Q : Exit → Act → World → Prop} (hgd : Region.wanted o (yielded ops a.tmps) = true) (m : Operand) (hop : o.op = Op.call { callee := Callee.builtin Builtin.len, args := #[m], argTypes := #[62] })
    (mb n : Nat) (st : List (Int × ByteArray)) (hm : a.eval m = .map (some mb)) (hown : w.ownsMap Try.prog 3 secElem mb n (mapD st))
    (hK : wpList Try.prog ops Q rest (a.put o.dst (.int .i64 (st.length : Int))) w) : wpList Try.prog ops Q (o :: rest) a w := by
  refine wpList_wanted hgd fun K' hK' => ?_
  rw [← mapD_size st] at hK
  unfold Oper.wp
  simp [execOp, hop, resolve, invoke, builtin, hm, hown.len Try.underlying62 o.type, Result.andThen]
  exact hK' _ _ hK
/-- Behind a step on the map alone. -/
theorem lg_turned {w w' : World} {F : Nat → Prop} {l d mb n : Nat} {st st' : List (Int × ByteArray)} {dead : Bool} (h : lgA l d mb st dead w F) (hsz : w'.heap.size = w.heap.size ∨ w.heap.size ≤ w'.heap.size) (hc : Ch (fun x => x = mb) w w') (hr : Rising st') (ho : w'.ownsMap Try.prog 3 secElem mb n (mapD st')) : Out (lgA l d mb st' dead) w w' F := by
  obtain ⟨h1, h2, h3, h4, h5, h6⟩ := h
  refine ⟨fun x => x = l ∨ x = mb, ⟨.inl rfl, .inr rfl, h3, hr, hc.blk h5 h3, map_reset ho⟩, fun x hx => ?_, hc.mono fun x hx => by rw [hx]; exact h2⟩
  have hl := blk_lt h5
  have hm := h6.lt
  rcases hx with hx | hx
  · exact ⟨.inl (by rw [hx]; exact h1), by rw [hx]; have := hc.size; omega⟩
  · exact ⟨.inl (by rw [hx]; exact h2), by rw [hx]; have := hc.size; omega⟩
end Go.Proofs.Ytgaibknhdaeidaa.P
