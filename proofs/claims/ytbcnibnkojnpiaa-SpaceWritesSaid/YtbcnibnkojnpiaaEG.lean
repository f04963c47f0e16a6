/- Stage 11: a strings.Builder among other objects. No condition. -/
import Derived.Test.YtbcnibnkojnpiaaEF
import Derived.Lib.AppendStr
import Derived.Lib.UnsafeStr
import Derived.Lib.Builder
import Derived.Laws.Externs
set_option linter.unusedVariables false
set_option linter.unusedSimpArgs false
set_option maxRecDepth 100000
namespace Go.Proofs.Ytbcnibnkojnpiaa.P
open Go.RowKit Go.MuLone Go.Maps
/-- Where the row of an append of a string's bytes lies. -/
theorem append_str_at {P : Program} (w : World) (t u ty e : TypeId) (i : TypeInfo) (ht : P.underlying t = some (.slice e)) (hu : P.underlying u = some .string) (hi : P.info? e = some i) (hz : i.zero = some (.int .u8 0))
    (hsize : i.size = 1) (hby : i.bytes = 1) (v : Value) (n : Nat) (xs : List Value) (hown : w.ownsRow 0 e 1 v n xs) (s : ByteArray) (hlim : n + s.size ≤ 100000) :
    ∃ v' w', (Builtin.append_ #[t, u] ty #[v, .string s]).run P w = .ok v' w' ∧ w'.ownsRow 0 e 1 v' (n + s.size) (xs ++ Lib.strCells s) ∧ w.grownBy w' v.ownBlock ∧
      (∀ q, v'.ownBlock = some q → (v.ownBlock = some q ∨ w.heap.size ≤ q)) ∧ (v' = .slice none 0 0 ↔ v = .slice none 0 0 ∧ s.size = 0) := by
  obtain ⟨v', w', hr, h2, h3, h4⟩ := Lib.run_append_own_string (P := P) w 0 t u ty e i ht hu hi hz hsize hby v n xs hown s (by unfold maxLen; omega) (by omega) (Nat.zero_le _)
  refine ⟨v', w', hr, h2, h3, fun q hq => ?_, h4⟩
  rcases hown.2 with ⟨rfl, rfl⟩ | ⟨g, cap, cur, rfl, hbg, hg, hnc, hcm, hcs, htake⟩
  · by_cases hm : s.size = 0
    · have := h4.2 ⟨rfl, hm⟩
      rw [this] at hq; cases hq
    · have k := run_append_nil_string (P := P) w t u ty e i (.int .u8 0) ht hu hi hz s (by omega) (by omega) (by rw [hby]; omega)
      rw [hr] at k; injection k with k _
      rw [k] at hq; injection hq with hq
      exact .inr (by rw [← hq]; exact Nat.le_refl _)
  · by_cases hroom : n + s.size ≤ cap
    · have k := Lib.run_append_room_string (P := P) w t u ty e i ht hu hi hsize g n cap cur hg s hroom (by omega)
      rw [hr] at k; injection k with k _
      rw [k] at hq; exact .inl hq
    · have holds : ∀ j u, xs[j]? = some u → w.cell? ((⟨g, 0, none⟩ : Addr).add j) = some u := hown.cells (g := g) rfl
      have k := Lib.run_append_grow_string (P := P) w t u ty e i (.int .u8 0) ht hu hi hz ⟨g, 0, none⟩ n cap xs (by rw [hsize]; exact hown.1) holds s (by omega) (by omega) (by rw [hby]; exact growslice_fits (by omega) (by omega))
      rw [hr] at k; injection k with k _
      rw [k] at hq; injection hq with hq
      exact .inr (by rw [← hq]; exact Nat.le_refl _)
theorem wpList_append_str {P : Program} {w : World} {ops : Array Oper} {rest : List Oper} {o : Oper} {a : Act} {Q : Exit → Act → World → Prop} (hgd : o.guard = none) (sl x : Operand) (t u : TypeId)
    (ho : o.op = .call { callee := .builtin .append, args := #[sl, x], argTypes := #[t, u] })
    (e : TypeId) (i : TypeInfo) (ht : P.underlying t = some (.slice e)) (hu : P.underlying u = some .string) (hi : P.info? e = some i) (hz : i.zero = some (.int .u8 0))
    (hsize : i.size = 1) (hby : i.bytes = 1) (v : Value) (n : Nat) (xs : List Value) (hs : a.eval sl = v) (hown : w.ownsRow 0 e 1 v n xs) (s : ByteArray) (hx : a.eval x = .string s) (hlim : n + s.size ≤ 100000)
    (h : ∀ v' w', w'.ownsRow 0 e 1 v' (n + s.size) (xs ++ Lib.strCells s) → w.grownBy w' v.ownBlock → (∀ q, v'.ownBlock = some q → (v.ownBlock = some q ∨ w.heap.size ≤ q)) → (v' = .slice none 0 0 ↔ v = .slice none 0 0 ∧ s.size = 0) → wpList P ops Q rest (a.put o.dst v') w') : wpList P ops Q (o :: rest) a w := by
  refine wpList_plain hgd fun K hK => ?_
  obtain ⟨v', w', hr, h2, h3, h4, h5⟩ := append_str_at (P := P) w t u o.type e i ht hu hi hz hsize hby v n xs hown s hlim
  unfold Oper.wp execOp
  simp only [ho, resolve, invoke, builtin, Sem.run_bind, Sem.run_pure, Result.andThen_ok, List.map_toArray, List.map_cons, List.map_nil, hs, hx, hr]
  exact hK _ _ (h v' w' h2 h3 h4 h5)
/-- A builder, its blocks one's own. -/
def bldA (bb : Nat) (l : List UInt8) : Asn := fun w F => F bb ∧ ∃ p v, (p = .pointer none ∨ p = .pointer (some ⟨bb, 0, none⟩)) ∧ w.heap[bb]? = some (.cells #[p, v] 76) ∧ w.ownsRow 0 5 1 v l.length (Lib.byteCells l) ∧ v.ownBlock ≠ some bb ∧ (∀ q, v.ownBlock = some q → F q) ∧ (l = [] → v = .slice none 0 0)
theorem row_keep {w w' : World} {e : TypeId} {v : Value} {n : Nat} {xs : List Value} {G : Nat → Prop} (h : w.ownsRow 0 e 1 v n xs) (hc : Ch G w w') (hg : ∀ q, v.ownBlock = some q → ¬ G q) : w'.ownsRow 0 e 1 v n xs := by
  refine ⟨h.1, ?_⟩
  rcases h.2 with k | ⟨g, cap, cur, rfl, hb, hg2, k⟩
  · exact .inl k
  · exact .inr ⟨g, cap, cur, rfl, hb, hc.blk hg2 (hg g rfl), k⟩
theorem stable_bld (bb : Nat) (l : List UInt8) : Stable (bldA bb l) := by
  rintro w w' F G ⟨hb, p, v, h1, h2, h3, h4, h5, h6⟩ hc hg
  exact ⟨hb, p, v, h1, hc.blk h2 (hg bb hb), row_keep h3 hc (fun q hq => hg q (h5 q hq)), h4, h5, h6⟩
theorem row_lt {w : World} {e : TypeId} {v : Value} {n : Nat} {xs : List Value} (h : w.ownsRow 0 e 1 v n xs) {q : Nat} (hq : v.ownBlock = some q) : q < w.heap.size := by
  rcases h.2 with ⟨rfl, _⟩ | ⟨g, cap, cur, rfl, hb, hg2, k⟩
  · cases hq
  · injection hq with hq; rw [← hq]; exact blk_lt hg2
theorem bldSize : (Try.prog.info? 76).map (·.size) = some 2 := by kernel_rfl
theorem bldLies : liesAt Try.prog Try.prog.depth 76 (2 / Try.prog.cellsOf 76) 0 76 1 = true := by kernel_rfl
theorem byteCells_app (a b : List UInt8) : Lib.byteCells (a ++ b) = Lib.byteCells a ++ Lib.byteCells b := by unfold Lib.byteCells; exact List.map_append
theorem strCells_bytes (s : ByteArray) : Lib.strCells s = Lib.byteCells s.data.toList := rfl
set_option maxHeartbeats 1000000 in
theorem c_copyCheck (bb : Nat) (w : World) (p v : Value) (hp : p = .pointer none ∨ p = .pointer (some ⟨bb, 0, none⟩)) (h : w.heap[bb]? = some (.cells #[p, v] 76)) :
    Calls Try.prog 65 #[.pointer (some ⟨bb, 0, none⟩)] w fun e w' => e = .returned (.tuple #[]) ∧ w'.heap[bb]? = some (.cells #[.pointer (some ⟨bb, 0, none⟩), v] 76) ∧ Ch (· = bb) w w' := by
  obtain ⟨j, hj, hjs⟩ := Option.map_eq_some_iff.1 bldSize
  have h0 := blk_cell h 0 (v := p) rfl
  have hfz := blk_frozen h 0
  have hsh : w.shape? bb = some (76, 2) := by simp [World.shape?, h]
  rcases hp with rfl | rfl
  · have B2 := blk_set h 0 (.pointer (some ⟨bb, 0, none⟩))
    have C2 : Ch (· = bb) w (w.setCell ⟨bb, 0, none⟩ (.pointer (some ⟨bb, 0, none⟩))) := Ch.setCell (S := (· = bb)) (Ch.refl _ w) (.inl rfl) _
    clear h
    go_enter Try.func65, Try.ntmps65
    go_wp2
    rw [Lib.run_to_unsafe w ⟨bb, 0, none⟩ Try.underlying73 Try.underlying127 hj (by rw [hjs]; decide) hsh (Nat.zero_lt_succ 1)]
    simp only [Result.andThen]
    rw [Oper.upon_value]
    go_wp2
    rw [run_callFunc_extern Try.func70 (by kernel_rfl) (by kernel_rfl) (by kernel_rfl) (e := Extern.AbiNoEscape.same) (by kernel_rfl)]
    rw [Lib.run_noEscape]
    simp only [Result.andThen]
    rw [Oper.upon_value]
    go_wp2
    rw [Lib.run_from_unsafe w ⟨bb, 0, none⟩ Try.underlying127 Try.underlying73 hj hsh bldLies]
    simp only [Result.andThen]
    rw [Oper.upon_value]
    go_wp2
    go_end0
    exact ⟨rfl, B2, C2⟩
  · clear hfz hsh
    go_enter Try.func65, Try.ntmps65
    go_wp2
    rw [Lib.run_neq_ptr_same w _ Try.underlying73 hj]
    go_wp2
    go_end0
    exact ⟨rfl, h, Ch.refl _ _⟩
variable {w0 w : World} {R A : Asn}
set_option maxHeartbeats 1000000 in
theorem o_bwrite {bb : Nat} {l : List UInt8} (h : Own w0 w (Star (bldA bb l) R)) (hR : Stable R) (s : ByteArray) (hlim : l.length + s.size ≤ 100000) :
    Calls Try.prog 47 #[.pointer (some ⟨bb, 0, none⟩), .string s] w fun e w' => e = .returned (.tuple #[.int .i64 s.size, .nilIface]) ∧ Own w0 w' (Star (bldA bb (l ++ s.data.toList)) R) := by
  refine h.call hR (fun F hF => ?_)
  obtain ⟨hb, p, v, hp, hbk, hown, hne, hq, hnil⟩ := hF
  have HNIL := Lib.hid hnil
  have CC := Lib.hid (c_copyCheck bb w p v hp hbk)
  have hrow := fun w1 (hc : Ch (· = bb) w w1) => row_keep hown hc (fun q hq' e => hne (by rw [← e]; exact hq'))
  have HROW := Lib.hid hrow
  have HQ := Lib.hid hq
  have HNE := Lib.hid hne
  obtain ⟨i0, hi, hz0, hz1, hz2⟩ := info_parts u8Info
  have hlt := blk_lt hbk
  clear hbk hown hq hrow h hp hnil
  go_enter Try.func47, Try.ntmps47
  go_wp2_with (go_at_call 65; refine CC.out.mono ?_)
  rintro e w1 ⟨rfl, hb1, hc1⟩
  have HB1 := Lib.hid hb1
  have HC1 := Lib.hid hc1
  have HR1 := Lib.hid (HROW.out w1 hc1)
  have c1 := blk_cell hb1 1 (v := v) rfl
  clear hb1 hc1
  go_wp2_with (at_builtin; refine wpList_append_str rfl _ _ 74 9 rfl 5 i0 Try.underlying74 Try.underlying9 hi hz0 hz1 hz2 v l.length _ rfl HR1.out s rfl hlim ?_)
  intro v' w2 hown' hgrow hat hvn
  have HVN := Lib.hid hvn
  clear hvn
  have hlt1 : bb < w1.heap.size := blk_lt HB1.out
  have hb2 : w2.heap[bb]? = some (.cells #[.pointer (some ⟨bb, 0, none⟩), v] 76) := by
    rw [hgrow.block bb hlt1 (fun e => HNE.out e.symm)]; exact HB1.out
  have d0 := blk_cell hb2 0 (v := .pointer (some ⟨bb, 0, none⟩)) rfl
  have d1 := blk_cell hb2 1 (v := v) rfl
  have f1 := blk_frozen hb2 1
  have B3 := Lib.hid (blk_set hb2 1 v')
  have hne' : v'.ownBlock ≠ some bb := fun e => by
    rcases hat bb e with k | k
    · exact HNE.out k
    · omega
  have C3 : Ch F w (w2.setCell ⟨bb, 1, none⟩ v') := by
    have k1 : Ch F w w1 := HC1.out.mono (fun x hx => by rw [hx]; exact hb)
    have k2 : Ch F w1 w2 := ⟨hgrow.os, hgrow.tape, hgrow.output, hgrow.size, fun k hk hs => hgrow.block k hk (fun e => hs (HQ.out k e.symm))⟩
    exact (k1.trans k2).setCell (.inl hb) v'
  have HO := Lib.hid (row_keep hown' (Ch.setCell (S := (· = bb)) (Ch.refl _ w2) (p := ⟨bb, 1, none⟩) (.inl rfl) v') (fun q hq' e => hne' (by rw [← e]; exact hq')))
  have HC3 := Lib.hid C3
  have HNE' := Lib.hid hne'
  have HAT := Lib.hid hat
  have hsz := HC1.out.size
  clear hown' hgrow hat C3 hne' hb2
  obtain ⟨ao, n', cap, rfl⟩ : ∃ ao n' cap, v' = .slice ao n' cap := by
    rcases HO.out.2 with ⟨hv, _⟩ | ⟨g, cap, cur, hv, _⟩
    · exact ⟨_, _, _, hv⟩
    · exact ⟨_, _, _, hv⟩
  go_wp2
  go_ret2
  have hlb := blk_lt B3.out
  refine ⟨rfl, fun x => x = bb ∨ (Value.slice ao n' cap).ownBlock = some x, ⟨.inl rfl, _, _, .inr rfl, B3.out, ?_, HNE'.out, fun q hq => .inr hq, fun e => ?_⟩, fun x hx => ?_, HC3.out⟩
  · have := HO.out
    rw [byteCells_app, ← strCells_bytes, List.length_append, show s.data.toList.length = s.size from Array.length_toList]
    exact this
  · have e1 := List.append_eq_nil_iff.1 e
    have hsz0 : s.size = 0 := by
      have := congrArg List.length e1.2
      rw [Array.length_toList] at this; exact this
    refine HVN.out.2 ⟨HNIL.out e1.1, ?_⟩
    first
      | exact hsz0
      | exact ByteArray.ext (Array.eq_empty_of_size_eq_zero hsz0)
  · rcases hx with rfl | hx
    · exact ⟨.inl hb, hlb⟩
    · refine ⟨?_, row_lt HO.out hx⟩
      rcases HAT.out x hx with k | k
      · exact .inl (HQ.out x k)
      · exact .inr (by omega)
theorem bldCells : Try.prog.cellsOf 5 = 1 := by kernel_rfl
set_option maxHeartbeats 1000000 in
theorem o_bstring {bb : Nat} {l : List UInt8} (h : Own w0 w (Star (bldA bb l) R)) (hR : Stable R) (hlim : l.length ≤ 100000) :
    Calls Try.prog 48 #[.pointer (some ⟨bb, 0, none⟩)] w fun e w' => e = .returned (.string ⟨l.toArray⟩) ∧ Own w0 w' R := by
  have key : Calls Try.prog 48 #[.pointer (some ⟨bb, 0, none⟩)] w fun e w' => e = .returned (.string ⟨l.toArray⟩) ∧ Own w0 w' (Star emp R) := by
    refine h.call hR (fun F hF => ?_)
    obtain ⟨hb, p, v, hp, hbk, hown, hne, hq, hnil⟩ := hF
    by_cases h0 : l = []
    · subst h0
      obtain rfl := hnil rfl
      have hUS := fun (W : World) (q : Option Addr) => Lib.run_unsafeString_none (P := Try.prog) W 120 3 9 q
      have c1 : w.drew.cell? ⟨bb, 1, none⟩ = some (.slice none 0 0) := blk_cell (blk_drew hbk) 1 rfl
      have hSD : (Builtin.unsafeSliceData_ #[74] 120 #[.slice none 0 0]).run Try.prog w.drew = .ok (.pointer none) w.drew := rfl
      clear hbk hown h hp hne hq hnil
      go_enter Try.func48, Try.ntmps48
      go_wp2
      go_region
      all_goals
        go_wp2
        go_ret
        exact ⟨rfl, fun _ => False, trivial, fun _ h => h.elim, (Ch.refl _ _).drew⟩
    · have hl0 : l.length ≠ 0 := fun e => h0 (List.eq_nil_of_length_eq_zero e)
      obtain ⟨g, cap, cur, rfl, hbg, hg, hnc, hcm, hcs, htake⟩ : ∃ g cap cur, v = .slice (some ⟨g, 0, none⟩) l.length cap ∧ 0 ≤ g ∧ w.heap[g]? = some (.cells cur 5 (0, 0)) ∧ l.length ≤ cap ∧ cap ≤ maxLen ∧ cur.size = cap * 1 ∧ cur.toList.take (l.length * 1) = Lib.byteCells l := by
        rcases hown.2 with ⟨_, hz⟩ | ⟨g, cap, cur, hv, r⟩
        · exact absurd hz hl0
        · exact ⟨g, cap, cur, hv, r⟩
      have c1 : w.drew.cell? ⟨bb, 1, none⟩ = some (.slice (some ⟨g, 0, none⟩) l.length cap) := blk_cell (blk_drew hbk) 1 rfl
      have hSD : (Builtin.unsafeSliceData_ #[74] 120 #[.slice (some ⟨g, 0, none⟩) l.length cap]).run Try.prog w.drew = .ok (.pointer (some ⟨g, 0, none⟩)) w.drew :=
        Lib.run_unsafeSliceData_row _ _ _ _ _ _ (by omega)
      have hUS : (Builtin.unsafeString_ #[120, 3] 9 #[.pointer (some ⟨g, 0, none⟩), .int .i64 l.length]).run Try.prog w.drew = .ok (.string ⟨l.toArray⟩) (w.drew.freeze ⟨g, 0, none⟩ l.length) := by
        refine Lib.run_unsafeString_row w.drew 120 3 9 5 Try.underlying120 bldCells g cur.size (by have hg' : w.drew.heap[g]? = some (.cells cur 5 (0, 0)) := hg; simp [World.shape?, hg']) l h0 (by omega) (by unfold maxLen at hcm; omega) ?_
        intro j x hx
        exact hown.cells (g := g) rfl j (.int .u8 x.toNat) (by simp [Lib.byteCells, hx])
      have hF : F g := hq g rfl
      have hch : Ch F w (w.drew.freeze ⟨g, 0, none⟩ l.length) := by
        unfold World.freeze
        rw [if_neg hl0]
        refine ⟨rfl, rfl, rfl, ?_, fun k hk hs => ?_⟩
        · show w.heap.size ≤ (w.drew.heap.modify g _).size
          rw [Array.size_modify]; exact Nat.le_refl _
        · have hne2 : ¬ g = k := fun e => hs (by rw [← e]; exact hF)
          show (w.drew.heap.modify g _)[k]? = w.heap[k]?
          rw [Array.getElem?_modify, if_neg hne2]; rfl
      have HCH := Lib.hid hch
      clear hbk hown h hp hne hq hnil hg hbg hcs htake hF hch
      go_enter Try.func48, Try.ntmps48
      go_wp2
      go_region
      all_goals
        go_wp2
        go_ret
        exact ⟨rfl, fun _ => False, trivial, fun _ h => h.elim, HCH.out⟩
  exact key.mono (fun e w' h => ⟨h.1, h.2.right⟩)
end Go.Proofs.Ytbcnibnkojnpiaa.P
