/- Stage 11: Copy. No condition. -/
import Derived.Test.YtbcnibnkojnpiaaGreatEE
import Derived.Lib.AppendStr
import Derived.Lib.UnsafeStr
import Derived.Lib.Builder
import Derived.Laws.Externs
import Derived.Deep.LoopGhost
import Derived.Deep.DeepCutAuto
import Derived.Deep.RegionHeld3
set_option linter.unusedVariables false
set_option linter.unusedSimpArgs false
set_option maxRecDepth 100000
set_option maxRecDepth 1000000
namespace Go.Proofs.YtbcnibnkojnpiaaGreat.P
open Go.RowKit Go.MuLone Go.Maps
variable {w0 w : World} {pb b first : Nat} {z : Sp} {R : Asn}
theorem o_copy4 (w : World) (f : Int) : Calls Tryz.prog 62 #[.int .i64 f] w fun e w' => e = .returned (.tuple #[]) ∧ w' = w := by
  go_enter Tryz.func62, Tryz.ntmps62
  go_wp2_with fail
  go_end0
  exact ⟨rfl, rfl⟩
theorem cbs_copy (w0 : World) (pb b fi xq ob : Nat) (m : Int) (hm : i64 m) : Cbs (X := Sp) id (fun x => copyB xq ob pb m) (fun k x => True) pb b fi (fun n f g x => copyPg fi m n f g x) (fun _ x => x) 59 62 #[.pointer (some ⟨xq, 0, none⟩), .pointer (some ⟨ob, 0, none⟩)] #[] w0 := by
  refine ⟨fun x => stable_copyB _ _ _ _, fun _ _ _ _ _ => trivial, fun _ _ _ _ _ _ _ => trivial, fun _ _ _ _ _ => trivial, ?_, ?_, ?_, ?_⟩
  · intro n f g w; simp [go_sem]
  · intro f w; simp [go_sem]
  · intro k x n f g w R hR hk hk2 hn hf hg h
    exact o_copy3 h hR hm n f g hn ⟨by omega, by omega⟩ ⟨by omega, by omega⟩
  · intro k x f w R hR hk hk2 hf h
    refine (o_copy4 w f).mono ?_
    rintro e w' ⟨rfl, rfl⟩
    exact ⟨rfl, h⟩
theorem o_copy_bad (h : Own w0 w (Star (plA pb b first z.L z.s) R)) (hR : Stable R) (r : Int) (hr : i64 r) (ht : tknB z.L first r = false) :
    Calls Tryz.prog 22 #[.pointer (some ⟨pb, 0, none⟩), .int .i64 r] w fun e w' => e = .returned (.tuple #[.int .i64 0, .int .i64 1]) ∧ Own w0 w' (Star (plA pb b first z.L z.s) R) := by
  have SP := stable_star (stable_pl pb b first z.L z.s) hR
  have K1 := h.alloc SP (.cells #[.pointer (some ⟨pb, 0, none⟩)] 25)
  have SB := stable_star (stable_blk w.heap.size (.cells #[.pointer (some ⟨pb, 0, none⟩)] 25)) hR
  have TK := Lib.hid (o_ptaken K1.swap2 SB r hr false ht)
  clear h hR SP SB hr ht K1
  go_enter Tryz.func22, Tryz.ntmps22
  go_wp2_with (go_at_call 32; refine TK.out.mono ?_; rintro e w2 ⟨rfl, h2⟩; have H2 := Lib.hid h2; clear h2)
  go_ret2
  exact ⟨rfl, H2.out.drop2⟩
abbrev cntB (xq nb pb : Nat) (c : Int) (R : Asn) : Asn := Star (blkA nb (.cells #[.int .i64 c] 3)) (Star (blkA xq (.cells #[.pointer (some ⟨pb, 0, none⟩)] 25)) R)
theorem stable_cntB (xq nb pb : Nat) (c : Int) {R : Asn} (hR : Stable R) : Stable (cntB xq nb pb c R) := stable_star (stable_blk _ _) (stable_star (stable_blk _ _) hR)
theorem cntB_c {A : Asn} {xq nb : Nat} {c : Int} (h : Own w0 w (Star A (cntB xq nb pb c R))) : w.cell? ⟨nb, 0, none⟩ = some (.int .i64 c) := blk_cell h.right.blk 0 rfl
theorem cntB_p {A : Asn} {xq nb : Nat} {c : Int} (h : Own w0 w (Star A (cntB xq nb pb c R))) : w.cell? ⟨xq, 0, none⟩ = some (.pointer (some ⟨pb, 0, none⟩)) := blk_cell h.right.right.blk 0 rfl
set_option maxHeartbeats 3200000 in
theorem o_copy_go (h : Own w0 w (Star (plA pb b first z.L z.s) R)) (hR : Stable R) (r : Int) (hr : i64 r) (ht : tknB z.L first r = true) (d : Bool) (hd : decide (leftX first z < (countX first z r).2) = d) :
    Calls Tryz.prog 22 #[.pointer (some ⟨pb, 0, none⟩), .int .i64 r] w fun e w' => e = .returned (.tuple #[.int .i64 (bif d then 0 else takeN z.L first), .int .i64 (bif d then 4 else 0)]) ∧
      Own w0 w' (Star (plA pb b first (bif d then z else copyZ first (takeX first z) r (takeN z.L first)).L (bif d then z else copyZ first (takeX first z) r (takeN z.L first)).s) R) := by
  have hb := tkn_bd ht
  have hl := (o_plen h).2.2.1
  have SP := stable_star (stable_pl pb b first z.L z.s) hR
  have K1 := h.alloc SP (.cells #[.pointer (some ⟨pb, 0, none⟩)] 25)
  have SB := stable_star (stable_blk w.heap.size (.cells #[.pointer (some ⟨pb, 0, none⟩)] 25)) hR
  have TK := Lib.hid (o_ptaken K1.swap2 SB r hr true ht)
  have HR := Lib.hid hR
  have HSP := Lib.hid (stable_pl pb b first z.L z.s)
  have EA : RowKit.Hid (∀ (w : World) (xq nb : Nat), Own w0 w (Star (plA pb b first z.L z.s) (cntB xq nb pb 0 R)) → Calls Tryz.prog 33 #[.pointer (some ⟨pb, 0, none⟩), .int .i64 r, .func (.func 57) #[] #[.pointer (some ⟨nb, 0, none⟩)], .func (.func 58) #[] #[.pointer (some ⟨nb, 0, none⟩)]] w fun e w' =>
      e = .returned (.tuple #[]) ∧ Own w0 w' (Star (plA pb b first z.L z.s) (cntB xq nb pb (countX first z r).2 R))) := Lib.hid (fun w xq nb h => by
    refine (o_each (cbs_count w0 pb b first nb) (z, 0) r w _ (stable_star (stable_blk xq (.cells #[.pointer (some ⟨pb, 0, none⟩)] 25)) hR) trivial ⟨by omega, by omega⟩ h).mono ?_
    rintro e w' ⟨rfl, h', _⟩
    have e1 := count_same first z r
    have h' : Own w0 w' (Star (plA pb b first (countX first z r).1.L (countX first z r).1.s) (cntB xq nb pb (countX first z r).2 R)) := h'
    rw [e1] at h'
    exact ⟨rfl, h'⟩)
  generalize (countX first z r).2 = C at *
  obtain ⟨lf, hlf⟩ : ∃ lf, leftX first z = lf := ⟨_, rfl⟩
  rw [hlf] at hd
  have LF : RowKit.Hid (∀ (w : World) (xq nb : Nat), Own w0 w (Star (plA pb b first z.L z.s) (cntB xq nb pb C R)) → Calls Tryz.prog 9 #[.pointer (some ⟨pb, 0, none⟩)] w fun e w' => e = .returned (.int .i64 lf) ∧ w' = w) := Lib.hid (fun w xq nb h => o_pleft h lf hlf)
  obtain ⟨N, hN⟩ : ∃ N, takeN z.L first = N := ⟨_, rfl⟩
  obtain ⟨E, hE⟩ : ∃ E, takeE z.L first = E := ⟨_, rfl⟩
  have NW : RowKit.Hid (∀ (w : World) (xq nb : Nat), Own w0 w (Star (plA pb b first z.L z.s) (cntB xq nb pb C R)) → _) := Lib.hid (fun w xq nb h => o_snew (w0 := w0) (w := w) h (stable_cntB xq nb pb C hR) N E hN hE)
  have hnb := take_bd z.L first hl
  rw [hN] at hnb ⊢
  have EC : RowKit.Hid (∀ (w : World) (xq ob : Nat) (R2 : Asn), Stable R2 → Own w0 w (Star (plA pb b first (takeX first z).L (takeX first z).s) (Star (copyB xq ob pb N) R2)) → Calls Tryz.prog 33 #[.pointer (some ⟨pb, 0, none⟩), .int .i64 r, .func (.func 59) #[] #[.pointer (some ⟨xq, 0, none⟩), .pointer (some ⟨ob, 0, none⟩)], .func (.func 62) #[] #[]] w fun e w' =>
      e = .returned (.tuple #[]) ∧ Own w0 w' (Star (plA pb b first (copyZ first (takeX first z) r N).L (copyZ first (takeX first z) r N).s) (Star (copyB xq ob pb N) R2))) := Lib.hid (fun w xq ob R2 hR2 h => by
    refine (o_each (cbs_copy w0 pb b first xq ob N ⟨by omega, by omega⟩) (takeX first z) r w R2 hR2 trivial ⟨by omega, by omega⟩ h).mono ?_
    rintro e w' ⟨rfl, h', _⟩
    exact ⟨rfl, h'⟩)
  generalize copyZ first (takeX first z) r N = z3 at *
  generalize takeX first z = z2 at *
  have HSB := Lib.hid SB
  clear h hR SP SB hr ht K1 hb hl hlf hN hE hnb
  go_enter Tryz.func22, Tryz.ntmps22
  go_upto_region 3 with (go_at_call 32; refine TK.out.mono ?_; rintro e w2 ⟨rfl, h2⟩; have H2 := Lib.hid h2; clear h2)
  clear TK
  generalize w.heap.size = xq at *
  go_upto_region 4 with fail
  have A1 := H2.out.alloc (stable_star HSP.out HSB.out) (.cells #[.int .i64 0] 3)
  have A2 : RowKit.Hid (Own w0 (w2.alloc (.cells #[.int .i64 0] 3)) (Star (plA pb b first z.L z.s) (cntB xq w2.heap.size pb 0 R))) := Lib.hid A1.swap2
  clear A1 H2
  have c0 := cntB_p A2.out
  generalize (World.alloc w2 _) = w3 at *
  generalize w2.heap.size = nb at *
  have E3 := Lib.hid (EA.out w3 xq nb A2.out)
  clear EA
  go_upto_region 5 with (go_at_call 33; refine E3.out.mono ?_; rintro e w4 ⟨rfl, h4⟩; have H4 := Lib.hid h4; clear h4)
  clear E3 A2 c0
  have HS4 := Lib.hid (stable_star HSP.out (stable_cntB xq nb pb C HR.out))
  go_cut [21] (fun s21 wx => s21 = .bool d ∧ Own w0 wx (Star (plA pb b first z.L z.s) (cntB xq nb pb C R)))
  case first =>
    have hS : Own w0 w4 (Star (plA pb b first z.L z.s) (cntB xq nb pb C R)) := H4.out
    have hc0 := cntB_p hS
    have hc1 := cntB_c hS
    have hS1 := hS.drew HS4.out
    go_region_held3 (fun w' => Own w0 w' (Star (plA pb b first z.L z.s) (cntB xq nb pb C R)) ∧ w'.cell? ⟨xq, 0, none⟩ = some (.pointer (some ⟨pb, 0, none⟩)) ∧ w'.cell? ⟨nb, 0, none⟩ = some (.int .i64 C))
      ((refine ⟨?_, ?_, ?_⟩ <;> first | (with_reducible assumption) | (with_reducible exact Own.drew (by assumption) HS4.out) | (with_reducible exact cell11_drew (by assumption))))
      (first | (go_at_call 9; refine (LF.out _ xq nb (by assumption)).mono ?_; rintro e w5 ⟨rfl, rfl⟩))
    all_goals
      go_wp2_with fail
      go_meet
      exact ⟨by rw [← hd], by assumption⟩
  case rest =>
    obtain ⟨rfl, hr⟩ := hcut
    have HX := Lib.hid hr
    have c0 := cntB_p hr
    clear hr H4 LF hd
    cases d with
    | true =>
      go_wp2_with fail
      go_ret2
      exact ⟨rfl, HX.out.drop2.drop2⟩
    | false =>
      go_upto_region 8 with (go_at_call 20; refine (NW.out _ xq nb HX.out).mono ?_; rintro e w6 ⟨rfl, h6⟩; have H6 := Lib.hid h6; clear h6)
      clear HX NW c0
      have S6 := stable_star (stable_pl pb b first z2.L z2.s) (stable_cntB xq nb pb C HR.out)
      have B1 := H6.out.alloc S6 (.cells #[.int .i64 N] 3)
      have B2 : RowKit.Hid (Own w0 (w6.alloc (.cells #[.int .i64 N] 3)) (Star (plA pb b first z2.L z2.s) (Star (copyB xq w6.heap.size pb N) (Star (blkA nb (.cells #[.int .i64 C] 3)) R)))) := Lib.hid (B1.mono (fun F h => by
        -- ob, pool, nb, xq, R
        refine star_mono_r (fun F h => ?_) (star_swap2 h)
        -- ob, nb, xq, R
        exact star_unassoc (st3 h)))
      clear B1 S6 H6
      have c0 := copyB_p B2.out
      have c1 := copyB_m B2.out
      generalize (World.alloc w6 _) = w7 at *
      generalize w6.heap.size = ob at *
      have E7 := Lib.hid (EC.out w7 xq ob _ (stable_star (stable_blk nb (.cells #[.int .i64 C] 3)) HR.out) B2.out)
      clear EC
      go_upto_region 9 with (go_at_call 33; refine E7.out.mono ?_; rintro e w8 ⟨rfl, h8⟩; have H8 := Lib.hid h8; clear h8)
      have c1 := copyB_m H8.out
      go_wp2_with fail
      go_ret2
      exact ⟨rfl, H8.out.drop2.drop2⟩
theorem o_copyC (h : Own w0 w (Star (plA pb b first z.L z.s) R)) (hR : Stable R) (r : Int) (hr : i64 r) (n e : Int) (hn : copyN first z r = n) (he : copyE first z r = e) :
    Calls Tryz.prog 22 #[.pointer (some ⟨pb, 0, none⟩), .int .i64 r] w fun x w' => x = .returned (.tuple #[.int .i64 n, .int .i64 e]) ∧ Own w0 w' (Star (plA pb b first (copyW first z r).L (copyW first z r).s) R) := by
  subst hn; subst he
  cases ht : tknB z.L first r with
  | false =>
    have e1 : copyE first z r = 1 := by unfold copyE; rw [ht]; rfl
    have e2 : copyN first z r = 0 := by unfold copyN; rw [e1]; rfl
    have e3 : copyW first z r = z := by unfold copyW; rw [e1]; rfl
    rw [e1, e2, e3]
    exact o_copy_bad h hR r hr ht
  | true =>
    have H := o_copy_go h hR r hr ht _ rfl
    cases hd : decide (leftX first z < (countX first z r).2) with
    | true =>
      have e1 : copyE first z r = 4 := by unfold copyE; rw [ht, hd]; rfl
      have e2 : copyN first z r = 0 := by unfold copyN; rw [e1]; rfl
      have e3 : copyW first z r = z := by unfold copyW; rw [e1]; rfl
      rw [e1, e2, e3]
      rw [hd] at H
      exact H
    | false =>
      have e1 : copyE first z r = 0 := by unfold copyE; rw [ht, hd]; rfl
      have e2 : copyN first z r = takeN z.L first := by unfold copyN; rw [e1]; rfl
      have e3 : copyW first z r = copyZ first (takeX first z) r (takeN z.L first) := by unfold copyW; rw [e1]; rfl
      rw [e1, e2, e3]
      rw [hd] at H
      exact H
end Go.Proofs.YtbcnibnkojnpiaaGreat.P
namespace Go.Proofs.YtbcnibnkojnpiaaGreat.P
open Go.RowKit Go.MuLone Go.Maps
/-- Where the row of an append of a string's bytes lies. -/
theorem append_str_at {P : Program} (w : World) (t u ty e : TypeId) (i : TypeInfo) (ht : P.underlying t = some (.slice e)) (hu : P.underlying u = some .string) (hi : P.info? e = some i) (hz : i.zero = some (.int .u8 0))
    (hsize : i.size = 1) (hby : i.bytes = 1) (v : Value) (n : Nat) (xs : List Value) (hown : w.ownsRow 0 e 1 v n xs) (s : ByteArray) (hlim : n + s.size ≤ 100000) :
    ∃ v' w', (Builtin.append_ #[t, u] ty #[v, .string s]).run P w = .ok v' w' ∧ w'.ownsRow 0 e 1 v' (n + s.size) (xs ++ Lib.strCells s) ∧ w.grownBy w' v.ownBlock ∧
      (∀ q, v'.ownBlock = some q → (v.ownBlock = some q ∨ w.heap.size ≤ q)) ∧ (v' = .slice none 0 0 ↔ v = .slice none 0 0 ∧ s.size = 0) := by
  obtain ⟨v', w', hr, h2, h3, h4⟩ := Lib.run_append_own_string (P := P) w 0 t u ty e i ht hu hi hz hsize hby v n xs hown s (by unfold maxLen; omega) (by omega) (Nat.zero_le _)
  refine ⟨v', w', hr, h2, h3, fun q hq => ?_, h4⟩
  rcases hown.2 with ⟨rfl, rfl⟩ | ⟨g, cap, cur, rfl, hbg, hg, hnc, hcm, hcs, htake⟩
  · by_cases hm : s.size = 0
    · have := h4.2 ⟨rfl, hm⟩
      rw [this] at hq; cases hq
    · have k := run_append_nil_string (P := P) w t u ty e i (.int .u8 0) ht hu hi hz s (by omega) (by omega) (by rw [hby]; omega)
      rw [hr] at k; injection k with k _
      rw [k] at hq; injection hq with hq
      exact .inr (by rw [← hq]; exact Nat.le_refl _)
  · by_cases hroom : n + s.size ≤ cap
    · have k := Lib.run_append_room_string (P := P) w t u ty e i ht hu hi hsize g n cap cur hg s hroom (by omega)
      rw [hr] at k; injection k with k _
      rw [k] at hq; exact .inl hq
    · have holds : ∀ j u, xs[j]? = some u → w.cell? ((⟨g, 0, none⟩ : Addr).add j) = some u := hown.cells (g := g) rfl
      have k := Lib.run_append_grow_string (P := P) w t u ty e i (.int .u8 0) ht hu hi hz ⟨g, 0, none⟩ n cap xs (by rw [hsize]; exact hown.1) holds s (by omega) (by omega) (by rw [hby]; exact growslice_fits (by omega) (by omega))
      rw [hr] at k; injection k with k _
      rw [k] at hq; injection hq with hq
      exact .inr (by rw [← hq]; exact Nat.le_refl _)
theorem wpList_append_str {P : Program} {w : World} {ops : Array Oper} {rest : List Oper} {o : Oper} {a : Act} {Q : Exit → Act → World → Prop} (hgd : o.guard = none) (sl x : Operand) (t u : TypeId)
    (ho : o.op = .call { callee := .builtin .append, args := #[sl, x], argTypes := #[t, u] })
    (e : TypeId) (i : TypeInfo) (ht : P.underlying t = some (.slice e)) (hu : P.underlying u = some .string) (hi : P.info? e = some i) (hz : i.zero = some (.int .u8 0))
    (hsize : i.size = 1) (hby : i.bytes = 1) (v : Value) (n : Nat) (xs : List Value) (hs : a.eval sl = v) (hown : w.ownsRow 0 e 1 v n xs) (s : ByteArray) (hx : a.eval x = .string s) (hlim : n + s.size ≤ 100000)
    (h : ∀ v' w', w'.ownsRow 0 e 1 v' (n + s.size) (xs ++ Lib.strCells s) → w.grownBy w' v.ownBlock → (∀ q, v'.ownBlock = some q → (v.ownBlock = some q ∨ w.heap.size ≤ q)) → (v' = .slice none 0 0 ↔ v = .slice none 0 0 ∧ s.size = 0) → wpList P ops Q rest (a.put o.dst v') w') : wpList P ops Q (o :: rest) a w := by
  refine wpList_plain hgd fun K hK => ?_
  obtain ⟨v', w', hr, h2, h3, h4, h5⟩ := append_str_at (P := P) w t u o.type e i ht hu hi hz hsize hby v n xs hown s hlim
  unfold Oper.wp execOp
  simp only [ho, resolve, invoke, builtin, Sem.run_bind, Sem.run_pure, Result.andThen_ok, List.map_toArray, List.map_cons, List.map_nil, hs, hx, hr]
  exact hK _ _ (h v' w' h2 h3 h4 h5)
/-- A builder, its blocks one's own. -/
def bldA (bb : Nat) (l : List UInt8) : Asn := fun w F => F bb ∧ ∃ p v, (p = .pointer none ∨ p = .pointer (some ⟨bb, 0, none⟩)) ∧ w.heap[bb]? = some (.cells #[p, v] 99) ∧ w.ownsRow 0 5 1 v l.length (Lib.byteCells l) ∧ v.ownBlock ≠ some bb ∧ (∀ q, v.ownBlock = some q → F q) ∧ (l = [] → v = .slice none 0 0)
theorem row_keep {w w' : World} {e : TypeId} {v : Value} {n : Nat} {xs : List Value} {G : Nat → Prop} (h : w.ownsRow 0 e 1 v n xs) (hc : Ch G w w') (hg : ∀ q, v.ownBlock = some q → ¬ G q) : w'.ownsRow 0 e 1 v n xs := by
  refine ⟨h.1, ?_⟩
  rcases h.2 with k | ⟨g, cap, cur, rfl, hb, hg2, k⟩
  · exact .inl k
  · exact .inr ⟨g, cap, cur, rfl, hb, hc.blk hg2 (hg g rfl), k⟩
theorem stable_bld (bb : Nat) (l : List UInt8) : Stable (bldA bb l) := by
  rintro w w' F G ⟨hb, p, v, h1, h2, h3, h4, h5, h6⟩ hc hg
  exact ⟨hb, p, v, h1, hc.blk h2 (hg bb hb), row_keep h3 hc (fun q hq => hg q (h5 q hq)), h4, h5, h6⟩
theorem row_lt {w : World} {e : TypeId} {v : Value} {n : Nat} {xs : List Value} (h : w.ownsRow 0 e 1 v n xs) {q : Nat} (hq : v.ownBlock = some q) : q < w.heap.size := by
  rcases h.2 with ⟨rfl, _⟩ | ⟨g, cap, cur, rfl, hb, hg2, k⟩
  · cases hq
  · injection hq with hq; rw [← hq]; exact blk_lt hg2
theorem bldSize : (Tryz.prog.info? 99).map (·.size) = some 2 := by kernel_rfl
theorem bldLies : liesAt Tryz.prog Tryz.prog.depth 99 (2 / Tryz.prog.cellsOf 99) 0 99 1 = true := by kernel_rfl
theorem byteCells_app (a b : List UInt8) : Lib.byteCells (a ++ b) = Lib.byteCells a ++ Lib.byteCells b := by unfold Lib.byteCells; exact List.map_append
theorem strCells_bytes (s : ByteArray) : Lib.strCells s = Lib.byteCells s.data.toList := rfl
set_option maxHeartbeats 1000000 in
theorem c_copyCheck (bb : Nat) (w : World) (p v : Value) (hp : p = .pointer none ∨ p = .pointer (some ⟨bb, 0, none⟩)) (h : w.heap[bb]? = some (.cells #[p, v] 99)) :
    Calls Tryz.prog 83 #[.pointer (some ⟨bb, 0, none⟩)] w fun e w' => e = .returned (.tuple #[]) ∧ w'.heap[bb]? = some (.cells #[.pointer (some ⟨bb, 0, none⟩), v] 99) ∧ Ch (· = bb) w w' := by
  obtain ⟨j, hj, hjs⟩ := Option.map_eq_some_iff.1 bldSize
  have h0 := blk_cell h 0 (v := p) rfl
  have hfz := blk_frozen h 0
  have hsh : w.shape? bb = some (99, 2) := by simp [World.shape?, h]
  rcases hp with rfl | rfl
  · have B2 := blk_set h 0 (.pointer (some ⟨bb, 0, none⟩))
    have C2 : Ch (· = bb) w (w.setCell ⟨bb, 0, none⟩ (.pointer (some ⟨bb, 0, none⟩))) := Ch.setCell (S := (· = bb)) (Ch.refl _ w) (.inl rfl) _
    clear h
    go_enter Tryz.func83, Tryz.ntmps83
    go_wp2
    rw [Lib.run_to_unsafe w ⟨bb, 0, none⟩ Tryz.underlying97 Tryz.underlying163 hj (by rw [hjs]; decide) hsh (Nat.zero_lt_succ 1)]
    simp only [Result.andThen]
    rw [Oper.upon_value]
    go_wp2
    rw [run_callFunc_extern Tryz.func102 (by kernel_rfl) (by kernel_rfl) (by kernel_rfl) (e := Extern.AbiNoEscape.same) (by kernel_rfl)]
    rw [Lib.run_noEscape]
    simp only [Result.andThen]
    rw [Oper.upon_value]
    go_wp2
    rw [Lib.run_from_unsafe w ⟨bb, 0, none⟩ Tryz.underlying163 Tryz.underlying97 hj hsh bldLies]
    simp only [Result.andThen]
    rw [Oper.upon_value]
    go_wp2
    go_end0
    exact ⟨rfl, B2, C2⟩
  · clear hfz hsh
    go_enter Tryz.func83, Tryz.ntmps83
    go_wp2
    rw [Lib.run_neq_ptr_same w _ Tryz.underlying97 hj]
    go_wp2
    go_end0
    exact ⟨rfl, h, Ch.refl _ _⟩
variable {w0 w : World} {R A : Asn}
set_option maxHeartbeats 1000000 in
theorem o_bwrite {bb : Nat} {l : List UInt8} (h : Own w0 w (Star (bldA bb l) R)) (hR : Stable R) (s : ByteArray) (hlim : l.length + s.size ≤ 100000) :
    Calls Tryz.prog 47 #[.pointer (some ⟨bb, 0, none⟩), .string s] w fun e w' => e = .returned (.tuple #[.int .i64 s.size, .nilIface]) ∧ Own w0 w' (Star (bldA bb (l ++ s.data.toList)) R) := by
  refine h.call hR (fun F hF => ?_)
  obtain ⟨hb, p, v, hp, hbk, hown, hne, hq, hnil⟩ := hF
  have HNIL := Lib.hid hnil
  have CC := Lib.hid (c_copyCheck bb w p v hp hbk)
  have hrow := fun w1 (hc : Ch (· = bb) w w1) => row_keep hown hc (fun q hq' e => hne (by rw [← e]; exact hq'))
  have HROW := Lib.hid hrow
  have HQ := Lib.hid hq
  have HNE := Lib.hid hne
  obtain ⟨i0, hi, hz0, hz1, hz2⟩ := info_parts u8Info
  have hlt := blk_lt hbk
  clear hbk hown hq hrow h hp hnil
  go_enter Tryz.func47, Tryz.ntmps47
  go_wp2_with (go_at_call 83; refine CC.out.mono ?_)
  rintro e w1 ⟨rfl, hb1, hc1⟩
  have HB1 := Lib.hid hb1
  have HC1 := Lib.hid hc1
  have HR1 := Lib.hid (HROW.out w1 hc1)
  have c1 := blk_cell hb1 1 (v := v) rfl
  clear hb1 hc1
  go_wp2_with (at_builtin; refine wpList_append_str rfl _ _ 44 9 rfl 5 i0 Tryz.underlying44 Tryz.underlying9 hi hz0 hz1 hz2 v l.length _ rfl HR1.out s rfl hlim ?_)
  intro v' w2 hown' hgrow hat hvn
  have HVN := Lib.hid hvn
  clear hvn
  have hlt1 : bb < w1.heap.size := blk_lt HB1.out
  have hb2 : w2.heap[bb]? = some (.cells #[.pointer (some ⟨bb, 0, none⟩), v] 99) := by
    rw [hgrow.block bb hlt1 (fun e => HNE.out e.symm)]; exact HB1.out
  have d0 := blk_cell hb2 0 (v := .pointer (some ⟨bb, 0, none⟩)) rfl
  have d1 := blk_cell hb2 1 (v := v) rfl
  have f1 := blk_frozen hb2 1
  have B3 := Lib.hid (blk_set hb2 1 v')
  have hne' : v'.ownBlock ≠ some bb := fun e => by
    rcases hat bb e with k | k
    · exact HNE.out k
    · omega
  have C3 : Ch F w (w2.setCell ⟨bb, 1, none⟩ v') := by
    have k1 : Ch F w w1 := HC1.out.mono (fun x hx => by rw [hx]; exact hb)
    have k2 : Ch F w1 w2 := ⟨hgrow.os, hgrow.tape, hgrow.output, hgrow.size, fun k hk hs => hgrow.block k hk (fun e => hs (HQ.out k e.symm))⟩
    exact (k1.trans k2).setCell (.inl hb) v'
  have HO := Lib.hid (row_keep hown' (Ch.setCell (S := (· = bb)) (Ch.refl _ w2) (p := ⟨bb, 1, none⟩) (.inl rfl) v') (fun q hq' e => hne' (by rw [← e]; exact hq')))
  have HC3 := Lib.hid C3
  have HNE' := Lib.hid hne'
  have HAT := Lib.hid hat
  have hsz := HC1.out.size
  clear hown' hgrow hat C3 hne' hb2
  obtain ⟨ao, n', cap, rfl⟩ : ∃ ao n' cap, v' = .slice ao n' cap := by
    rcases HO.out.2 with ⟨hv, _⟩ | ⟨g, cap, cur, hv, _⟩
    · exact ⟨_, _, _, hv⟩
    · exact ⟨_, _, _, hv⟩
  go_wp2
  go_ret2
  have hlb := blk_lt B3.out
  refine ⟨rfl, fun x => x = bb ∨ (Value.slice ao n' cap).ownBlock = some x, ⟨.inl rfl, _, _, .inr rfl, B3.out, ?_, HNE'.out, fun q hq => .inr hq, fun e => ?_⟩, fun x hx => ?_, HC3.out⟩
  · have := HO.out
    rw [byteCells_app, ← strCells_bytes, List.length_append, show s.data.toList.length = s.size from Array.length_toList]
    exact this
  · have e1 := List.append_eq_nil_iff.1 e
    have hsz0 : s.size = 0 := by
      have := congrArg List.length e1.2
      rw [Array.length_toList] at this; exact this
    refine HVN.out.2 ⟨HNIL.out e1.1, ?_⟩
    first
      | exact hsz0
      | exact ByteArray.ext (Array.eq_empty_of_size_eq_zero hsz0)
  · rcases hx with rfl | hx
    · exact ⟨.inl hb, hlb⟩
    · refine ⟨?_, row_lt HO.out hx⟩
      rcases HAT.out x hx with k | k
      · exact .inl (HQ.out x k)
      · exact .inr (by omega)
theorem bldCells : Tryz.prog.cellsOf 5 = 1 := by kernel_rfl
set_option maxHeartbeats 1000000 in
theorem o_bstring {bb : Nat} {l : List UInt8} (h : Own w0 w (Star (bldA bb l) R)) (hR : Stable R) (hlim : l.length ≤ 100000) :
    Calls Tryz.prog 48 #[.pointer (some ⟨bb, 0, none⟩)] w fun e w' => e = .returned (.string ⟨l.toArray⟩) ∧ Own w0 w' R := by
  have key : Calls Tryz.prog 48 #[.pointer (some ⟨bb, 0, none⟩)] w fun e w' => e = .returned (.string ⟨l.toArray⟩) ∧ Own w0 w' (Star emp R) := by
    refine h.call hR (fun F hF => ?_)
    obtain ⟨hb, p, v, hp, hbk, hown, hne, hq, hnil⟩ := hF
    by_cases h0 : l = []
    · subst h0
      obtain rfl := hnil rfl
      have hUS := fun (W : World) (q : Option Addr) => Lib.run_unsafeString_none (P := Tryz.prog) W 149 3 9 q
      have c1 : w.drew.cell? ⟨bb, 1, none⟩ = some (.slice none 0 0) := blk_cell (blk_drew hbk) 1 rfl
      have hSD : (Builtin.unsafeSliceData_ #[44] 149 #[.slice none 0 0]).run Tryz.prog w.drew = .ok (.pointer none) w.drew := rfl
      clear hbk hown h hp hne hq hnil
      go_enter Tryz.func48, Tryz.ntmps48
      go_wp2
      go_region
      all_goals
        go_wp2
        go_ret
        exact ⟨rfl, fun _ => False, trivial, fun _ h => h.elim, (Ch.refl _ _).drew⟩
    · have hl0 : l.length ≠ 0 := fun e => h0 (List.eq_nil_of_length_eq_zero e)
      obtain ⟨g, cap, cur, rfl, hbg, hg, hnc, hcm, hcs, htake⟩ : ∃ g cap cur, v = .slice (some ⟨g, 0, none⟩) l.length cap ∧ 0 ≤ g ∧ w.heap[g]? = some (.cells cur 5 (0, 0)) ∧ l.length ≤ cap ∧ cap ≤ maxLen ∧ cur.size = cap * 1 ∧ cur.toList.take (l.length * 1) = Lib.byteCells l := by
        rcases hown.2 with ⟨_, hz⟩ | ⟨g, cap, cur, hv, r⟩
        · exact absurd hz hl0
        · exact ⟨g, cap, cur, hv, r⟩
      have c1 : w.drew.cell? ⟨bb, 1, none⟩ = some (.slice (some ⟨g, 0, none⟩) l.length cap) := blk_cell (blk_drew hbk) 1 rfl
      have hSD : (Builtin.unsafeSliceData_ #[44] 149 #[.slice (some ⟨g, 0, none⟩) l.length cap]).run Tryz.prog w.drew = .ok (.pointer (some ⟨g, 0, none⟩)) w.drew :=
        Lib.run_unsafeSliceData_row _ _ _ _ _ _ (by omega)
      have hUS : (Builtin.unsafeString_ #[149, 3] 9 #[.pointer (some ⟨g, 0, none⟩), .int .i64 l.length]).run Tryz.prog w.drew = .ok (.string ⟨l.toArray⟩) (w.drew.freeze ⟨g, 0, none⟩ l.length) := by
        refine Lib.run_unsafeString_row w.drew 149 3 9 5 Tryz.underlying149 bldCells g cur.size (by have hg' : w.drew.heap[g]? = some (.cells cur 5 (0, 0)) := hg; simp [World.shape?, hg']) l h0 (by omega) (by unfold maxLen at hcm; omega) ?_
        intro j x hx
        exact hown.cells (g := g) rfl j (.int .u8 x.toNat) (by simp [Lib.byteCells, hx])
      have hF : F g := hq g rfl
      have hch : Ch F w (w.drew.freeze ⟨g, 0, none⟩ l.length) := by
        unfold World.freeze
        rw [if_neg hl0]
        refine ⟨rfl, rfl, rfl, ?_, fun k hk hs => ?_⟩
        · show w.heap.size ≤ (w.drew.heap.modify g _).size
          rw [Array.size_modify]; exact Nat.le_refl _
        · have hne2 : ¬ g = k := fun e => hs (by rw [← e]; exact hF)
          show (w.drew.heap.modify g _)[k]? = w.heap[k]?
          rw [Array.getElem?_modify, if_neg hne2]; rfl
      have HCH := Lib.hid hch
      clear hbk hown h hp hne hq hnil hg hbg hcs htake hF hch
      go_enter Tryz.func48, Tryz.ntmps48
      go_wp2
      go_region
      all_goals
        go_wp2
        go_ret
        exact ⟨rfl, fun _ => False, trivial, fun _ h => h.elim, HCH.out⟩
  exact key.mono (fun e w' h => ⟨h.1, h.2.right⟩)
end Go.Proofs.YtbcnibnkojnpiaaGreat.P
namespace Go.Proofs.YtbcnibnkojnpiaaGreat.P
open Go.RowKit Go.MuLone Go.Maps
/-- What the closure does with a piece. -/
structure Cbd {X : Type} (rd : X → Sp) (B : X → Asn) (Ok : Int → X → Prop) (pb b fi : Nat) (n : Int) (f : Int → Int → Int → X → X) (gd : FuncId) (cd : Array Value) (w0 : World) : Prop where
  stB : ∀ x, Stable (B x)
  okd : ∀ x p a c, Ok a x → 0 ≤ a → a < c → c ≤ n → c ≤ a + 256 → Ok c (f p a c x)
  calld : ∀ (p a c : Int) (w : World), (callFunc gd (#[.int .u64 p, .int .i64 a, .int .i64 c] ++ cd)).run Tryz.prog w = .ok (.enter gd (#[.int .u64 p, .int .i64 a, .int .i64 c] ++ cd)) w
  doit : ∀ x p a c w R, Stable R → Ok a x → u64 p → 0 ≤ a → a < c → c ≤ n → c ≤ a + 256 → Own w0 w (Star (plA pb b fi (rd x).L (rd x).s) (Star (B x) R)) →
    Calls Tryz.prog gd (#[.int .u64 p, .int .i64 a, .int .i64 c] ++ cd) w fun e w' => e = .returned (.tuple #[]) ∧ Own w0 w' (Star (plA pb b fi (rd (f p a c x)).L (rd (f p a c x)).s) (Star (B (f p a c x)) R))
theorem walkV_u64 (fr : Nat) (s : List UInt8) (r a acc : Int) (ha : 0 ≤ a) : u64 (walkV fr s r a acc) := by
  have he := ent_word s (leafV fr s r a)
  have h0 := he.1
  have h1 := he.2
  unfold walkV walkE
  cases decide (walkR fr s r a acc = 0)
  · rw [cond_false]; exact ⟨by omega, by omega⟩
  · rw [cond_true]; exact ⟨by omega, by omega⟩
set_option maxHeartbeats 1600000 in
theorem o_chunks {X : Type} {rd : X → Sp} {B : X → Asn} {Ok : Int → X → Prop} {pb b fi : Nat} {n : Int} {f : Int → Int → Int → X → X} {gd : FuncId} {cd : Array Value} {w0 : World} (C : Cbd rd B Ok pb b fi n f gd cd w0)
    (x : X) (r a acc : Int) (w : World) (R : Asn) (hR : Stable R) (hk : Ok 0 x) (hn : 0 ≤ n ∧ n ≤ 4096) (hr : i64 r) (ha : u64 a) (h : Own w0 w (Star (plA pb b fi (rd x).L (rd x).s) (Star (B x) R))) :
    Calls Tryz.prog 39 #[.pointer (some ⟨pb, 0, none⟩), .int .i64 r, .int .u64 a, .int .i64 n, .int .i64 acc, .func (.func gd) #[] cd] w fun e w' =>
      e = .returned (.int .i64 (chunkX rd r a n acc f (n.toNat + 1) 0 x).2) ∧ Own w0 w' (Star (plA pb b fi (rd (chunkX rd r a n acc f (n.toNat + 1) 0 x).1).L (rd (chunkX rd r a n acc f (n.toNat + 1) 0 x).1).s) (Star (B (chunkX rd r a n acc f (n.toNat + 1) 0 x).1) R)) := by
  have H := Lib.hid h
  have HK := Lib.hid hk
  have HC := Lib.hid C
  have HR := Lib.hid hR
  have HRI := Lib.hid hr
  obtain ⟨n0, n1⟩ := hn
  obtain ⟨a0, a1⟩ := ha
  have CD := C.calld
  obtain ⟨res, hres⟩ : ∃ res, chunkX rd r a n acc f (n.toNat + 1) 0 x = res := ⟨_, rfl⟩
  rw [hres]
  have HRES := Lib.hid hres
  clear h hk C hR hres hr
  go_enter Tryz.func39, Tryz.ntmps39
  go_wp2_with fail
  go_loopg [13] (n.toNat + 1) (fun t v13 wr => ∃ (from_ : Int) (y : X) (F : Nat), 0 ≤ from_ ∧ from_ ≤ n ∧ t = F ∧ n - from_ < (F : Int) ∧ v13 = .int .i64 from_ ∧ chunkX rd r a n acc f F from_ y = res ∧ Ok from_ y ∧ Own w0 wr (Star (plA pb b fi (rd y).L (rd y).s) (Star (B y) R)))
  case atStart => exact ⟨0, x, n.toNat + 1, by omega, by omega, rfl, by omega, rfl, HRES.out, HK.out, H.out⟩
  case round =>
    clear H HK HRES
    obtain ⟨from_, y, F, g0, g1, ht, g2, rfl, hy, hok, ho⟩ := hrel
    have HOKY := Lib.hid hok
    have HO := Lib.hid ho
    obtain ⟨F', rfl⟩ : ∃ F', F = F' + 1 := ⟨F - 1, by omega⟩
    rw [chunkX] at hy
    clear hok ho
    by_cases hlt : n ≤ from_
    · have d1 : ¬ from_ < n := by omega
      rw [decide_eq_true hlt, cond_true] at hy
      subst hy
      go_wp2_with fail
      go_ret
      exact ⟨rfl, HO.out⟩
    · have d1 : from_ < n := by omega
      rw [decide_eq_false hlt, cond_false] at hy
      obtain ⟨V, hV⟩ : ∃ V, IntKind.u64.wrap (a + from_) = V := ⟨_, rfl⟩
      have hVb : 0 ≤ V ∧ V < 18446744073709551616 := by rw [← hV, IntKind.wrap_u64]; omega
      obtain ⟨v0, v1⟩ := hVb
      obtain ⟨to_, hto⟩ : ∃ to_, pieceI a n from_ = to_ := ⟨_, rfl⟩
      have hto2 : to_ = min n (from_ + 256 - V % 256) := by rw [← hto, ← hV]; rfl
      rw [hV, hto] at hy
      have b1 : from_ < to_ ∧ to_ ≤ n ∧ to_ ≤ from_ + 256 := by omega
      obtain ⟨b1, b2, b3⟩ := b1
      have k1 : IntKind.u64.wrap from_ = from_ := wrapU _ (by omega) (by omega)
      have k2 : IntKind.i64.wrap (from_ + 256) = from_ + 256 := wrapI _ (by omega) (by omega)
      have m0 : 0 ≤ V % 256 ∧ V % 256 < 256 := by omega
      obtain ⟨M, hM⟩ : ∃ M, V % 256 = M := ⟨_, rfl⟩
      rw [hM] at hto2 m0
      have k3 : IntKind.i64.wrap M = M := wrapI _ (by omega) (by omega)
      have k3' : IntKind.i64.wrap (V % 256) = M := by rw [hM, k3]
      have k4 : IntKind.i64.wrap (from_ + 256 - M) = from_ + 256 - M := wrapI _ (by omega) (by omega)
      have htm : V.tmod 256 = M := by rw [Int.tmod_eq_emod_of_nonneg v0, hM]
      obtain ⟨wr_, hwr⟩ : ∃ x, walkR (rd y).L.length (rd y).s r V acc = x := ⟨_, rfl⟩
      obtain ⟨wv_, hwv⟩ : ∃ x, walkV (rd y).L.length (rd y).s r V acc = x := ⟨_, rfl⟩
      have hwu := walkV_u64 (rd y).L.length (rd y).s r V acc v0
      rw [hwr, hwv] at hy
      rw [hwv] at hwu
      have SB := Lib.hid (stable_star (HC.out.stB y) HR.out)
      have WK : RowKit.Hid (∀ w, Own w0 w (Star (plA pb b fi (rd y).L (rd y).s) (Star (B y) R)) → Calls Tryz.prog 44 #[.pointer (some ⟨b, 0, none⟩), .int .i64 r, .int .u64 V, .int .i64 acc] w fun e w' => e = .returned (.tuple #[.int .u64 wv_, .int .i64 wr_]) ∧ Own w0 w' (Star (plA pb b fi (rd y).L (rd y).s) (Star (B y) R))) := Lib.hid (fun w h => o_pwalk h SB.out r V acc wv_ wr_ ⟨v0, by omega⟩ HRI.out hwv hwr)
      have hto3 : min n (from_ + 256 - M) = to_ := hto2.symm
      clear hto hwr hwv hto2
      by_cases hw0 : wr_ = 0
      · subst hw0
        rw [decide_eq_true rfl, cond_true] at hy
        have hcall := CD wv_ from_ to_
        have DO : RowKit.Hid (∀ w, Own w0 w (Star (plA pb b fi (rd y).L (rd y).s) (Star (B y) R)) → _) := Lib.hid (fun w h => HC.out.doit y wv_ from_ to_ w R HR.out HOKY.out hwu g0 b1 b2 b3 h)
        have HOK2 := Lib.hid (HC.out.okd y wv_ from_ to_ HOKY.out g0 b1 b2 b3)
        have HY := Lib.hid hy
        clear hy hwu
        go_wp2_with (first
          | (go_at_call 42; refine (o_pmem HO.out).mono ?_; rintro e wm ⟨rfl, rfl⟩)
          | (go_at_call 44; refine (WK.out _ HO.out).mono ?_; rintro e w2 ⟨rfl, h2⟩; have H2 := Lib.hid h2; clear h2))
        refine (DO.out _ H2.out).mono ?_
        rintro e w3 ⟨rfl, h3⟩
        have H3 := Lib.hid h3
        clear h3
        go_wp2_with fail
        go_roundg F'
        case measure => omega
        case rel => exact ⟨to_, _, F', by omega, b2, rfl, by omega, by go_num, HY.out, HOK2.out, H3.out⟩
      · have hwb : (wr_ == 0) = false := by simpa using hw0
        have hwb2 : (wr_ != 0) = true := by simpa using hw0
        rw [decide_eq_false hw0, cond_false] at hy
        subst hy
        clear hwu
        go_wp2_with (first
          | (go_at_call 42; refine (o_pmem HO.out).mono ?_; rintro e wm ⟨rfl, rfl⟩)
          | (go_at_call 44; refine (WK.out _ HO.out).mono ?_; rintro e w2 ⟨rfl, h2⟩; have H2 := Lib.hid h2; clear h2))
        go_ret
        exact ⟨rfl, H2.out⟩
end Go.Proofs.YtbcnibnkojnpiaaGreat.P
namespace Go.Proofs.YtbcnibnkojnpiaaGreat.P
open Go.RowKit Go.MuLone Go.Maps
variable {w0 w : World} {pb b first : Nat} {z : Sp} {R : Asn}
abbrev poolB (xq pb : Nat) : Asn := blkA xq (.cells #[.pointer (some ⟨pb, 0, none⟩)] 25)
theorem getV_size (s : List UInt8) (p k : Int) (hk : 0 ≤ k) : ((getV s p k).size : Int) ≤ k := by
  unfold getV
  rw [if_neg (by omega)]
  split
  · show (((s.drop p.toNat).take k.toNat).toArray.size : Int) ≤ k
    rw [List.size_toArray, List.length_take]; omega
  · show ((#[] : Array UInt8).size : Int) ≤ k
    simp; omega
theorem piece_bd (a n from_ : Int) (h : from_ < n) : from_ < pieceI a n from_ ∧ pieceI a n from_ ≤ n ∧ pieceI a n from_ ≤ from_ + 256 := by
  unfold pieceI
  have : 0 ≤ IntKind.u64.wrap (a + from_) % 256 ∧ IntKind.u64.wrap (a + from_) % 256 < 256 := by omega
  omega
theorem chunkX_inv {X : Type} {rd : X → Sp} {root at_ n acc : Int} {f : Int → Int → Int → X → X} {Ok : Int → X → Prop} (hf : ∀ x p a c, Ok a x → 0 ≤ a → a < c → c ≤ n → c ≤ a + 256 → Ok c (f p a c x)) :
    ∀ (F : Nat) (from_ : Int) (x : X), 0 ≤ from_ → from_ ≤ n → Ok from_ x → ∃ c, c ≤ n ∧ Ok c (chunkX rd root at_ n acc f F from_ x).1
  | 0, from_, x, _, h1, h2 => ⟨from_, h1, h2⟩
  | F + 1, from_, x, h0, h1, h2 => by
    rw [chunkX]
    by_cases hl : n ≤ from_
    · rw [decide_eq_true hl, cond_true]; exact ⟨from_, h1, h2⟩
    · rw [decide_eq_false hl, cond_false]
      obtain ⟨b1, b2, b3⟩ := piece_bd at_ n from_ (by omega)
      cases decide (walkR (rd x).L.length (rd x).s root (IntKind.u64.wrap (at_ + from_)) acc = 0)
      · exact ⟨from_, h1, h2⟩
      · exact chunkX_inv hf F _ _ (by omega) b2 (hf x _ from_ _ h2 h0 b1 b2 b3)
set_option maxHeartbeats 1000000 in
theorem o_in1 {xq bb : Nat} {l : List UInt8} (h : Own w0 w (Star (plA pb b first z.L z.s) (Star (Star (poolB xq pb) (bldA bb l)) R))) (hR : Stable R) (p a c : Int) (hp : u64 p) (ha : 0 ≤ a) (hc : a < c) (hc2 : c ≤ 4096) (hl : (l.length : Int) ≤ a) :
    Calls Tryz.prog 46 #[.int .u64 p, .int .i64 a, .int .i64 c, .pointer (some ⟨xq, 0, none⟩), .pointer (some ⟨bb, 0, none⟩)] w fun e w' => e = .returned (.tuple #[]) ∧ Own w0 w' (Star (plA pb b first z.L z.s) (Star (Star (poolB xq pb) (bldA bb (l ++ (getV z.s p (c - a)).data.toList))) R)) := by
  have SB := stable_star (stable_star (stable_blk xq (.cells #[.pointer (some ⟨pb, 0, none⟩)] 25)) (stable_bld bb l)) hR
  have c0 := blk_cell (h.mono (fun F h => star_assoc (star_swap2 h))).blk 0 (v := .pointer (some ⟨pb, 0, none⟩)) rfl
  have k1 : IntKind.i64.wrap (c - a) = c - a := wrapI _ (by omega) (by omega)
  have hsz := getV_size z.s p (c - a) (by omega)
  obtain ⟨V, hV⟩ : ∃ V, getV z.s p (c - a) = V := ⟨_, rfl⟩
  obtain ⟨E, hE⟩ : ∃ V, getR z.s p (c - a) = V := ⟨_, rfl⟩
  rw [hV] at hsz ⊢
  have G := Lib.hid (o_pget h SB p (c - a) E hp (by omega) V hV hE)
  have WS : RowKit.Hid (∀ w, Own w0 w (Star (plA pb b first z.L z.s) (Star (Star (poolB xq pb) (bldA bb l)) R)) → Calls Tryz.prog 47 #[.pointer (some ⟨bb, 0, none⟩), .string V] w fun e w' => e = .returned (.tuple #[.int .i64 V.size, .nilIface]) ∧ Own w0 w' (Star (plA pb b first z.L z.s) (Star (Star (poolB xq pb) (bldA bb (l ++ V.data.toList))) R))) := Lib.hid (fun w h => by
    have h2 : Own w0 w (Star (bldA bb l) (Star (plA pb b first z.L z.s) (Star (poolB xq pb) R))) := h.mono (fun F h => st3 (star_mono_r (fun F h => star_assoc h) h))
    refine (o_bwrite h2 (stable_star (stable_pl _ _ _ _ _) (stable_star (stable_blk _ _) hR)) V (by omega)).mono ?_
    rintro e w' ⟨rfl, h3⟩
    exact ⟨rfl, h3.mono (fun F h => star_mono_r (fun F h => star_unassoc h) (bk3 h))⟩)
  have H0 := Lib.hid h
  clear h hR SB hp ha hc hc2 hl hV hE hsz
  go_enter Tryz.func46, Tryz.ntmps46
  go_wp2_with (first
    | (go_at_call 42; refine (o_pmem H0.out).mono ?_; rintro e wm ⟨rfl, rfl⟩)
    | (go_at_call 13; refine G.out.mono ?_; rintro e w2 ⟨rfl, h2⟩; have H2 := Lib.hid h2; clear h2)
    | (go_at_call 47; refine (WS.out _ H2.out).mono ?_; rintro e w3 ⟨rfl, h3⟩; have H3 := Lib.hid h3; clear h3))
  go_end0
  exact ⟨rfl, H3.out⟩
theorem cbd_in (w0 : World) (pb b fi xq bb : Nat) (z : Sp) (n : Int) (hn : n ≤ 4096) : Cbd (X := List UInt8) (fun _ => z) (fun x => Star (poolB xq pb) (bldA bb x)) (fun a x => (x.length : Int) ≤ a) pb b fi n (fun p a c x => x ++ (getV z.s p (c - a)).data.toList) 46 #[.pointer (some ⟨xq, 0, none⟩), .pointer (some ⟨bb, 0, none⟩)] w0 := by
  refine ⟨fun x => stable_star (stable_blk _ _) (stable_bld _ _), ?_, ?_, ?_⟩
  · intro x p a c h1 h2 h3 h4 h5
    have := getV_size z.s p (c - a) (by omega)
    show ((x ++ (getV z.s p (c - a)).data.toList).length : Int) ≤ c
    have e2 : (getV z.s p (c - a)).data.toList.length = (getV z.s p (c - a)).size := Array.length_toList
    rw [List.length_append]
    omega
  · intro p a c w; simp [go_sem]
  · intro x p a c w R hR hk hp h0 h1 h2 h3 h
    exact o_in1 h hR p a c hp h0 h1 (by omega) hk
theorem o_in_bad (h : Own w0 w (Star (plA pb b first z.L z.s) R)) (hR : Stable R) (r a n : Int) (hr : i64 r) (hbad : movedBad first z r n = true) :
    Calls Tryz.prog 17 #[.pointer (some ⟨pb, 0, none⟩), .int .i64 r, .int .u64 a, .int .i64 n] w fun e w' => e = .returned (.tuple #[.string ⟨#[]⟩, .int .i64 1]) ∧ Own w0 w' (Star (plA pb b first z.L z.s) R) := by
  have SP := stable_star (stable_pl pb b first z.L z.s) hR
  have K1 := h.alloc SP (.cells #[.pointer (some ⟨pb, 0, none⟩)] 25)
  have SB := stable_star (stable_blk w.heap.size (.cells #[.pointer (some ⟨pb, 0, none⟩)] 25)) hR
  obtain ⟨tk, htk⟩ : ∃ t, tknB z.L first r = t := ⟨_, rfl⟩
  have TK := Lib.hid (o_ptaken K1.swap2 SB r hr tk htk)
  unfold movedBad at hbad
  rw [htk] at hbad
  clear h hR SP SB hr htk K1
  rcases (show tk = false ∨ (tk = true ∧ n < 0) ∨ (tk = true ∧ ¬ n < 0 ∧ 4096 < n) by
    cases tk
    · exact .inl rfl
    · simp only [Bool.not_true, Bool.false_or, Bool.or_eq_true, decide_eq_true_eq] at hbad
      rcases hbad with e | e
      · exact .inr (.inl ⟨rfl, e⟩)
      · exact .inr (.inr ⟨rfl, by omega, e⟩)) with rfl | ⟨rfl, e⟩ | ⟨rfl, e, e2⟩
  all_goals
    clear hbad
    go_enter Tryz.func17, Tryz.ntmps17
    go_wp2_with (go_at_call 32; refine TK.out.mono ?_; rintro e w2 ⟨rfl, h2⟩; have H2 := Lib.hid h2; clear h2)
    go_ret2
    exact ⟨rfl, H2.out.drop2⟩
set_option maxHeartbeats 1600000 in
theorem o_in_go (h : Own w0 w (Star (plA pb b first z.L z.s) R)) (hR : Stable R) (r a n : Int) (hr : i64 r) (ha : u64 a) (hbad : movedBad first z r n = false) (l : List UInt8) (E : Int) (hx : inX z r a n = (l, E)) :
    Calls Tryz.prog 17 #[.pointer (some ⟨pb, 0, none⟩), .int .i64 r, .int .u64 a, .int .i64 n] w fun e w' => e = .returned (.tuple #[.string (bif decide (E = 0) then ⟨l.toArray⟩ else ⟨#[]⟩), .int .i64 E]) ∧ Own w0 w' (Star (plA pb b first z.L z.s) R) := by
  have hb : tknB z.L first r = true ∧ ¬ n < 0 ∧ ¬ 4096 < n := by
    unfold movedBad at hbad
    cases q : tknB z.L first r
    · rw [q] at hbad; cases hbad
    · rw [q] at hbad
      simp only [Bool.not_true, Bool.false_or, Bool.or_eq_false_iff, decide_eq_false_iff_not] at hbad
      exact ⟨rfl, hbad⟩
  obtain ⟨htk, e1, e2⟩ := hb
  have SP := stable_star (stable_pl pb b first z.L z.s) hR
  have K1 := h.alloc SP (.cells #[.pointer (some ⟨pb, 0, none⟩)] 25)
  have SB := stable_star (stable_blk w.heap.size (.cells #[.pointer (some ⟨pb, 0, none⟩)] 25)) hR
  have TK := Lib.hid (o_ptaken K1.swap2 SB r hr true htk)
  have HR := Lib.hid hR
  have HSP := Lib.hid (stable_pl pb b first z.L z.s)
  have HSB := Lib.hid SB
  have CH : RowKit.Hid (∀ (w : World) (xq bb : Nat), Own w0 w (Star (plA pb b first z.L z.s) (Star (Star (poolB xq pb) (bldA bb [])) R)) → Calls Tryz.prog 39 #[.pointer (some ⟨pb, 0, none⟩), .int .i64 r, .int .u64 a, .int .i64 n, .int .i64 1, .func (.func 46) #[] #[.pointer (some ⟨xq, 0, none⟩), .pointer (some ⟨bb, 0, none⟩)]] w fun e w' =>
      e = .returned (.int .i64 E) ∧ Own w0 w' (Star (plA pb b first z.L z.s) (Star (Star (poolB xq pb) (bldA bb l)) R))) := Lib.hid (fun w xq bb h => by
    refine (o_chunks (cbd_in w0 pb b first xq bb z n (by omega)) [] r a 1 w R hR (by simp) ⟨by omega, by omega⟩ hr ha h).mono ?_
    unfold inX at hx
    rw [hx]
    exact fun e w' h => h)
  have hll : l.length ≤ 100000 := by
    obtain ⟨c, hc, hk⟩ := chunkX_inv (rd := fun _ : List UInt8 => z) (root := r) (at_ := a) (n := n) (acc := 1) (f := fun p a c x => x ++ (getV z.s p (c - a)).data.toList) (Ok := fun a (x : List UInt8) => (x.length : Int) ≤ a) (cbd_in w0 pb b first 0 0 z n (by omega)).okd (n.toNat + 1) 0 [] (by decide) (by omega) (by simp)
    unfold inX at hx
    rw [hx] at hk
    have hk : (l.length : Int) ≤ c := hk
    omega
  obtain ⟨S, hS⟩ : ∃ S, (bif decide (E = 0) then (⟨l.toArray⟩ : ByteArray) else ⟨#[]⟩) = S := ⟨_, rfl⟩
  have hS1 : E = 0 → S = ⟨l.toArray⟩ := fun e => by rw [← hS, decide_eq_true e]; rfl
  have hS2 : E ≠ 0 → S = ⟨#[]⟩ := fun e => by rw [← hS, decide_eq_false e]; rfl
  rw [hS]
  clear hS
  have BS : RowKit.Hid (∀ (w : World) (xq bb : Nat), Own w0 w (Star (plA pb b first z.L z.s) (Star (Star (poolB xq pb) (bldA bb l)) R)) → Calls Tryz.prog 48 #[.pointer (some ⟨bb, 0, none⟩)] w fun e w' => e = .returned (.string ⟨l.toArray⟩) ∧ Own w0 w' (Star (plA pb b first z.L z.s) R)) := Lib.hid (fun w xq bb h => by
    have h2 : Own w0 w (Star (bldA bb l) (Star (plA pb b first z.L z.s) (Star (poolB xq pb) R))) := h.mono (fun F h => st3 (star_mono_r (fun F h => star_assoc h) h))
    refine (o_bstring h2 (stable_star (stable_pl _ _ _ _ _) (stable_star (stable_blk _ _) hR)) hll).mono ?_
    rintro e w' ⟨rfl, h3⟩
    exact ⟨rfl, h3.drop2⟩)
  clear h hR SP SB hr ha htk K1 hx hll hbad
  go_enter Tryz.func17, Tryz.ntmps17
  go_upto_region 3 with (go_at_call 32; refine TK.out.mono ?_; rintro e w2 ⟨rfl, h2⟩; have H2 := Lib.hid h2; clear h2)
  clear TK
  generalize w.heap.size = xq at *
  go_upto_region 4 with fail
  have A1 := H2.out.alloc (stable_star HSP.out HSB.out) (.cells #[.pointer none, .slice none 0 0] 99)
  have A2 : RowKit.Hid (Own w0 (w2.alloc (.cells #[.pointer none, .slice none 0 0] 99)) (Star (plA pb b first z.L z.s) (Star (Star (poolB xq pb) (bldA w2.heap.size [])) R))) := Lib.hid (A1.mono (fun F h => by
    obtain ⟨F1, F2, hb1, hb2, hd, s1, s2⟩ := h
    have hb3 : bldA w2.heap.size [] (w2.alloc (.cells #[.pointer none, .slice none 0 0] 99)) F1 := ⟨hb1.1, _, _, .inl rfl, hb1.2, ⟨rfl, .inl ⟨rfl, rfl⟩⟩, by simp [Value.ownBlock], fun q hq => (by cases hq), fun _ => rfl⟩
    -- bb, pool, xq, R
    have h1 : Star (bldA w2.heap.size []) (Star (plA pb b first z.L z.s) (Star (poolB xq pb) R)) _ F := ⟨F1, F2, hb3, hb2, hd, s1, s2⟩
    exact star_mono_r (fun F h => star_unassoc (star_swap2 h)) (star_swap2 h1)))
  clear A1 H2
  have c0 := blk_cell (A2.out.mono (fun F h => star_assoc (star_swap2 h))).blk 0 (v := .pointer (some ⟨pb, 0, none⟩)) rfl
  generalize (World.alloc w2 _) = w3 at *
  generalize w2.heap.size = bb at *
  have E3 := Lib.hid (CH.out w3 xq bb A2.out)
  clear CH
  by_cases h0 : E = 0
  · subst h0
    obtain rfl := hS1 rfl
    go_wp2_with (first
      | (go_at_call 39; refine E3.out.mono ?_; rintro e w4 ⟨rfl, h4⟩; have H4 := Lib.hid h4; clear h4)
      | (go_at_call 48; refine (BS.out _ xq bb H4.out).mono ?_; rintro e w5 ⟨rfl, h5⟩; have H5 := Lib.hid h5; clear h5))
    go_ret2
    exact ⟨rfl, H5.out⟩
  · have hwb2 : (E != 0) = true := by simpa using h0
    obtain rfl := hS2 h0
    go_wp2_with (go_at_call 39; refine E3.out.mono ?_; rintro e w4 ⟨rfl, h4⟩; have H4 := Lib.hid h4; clear h4)
    go_ret2
    exact ⟨rfl, H4.out.drop2⟩
end Go.Proofs.YtbcnibnkojnpiaaGreat.P
namespace Go.Proofs.YtbcnibnkojnpiaaGreat.P
open Go.RowKit Go.MuLone Go.Maps
variable {w0 w : World} {pb b first : Nat} {z : Sp} {R : Asn}
abbrev strB (sb : Nat) (s : ByteArray) : Asn := blkA sb (.cells #[.string s] 9)
abbrev outB (xq sb pb : Nat) (s : ByteArray) : Asn := Star (poolB xq pb) (strB sb s)
theorem stable_outB (xq sb pb : Nat) (s : ByteArray) : Stable (outB xq sb pb s) := stable_star (stable_blk _ _) (stable_blk _ _)
theorem outB_p {A : Asn} {xq sb : Nat} {s : ByteArray} (h : Own w0 w (Star A (Star (outB xq sb pb s) R))) : w.cell? ⟨xq, 0, none⟩ = some (.pointer (some ⟨pb, 0, none⟩)) :=
  blk_cell (h.mono (fun F h => star_assoc (star_swap2 h))).blk 0 rfl
theorem outB_s {A : Asn} {xq sb : Nat} {s : ByteArray} (h : Own w0 w (Star A (Star (outB xq sb pb s) R))) : w.cell? ⟨sb, 0, none⟩ = some (.string s) :=
  blk_cell (h.mono (fun F h => star_swap2 (star_assoc (star_swap2 h)))).blk 0 rfl
def putX2 (s : ByteArray) (p a c : Int) (x : Sp) : Sp := ⟨x.L, putS x.s p (s.extract a.toNat c.toNat)⟩
set_option maxHeartbeats 1600000 in
theorem o_out2 {xq sb : Nat} {s : ByteArray} (h : Own w0 w (Star (plA pb b first z.L z.s) (Star (outB xq sb pb s) R))) (hR : Stable R) (p a c : Int) (hp : u64 p) (ha : 0 ≤ a) (hc : a < c) (hc2 : c ≤ s.size) (hs : s.size ≤ 4096) :
    Calls Tryz.prog 41 #[.int .u64 p, .int .i64 a, .int .i64 c, .pointer (some ⟨xq, 0, none⟩), .pointer (some ⟨sb, 0, none⟩)] w fun e w' => e = .returned (.tuple #[]) ∧ Own w0 w' (Star (plA pb b first (putX2 s p a c z).L (putX2 s p a c z).s) (Star (outB xq sb pb s) R)) := by
  have SB := stable_star (stable_outB xq sb pb s) hR
  obtain ⟨A, rfl⟩ : ∃ A : Nat, a = (A : Int) := ⟨a.toNat, by omega⟩
  obtain ⟨C, rfl⟩ : ∃ C : Nat, c = (C : Int) := ⟨c.toNat, by omega⟩
  have c0 := outB_p h
  have c1 := outB_s h
  have HS := Lib.hid (stable_star (stable_pl pb b first z.L z.s) SB)
  have H0 := Lib.hid h
  have l1 : C ≤ s.size := by omega
  have l2 : A ≤ C := by omega
  obtain ⟨E, hE⟩ : ∃ E, putR z.s p (s.extract A C) = E := ⟨_, rfl⟩
  have hxs : (s.extract A C).size ≤ maxLen := by
    rw [ByteArray.size_extract]; unfold maxLen; omega
  have PT : RowKit.Hid (∀ w, Own w0 w (Star (plA pb b first z.L z.s) (Star (outB xq sb pb s) R)) → Calls Tryz.prog 43 #[.pointer (some ⟨b, 0, none⟩), .int .u64 p, .string (s.extract A C)] w fun e w' => e = .returned (.int .i64 E) ∧ Own w0 w' (Star (plA pb b first (putX2 s p A C z).L (putX2 s p A C z).s) (Star (outB xq sb pb s) R))) := Lib.hid (fun w h => o_pput h SB p _ E hp hxs _ rfl hE)
  generalize (putX2 s p A C z).L = L2 at *
  generalize (putX2 s p A C z).s = s2 at *
  clear h hR SB hp hE hxs
  go_enter Tryz.func41, Tryz.ntmps41
  go_wp2_with fail
  have hS : Own w0 w (Star (plA pb b first z.L z.s) (Star (outB xq sb pb s) R)) := H0.out
  have hS1 := hS.drew HS.out
  go_region_with (first
      | (go_at_call 42; refine (o_pmem (H0.out.drew HS.out)).mono ?_; rintro e w3 ⟨rfl, rfl⟩)
      | (go_at_call 43; refine (PT.out _ (H0.out.drew HS.out)).mono ?_; rintro e w3 ⟨rfl, h3⟩))
  all_goals
    go_wp2_with fail
    go_end0
    exact ⟨rfl, by assumption⟩
theorem o_out1 (w : World) (p a c : Int) : Calls Tryz.prog 40 #[.int .u64 p, .int .i64 a, .int .i64 c] w fun e w' => e = .returned (.tuple #[]) ∧ w' = w := by
  go_enter Tryz.func40, Tryz.ntmps40
  go_wp2_with fail
  go_end0
  exact ⟨rfl, rfl⟩
theorem cbd_out1 (w0 : World) (pb b fi : Nat) (z : Sp) (A : Asn) (hA : Stable A) (n : Int) : Cbd (X := Unit) (fun _ => z) (fun x => A) (fun a x => True) pb b fi n (fun _ _ _ u => u) 40 #[] w0 := by
  refine ⟨fun x => hA, fun _ _ _ _ _ _ _ _ _ => trivial, ?_, ?_⟩
  · intro p a c w; simp [go_sem]
  · intro x p a c w R hR hk hp h0 h1 h2 h3 h
    refine (o_out1 w p a c).mono ?_
    rintro e w' ⟨rfl, rfl⟩
    exact ⟨rfl, h⟩
theorem cbd_out2 (w0 : World) (pb b fi xq sb : Nat) (s : ByteArray) (hs : s.size ≤ 4096) : Cbd (X := Sp) id (fun x => outB xq sb pb s) (fun a x => True) pb b fi s.size (fun p a c x => putX2 s p a c x) 41 #[.pointer (some ⟨xq, 0, none⟩), .pointer (some ⟨sb, 0, none⟩)] w0 := by
  refine ⟨fun x => stable_outB _ _ _ _, fun _ _ _ _ _ _ _ _ _ => trivial, ?_, ?_⟩
  · intro p a c w; simp [go_sem]
  · intro x p a c w R hR hk hp h0 h1 h2 h3 h
    exact o_out2 h hR p a c hp h0 h1 h2 hs
/-- May all of them be written: then they are. -/
def outC (z : Sp) (root at_ n : Int) : Int := (chunkX (X := Unit) (fun _ => z) root at_ n 2 (fun _ _ _ u => u) (n.toNat + 1) 0 ()).2
def outW (z : Sp) (root at_ : Int) (s : ByteArray) : Sp × Int := chunkX (X := Sp) id root at_ s.size 2 (fun p a c x => putX2 s p a c x) (((s.size : Nat) : Int).toNat + 1) 0 z
theorem o_out_bad (h : Own w0 w (Star (plA pb b first z.L z.s) R)) (hR : Stable R) (r a : Int) (s : ByteArray) (hr : i64 r) (hs : s.size ≤ 9223372036854775807) (hbad : movedBad first z r s.size = true) :
    Calls Tryz.prog 15 #[.pointer (some ⟨pb, 0, none⟩), .int .i64 r, .int .u64 a, .string s] w fun e w' => e = .returned (.int .i64 1) ∧ Own w0 w' (Star (plA pb b first z.L z.s) R) := by
  have SP := stable_star (stable_pl pb b first z.L z.s) hR
  have K1 := h.alloc SP (.cells #[.pointer (some ⟨pb, 0, none⟩)] 25)
  have SB := stable_star (stable_blk w.heap.size (.cells #[.pointer (some ⟨pb, 0, none⟩)] 25)) SP
  have K2 := K1.alloc SB (.cells #[.string s] 9)
  rw [size_alloc] at K2
  have K3 : Own w0 ((w.alloc (.cells #[.pointer (some ⟨pb, 0, none⟩)] 25)).alloc (.cells #[.string s] 9)) (Star (plA pb b first z.L z.s) (Star (outB w.heap.size (w.heap.size + 1) pb s) R)) := K2.mono (fun F h => star_mono_r (fun F h => star_unassoc (star_swap2 h)) (st3 h))
  have SO := stable_star (stable_outB w.heap.size (w.heap.size + 1) pb s) hR
  obtain ⟨tk, htk⟩ : ∃ t, tknB z.L first r = t := ⟨_, rfl⟩
  have TK := Lib.hid (o_ptaken K3 SO r hr tk htk)
  unfold movedBad at hbad
  rw [htk] at hbad
  clear h hR SP SB hr htk K1 K2 SO K3
  rcases (show tk = false ∨ (tk = true ∧ 4096 < (s.size : Int)) by
    cases tk
    · exact .inl rfl
    · simp only [Bool.not_true, Bool.false_or, Bool.or_eq_true, decide_eq_true_eq] at hbad
      exact .inr ⟨rfl, by omega⟩) with rfl | ⟨rfl, e⟩
  all_goals
    clear hbad
    go_enter Tryz.func15, Tryz.ntmps15
    go_wp2_with (go_at_call 32; refine TK.out.mono ?_; rintro e w2 ⟨rfl, h2⟩; have H2 := Lib.hid h2; have c2 := outB_s h2; clear h2)
    go_ret
    exact ⟨rfl, H2.out.drop2⟩
set_option maxHeartbeats 1600000 in
theorem o_out_go (h : Own w0 w (Star (plA pb b first z.L z.s) R)) (hR : Stable R) (r a : Int) (s : ByteArray) (hr : i64 r) (ha : u64 a) (hbad : movedBad first z r s.size = false) (E1 E2 : Int) (z2 : Sp) (hx : outC z r a s.size = E1) (hx2 : E1 = 0 → outW z r a s = (z2, E2)) :
    Calls Tryz.prog 15 #[.pointer (some ⟨pb, 0, none⟩), .int .i64 r, .int .u64 a, .string s] w fun e w' => e = .returned (.int .i64 (bif decide (E1 = 0) then E2 else E1)) ∧ Own w0 w' (Star (plA pb b first (bif decide (E1 = 0) then z2 else z).L (bif decide (E1 = 0) then z2 else z).s) R) := by
  have hb : tknB z.L first r = true ∧ ¬ 4096 < (s.size : Int) := by
    unfold movedBad at hbad
    cases q : tknB z.L first r
    · rw [q] at hbad; cases hbad
    · rw [q] at hbad
      simp only [Bool.not_true, Bool.false_or, Bool.or_eq_false_iff, decide_eq_false_iff_not] at hbad
      exact ⟨rfl, hbad.2⟩
  obtain ⟨htk, e2⟩ := hb
  have SP := stable_star (stable_pl pb b first z.L z.s) hR
  have K1 := h.alloc SP (.cells #[.pointer (some ⟨pb, 0, none⟩)] 25)
  have SB := stable_star (stable_blk w.heap.size (.cells #[.pointer (some ⟨pb, 0, none⟩)] 25)) SP
  have K2 := K1.alloc SB (.cells #[.string s] 9)
  rw [size_alloc] at K2
  have K3 : Own w0 ((w.alloc (.cells #[.pointer (some ⟨pb, 0, none⟩)] 25)).alloc (.cells #[.string s] 9)) (Star (plA pb b first z.L z.s) (Star (outB w.heap.size (w.heap.size + 1) pb s) R)) := K2.mono (fun F h => star_mono_r (fun F h => star_unassoc (star_swap2 h)) (st3 h))
  have SO := stable_star (stable_outB w.heap.size (w.heap.size + 1) pb s) hR
  have TK := Lib.hid (o_ptaken K3 SO r hr true htk)
  have CH1 : RowKit.Hid (∀ (w : World) (xq sb : Nat), Own w0 w (Star (plA pb b first z.L z.s) (Star (outB xq sb pb s) R)) → Calls Tryz.prog 39 #[.pointer (some ⟨pb, 0, none⟩), .int .i64 r, .int .u64 a, .int .i64 s.size, .int .i64 2, .func (.func 40) #[] #[]] w fun e w' =>
      e = .returned (.int .i64 E1) ∧ Own w0 w' (Star (plA pb b first z.L z.s) (Star (outB xq sb pb s) R))) := Lib.hid (fun w xq sb h => by
    refine (o_chunks (cbd_out1 w0 pb b first z (outB xq sb pb s) (stable_outB _ _ _ _) s.size) () r a 2 w R hR trivial ⟨by omega, by omega⟩ hr ha h).mono ?_
    unfold outC at hx
    rw [hx]
    exact fun e w' h => h)
  have CH2 : RowKit.Hid (∀ (w : World) (xq sb : Nat), E1 = 0 → Own w0 w (Star (plA pb b first z.L z.s) (Star (outB xq sb pb s) R)) → Calls Tryz.prog 39 #[.pointer (some ⟨pb, 0, none⟩), .int .i64 r, .int .u64 a, .int .i64 s.size, .int .i64 2, .func (.func 41) #[] #[.pointer (some ⟨xq, 0, none⟩), .pointer (some ⟨sb, 0, none⟩)]] w fun e w' =>
      e = .returned (.int .i64 E2) ∧ Own w0 w' (Star (plA pb b first z2.L z2.s) (Star (outB xq sb pb s) R))) := Lib.hid (fun w xq sb he h => by
    refine (o_chunks (cbd_out2 w0 pb b first xq sb s (by omega)) z r a 2 w R hR trivial ⟨by omega, by omega⟩ hr ha h).mono ?_
    have hx3 := hx2 he
    unfold outW at hx3
    rw [hx3]
    exact fun e w' h => h)
  clear h hR SP SB hr ha htk K1 K2 K3 SO hx hx2 hbad
  go_enter Tryz.func15, Tryz.ntmps15
  go_upto_region 3 with (go_at_call 32; refine TK.out.mono ?_; rintro e w2 ⟨rfl, h2⟩; have H2 := Lib.hid h2; have c2 := outB_s h2; have c3 := outB_p h2; clear h2)
  clear TK
  generalize w.heap.size + 1 = sb at *
  generalize w.heap.size = xq at *
  have E3 := Lib.hid (CH1.out w2 xq sb H2.out)
  go_upto_region 4 with (go_at_call 39; refine E3.out.mono ?_; rintro e w4 ⟨rfl, h4⟩; have H4 := Lib.hid h4; have c4 := outB_s h4; have c5 := outB_p h4; clear h4)
  clear E3 H2 c2 c3
  by_cases h0 : E1 = 0
  · have E4 := Lib.hid (CH2.out w4 xq sb h0 H4.out)
    subst h0
    clear CH1 CH2
    go_wp2_with (go_at_call 39; refine E4.out.mono ?_; rintro e w5 ⟨rfl, h5⟩; have H5 := Lib.hid h5; clear h5)
    go_ret
    exact ⟨rfl, H5.out.drop2⟩
  · have hwb2 : (E1 != 0) = true := by simpa using h0
    clear CH1 CH2
    go_wp2_with fail
    go_ret
    rw [decide_eq_false h0]
    exact ⟨rfl, H4.out.drop2⟩
end Go.Proofs.YtbcnibnkojnpiaaGreat.P
namespace Go.Proofs.YtbcnibnkojnpiaaGreat.P
open Go.RowKit Go.MuLone Go.Maps Go.Proofs.YtbcnibnkojnpiaaGreat.W
variable {w0 w : World} {pb b first : Nat} {z : Sp} {R : Asn}
/-- Text, from the byte i on, k of them left. -/
def textX (z : Sp) (r a : Int) : Nat → Nat → List UInt8 → ByteArray × Int
  | 0, _, _ => (⟨#[]⟩, 15)
  | k + 1, i, row =>
    bif decide (walkR z.L.length z.s r (IntKind.u64.wrap (a + i)) 1 = 0) then
      (bif decide (loadV z.s (walkV z.L.length z.s r (IntKind.u64.wrap (a + i)) 1) 1 = 0) then (⟨row.toArray⟩, 0)
        else textX z r a k (i + 1) (row ++ [UInt8.ofNat (loadV z.s (walkV z.L.length z.s r (IntKind.u64.wrap (a + i)) 1) 1).toNat]))
    else (⟨#[]⟩, walkR z.L.length z.s r (IntKind.u64.wrap (a + i)) 1)
theorem load1_bd (s : List UInt8) (p : Int) : 0 ≤ loadV s p 1 ∧ loadV s p 1 < 256 := by
  unfold loadV
  rw [if_pos (show sizedB 1 = true from rfl)]
  split
  · have h1 : (subB s p.toNat (1 : Int).toNat).size ≤ 1 := by
      show ((s.drop p.toNat).take 1).toArray.size ≤ 1
      rw [List.size_toArray, List.length_take]; omega
    unfold ofF
    have b := ofN_bd (subB s p.toNat (1 : Int).toNat) (min (subB s p.toNat (1 : Int).toNat).size 8)
    refine ⟨b.1, Int.lt_of_lt_of_le b.2 ?_⟩
    have : (2 : Int) ^ (8 * min (subB s p.toNat (1 : Int).toNat).size 8) ≤ 2 ^ 8 := pow_le _ _ (by omega)
    exact this
  · decide
theorem conv_row {o : Option Addr} {c : Nat} {l : List UInt8} (h : w.ownsRow 0 5 1 (.slice o l.length c) l.length (Lib.byteCells l)) :
    (convert 44 9 (.slice o l.length c)).run Tryz.prog w = .ok (.string ⟨l.toArray⟩) w := by
  rcases h.2 with ⟨hv, h0⟩ | ⟨g, cap, cur, hv, hb, hg, k⟩
  · have e0 := List.eq_nil_of_length_eq_zero h0
    subst e0
    injection hv with hv1 hv2 hv3
    subst hv1; subst hv3
    exact run_convert_bytes_nil (P := Tryz.prog) w 44 5 Tryz.underlying44 Tryz.underlying5 0 0 9 Tryz.underlying9
  · injection hv with hv1 hv2 hv3
    subst hv1; subst hv3
    have := Go.Lib.run_convert_whole (P := Tryz.prog) w 44 5 9 Tryz.underlying44 Tryz.underlying5 Tryz.underlying9 g 0 ⟨l.toArray⟩ (fun i hi => by
      have hi2 : i < l.length := by
        have e : (⟨l.toArray⟩ : ByteArray).size = l.length := List.size_toArray
        omega
      have h3 := h.cells (g := g) rfl i (.int .u8 (l[i]'hi2).toNat) (by
        rw [Lib.byteCells, List.getElem?_map, List.getElem?_eq_getElem hi2]; rfl)
      rw [show ((⟨l.toArray⟩ : ByteArray)[i]'hi) = l[i]'hi2 from rfl]
      rw [Addr.add_lit] at h3
      exact h3) c
    exact this
theorem o_text_bad (h : Own w0 w (Star (plA pb b first z.L z.s) R)) (hR : Stable R) (r a n : Int) (hr : i64 r) (hbad : movedBad first z r n = true) :
    Calls Tryz.prog 16 #[.pointer (some ⟨pb, 0, none⟩), .int .i64 r, .int .u64 a, .int .i64 n] w fun e w' => e = .returned (.tuple #[.string ⟨#[]⟩, .int .i64 1]) ∧ Own w0 w' (Star (plA pb b first z.L z.s) R) := by
  obtain ⟨tk, htk⟩ : ∃ t, tknB z.L first r = t := ⟨_, rfl⟩
  have TK := Lib.hid (o_ptaken h hR r hr tk htk)
  unfold movedBad at hbad
  rw [htk] at hbad
  clear h hR hr htk
  rcases (show tk = false ∨ (tk = true ∧ n < 0) ∨ (tk = true ∧ ¬ n < 0 ∧ 4096 < n) by
    cases tk
    · exact .inl rfl
    · simp only [Bool.not_true, Bool.false_or, Bool.or_eq_true, decide_eq_true_eq] at hbad
      rcases hbad with e | e
      · exact .inr (.inl ⟨rfl, e⟩)
      · exact .inr (.inr ⟨rfl, by omega, e⟩)) with rfl | ⟨rfl, e⟩ | ⟨rfl, e, e2⟩
  all_goals
    clear hbad
    go_enter Tryz.func16, Tryz.ntmps16
    go_wp2_with (go_at_call 32; refine TK.out.mono ?_; rintro e w2 ⟨rfl, h2⟩; have H2 := Lib.hid h2; clear h2)
    go_ret2
    exact ⟨rfl, H2.out⟩
set_option maxHeartbeats 1600000 in
theorem o_text_go (h : Own w0 w (Star (plA pb b first z.L z.s) R)) (hR : Stable R) (r a : Int) (m : Nat) (hr : i64 r) (ha : u64 a) (hbad : movedBad first z r m = false) (T : ByteArray) (E : Int) (hx : textX z r a (m + 1) 0 [] = (T, E)) :
    Calls Tryz.prog 16 #[.pointer (some ⟨pb, 0, none⟩), .int .i64 r, .int .u64 a, .int .i64 (m : Int)] w fun e w' => e = .returned (.tuple #[.string T, .int .i64 E]) ∧ Own w0 w' (Star (plA pb b first z.L z.s) R) := by
  have hb : tknB z.L first r = true ∧ ¬ (m : Int) < 0 ∧ ¬ 4096 < (m : Int) := by
    unfold movedBad at hbad
    cases q : tknB z.L first r
    · rw [q] at hbad; cases hbad
    · rw [q] at hbad
      simp only [Bool.not_true, Bool.false_or, Bool.or_eq_false_iff, decide_eq_false_iff_not] at hbad
      exact ⟨rfl, hbad⟩
  obtain ⟨htk, e1, e2⟩ := hb
  obtain ⟨a0, a1⟩ := ha
  have HR := Lib.hid hR
  have HRI := Lib.hid hr
  have TK := Lib.hid (o_ptaken h hR r hr true htk)
  have HSP := Lib.hid (stable_pl pb b first z.L z.s)
  have HX := Lib.hid hx
  have k0 : IntKind.i64.wrap ((m : Int) + 1) = (m : Int) + 1 := wrapI _ (by omega) (by omega)
  obtain ⟨i0, hi0, hz0, hz1, hz2⟩ := info_parts u8Info
  clear h hR hr htk hbad hx
  go_enter Tryz.func16, Tryz.ntmps16
  go_upto_region 4 with (go_at_call 32; refine TK.out.mono ?_; rintro e w2 ⟨rfl, h2⟩; have H2 := Lib.hid h2; clear h2)
  clear TK
  have A2 : RowKit.Hid (Own w0 w2 (Star (plA pb b first z.L z.s) (Star (rowA 5 1 (.slice none 0 0) 0 []) R))) := Lib.hid ((H2.out.add (stable_star HSP.out HR.out) (Gr.refl _) (A := rowA 5 1 (.slice none 0 0) 0 []) ⟨fun _ => False, ⟨⟨rfl, .inl ⟨rfl, rfl⟩⟩, fun b hb => by cases hb⟩, fun x hx => hx.elim⟩).swap2)
  clear H2
  go_wp2_with fail
  go_loopg [10, 30] (m + 2) (fun t v10 v30 wr => ∃ (k : Nat) (row : List UInt8) (o : Option Addr) (c : Nat), k ≤ m + 1 ∧ t = m + 2 - k ∧ v30 = .int .i64 (k : Int) ∧ v10 = .slice o row.length c ∧ row.length = k ∧ textX z r a (m + 1 - k) k row = (T, E) ∧ Own w0 wr (Star (plA pb b first z.L z.s) (Star (rowA 5 1 (.slice o row.length c) row.length (Lib.byteCells row)) R)))
  case atStart => exact ⟨0, [], none, 0, by omega, rfl, rfl, rfl, rfl, HX.out, A2.out⟩
  case round =>
    clear A2 HX
    obtain ⟨_, row, o, c, hk, ht, rfl, rfl, rfl, hy, ho⟩ := hrel
    have HO := Lib.hid ho
    clear ho
    by_cases hlt : row.length < m + 1
    · obtain ⟨F, hF⟩ : ∃ F, m + 1 - row.length = F + 1 := ⟨m - row.length, by omega⟩
      rw [hF, textX] at hy
      obtain ⟨V, hV⟩ : ∃ V, IntKind.u64.wrap (a + (row.length : Int)) = V := ⟨_, rfl⟩
      have hVb : 0 ≤ V ∧ V < 18446744073709551616 := by rw [← hV, IntKind.wrap_u64]; omega
      obtain ⟨v0, v1⟩ := hVb
      rw [hV] at hy
      have k1 : IntKind.u64.wrap (row.length : Int) = row.length := wrapU _ (by omega) (by omega)
      have k2 : IntKind.i64.wrap ((row.length : Int) + 1) = (row.length : Int) + 1 := wrapI _ (by omega) (by omega)
      have l1 : (row.length : Int) < (m : Int) + 1 := by omega
      obtain ⟨wr_, hwr⟩ : ∃ x, walkR z.L.length z.s r V 1 = x := ⟨_, rfl⟩
      obtain ⟨wv_, hwv⟩ : ∃ x, walkV z.L.length z.s r V 1 = x := ⟨_, rfl⟩
      have hwu := walkV_u64 z.L.length z.s r V 1 v0
      rw [hwr, hwv] at hy
      rw [hwv] at hwu
      have SB := Lib.hid (stable_star (stable_row 5 1 (.slice o row.length c) row.length (Lib.byteCells row)) HR.out)
      have WK := Lib.hid (o_pwalk HO.out SB.out r V 1 wv_ wr_ ⟨v0, by omega⟩ HRI.out hwv hwr)
      clear hwr hwv
      by_cases hw0 : wr_ = 0
      · subst hw0
        rw [decide_eq_true rfl, cond_true] at hy
        have hcb := load1_bd z.s wv_
        obtain ⟨CV, hCV⟩ : ∃ x, loadV z.s wv_ 1 = x := ⟨_, rfl⟩
        obtain ⟨CR, hCR⟩ : ∃ x, loadR z.s wv_ 1 = x := ⟨_, rfl⟩
        rw [hCV] at hy hcb
        have LD : RowKit.Hid (∀ w, Own w0 w (Star (plA pb b first z.L z.s) (Star (rowA 5 1 (.slice o row.length c) row.length (Lib.byteCells row)) R)) → _) := Lib.hid (fun w h => o_pload (w0 := w0) (w := w) h SB.out wv_ 1 CV CR hwu hCV hCR)
        clear hCV hCR hwu
        by_cases hc0 : CV = 0
        · subst hc0
          rw [decide_eq_true rfl, cond_true] at hy
          injection hy with hy1 hy2
          subst hy1; subst hy2
          go_upto_region 12 with (first
            | (go_at_call 42; refine (o_pmem (by first | exact H3.out | exact HO.out)).mono ?_; rintro e wm ⟨rfl, rfl⟩)
            | (go_at_call 44; refine WK.out.mono ?_; rintro e w3 ⟨rfl, h3⟩; have H3 := Lib.hid h3; clear h3)
            | (go_at_call 45; refine (LD.out _ H3.out).mono ?_; rintro e w4 ⟨rfl, h4⟩; have H4 := Lib.hid h4; clear h4))
          have hcv := conv_row H4.out.right.row
          go_wp2_with fail
          go_ret2
          exact ⟨rfl, H4.out.drop2⟩
        · have hcb1 : (CV == 0) = false := by simpa using hc0
          rw [decide_eq_false hc0, cond_false] at hy
          have k3 : IntKind.u8.wrap CV = CV := by rw [IntKind.wrap_u8]; omega
          have hbv : (Lib.byteCells [UInt8.ofNat CV.toNat]) = [.int .u8 CV] := by
            show [Value.int .u8 ((UInt8.ofNat CV.toNat).toNat : Int)] = _
            rw [UInt8.toNat_ofNat', Nat.mod_eq_of_lt (by omega), Int.toNat_of_nonneg hcb.1]
          have hlen : row.length ≤ 5000 := by omega
          have HY := Lib.hid hy
          have HBV := Lib.hid hbv
          clear hy hbv
          go_upto_region 13 with (first
            | (go_at_call 42; refine (o_pmem (by first | exact H3.out | exact HO.out)).mono ?_; rintro e wm ⟨rfl, rfl⟩)
            | (go_at_call 44; refine WK.out.mono ?_; rintro e w3 ⟨rfl, h3⟩; have H3 := Lib.hid h3; clear h3)
            | (go_at_call 45; refine (LD.out _ H3.out).mono ?_; rintro e w4 ⟨rfl, h4⟩; have H4 := Lib.hid h4; clear h4))
          have H5 := Lib.hid (H4.out.swap2.gr (stable_star (stable_row _ _ _ _ _) (stable_star HSP.out HR.out)) ((Gr.refl _).alloc (Nat.le_refl _) (.cells #[.int .u8 CV] 5)))
          have HROW := Lib.hid H5.out.row
          have hbl : (Lib.byteCells row).length = row.length := Lib.byteCells_length row
          go_wp2_with (at_builtin; refine wpList_append_lies _ rfl _ _ _ rfl 0 5 i0 (.int .u8 0) 1 1 Tryz.underlying44 hi0 hz0 hz1 hz2 rfl (by omega) (.slice o row.length c) row.length (Lib.byteCells row) rfl HROW.out ⟨_, 0, none⟩ 1 1 [.int .u8 CV] rfl rfl (World.news_of_block (cs := #[.int .u8 CV]) (blk_new _ _)) (by simp [Value.oneCell']) (by omega) (by unfold maxLen; omega) (by omega) (by omega) (w4.heap.size + 1) (by simp) ?_; intro g2 cap2 w8 hown8 hgrow8 hat8 hlt8; have H9 := Lib.hid (H5.out.grown (g := g2) (stable_star HSP.out HR.out) hown8 rfl hgrow8 (hat8.elim .inl (fun e => .inr (by simp; omega))) hlt8); clear hown8 hgrow8 hat8 hlt8)
          have e5 : (row ++ [UInt8.ofNat CV.toNat]).length = row.length + 1 := by simp
          go_roundg (m + 2 - (row.length + 1))
          case measure => omega
          case rel =>
            refine ⟨row.length + 1, row ++ [UInt8.ofNat CV.toNat], some ⟨g2, 0, none⟩, cap2, by omega, rfl, by go_num, by rw [e5], by omega, ?_, ?_⟩
            · rw [show m + 1 - (row.length + 1) = F by omega]; exact HY.out
            · rw [e5, byteCells_app, HBV.out]; exact H9.out.swap2
      · have hwb2 : (wr_ != 0) = true := by simpa using hw0
        rw [decide_eq_false hw0, cond_false] at hy
        injection hy with hy1 hy2
        subst hy1; subst hy2
        clear hwu
        go_wp2_with (first
          | (go_at_call 42; refine (o_pmem HO.out).mono ?_; rintro e wm ⟨rfl, rfl⟩)
          | (go_at_call 44; refine WK.out.mono ?_; rintro e w3 ⟨rfl, h3⟩; have H3 := Lib.hid h3; clear h3))
        go_ret2
        exact ⟨rfl, H3.out.drop2⟩
    · have hrm : row.length = m + 1 := by omega
      rw [show m + 1 - row.length = 0 by omega, textX] at hy
      injection hy with hy1 hy2
      subst hy1; subst hy2
      have l1 : ¬ (row.length : Int) < (m : Int) + 1 := by omega
      clear hrm
      go_wp2_with fail
      go_ret2
      exact ⟨rfl, HO.out.drop2⟩
end Go.Proofs.YtbcnibnkojnpiaaGreat.P
namespace Go.Proofs.YtbcnibnkojnpiaaGreat.P
open Go.RowKit Go.MuLone Go.Maps
variable {w0 w : World} {pb b first : Nat} {z : Sp} {R : Asn}
def outErr (fi : Nat) (z : Sp) (r a : Int) (s : ByteArray) : Int := bif movedBad fi z r s.size then 1 else bif decide (outC z r a s.size = 0) then (outW z r a s).2 else outC z r a s.size
def outSt (fi : Nat) (z : Sp) (r a : Int) (s : ByteArray) : Sp := bif movedBad fi z r s.size then z else bif decide (outC z r a s.size = 0) then (outW z r a s).1 else z
theorem o_out (h : Own w0 w (Star (plA pb b first z.L z.s) R)) (hR : Stable R) (r a : Int) (s : ByteArray) (hr : i64 r) (ha : u64 a) (hs : s.size ≤ 9223372036854775807) (e : Int) (z' : Sp) (he : outErr first z r a s = e) (hz : outSt first z r a s = z') :
    Calls Tryz.prog 15 #[.pointer (some ⟨pb, 0, none⟩), .int .i64 r, .int .u64 a, .string s] w fun x w' => x = .returned (.int .i64 e) ∧ Own w0 w' (Star (plA pb b first z'.L z'.s) R) := by
  subst he; subst hz
  unfold outErr outSt
  cases hb : movedBad first z r s.size with
  | true => exact o_out_bad h hR r a s hr hs hb
  | false => exact o_out_go h hR r a s hr ha hb _ _ _ rfl (fun _ => rfl)
theorem o_in (h : Own w0 w (Star (plA pb b first z.L z.s) R)) (hR : Stable R) (r a n : Int) (hr : i64 r) (ha : u64 a) (v : ByteArray) (e : Int) (hv : inV first z r a n = v) (he : inE first z r a n = e) :
    Calls Tryz.prog 17 #[.pointer (some ⟨pb, 0, none⟩), .int .i64 r, .int .u64 a, .int .i64 n] w fun x w' => x = .returned (.tuple #[.string v, .int .i64 e]) ∧ Own w0 w' (Star (plA pb b first z.L z.s) R) := by
  subst hv; subst he
  unfold inV inE
  cases hb : movedBad first z r n with
  | true => exact o_in_bad h hR r a n hr hb
  | false => exact o_in_go h hR r a n hr ha hb _ _ rfl
def textE (fi : Nat) (z : Sp) (r a n : Int) : Int := bif movedBad fi z r n then 1 else (textX z r a (n.toNat + 1) 0 []).2
def textV (fi : Nat) (z : Sp) (r a n : Int) : ByteArray := bif movedBad fi z r n then ⟨#[]⟩ else (textX z r a (n.toNat + 1) 0 []).1
theorem o_text (h : Own w0 w (Star (plA pb b first z.L z.s) R)) (hR : Stable R) (r a n : Int) (hr : i64 r) (ha : u64 a) (v : ByteArray) (e : Int) (hv : textV first z r a n = v) (he : textE first z r a n = e) :
    Calls Tryz.prog 16 #[.pointer (some ⟨pb, 0, none⟩), .int .i64 r, .int .u64 a, .int .i64 n] w fun x w' => x = .returned (.tuple #[.string v, .int .i64 e]) ∧ Own w0 w' (Star (plA pb b first z.L z.s) R) := by
  subst hv; subst he
  unfold textV textE
  cases hb : movedBad first z r n with
  | true => exact o_text_bad h hR r a n hr hb
  | false =>
    obtain ⟨m, rfl⟩ : ∃ m : Nat, n = (m : Int) := by
      refine ⟨n.toNat, ?_⟩
      unfold movedBad at hb
      simp only [Bool.or_eq_false_iff, decide_eq_false_iff_not] at hb
      omega
    rw [Int.toNat_natCast]
    exact o_text_go h hR r a m hr ha hb _ _ rfl
end Go.Proofs.YtbcnibnkojnpiaaGreat.P
namespace Go.Proofs.YtbcnibnkojnpiaaGreat.P
open Go.RowKit Go.MuLone Go.Maps
def layB : Nat → List (Nat × List UInt8) → List UInt8
  | k, [] => List.replicate (4096 - k) 0
  | k, (p, x) :: r => List.replicate (p - k) 0 ++ (x ++ layB (p + x.length) r)
def exFree (n : Nat) : List Bool := List.replicate n false ++ List.replicate (16 - n) true
def exZ (n : Nat) (l : List (Nat × List UInt8)) : Sp := ⟨exFree n, layB 0 l⟩
def exAbc : List UInt8 := [97, 98, 99, 100, 101, 102, 103, 104, 105, 106, 107, 108]
def exS : ByteArray := ⟨exAbc.toArray⟩
def exL2 : List (Nat × List UInt8) := [(0, [1, 4]), (256, [1, 8]), (520, [23, 12])]
def exL3 : List (Nat × List UInt8) := [(0, [1, 4]), (256, [1, 8]), (520, [23, 12]), (528, [23, 16])]
def exL4 : List (Nat × List UInt8) := [(0, [1, 4]), (256, [1, 8]), (520, [23, 12]), (528, [23, 16]), (1012, exAbc)]
def exL5 : List (Nat × List UInt8) := [(0, [1, 4]), (256, [1, 8]), (520, [23, 12]), (528, [23, 16]), (1012, exAbc), (1280, [1, 24]), (1536, [1, 28]), (1800, [23, 32]), (1808, [23, 36]), (2292, exAbc)]
def exL6 : List (Nat × List UInt8) := [(1280, [1, 24]), (1536, [1, 28]), (1800, [23, 32]), (1808, [23, 36]), (2292, exAbc)]
def ex0 : Sp := exZ 0 []
def ex1 : Sp := exZ 1 []
def ex2 : Sp := exZ 4 exL2
def ex3 : Sp := exZ 5 exL3
def ex4 : Sp := exZ 5 exL4
def ex5 : Sp := exZ 10 exL5
def ex6 : Sp := ⟨List.replicate 5 true ++ (List.replicate 5 false ++ List.replicate 6 true), layB 0 exL6⟩
theorem e01 : takeN ex0.L 0 = 0 ∧ takeE ex0.L 0 = 0 ∧ (takeX 0 ex0).L = ex1.L ∧ (takeX 0 ex0).s = ex1.s := by decide +kernel
theorem e12 : mapE 0 ex1 0 1 23 = 0 ∧ (mapX 0 ex1 0 1 23).L = ex2.L ∧ (mapX 0 ex1 0 1 23).s = ex2.s := by decide +kernel
theorem e23 : mapE 0 ex2 0 2 23 = 0 ∧ (mapX 0 ex2 0 2 23).L = ex3.L ∧ (mapX 0 ex2 0 2 23).s = ex3.s := by decide +kernel
theorem e34 : outErr 0 ex3 0 500 exS = 0 ∧ (outSt 0 ex3 0 500 exS).L = ex4.L ∧ (outSt 0 ex3 0 500 exS).s = ex4.s := by decide +kernel
theorem e44 : outErr 0 ex4 0 760 exS = 3 ∧ (outSt 0 ex4 0 760 exS).L = ex4.L ∧ (outSt 0 ex4 0 760 exS).s = ex4.s := by decide +kernel
theorem e45 : copyN 0 ex4 0 = 5 ∧ copyE 0 ex4 0 = 0 ∧ (copyW 0 ex4 0).L = ex5.L ∧ (copyW 0 ex4 0).s = ex5.s := by decide +kernel
theorem e55 : (inV 0 ex5 5 510 3).data = #[107, 108, 0] ∧ inE 0 ex5 5 510 3 = 0 := by decide +kernel
theorem e56 : tknB ex5.L 0 0 = true ∧ (freeX 0 ex5 0).L = ex6.L ∧ (freeX 0 ex5 0).s = ex6.s ∧ leftX 0 ex6 = 11 := by decide +kernel
end Go.Proofs.YtbcnibnkojnpiaaGreat.P
