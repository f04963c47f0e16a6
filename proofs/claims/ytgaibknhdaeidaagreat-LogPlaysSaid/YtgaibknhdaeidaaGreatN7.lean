/- Stage 7: the document's Set. No condition. -/
import Derived.Test.YtgaibknhdaeidaaGreatN6
import Derived.Test.YtgaibknhdaeidaaGreatA10
import Derived.Deep.AppendLies
set_option linter.unusedVariables false
set_option linter.unusedSimpArgs false
set_option maxRecDepth 100000
namespace Go.Proofs.YtgaibknhdaeidaaGreat.P
open Go.RowKit
theorem star_assoc {A B C : Asn} {w : World} {F : Nat → Prop} (h : Star A (Star B C) w F) : Star (Star A B) C w F := by
  obtain ⟨F1, F2, h1, ⟨G1, G2, k1, k2, kd, t1, t2⟩, hd, s1, s2⟩ := h
  exact ⟨fun x => F1 x ∨ G1 x, G2, ⟨F1, G1, h1, k1, fun x hx hy => hd x hx (t1 x hy), fun x hx => .inl hx, fun x hx => .inr hx⟩, k2, fun x hx hy => hx.elim (fun e => hd x e (t2 x hy)) (fun e => kd x e hy), fun x hx => hx.elim (s1 x) (fun e => s2 x (t1 x e)), fun x hx => s2 x (t2 x hx)⟩
theorem row7Info : (Tryz.prog.info? 100).map (fun i => (i.zero, i.size, i.bytes)) = some (some (.agg #[.int .i64 0, .string ⟨#[]⟩]), 2, 24) := by kernel_rfl
variable {w0 w : World} {d l : Nat} {z : DState} {st : List (Int × ByteArray)} {dead : Bool} {R : Asn}
theorem row_n {v : Value} {n : Nat} {out : List (Int × ByteArray)} {R : Asn} (h : Own w0 w (Star (rowA 100 2 v n (stR out)) R)) : n = out.length := by
  have := h.row.1
  rw [stR_length] at this
  omega
/-- A row that was made becomes the log's. -/
theorem Own.putRow {v : Value} {n : Nat} {st' : List (Int × ByteArray)} (h : Own w0 w (Star (rowA 100 2 v n (stR st')) (RDL d z l st dead R))) (hs : Stable R) (hr : Rising st') : Own w0 (w.setCell ⟨l, 1, none⟩ v) (RDL d z l st' dead R) := by
  have hn := row_n h
  subst hn
  have h2 : Own w0 w (Star (Star (rowA 100 2 v st'.length (stR st')) (rlA l d st dead)) (Star (rdk d z) R)) := h.mono fun F hF => star_assoc (star_mono_r (fun F h => star_swap2 h) hF)
  refine (Own.step h2 (stable_star (stable_rdk _ _) hs) (A' := rlA l d st' dead) ?_).swap2
  rintro F ⟨F1, F2, ⟨r1, r2⟩, ⟨k1, k2, v0, k3, k4, k5⟩, hd, s1, s2⟩
  have hl := blk_lt k3
  have hne : ∀ x, v.ownBlock = some x → x ≠ l := fun x hx e => hd x (r2 x hx) (by rw [e]; exact k1)
  refine ⟨fun x => x = l ∨ v.ownBlock = some x, ⟨.inl rfl, hr, v, by rw [blk_set k3 1 _]; rfl, ownsRow_ch r1 (Ch.setCell (S := (· = l)) (Ch.refl _ w) (p := ⟨l, 1, none⟩) (.inl rfl) v) (fun x hx => hne x hx), fun b hb => ⟨.inr hb, hne b hb⟩⟩, fun x hx => ?_, Ch.setCell (S := F) (Ch.refl _ w) (p := ⟨l, 1, none⟩) (.inl (s2 l k1)) v⟩
  rcases hx with rfl | hx
  · exact ⟨.inl (s2 _ k1), by rw [World.size_setCell]; exact hl⟩
  · refine ⟨.inl (s1 x (r2 x hx)), ?_⟩
    rw [World.size_setCell]
    rcases r1.2 with ⟨hv, h0⟩ | ⟨g, cap, cur, hv, hb, hg, _⟩
    · rw [hv] at hx; cases hx
    · rw [hv] at hx; injection hx with hx; rw [← hx]; exact blk_lt hg
theorem putS_le (i : Int) (s : ByteArray) : ∀ l : List (Int × ByteArray), (putS i s l).length ≤ l.length + 1
  | [] => Nat.le_refl _
  | a :: l => by
    rw [putS]
    split
    · have := putS_le i s l; simp only [List.length_cons]; omega
    · split
      · simp only [List.length_cons]; omega
      · simp only [List.length_cons]; omega
theorem outK_le (i : Int) (s : ByteArray) (b : Bool) (A : List (Int × ByteArray)) : (outK i s b A).length ≤ A.length + 1 := by
  cases b with
  | true => exact putS_le i s A
  | false => exact Nat.le_succ _
theorem stR_put (A : List (Int × ByteArray)) (i : Int) (s : ByteArray) : stR A ++ [.int .i64 i, .string s] = stR (A ++ [(i, s)]) := by rw [stR_app]; rfl
theorem own_put {o : Option Addr} {c n : Nat} {A : List (Int × ByteArray)} {i : Int} {s : ByteArray} {R : Asn} (h : Own w0 w (Star (rowA 100 2 (.slice o n c) n (stR A ++ [.int .i64 i, .string s])) R)) : Own w0 w (Star (rowA 100 2 (.slice o n c) n (stR (A ++ [(i, s)]))) R) := by
  rw [stR_put] at h; exact h
abbrev outA (o : Option Addr) (c n : Nat) (out : List (Int × ByteArray)) : Asn := rowA 100 2 (.slice o n c) n (stR out)
set_option maxHeartbeats 3200000 in
theorem q_set_ok (h : Own w0 w (RDL d z l st false R)) (hs : Stable R) (i : Int) (s : ByteArray) (hn : st.length ≤ 30) (hr : refF false z.safe.length i = 0) (h64 : s.size = 64) :
    Calls Tryz.prog 37 #[.pointer (some ⟨l, 0, none⟩), .int .i64 i, .string s] w fun e w' => (30 < (putS i s st).length → e = .returned (.int .i64 4) ∧ Own w0 w' (RDL d z l st false R)) ∧ ((putS i s st).length ≤ 30 → e = .returned (.int .i64 0) ∧ Own w0 w' (RDL d z l (putS i s st) false R)) := by
  obtain ⟨i0, hi0, hz0, hz1, hz2⟩ := info_parts row7Info
  have HM := Lib.hid (q_may h i)
  rw [hr] at HM
  have SR : Hid (Stable (RDL d z l st false R)) := Lib.hid (stable_rdl _ _ _ _ _ hs)
  have HS := Lib.hid hs
  obtain ⟨hri, v, hb, hrow⟩ := h.rlog
  have HRI := Lib.hid hri
  have H0 : Hid (Own w0 w (Star (outA none 0 0 (outK i s false (st.take 0))) (RDL d z l st false R))) := Lib.hid (h.add SR.out (Gr.refl _) ⟨fun _ => False, ⟨World.ownsRow_nil _ _ _ _, fun b hb => by cases hb⟩, fun x hx => hx.elim⟩)
  obtain ⟨o1, c1, rfl⟩ := rowv_form hrow
  have CL : Hid (∀ wr (A : Asn), Own w0 wr (Star A (RDL d z l st false R)) → ∃ o c, wr.cell? ⟨l, 1, none⟩ = some (.slice o st.length c) ∧ (∀ j, wr.frozen? ⟨l, j, none⟩ = false) ∧ ∀ k p, st[k]? = some p → ∃ b, o = some ⟨b, 0, none⟩ ∧ wr.cell? ⟨b, k * 2, none⟩ = some (.int .i64 p.1) ∧ wr.cell? ⟨b, k * 2 + 1, none⟩ = some (.string p.2)) := Lib.hid (fun wr A hA => by
    obtain ⟨_, v, hb, hrow⟩ := hA.right.rlog
    obtain ⟨o, c, rfl⟩ := rowv_form hrow
    refine ⟨o, c, blk_cell hb 1 rfl, fun j => blk_frozen hb j, fun k p hp => ?_⟩
    obtain ⟨b, c2, e, a1, a2⟩ := rows_at hrow k p hp
    injection e with e1 e2 e3
    exact ⟨b, e1, a1, a2⟩)
  obtain ⟨m, hm⟩ : ∃ m, st.length = m := ⟨_, rfl⟩
  have HLN := Lib.hid hm
  have s64 : (s.size : Int) = 64 := by omega
  rw [hm] at hn CL
  clear hm h hb hrow hri hs hr h64
  go_enter Tryz.func37, Tryz.ntmps37
  go_wp2_with (go_at_call 62; refine HM.out.mono ?_; rintro e w' ⟨rfl, rfl⟩)
  go_loopw [8, 9, 10] (fun v8 v9 v10 wr => ∃ (k n : Nat) (b : Bool) (o : Option Addr) (c : Nat), k ≤ m ∧ n ≤ k + 1 ∧ v8 = .slice o n c ∧ v9 = .bool b ∧ v10 = .int .i64 k ∧ DoneK i b (st.take k) ∧ Own w0 wr (Star (outA o c n (outK i s b (st.take k))) (RDL d z l st false R))) (fun _ _ v _ => m - (intOf v).toNat)
  case atStart => exact ⟨0, 0, false, none, 0, Nat.zero_le _, Nat.zero_le _, rfl, rfl, rfl, ⟨fun _ y hy => (by cases hy), fun e => by cases e⟩, H0.out⟩
  case round =>
    obtain ⟨k, n, b, o, c, hk, hnk, rfl, rfl, rfl, hdk, ho⟩ := hrel
    have HO := Lib.hid ho
    have HDK := Lib.hid hdk
    obtain ⟨o1, c1, L1, z1, HC⟩ := CL.out _ _ ho
    have HCC := Lib.hid HC
    have NK : Hid (∀ b' n' o' c' wx, k < m → Own w0 wx (Star (outA o' c' n' (outK i s b' (st.take (k + 1)))) (RDL d z l st false R)) → n' ≤ k + 1 + 1) := Lib.hid (fun b' n' o' c' wx hlt hx => by
      have e1 := row_n hx
      have e2 := outK_le i s b' (st.take (k + 1))
      rw [List.length_take] at e2
      omega)
    clear ho hdk HC H0
    by_cases hlt : k < m
    · have dl : decide (k < m) = true := decide_eq_true hlt
      obtain ⟨p, hp⟩ : ∃ p, st[k]? = some p := ⟨_, List.getElem?_eq_getElem (by have := HLN.out; omega)⟩
      obtain ⟨b1, rfl, a1, a2⟩ := HCC.out k p hp
      have n5 : IntKind.i64.wrap ((k : Int) + 1) = (k : Int) + 1 := IntWalk.i64_in _ (by omega)
      have TK : Hid (st.take (k + 1) = st.take k ++ [p]) := Lib.hid (by
        obtain ⟨q1, q2⟩ := List.getElem?_eq_some_iff.1 hp
        rw [List.take_succ_eq_append_getElem q1, q2])
      have SP : Hid (st = st.take k ++ p :: st.drop (k + 1)) := Lib.hid (by
        obtain ⟨q1, q2⟩ := List.getElem?_eq_some_iff.1 hp
        rw [← q2, ← List.drop_eq_getElem_cons q1, List.take_append_drop])
      have HP := Lib.hid hp
      clear hp
      cases b with
      | false =>
        by_cases hlow : p.1 < i
        · obtain ⟨E1, E2⟩ := outK_low (s := s) p HDK.out hlow
          rw [← TK.out] at E1 E2
          have EE1 := Lib.hid E1
          have EE2 := Lib.hid E2
          have g1 : ¬ i ≤ p.1 := by omega
          have gne : (p.1 == i) = false := beq_eq_false_iff_ne.2 (by omega)
          clear E1 E2
          obtain ⟨pi, ps⟩ := p
          dsimp only at *
          have H5 := Lib.hid (HO.out.gr (stable_star (stable_row _ _ _ _ _) SR.out) ((Gr.refl _).alloc (Nat.le_refl _) (.cells #[.int .i64 pi, .string ps] 100)))
          have HROW := Lib.hid H5.out.row
          go_wp2_with (at_builtin; refine wpList_append_lies _ rfl _ _ _ rfl 0 100 i0 (.agg #[.int .i64 0, .string ⟨#[]⟩]) 2 24 Tryz.underlying70 hi0 hz0 hz1 hz2 rfl (by omega) (.slice o n c) n (stR (outK i s false (st.take k))) rfl HROW.out ⟨_, 0, none⟩ 1 1 [.int .i64 pi, .string ps] rfl rfl (World.news_of_block (cs := #[.int .i64 pi, .string ps]) (blk_new _ _)) (by simp [Value.oneCell']) (by omega) (by unfold maxLen; omega) (by omega) (by omega) (wr.heap.size + 1) (by simp) ?_; intro g2 cap2 w8 hown8 hgrow8 hat8 hlt8; have H9 := Lib.hid (H5.out.grown (g := g2) SR.out hown8 rfl hgrow8 (hat8.elim .inl (fun e => .inr (by simp; omega))) hlt8); clear hown8 hgrow8 hat8 hlt8 H5 HROW)
          go_roundw
          case rel =>
            have hx : Own w0 w8 (Star (outA (some ⟨g2, 0, none⟩) cap2 (n + 1) (outK i s false (st.take (k + 1)))) (RDL d z l st false R)) := by
              rw [EE1.out]; exact own_put H9.out
            exact ⟨k + 1, n + 1, false, some ⟨g2, 0, none⟩, cap2, by omega, NK.out _ _ _ _ _ hlt hx, rfl, rfl, by go_num, EE2.out, hx⟩
          case measure => simp [intOf]; omega
        · have hge : i ≤ p.1 := by omega
          obtain ⟨E1, E2⟩ := outK_now (s := s) p HDK.out hge
          rw [← TK.out] at E1 E2
          by_cases heq : p.1 = i
          · rw [decide_eq_true heq, cond_true] at E1
            have EE1 := Lib.hid E1
            have EE2 := Lib.hid E2
            clear E1 E2 hlow
            obtain ⟨pi, ps⟩ := p
            dsimp only at *
            subst heq
            go_upto_region 12 with fail
            have H5 := Lib.hid (HO.out.gr (stable_star (stable_row _ _ _ _ _) SR.out) ((Gr.refl _).alloc (Nat.le_refl _) (.cells #[.int .i64 pi, .string s] 100)))
            have HROW := Lib.hid H5.out.row
            go_upto_region 14 with (at_builtin; refine wpList_append_lies _ rfl _ _ _ rfl 0 100 i0 (.agg #[.int .i64 0, .string ⟨#[]⟩]) 2 24 Tryz.underlying70 hi0 hz0 hz1 hz2 rfl (by omega) (.slice o n c) n (stR (outK pi s false (st.take k))) rfl HROW.out ⟨_, 0, none⟩ 1 1 [.int .i64 pi, .string s] rfl rfl (World.news_of_block (cs := #[.int .i64 pi, .string s]) (blk_new _ _)) (by simp [Value.oneCell']) (by omega) (by unfold maxLen; omega) (by omega) (by omega) (wr.heap.size + 1) (by simp) ?_; intro g2 cap2 w8 hown8 hgrow8 hat8 hlt8; have H9 := Lib.hid (H5.out.grown (g := g2) SR.out hown8 rfl hgrow8 (hat8.elim .inl (fun e => .inr (by simp; omega))) hlt8); clear hown8 hgrow8 hat8 hlt8 H5 HROW)
            have NC := CL.out _ _ H9.out
            obtain ⟨o3, c3, L3, z3, HC3⟩ := NC
            obtain ⟨b3, rfl, a3, a4⟩ := HC3 k _ HP.out
            clear HC3
            go_wp2_with fail
            go_roundw
            case rel =>
              have hx : Own w0 w8 (Star (outA (some ⟨g2, 0, none⟩) cap2 (n + 1) (outK pi s true (st.take (k + 1)))) (RDL d z l st false R)) := by
                rw [EE1.out]; exact own_put H9.out
              exact ⟨k + 1, n + 1, true, some ⟨g2, 0, none⟩, cap2, by omega, NK.out _ _ _ _ _ hlt hx, rfl, rfl, by go_num, EE2.out, hx⟩
            case measure => simp [intOf]; omega
          · rw [decide_eq_false heq, cond_false] at E1
            have EE1 := Lib.hid E1
            have EE2 := Lib.hid E2
            have gne : (p.1 == i) = false := beq_eq_false_iff_ne.2 heq
            clear E1 E2 hlow heq
            obtain ⟨pi, ps⟩ := p
            dsimp only at *
            go_upto_region 12 with fail
            have H5 := Lib.hid (HO.out.gr (stable_star (stable_row _ _ _ _ _) SR.out) ((Gr.refl _).alloc (Nat.le_refl _) (.cells #[.int .i64 i, .string s] 100)))
            have HROW := Lib.hid H5.out.row
            go_upto_region 14 with (at_builtin; refine wpList_append_lies _ rfl _ _ _ rfl 0 100 i0 (.agg #[.int .i64 0, .string ⟨#[]⟩]) 2 24 Tryz.underlying70 hi0 hz0 hz1 hz2 rfl (by omega) (.slice o n c) n (stR (outK i s false (st.take k))) rfl HROW.out ⟨_, 0, none⟩ 1 1 [.int .i64 i, .string s] rfl rfl (World.news_of_block (cs := #[.int .i64 i, .string s]) (blk_new _ _)) (by simp [Value.oneCell']) (by omega) (by unfold maxLen; omega) (by omega) (by omega) (wr.heap.size + 1) (by simp) ?_; intro g2 cap2 w8 hown8 hgrow8 hat8 hlt8; have H9 := Lib.hid (H5.out.grown (g := g2) SR.out hown8 rfl hgrow8 (hat8.elim .inl (fun e => .inr (by simp; omega))) hlt8); clear hown8 hgrow8 hat8 hlt8 H5 HROW)
            have H9' : Hid (Own w0 w8 (Star (outA (some ⟨g2, 0, none⟩) cap2 (n + 1) (outK i s false (st.take k) ++ [(i, s)])) (RDL d z l st false R))) := Lib.hid (own_put H9.out)
            have NC := CL.out _ _ H9.out
            obtain ⟨o3, c3, L3, z3, HC3⟩ := NC
            obtain ⟨b3, rfl, a3, a4⟩ := HC3 k _ HP.out
            clear HC3
            go_upto_region 15 with fail
            have H5 := Lib.hid (H9'.out.gr (stable_star (stable_row _ _ _ _ _) SR.out) ((Gr.refl _).alloc (Nat.le_refl _) (.cells #[.int .i64 pi, .string ps] 100)))
            have HROW := Lib.hid H5.out.row
            go_wp2_with (at_builtin; refine wpList_append_lies _ rfl _ _ _ rfl 0 100 i0 (.agg #[.int .i64 0, .string ⟨#[]⟩]) 2 24 Tryz.underlying70 hi0 hz0 hz1 hz2 rfl (by omega) (.slice (some ⟨g2, 0, none⟩) (n + 1) cap2) (n + 1) (stR (outK i s false (st.take k) ++ [(i, s)])) rfl HROW.out ⟨_, 0, none⟩ 1 1 [.int .i64 pi, .string ps] rfl rfl (World.news_of_block (cs := #[.int .i64 pi, .string ps]) (blk_new _ _)) (by simp [Value.oneCell']) (by omega) (by unfold maxLen; omega) (by omega) (by omega) (w8.heap.size + 1) (by simp) ?_; intro g2 cap2 w9 hown8 hgrow8 hat8 hlt8; have H10 := Lib.hid (H5.out.grown (g := g2) SR.out hown8 rfl hgrow8 (hat8.elim .inl (fun e => .inr (by simp; omega))) hlt8); clear hown8 hgrow8 hat8 hlt8 H5 HROW)
            go_roundw
            case rel =>
              have hx : Own w0 w9 (Star (outA (some ⟨g2, 0, none⟩) cap2 (n + 1 + 1) (outK i s true (st.take (k + 1)))) (RDL d z l st false R)) := by
                rw [EE1.out, show ∀ (A : List (Int × ByteArray)) x y, A ++ [x, y] = A ++ [x] ++ [y] by intro A x y; rw [List.append_assoc]; rfl]; exact own_put H10.out
              exact ⟨k + 1, n + 1 + 1, true, some ⟨g2, 0, none⟩, cap2, by omega, NK.out _ _ _ _ _ hlt hx, rfl, rfl, by go_num, EE2.out, hx⟩
            case measure => simp [intOf]; omega
      | true =>
        have hgt : i < p.1 := rising_past (st.take k) (st.drop (k + 1)) p (by rw [← SP.out]; exact HRI.out) (HDK.out.2 rfl)
        obtain ⟨E1, E2⟩ := outK_past (s := s) p HDK.out
        rw [← TK.out] at E1 E2
        have EE1 := Lib.hid E1
        have EE2 := Lib.hid E2
        have g1 : i ≤ p.1 := by omega
        have gne : (p.1 == i) = false := beq_eq_false_iff_ne.2 (by omega)
        clear E1 E2
        obtain ⟨pi, ps⟩ := p
        dsimp only at *
        have H5 := Lib.hid (HO.out.gr (stable_star (stable_row _ _ _ _ _) SR.out) ((Gr.refl _).alloc (Nat.le_refl _) (.cells #[.int .i64 pi, .string ps] 100)))
        have HROW := Lib.hid H5.out.row
        go_wp2_with (at_builtin; refine wpList_append_lies _ rfl _ _ _ rfl 0 100 i0 (.agg #[.int .i64 0, .string ⟨#[]⟩]) 2 24 Tryz.underlying70 hi0 hz0 hz1 hz2 rfl (by omega) (.slice o n c) n (stR (outK i s true (st.take k))) rfl HROW.out ⟨_, 0, none⟩ 1 1 [.int .i64 pi, .string ps] rfl rfl (World.news_of_block (cs := #[.int .i64 pi, .string ps]) (blk_new _ _)) (by simp [Value.oneCell']) (by omega) (by unfold maxLen; omega) (by omega) (by omega) (wr.heap.size + 1) (by simp) ?_; intro g2 cap2 w8 hown8 hgrow8 hat8 hlt8; have H9 := Lib.hid (H5.out.grown (g := g2) SR.out hown8 rfl hgrow8 (hat8.elim .inl (fun e => .inr (by simp; omega))) hlt8); clear hown8 hgrow8 hat8 hlt8 H5 HROW)
        go_roundw
        case rel =>
          have hx : Own w0 w8 (Star (outA (some ⟨g2, 0, none⟩) cap2 (n + 1) (outK i s true (st.take (k + 1)))) (RDL d z l st false R)) := by
            rw [EE1.out]; exact own_put H9.out
          exact ⟨k + 1, n + 1, true, some ⟨g2, 0, none⟩, cap2, by omega, NK.out _ _ _ _ _ hlt hx, rfl, rfl, by go_num, EE2.out, hx⟩
        case measure => simp [intOf]; omega
    · obtain rfl : k = m := by omega
      have dl : decide (k < k) = false := decide_eq_false (by omega)
      have TA : Hid (st.take k = st) := Lib.hid (by rw [← HLN.out, List.take_length])
      have FIN : Hid (∀ n' o' c' wx, Own w0 wx (Star (outA o' c' n' (putS i s st)) (RDL d z l st false R)) → n' = (putS i s st).length ∧ Own w0 (wx.setCell ⟨l, 1, none⟩ (.slice o' n' c')) (RDL d z l (putS i s st) false R) ∧ Own w0 wx (RDL d z l st false R) ∧ n' ≤ k + 1) :=
        Lib.hid (fun n' o' c' wx hx => ⟨row_n hx, hx.putRow HS.out (rising_put i s st HRI.out), hx.right, by
          rw [row_n hx]; have := putS_le i s st; have := HLN.out; omega⟩)
      cases b with
      | true =>
        obtain ⟨F1, F2, F3, F4⟩ := FIN.out n o c wr (by have := HO.out; rw [TA.out] at this; exact this)
        have FF1 := Lib.hid F1
        have FF2 := Lib.hid F2
        have FF3 := Lib.hid F3
        clear F1 F2 F3
        by_cases h30 : n ≤ 30
        · have g3 : ¬ 30 < n := by omega
          go_wp2_with fail
          go_ret
          exact ⟨fun e => absurd e (by rw [← FF1.out]; exact g3), fun _ => ⟨rfl, FF2.out⟩⟩
        · have g3 : 30 < n := by omega
          go_wp2_with fail
          go_ret
          exact ⟨fun _ => ⟨rfl, FF3.out⟩, fun e => absurd e (by rw [← FF1.out]; exact h30)⟩
      | false =>
        have HEND := Lib.hid (outK_end (s := s) HDK.out)
        go_upto_region 17 with fail
        have H5 := Lib.hid (HO.out.gr (stable_star (stable_row _ _ _ _ _) SR.out) ((Gr.refl _).alloc (Nat.le_refl _) (.cells #[.int .i64 i, .string s] 100)))
        have HROW := Lib.hid H5.out.row
        go_upto_region 18 with (at_builtin; refine wpList_append_lies _ rfl _ _ _ rfl 0 100 i0 (.agg #[.int .i64 0, .string ⟨#[]⟩]) 2 24 Tryz.underlying70 hi0 hz0 hz1 hz2 rfl (by omega) (.slice o n c) n (stR (outK i s false (st.take k))) rfl HROW.out ⟨_, 0, none⟩ 1 1 [.int .i64 i, .string s] rfl rfl (World.news_of_block (cs := #[.int .i64 i, .string s]) (blk_new _ _)) (by simp [Value.oneCell']) (by omega) (by unfold maxLen; omega) (by omega) (by omega) (wr.heap.size + 1) (by simp) ?_; intro g2 cap2 w8 hown8 hgrow8 hat8 hlt8; have H9 := Lib.hid (H5.out.grown (g := g2) SR.out hown8 rfl hgrow8 (hat8.elim .inl (fun e => .inr (by simp; omega))) hlt8); clear hown8 hgrow8 hat8 hlt8 H5 HROW)
        obtain ⟨F1, F2, F3, F4⟩ := FIN.out (n + 1) (some ⟨g2, 0, none⟩) cap2 w8 (by have := own_put H9.out; rw [HEND.out, TA.out] at this; exact this)
        have FF1 := Lib.hid F1
        have FF2 := Lib.hid F2
        have FF3 := Lib.hid F3
        obtain ⟨o3, c3, L3, z3, HC3⟩ := CL.out _ _ H9.out
        clear F1 F2 F3 HC3
        by_cases h30 : n + 1 ≤ 30
        · have g3 : ¬ 30 < n + 1 := by omega
          go_wp2_with fail
          go_ret
          exact ⟨fun e => absurd e (by rw [← FF1.out]; exact g3), fun _ => ⟨rfl, FF2.out⟩⟩
        · have g3 : 30 < n + 1 := by omega
          go_wp2_with fail
          go_ret
          exact ⟨fun _ => ⟨rfl, FF3.out⟩, fun e => absurd e (by rw [← FF1.out]; exact h30)⟩
end Go.Proofs.YtgaibknhdaeidaaGreat.P
