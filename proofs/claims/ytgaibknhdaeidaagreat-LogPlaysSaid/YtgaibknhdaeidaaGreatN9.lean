/- Stage 7: the document's acts, Commit. No condition. -/
import Derived.Test.YtgaibknhdaeidaaGreatN8
import Derived.Test.YtgaibknhdaeidaaGreatA14
set_option linter.unusedVariables false
set_option linter.unusedSimpArgs false
set_option maxRecDepth 100000
namespace Go.Proofs.YtgaibknhdaeidaaGreat.P
open Go.RowKit
abbrev mkI (o : Option Addr) (c : Nat) (k : Nat) (A : List Int) : Asn := rowA 3 1 (.slice o k c) k (encs A)
abbrev mkS (o : Option Addr) (c : Nat) (k : Nat) (A : List ByteArray) : Asn := rowA 9 1 (.slice o k c) k (strs A)
theorem take_of_some {α : Type} {l : List α} {k : Nat} {x : α} (h : l[k]? = some x) : l.take (k + 1) = l.take k ++ [x] := by
  obtain ⟨q1, q2⟩ := List.getElem?_eq_some_iff.1 h
  rw [List.take_succ_eq_append_getElem q1, q2]
theorem encs_put (A : List Int) (i : Int) : encs A ++ [.int .i64 i] = encs (A ++ [i]) := by rw [encs_append]; rfl
theorem strs_put (A : List ByteArray) (s : ByteArray) : strs A ++ [.string s] = strs (A ++ [s]) := by unfold strs; rw [List.map_append]; rfl
theorem rowS_any {w : World} {o : Option Addr} {c n : Nat} {A : List ByteArray} (h : w.ownsRow 0 9 1 (.slice o n c) n (strs A)) : RowS w o A := fun j s hj => by
  rcases h.2 with ⟨hv, h0⟩ | ⟨g, cap, cur, hv, hb, hg, k⟩
  · have e := h.1
    unfold strs at e
    rw [List.length_map, h0] at e
    have := (List.getElem?_eq_some_iff.1 hj).1
    omega
  · injection hv with hv1 hv2 hv3
    subst hv1; subst hv3
    have := h.cells (g := g) rfl j (.string s) (by unfold strs; rw [List.getElem?_map, hj]; rfl)
    rw [Addr.add_lit] at this
    exact ⟨g, 0, rfl, this⟩
theorem rowI_any {w : World} {o : Option Addr} {c n : Nat} {A : List Int} (h : w.ownsRow 0 3 1 (.slice o n c) n (encs A)) : RowI w o A := fun j s hj => by
  rcases h.2 with ⟨hv, h0⟩ | ⟨g, cap, cur, hv, hb, hg, k⟩
  · have e := h.1
    rw [encs_length, h0] at e
    have := (List.getElem?_eq_some_iff.1 hj).1
    omega
  · injection hv with hv1 hv2 hv3
    subst hv1; subst hv3
    have := h.cells (g := g) rfl j (.int .i64 s) (by unfold encs; rw [List.getElem?_map, hj]; rfl)
    rw [Addr.add_lit] at this
    exact ⟨g, 0, rfl, this⟩
variable {w0 w : World} {d l : Nat} {z : DState} {st : List (Int × ByteArray)} {dead : Bool} {R : Asn}
theorem mkI_row {o : Option Addr} {c k : Nat} {A : List Int} {R : Asn} (h : Own w0 w (Star (mkI o c k A) R)) : Own w0 w (Star (rowIA o A) R) :=
  h.conv (fun F hF => ⟨rowI_any hF.1, fun b off e => hF.2 b (by rw [e]; rfl)⟩)
theorem mkS_row {o : Option Addr} {c k : Nat} {A : List ByteArray} {R : Asn} (h : Own w0 w (Star (mkS o c k A) R)) : Own w0 w (Star (rowSA o A) R) :=
  h.conv (fun F hF => ⟨rowS_any hF.1, fun b off e => hF.2 b (by rw [e]; rfl)⟩)
theorem commit_tail (st : List (Int × ByteArray)) (z : DState) : exec (commitOps st) z = thenE (exec (holdOps 0 st) z) (fun y => thenE (tailQ (st.map (·.1)) y) (exec (installOps st))) := by
  have e : commitOps st = holdOps 0 st ++ ((.fl :: pointOps (st.map (·.1))) ++ installOps st) := by unfold commitOps; simp
  rw [e, exec_then]
  refine congrArg (thenE _) (funext fun y => ?_)
  rw [exec_then, tail_ok]
set_option maxHeartbeats 6400000 in
theorem q_acts (h : Own w0 w (RDL d z l st false R)) (hs : Stable R) (hl : st.length ≤ 30) (hb : ∀ x ∈ st, 0 ≤ x.1 ∧ x.1 < 65536) (hw : z.wait.length ≤ 2000000000000) :
    Calls Tryz.prog 63 #[.pointer (some ⟨l, 0, none⟩)] w (EO w0 (fun z => RDL d z l st false R) (exec (commitOps st) z)) := by
  obtain ⟨Ii, Ih, Ia, Ib, Ic⟩ := info_parts intInfo
  obtain ⟨Si, Sh, Sa, Sb, Sc⟩ := info_parts strInfo
  have HS := Lib.hid hs
  have HW : Hid (∀ k, ((exec ((holdOps 0 st).take k) z).2).wait.length ≤ 2000000000000 + 30) := Lib.hid (fun k => by
    have := exec_wait ((holdOps 0 st).take k) z
    rw [List.length_take, hold_len] at this
    omega)
  have CL : Hid (∀ wr z' (A B : Asn), Own w0 wr (Star A (Star B (RDL d z' l st false R))) → ∃ o c, wr.cell? ⟨l, 0, none⟩ = some (.pointer (some ⟨d, 0, none⟩)) ∧ wr.cell? ⟨l, 1, none⟩ = some (.slice o st.length c) ∧ ∀ k p, st[k]? = some p → ∃ b, o = some ⟨b, 0, none⟩ ∧ wr.cell? ⟨b, k * 2, none⟩ = some (.int .i64 p.1) ∧ wr.cell? ⟨b, k * 2 + 1, none⟩ = some (.string p.2)) := Lib.hid (fun wr z' A B hA => by
    obtain ⟨_, v, hb, hrow⟩ := hA.right.right.rlog
    obtain ⟨o, c, rfl⟩ := rowv_form hrow
    refine ⟨o, c, blk_cell hb 0 rfl, blk_cell hb 1 rfl, fun k p hp => ?_⟩
    obtain ⟨b, c2, e, a1, a2⟩ := rows_at hrow k p hp
    injection e with e1 e2 e3
    exact ⟨b, e1, a1, a2⟩)
  have H0 : Hid (Own w0 w (Star (mkI none 0 0 ((st.map (·.1)).take 0)) (Star (mkS none 0 0 ((st.map (·.2)).take 0)) (RDL d z l st false R)))) := Lib.hid ((h.add (stable_rdl _ _ _ _ _ hs) (Gr.refl _) ⟨fun _ => False, ⟨World.ownsRow_nil _ _ _ _, fun b hb => by cases hb⟩, fun x hx => hx.elim⟩ : Own w0 w (Star (mkS none 0 0 ((st.map (·.2)).take 0)) (RDL d z l st false R))).add (stable_star (stable_row _ _ _ _ _) (stable_rdl _ _ _ _ _ hs)) (Gr.refl _) ⟨fun _ => False, ⟨World.ownsRow_nil _ _ _ _, fun b hb => by cases hb⟩, fun x hx => hx.elim⟩)
  have HF : Hid (∀ k, (exec ((holdOps 0 st).take k) z).1 = 0 → k = st.length → exec (commitOps st) z = thenE (tailQ (st.map (·.1)) (exec ((holdOps 0 st).take k) z).2) (exec (installOps st)) ∧ (st.map (·.1)).take k = st.map (·.1) ∧ (st.map (·.2)).take k = st.map (·.2)) := Lib.hid (fun k h0 e => by
    have ht : (holdOps 0 st).take k = holdOps 0 st := List.take_of_length_le (by rw [hold_len]; omega)
    rw [ht] at h0 ⊢
    rw [commit_tail, thenE_ok h0]
    exact ⟨rfl, List.take_of_length_le (by rw [List.length_map]; omega), List.take_of_length_le (by rw [List.length_map]; omega)⟩)
  have HX0 : Hid (∀ k (o : DOp), (exec ((holdOps 0 st).take k) z).1 = 0 → (holdOps 0 st)[k]? = some o → (stepD (exec ((holdOps 0 st).take k) z).2 o).1 ≠ 0 → exec (commitOps st) z = stepD (exec ((holdOps 0 st).take k) z).2 o) := Lib.hid (fun k o h0 ho hz => by
    unfold commitOps; exact exec_stop h0 ho hz _)
  have HB := Lib.hid hb
  clear h hb hs
  obtain ⟨n, hn⟩ : ∃ n, n = st.length := ⟨_, rfl⟩
  have HN := Lib.hid hn
  rw [← hn] at hl CL
  clear hn
  go_enter Tryz.func63, Tryz.ntmps63
  go_wp2_with fail
  go_loopw [3, 4, 5] (fun v3 v4 v5 wr => ∃ (k : Nat) (o1 : Option Addr) (c1 : Nat) (o2 : Option Addr) (c2 : Nat), k ≤ n ∧ v5 = .int .i64 k ∧ v3 = .slice o1 k c1 ∧ v4 = .slice o2 k c2 ∧ (exec ((holdOps 0 st).take k) z).1 = 0 ∧ Own w0 wr (Star (mkI o1 c1 k ((st.map (·.1)).take k)) (Star (mkS o2 c2 k ((st.map (·.2)).take k)) (RDL d (exec ((holdOps 0 st).take k) z).2 l st false R)))) (fun _ _ v _ => n - (intOf v).toNat)
  case atStart => exact ⟨0, none, 0, none, 0, Nat.zero_le _, rfl, rfl, rfl, rfl, H0.out⟩
  case round =>
    obtain ⟨k, o1, c1, o2, c2, hk, rfl, rfl, rfl, he, hh⟩ := hrel
    have HH := Lib.hid hh
    have HE := Lib.hid he
    obtain ⟨o, c, L0, L1, HC⟩ := CL.out _ _ _ _ hh
    have HCC := Lib.hid HC
    clear HC H0
    by_cases hlt : k < n
    · have dl : decide (k < n) = true := decide_eq_true hlt
      have hx : st[k]? = some (st[k]'(by rw [← HN.out]; exact hlt)) := List.getElem?_eq_getElem _
      generalize st[k]'_ = x at *
      obtain ⟨b, rfl, a1, a2⟩ := HCC.out k x hx
      obtain ⟨x0, x1⟩ := HB.out x (List.mem_of_getElem? hx)
      have hop := hold_at2 st k x hx
      have HT := Lib.hid (exec_take_ok he hop)
      have HX := Lib.hid (fun hz => HX0.out k _ he hop hz)
      have n5 : IntKind.i64.wrap ((k : Int) + 1) = (k : Int) + 1 := IntWalk.i64_in _ (by omega)
      have n6 : IntKind.i64.wrap (2 + (k : Int)) = 2 + (k : Int) := IntWalk.i64_in _ (by omega)
      have TI : Hid ((st.map (·.1)).take (k + 1) = (st.map (·.1)).take k ++ [x.1]) := Lib.hid (by
        rw [← List.map_take, ← List.map_take, take_of_some hx, List.map_append]; rfl)
      have TS : Hid ((st.map (·.2)).take (k + 1) = (st.map (·.2)).take k ++ [x.2]) := Lib.hid (by
        rw [← List.map_take, ← List.map_take, take_of_some hx, List.map_append]; rfl)
      have SR1 : Hid (∀ z', Stable (RDL d z' l st false R)) := Lib.hid (fun z' => stable_rdl _ _ _ _ _ HS.out)
      have SR2 : Hid (Stable (Star (mkS o2 c2 k ((st.map (·.2)).take k)) (RDL d (exec ((holdOps 0 st).take k) z).2 l st false R))) := Lib.hid (stable_star (stable_row _ _ _ _ _) (SR1.out _))
      have HXX := Lib.hid hx
      clear hh he hx hop
      obtain ⟨xi, xs⟩ := x
      dsimp only at *
      have H5 := Lib.hid (HH.out.gr (stable_star (stable_row _ _ _ _ _) SR2.out) ((Gr.refl _).alloc (Nat.le_refl _) (.cells #[.int .i64 xi] 3)))
      have HROW := Lib.hid H5.out.row
      go_upto_region 7 with (at_builtin; refine wpList_append_lies _ rfl _ _ _ rfl 0 3 Ii (.int .i64 0) 1 8 Tryz.underlying62 Ih Ia Ib Ic rfl (by omega) (.slice o1 k c1) k (encs ((st.map (·.1)).take k)) rfl HROW.out ⟨_, 0, none⟩ 1 1 [.int .i64 xi] rfl rfl (World.news_of_block (cs := #[.int .i64 xi]) (blk_new _ _)) (by simp [Value.oneCell']) (by omega) (by unfold maxLen; omega) (by omega) (by omega) (wr.heap.size + 1) (by simp) ?_; intro g2 cap2 w8 hown8 hgrow8 hat8 hlt8; have H9 := Lib.hid (H5.out.grown (g := g2) SR2.out hown8 rfl hgrow8 (hat8.elim .inl (fun e => .inr (by simp; omega))) hlt8); clear hown8 hgrow8 hat8 hlt8 H5 HROW)
      obtain ⟨o3, c3, L3, L4, HC3⟩ := CL.out _ _ _ _ H9.out
      obtain ⟨b3, rfl, a3, a4⟩ := HC3 k _ HXX.out
      have HI1 : Hid (Own w0 w8 (Star (mkS o2 c2 k ((st.map (·.2)).take k)) (Star (mkI (some ⟨g2, 0, none⟩) cap2 (k + 1) ((st.map (·.1)).take (k + 1))) (RDL d (exec ((holdOps 0 st).take k) z).2 l st false R)))) := Lib.hid (by
        have := H9.out.swap2
        rw [encs_put] at this
        rw [TI.out]
        exact this)
      obtain ⟨g3, hg3⟩ : ∃ g3, g3 = g2 := ⟨_, rfl⟩
      obtain ⟨cap3, hcap3⟩ : ∃ c, c = cap2 := ⟨_, rfl⟩
      rw [← hg3, ← hcap3] at HI1
      rw [← hg3, ← hcap3]
      clear hg3 hcap3 H9 HC3
      have SR3 : Hid (Stable (Star (mkI (some ⟨g3, 0, none⟩) cap3 (k + 1) ((st.map (·.1)).take (k + 1))) (RDL d (exec ((holdOps 0 st).take k) z).2 l st false R))) := Lib.hid (stable_star (stable_row _ _ _ _ _) (SR1.out _))
      have H6 := Lib.hid (HI1.out.gr (stable_star (stable_row _ _ _ _ _) SR3.out) ((Gr.refl _).alloc (Nat.le_refl _) (.cells #[.string xs] 9)))
      have HROW2 := Lib.hid H6.out.row
      clear HI1
      go_upto_region 8 with (at_builtin; refine wpList_append_lies _ rfl _ _ _ rfl 0 9 Si (.string ⟨#[]⟩) 1 16 Tryz.underlying22 Sh Sa Sb Sc rfl (by omega) (.slice o2 k c2) k (strs ((st.map (·.2)).take k)) rfl HROW2.out ⟨_, 0, none⟩ 1 1 [.string xs] rfl rfl (World.news_of_block (cs := #[.string xs]) (blk_new _ _)) (by simp [Value.oneCell']) (by omega) (by unfold maxLen; omega) (by omega) (by omega) (w8.heap.size + 1) (by simp) ?_; intro g2 cap2 w9 hown8 hgrow8 hat8 hlt8; have H9 := Lib.hid (H6.out.grown (g := g2) SR3.out hown8 rfl hgrow8 (hat8.elim .inl (fun e => .inr (by simp; omega))) hlt8); clear hown8 hgrow8 hat8 hlt8 H6 HROW2)
      have HJ : Hid (Own w0 w9 (Star (mkI (some ⟨g3, 0, none⟩) cap3 (k + 1) ((st.map (·.1)).take (k + 1))) (Star (mkS (some ⟨g2, 0, none⟩) cap2 (k + 1) ((st.map (·.2)).take (k + 1))) (RDL d (exec ((holdOps 0 st).take k) z).2 l st false R)))) := Lib.hid (by
        have := H9.out.swap2
        rw [strs_put] at this
        rw [TS.out]
        exact this)
      clear H9 a3 a4 L3 L4
      obtain ⟨o4, c4, L3, L4, HC4⟩ := CL.out _ _ _ _ HJ.out
      obtain ⟨b4, rfl, a3, a4⟩ := HC4 k _ HXX.out
      have CW2 := Lib.hid (q_wr (HJ.out.rot3.drew (stable_star (stable_rdk _ _) (stable_star (stable_row _ _ _ _ _) (stable_star (stable_row _ _ _ _ _) (stable_star (stable_rl _ _ _ _) HS.out))))) (stable_star (stable_row _ _ _ _ _) (stable_star (stable_row _ _ _ _ _) (stable_star (stable_rl _ _ _ _) HS.out))) (2 + (k : Int)) xs (by have := HW.out k; omega))
      clear HC4 HJ SR2 SR3
      go_still_tail 14, (by kernel_rfl)
      generalize hq : stepD (exec ((holdOps 0 st).take k) z).2 (.wr (2 + (k : Int)) xs) = q at *
      obtain ⟨q1, q2⟩ := q
      dsimp only at *
      by_cases hk0 : q1 = 0
      · subst hk0
        go_wp2_with (go_at_call 60; refine CW2.out.mono ?_; rintro e w6 ⟨rfl, h6⟩; have H7 := Lib.hid h6.rot3'; clear h6)
        go_roundw
        case rel => exact ⟨k + 1, _, _, _, _, by omega, by go_num, rfl, rfl, by rw [HT.out], by rw [HT.out]; exact H7.out⟩
        case measure => simp [intOf]; omega
      · go_wp2_with (go_at_call 60; refine CW2.out.mono ?_; rintro e w6 ⟨rfl, h6⟩; have H7 := Lib.hid h6.rot3'; clear h6)
        go_ret
        have HX2 : exec (commitOps st) z = (q1, q2) := HX.out hk0
        rw [HX2]
        exact ⟨rfl, H7.out.right.right⟩
    · obtain rfl : k = n := by omega
      have dl : decide (k < k) = false := decide_eq_false (by omega)
      obtain ⟨F1, F2, F3⟩ := HF.out k HE.out HN.out
      have HFF := Lib.hid F1
      have W0 := HW.out k
      rw [F2, F3] at hh
      clear he HF HX0 F1 F2 F3 HCC
      have SS : Hid (Stable (Star (mkI o1 c1 k (st.map (·.1))) (Star (mkS o2 c2 k (st.map (·.2))) (Star (rlA l d st false) R)))) := Lib.hid (stable_star (stable_row _ _ _ _ _) (stable_star (stable_row _ _ _ _ _) (stable_star (stable_rl _ _ _ _) HS.out)))
      generalize (exec ((holdOps 0 st).take k) z).2 = z' at *
      have W1 := step_wait z' .fl
      have CF1 := Lib.hid (q_fl hh.rot3 SS.out (by omega))
      have e1 : tailQ (st.map (·.1)) z' = bif decide ((stepD z' .fl).1 = 0) then thenE (stepD (stepD z' .fl).2 (.wr 1 (headF (st.map (·.1))))) (fun y => stepD y .fl) else stepD z' .fl := rfl
      rw [e1] at HFF
      clear hh e1
      generalize stepD z' .fl = q1 at *
      obtain ⟨a1, z1⟩ := q1
      dsimp only at *
      have W2 := step_wait z1 (.wr 1 (headF (st.map (·.1))))
      have CHD : Hid (∀ wr, Own w0 wr (Star (rdk d z1) (Star (mkI o1 c1 k (st.map (·.1))) (Star (mkS o2 c2 k (st.map (·.2))) (Star (rlA l d st false) R)))) → (wr.cell? ⟨l, 0, none⟩ = some (.pointer (some ⟨d, 0, none⟩)) ∧ Calls Tryz.prog 59 #[.slice o1 k c1] wr fun e w2 => e = .returned (.string (headF (st.map (·.1)))) ∧ Gr wr w2)) := Lib.hid (fun wr ho => by
        obtain ⟨_, _, q0, _, _⟩ := CL.out _ _ _ _ ho.rot3'
        refine ⟨q0, ?_⟩
        have := e_head wr o1 c1 (st.map (·.1)) (rowI_any ho.swap2.row) (by rw [List.length_map, ← HN.out]; exact hl) (fun i hi => by
          obtain ⟨x, hx, rfl⟩ := List.mem_map.1 hi
          exact HB.out x hx)
        rw [List.length_map, ← HN.out] at this
        exact this)
      have CW2 : Hid (∀ wr, Own w0 wr (Star (rdk d z1) (Star (mkI o1 c1 k (st.map (·.1))) (Star (mkS o2 c2 k (st.map (·.2))) (Star (rlA l d st false) R)))) → Calls Tryz.prog 60 #[.pointer (some ⟨d, 0, none⟩), .int .i64 1, .string (headF (st.map (·.1)))] wr fun e w2 => e = .returned (.int .i64 (stepD z1 (.wr 1 (headF (st.map (·.1))))).1) ∧ Own w0 w2 (Star (rdk d (stepD z1 (.wr 1 (headF (st.map (·.1))))).2) (Star (mkI o1 c1 k (st.map (·.1))) (Star (mkS o2 c2 k (st.map (·.2))) (Star (rlA l d st false) R))))) := Lib.hid (fun wr ho => q_wr ho SS.out 1 _ (by omega))
      generalize headF (st.map (·.1)) = hd0 at *
      generalize stepD z1 (.wr 1 hd0) = q2 at *
      obtain ⟨a2, z2⟩ := q2
      dsimp only at *
      have W3 := step_wait z2 .fl
      have CF3 : Hid (∀ wr, Own w0 wr (Star (rdk d z2) (Star (mkI o1 c1 k (st.map (·.1))) (Star (mkS o2 c2 k (st.map (·.2))) (Star (rlA l d st false) R)))) → (wr.cell? ⟨l, 0, none⟩ = some (.pointer (some ⟨d, 0, none⟩)) ∧ Calls Tryz.prog 61 #[.pointer (some ⟨d, 0, none⟩)] wr fun e w2 => e = .returned (.int .i64 (stepD z2 .fl).1) ∧ Own w0 w2 (Star (rdk d (stepD z2 .fl).2) (Star (mkI o1 c1 k (st.map (·.1))) (Star (mkS o2 c2 k (st.map (·.2))) (Star (rlA l d st false) R)))))) := Lib.hid (fun wr ho => by
        obtain ⟨_, _, q0, _, _⟩ := CL.out _ _ _ _ ho.rot3'
        exact ⟨q0, q_fl ho SS.out (by omega)⟩)
      have e3 : thenE (a2, z2) (fun y => stepD y .fl) = bif decide (a2 = 0) then stepD z2 .fl else (a2, z2) := rfl
      rw [e3] at HFF
      generalize stepD z2 .fl = q3 at *
      obtain ⟨a3, z3⟩ := q3
      dsimp only at *
      have CI : Hid (∀ wr, Own w0 wr (Star (rdk d z3) (Star (mkI o1 c1 k (st.map (·.1))) (Star (mkS o2 c2 k (st.map (·.2))) (Star (rlA l d st false) R)))) → (wr.cell? ⟨l, 0, none⟩ = some (.pointer (some ⟨d, 0, none⟩)) ∧ Calls Tryz.prog 33 #[.pointer (some ⟨d, 0, none⟩), .slice o1 k c1, .slice o2 k c2] wr fun e w2 => e = .returned (.int .i64 (exec (installOps st) z3).1) ∧ Own w0 w2 (RDL d (exec (installOps st) z3).2 l st false R))) := Lib.hid (fun wr ho => by
        obtain ⟨_, _, q0, _, _⟩ := CL.out _ _ _ _ ho.rot3'
        refine ⟨q0, ?_⟩
        have h2 : Own w0 wr (Star (rdk d z3) (Star (rowIA o1 (st.map (·.1))) (Star (rowSA o2 (st.map (·.2))) (Star (rlA l d st false) R)))) := by
          have k1 := mkI_row ho.swap2
          have k2 := mkS_row k1.rot3
          exact k2.swap2.rot3
        have := q_install st o1 o2 c1 c2 h2 (stable_star (stable_rl _ _ _ _) HS.out) (by rw [← HN.out]; omega) HB.out (by omega)
        rw [← HN.out] at this
        refine this.mono ?_
        rintro e w2 ⟨e1, e2⟩
        exact ⟨e1, e2.drop2.drop2⟩)
      have HG : Hid (∀ w1 w2, Own w0 w1 (Star (rdk d z1) (Star (mkI o1 c1 k (st.map (·.1))) (Star (mkS o2 c2 k (st.map (·.2))) (Star (rlA l d st false) R)))) → Gr w1 w2 → Own w0 w2 (Star (rdk d z1) (Star (mkI o1 c1 k (st.map (·.1))) (Star (mkS o2 c2 k (st.map (·.2))) (Star (rlA l d st false) R))))) := Lib.hid (fun w1 w2 ho g => ho.gr (stable_star (stable_rdk _ _) SS.out) g)
      clear W0 W1 W2 W3 e3 CL HW
      by_cases k1 : a1 = 0
      · subst k1
        rw [decide_eq_true rfl, cond_true] at HFF
        by_cases k2 : a2 = 0
        · subst k2
          rw [decide_eq_true rfl, cond_true] at HFF
          by_cases k3 : a3 = 0
          · subst k3
            rw [thenE_ok (a := (0, z3)) rfl] at HFF
            dsimp only at HFF
            generalize exec (installOps st) z3 = q4 at *
            go_upto_region 13 with (go_at_call 61; refine CF1.out.mono ?_; rintro e w1 ⟨rfl, h1⟩; have H1 := Lib.hid h1; clear h1)
            have HD := Lib.hid (HG.out _ w1.drew H1.out (Gr.drewN (Gr.refl _) 1))
            obtain ⟨q0, CH1⟩ := CHD.out w1.drew HD.out
            have CH2 := Lib.hid CH1
            clear CH1 L0 CF1
            go_region_with (first
              | (go_at_call 59; refine CH2.out.mono ?_; rintro e w2 ⟨rfl, g2⟩; have H2 := Lib.hid (HG.out _ _ HD.out g2); have q02 := (CHD.out _ H2.out).1; clear g2)
              | (go_at_call 60; refine (CW2.out _ H2.out).mono ?_; rintro e w3 ⟨rfl, h3⟩; have H3 := Lib.hid h3; clear h3))
            all_goals
              have c3 := (CF3.out _ H3.out).1
              have CF4 := Lib.hid (CF3.out _ H3.out).2
              go_upto_region 18 with (go_at_call 61; refine CF4.out.mono ?_; rintro e w4 ⟨rfl, h4⟩; have H4 := Lib.hid h4; clear h4)
              have c4 := (CI.out _ H4.out).1
              have CI4 := Lib.hid (CI.out _ H4.out).2
              go_wp2_with (go_at_call 33; refine CI4.out.mono ?_; rintro e w5 ⟨rfl, h5⟩; have H5 := Lib.hid h5; clear h5)
              go_ret
              rw [HFF.out]
              exact ⟨rfl, H5.out⟩
          · rw [thenE_no (a := (a3, z3)) k3] at HFF
            go_upto_region 13 with (go_at_call 61; refine CF1.out.mono ?_; rintro e w1 ⟨rfl, h1⟩; have H1 := Lib.hid h1; clear h1)
            have HD := Lib.hid (HG.out _ w1.drew H1.out (Gr.drewN (Gr.refl _) 1))
            obtain ⟨q0, CH1⟩ := CHD.out w1.drew HD.out
            have CH2 := Lib.hid CH1
            clear CH1 L0 CF1
            go_region_with (first
              | (go_at_call 59; refine CH2.out.mono ?_; rintro e w2 ⟨rfl, g2⟩; have H2 := Lib.hid (HG.out _ _ HD.out g2); have q02 := (CHD.out _ H2.out).1; clear g2)
              | (go_at_call 60; refine (CW2.out _ H2.out).mono ?_; rintro e w3 ⟨rfl, h3⟩; have H3 := Lib.hid h3; clear h3))
            all_goals
              have c3 := (CF3.out _ H3.out).1
              have CF4 := Lib.hid (CF3.out _ H3.out).2
              go_wp2_with (go_at_call 61; refine CF4.out.mono ?_; rintro e w4 ⟨rfl, h4⟩; have H4 := Lib.hid h4; clear h4)
              go_ret
              rw [HFF.out]
              exact ⟨rfl, H4.out.drop2.drop2⟩
        · rw [decide_eq_false k2, cond_false, thenE_no (a := (a2, z2)) k2] at HFF
          go_upto_region 13 with (go_at_call 61; refine CF1.out.mono ?_; rintro e w1 ⟨rfl, h1⟩; have H1 := Lib.hid h1; clear h1)
          have HD := Lib.hid (HG.out _ w1.drew H1.out (Gr.drewN (Gr.refl _) 1))
          obtain ⟨q0, CH1⟩ := CHD.out w1.drew HD.out
          have CH2 := Lib.hid CH1
          clear CH1 L0 CF1
          go_region_with (first
            | (go_at_call 59; refine CH2.out.mono ?_; rintro e w2 ⟨rfl, g2⟩; have H2 := Lib.hid (HG.out _ _ HD.out g2); have q02 := (CHD.out _ H2.out).1; clear g2)
            | (go_at_call 60; refine (CW2.out _ H2.out).mono ?_; rintro e w3 ⟨rfl, h3⟩; have H3 := Lib.hid h3; clear h3))
          all_goals
            go_wp2_with fail
            go_ret
            rw [HFF.out]
            exact ⟨rfl, H3.out.drop2.drop2⟩
      · rw [decide_eq_false k1, cond_false, thenE_no (a := (a1, z1)) k1] at HFF
        go_wp2_with (go_at_call 61; refine CF1.out.mono ?_; rintro e w1 ⟨rfl, h1⟩; have H1 := Lib.hid h1; clear h1)
        go_ret
        rw [HFF.out]
        exact ⟨rfl, H1.out.drop2.drop2⟩
end Go.Proofs.YtgaibknhdaeidaaGreat.P
