/- Stage 7: the document's Set whatever comes, Commit. No condition. -/
import Derived.Test.YtgaibknhdaeidaaGreatN9
set_option linter.unusedVariables false
set_option linter.unusedSimpArgs false
set_option maxRecDepth 100000
namespace Go.Proofs.YtgaibknhdaeidaaGreat.P
open Go.RowKit
variable {w0 w : World} {d l : Nat} {z : DState} {st : List (Int × ByteArray)} {dead : Bool} {R : Asn}
theorem q_set (h : Own w0 w (RDL d z l st dead R)) (hs : Stable R) (i : Int) (s : ByteArray) (hn : st.length ≤ 30) :
    Calls Tryz.prog 37 #[.pointer (some ⟨l, 0, none⟩), .int .i64 i, .string s] w fun e w' => e = .returned (.int .i64 (setR dead z.safe.length st i s)) ∧ Own w0 w' (RDL d z l (setSt (setR dead z.safe.length st i s) st i s) dead R) := by
  have HM := Lib.hid (q_may h i)
  by_cases hr : refF dead z.safe.length i = 0
  · by_cases h64 : s.size = 64
    · obtain ⟨rfl, i0, i1⟩ := refF_ok hr
      have hri := h.rlog.1
      have hpl := put_len i s st hri
      refine (q_set_ok h hs i s hn hr h64).mono ?_
      rintro e w' ⟨k1, k2⟩
      unfold setR setSt
      rw [hr, decide_eq_true rfl, cond_true, decide_eq_true h64, cond_true]
      cases hl : (lookS i st).isSome with
      | true =>
        rw [hl, cond_true] at hpl
        rw [cond_true]
        exact k2 (by omega)
      | false =>
        rw [hl, cond_false] at hpl
        rw [cond_false]
        by_cases h30 : 30 ≤ st.length
        · rw [decide_eq_true h30, cond_true]
          exact k1 (by omega)
        · rw [decide_eq_false h30, cond_false]
          exact k2 (by omega)
    · have e1 : setR dead z.safe.length st i s = 1 := by
        unfold setR
        rw [hr, decide_eq_true rfl, cond_true, decide_eq_false h64, cond_false]
      rw [e1]
      have HH : Hid (Own w0 w (RDL d z l (setSt 1 st i s) dead R)) := Lib.hid h
      rw [hr] at HM
      have h6 : ¬ (s.size : Int) = 64 := by omega
      have h7 : ((s.size : Int) != 64) = true := by simpa using h6
      clear h h64 hr e1
      go_enter Tryz.func37, Tryz.ntmps37
      go_wp2_with (go_at_call 62; refine HM.out.mono ?_; rintro e w' ⟨rfl, rfl⟩)
      go_ret
      exact ⟨rfl, HH.out⟩
  · have e1 : setR dead z.safe.length st i s = refF dead z.safe.length i := by
      unfold setR
      rw [decide_eq_false hr, cond_false]
    rw [e1]
    have HH : Hid (Own w0 w (RDL d z l (setSt (refF dead z.safe.length i) st i s) dead R)) := Lib.hid (by
      unfold setSt; rw [decide_eq_false hr]; exact h)
    have hrb : (refF dead z.safe.length i != 0) = true := by simpa using hr
    clear h e1
    generalize refF dead z.safe.length i = r at *
    go_enter Tryz.func37, Tryz.ntmps37
    go_wp2_with (go_at_call 62; refine HM.out.mono ?_; rintro e w' ⟨rfl, rfl⟩)
    go_ret
    exact ⟨rfl, HH.out⟩
theorem own_rdead (h : Own w0 w (RDL d z l st dead R)) (hs : Stable R) (b : Bool) : Own w0 (w.setCell ⟨l, 2, none⟩ (.bool b)) (RDL d z l st b R) := by
  refine (h.swap2.step (A' := rlA l d st b) (stable_star (stable_rdk _ _) hs) (fun F hF => ?_)).swap2
  obtain ⟨k1, k2, v, k3, k4, k5⟩ := hF
  have hl := blk_lt k3
  refine ⟨fun x => x = l ∨ v.ownBlock = some x, ⟨.inl rfl, k2, v, by rw [blk_set k3 2 _]; rfl, ownsRow_ch k4 (Ch.setCell (S := (· = l)) (Ch.refl _ w) (p := ⟨l, 2, none⟩) (.inl rfl) _) (fun x hx => (k5 x hx).2), fun b hb => ⟨.inr hb, (k5 b hb).2⟩⟩, fun x hx => ?_, Ch.setCell (S := F) (Ch.refl _ w) (p := ⟨l, 2, none⟩) (.inl k1) _⟩
  rcases hx with rfl | hx
  · exact ⟨.inl k1, by rw [World.size_setCell]; exact hl⟩
  · refine ⟨.inl (k5 x hx).1, ?_⟩
    rw [World.size_setCell]
    rcases k4.2 with ⟨hv, h0⟩ | ⟨g, cap, cur, hv, hb, hg, _⟩
    · rw [hv] at hx; cases hx
    · rw [hv] at hx; injection hx with hx; rw [← hx]; exact blk_lt hg
theorem q_commit_dead (h : Own w0 w (RDL d z l st true R)) :
    Calls Tryz.prog 38 #[.pointer (some ⟨l, 0, none⟩)] w fun e w' => e = .returned (.int .i64 7) ∧ w' = w := by
  obtain ⟨_, v, hb, _⟩ := h.rlog
  have c2 := blk_cell hb 2 (v := .bool true) rfl
  clear h hb
  go_enter Tryz.func38, Tryz.ntmps38
  go_wp2
  go_ret
  exact ⟨rfl, rfl⟩
theorem q_commit_nil (h : Own w0 w (RDL d z l [] false R)) :
    Calls Tryz.prog 38 #[.pointer (some ⟨l, 0, none⟩)] w fun e w' => e = .returned (.int .i64 0) ∧ w' = w := by
  obtain ⟨_, v, hb, hrow⟩ := h.rlog
  obtain ⟨o, c, rfl⟩ := rowv_form hrow
  have c2 := blk_cell hb 2 (v := .bool false) rfl
  have c1 := blk_cell hb 1 rfl
  clear h hb hrow
  rw [List.length_nil] at c1
  go_enter Tryz.func38, Tryz.ntmps38
  go_wp2
  go_ret
  exact ⟨rfl, rfl⟩
def CommP (w0 : World) (d l : Nat) (st : List (Int × ByteArray)) (R : Asn) (q : Int × DState) (e : Ending) (w' : World) : Prop := e = .returned (.int .i64 q.1) ∧ (q.1 = 0 → Own w0 w' (RDL d q.2 l [] false R)) ∧ (q.1 ≠ 0 → Own w0 w' (RDL d q.2 l st true R))
theorem q_commit (h : Own w0 w (RDL d z l st false R)) (hs : Stable R) (h0 : 0 < st.length) (hl : st.length ≤ 30) (hb : ∀ x ∈ st, 0 ≤ x.1 ∧ x.1 < 65536) (hw : z.wait.length ≤ 2000000000000) :
    Calls Tryz.prog 38 #[.pointer (some ⟨l, 0, none⟩)] w (CommP w0 d l st R (exec (commitOps st) z)) := by
  have CA := Lib.hid (q_acts h hs hl hb hw)
  obtain ⟨_, v, hcb, hrow⟩ := h.rlog
  obtain ⟨o, c, rfl⟩ := rowv_form hrow
  have c2 := blk_cell hcb 2 (v := .bool false) rfl
  have c1 := blk_cell hcb 1 rfl
  have HS := Lib.hid hs
  have SZE : Hid (∀ w1 q2, Own w0 w1 (RDL d q2 l st false R) → ((∀ j, w1.frozen? ⟨l, j, none⟩ = false) ∧ (∃ v, w1.cell? ⟨l, 1, none⟩ = some v) ∧ w1.cell? ⟨l, 2, none⟩ = some (.bool false))) := Lib.hid (fun w1 q2 h1 => by
    obtain ⟨_, v, hb, _⟩ := h1.rlog
    exact ⟨fun j => blk_frozen hb j, ⟨v, blk_cell hb 1 rfl⟩, blk_cell hb 2 rfl⟩)
  clear h hb hs hcb hrow
  generalize exec (commitOps st) z = q at *
  obtain ⟨q1, q2⟩ := q
  obtain ⟨n, hn⟩ : ∃ n, st.length = n := ⟨_, rfl⟩
  rw [hn] at h0 c1
  clear hn hl
  have hnz : ¬ (n : Int) = 0 := by omega
  go_enter Tryz.func38, Tryz.ntmps38
  go_upto_region 6 with (go_at_call 63; refine CA.out.mono ?_; rintro e w1 ⟨rfl, h1⟩; have H1 := Lib.hid h1; clear h1)
  clear c1 c2
  obtain ⟨z1, ⟨v1, c1⟩, c2⟩ := SZE.out _ _ H1.out
  have zz1 := z1 1
  have zz2 := z1 2
  clear z1
  by_cases hq : q1 = 0
  · subst hq
    have H9 := Lib.hid (H1.out.putL HS.out)
    go_wp2_with fail
    go_ret
    exact ⟨rfl, fun _ => H9.out, fun e => absurd rfl e⟩
  · have hq2 : (q1 != 0) = true := by simp [hq]
    have H9 := Lib.hid (own_rdead H1.out HS.out true)
    go_wp2_with fail
    go_ret
    exact ⟨rfl, fun e => absurd e hq, fun _ => H9.out⟩
end Go.Proofs.YtgaibknhdaeidaaGreat.P
