/- Stage 7: Set, Abort. No condition. -/
import Derived.Test.YtgaibknhdaeidaaA9
set_option linter.unusedVariables false
set_option maxRecDepth 50000
namespace Go.Proofs.Ytgaibknhdaeidaa.P
open Go.RowKit
def setSt (r : Int) (st : List (Int × ByteArray)) (i : Int) (s : ByteArray) : List (Int × ByteArray) := bif decide (r = 0) then putS i s st else st
theorem own_turned {w0 w w1 : World} {d : Nat} {z : DState} {l mb n : Nat} {st st' : List (Int × ByteArray)} {dead : Bool} {R : Asn} (h : Own w0 w (DL d z l mb st dead R)) (hs : Stable R) (hc : Ch (fun x => x = mb) w w1) (hr : Rising st') (ho : w1.ownsMap Try.prog 3 secElem mb n (mapD st')) : Own w0 w1 (DL d z l mb st' dead R) :=
  (h.swap2.step (stable_star (stable_dsk _ _) hs) (fun F hF => lg_turned hF (.inr hc.size) hc hr ho)).swap2
set_option maxHeartbeats 1000000 in
theorem o_set {w0 w : World} {d : Nat} {z : DState} {l mb : Nat} {st : List (Int × ByteArray)} {dead : Bool} {R : Asn} (h : Own w0 w (DL d z l mb st dead R)) (hs : Stable R) (i : Int) (s : ByteArray) (hn : st.length ≤ 1000) :
    Calls Try.prog 24 #[.pointer (some ⟨l, 0, none⟩), .int .i64 i, .string s] w fun e w' => e = .returned (.int .i64 (setR dead z.safe.length st i s)) ∧ Own w0 w' (DL d z l mb (setSt (setR dead z.safe.length st i s) st i s) dead R) := by
  have HR := o_refuses h i
  have hst : Stable (DL d z l mb st dead R) := stable_dl _ _ _ _ _ _ hs
  unfold setR
  by_cases hr : refF dead z.safe.length i = 0
  · obtain ⟨hd, i0, i1⟩ := refF_ok hr
    have hz2 := (own_wz h).2.1
    have HO : Hid (∀ w', Gr w w' → Own w0 w' (DL d z l mb st dead R)) := Lib.hid (fun w' g => h.gr hst g)
    rw [hr] at HR ⊢
    rw [decide_eq_true rfl, cond_true]
    by_cases h64 : s.size = 64
    · rw [decide_eq_true h64, cond_true]
      have h64i : (s.size : Int) = 64 := by omega
      obtain ⟨hb, hm, hri, hne⟩ := h.log
      have c1 := blk_cell hb 1 (v := .map (some mb)) rfl
      have c1a : ∀ o, (w.alloc o).cell? ⟨l, 1, none⟩ = some (.map (some mb)) := fun o => blk_cell (blk_alloc o hb) 1 rfl
      have HM := Lib.hid hm
      have hw := wf_small i0 (by omega)
      have HE : Hid (∀ o w1, w1.ownsMap Try.prog 3 secElem mb (st.length + 1) ((mapD st).put (.int .i64 i) (E1 s)) → (w.alloc o).mapTurned w1 mb → Own w0 w1 (DL d z l mb (putS i s st) dead R)) :=
        Lib.hid (fun o w1 ho ht => own_turned (h.gr hst ((Gr.refl _).alloc (Nat.le_refl _) o)) hs (ch_turned (hm.alloc o) ht) (rising_put i s st hri) (by rw [← mapD_put i s st hri]; exact ho))
      clear h hb hm hst hs
      cases hlk : (lookS i st).isSome with
      | true =>
        rw [cond_true]
        go_enter Try.func24, Try.ntmps24
        go_wp2_with (first
          | (go_at_call 39; refine HR.mono ?_; rintro e w' ⟨rfl, rfl⟩)
          | (refine wpList_lookup_sec rfl _ _ rfl mb _ st rfl HM.out i rfl hw ?_; rw [hlk])
          | (refine wpList_mapUpdate_in _ rfl _ _ _ 62 rfl 3 73 key_int Try.underlying62 secElem mb _ (mapD st) rfl (HM.out.alloc _) (by unfold maxLen; omega) _ _ _ rfl rfl (Maps.keyOf_int_mk Try.underlying3 hw) (E1 s) [] (secElem_mk s) ?_; intro w1 ho1 ht1; have H1 := HE.out _ _ ho1 ht1; clear ho1 ht1))
        go_ret
        exact ⟨rfl, H1⟩
      | false =>
        rw [cond_false]
        by_cases h30 : 30 ≤ st.length
        · rw [decide_eq_true h30, cond_true]
          go_enter Try.func24, Try.ntmps24
          go_wp2_with (first
            | (go_at_call 39; refine HR.mono ?_; rintro e w' ⟨rfl, rfl⟩)
            | (refine wpList_lookup_sec rfl _ _ rfl mb _ st rfl HM.out i rfl hw ?_; rw [hlk])
            | (at_len; refine wpList_len_sec_g (by kernel_rfl) _ rfl mb _ st rfl (HM.out.alloc _) ?_))
          go_ret
          exact ⟨rfl, HO.out _ ((Gr.refl _).alloc (Nat.le_refl _) _)⟩
        · rw [decide_eq_false h30, cond_false]
          go_enter Try.func24, Try.ntmps24
          go_wp2_with (first
            | (go_at_call 39; refine HR.mono ?_; rintro e w' ⟨rfl, rfl⟩)
            | (refine wpList_lookup_sec rfl _ _ rfl mb _ st rfl HM.out i rfl hw ?_; rw [hlk])
            | (at_len; refine wpList_len_sec_g (by kernel_rfl) _ rfl mb _ st rfl (HM.out.alloc _) ?_)
            | (refine wpList_mapUpdate_in _ rfl _ _ _ 62 rfl 3 73 key_int Try.underlying62 secElem mb _ (mapD st) rfl (HM.out.alloc _) (by unfold maxLen; omega) _ _ _ rfl rfl (Maps.keyOf_int_mk Try.underlying3 hw) (E1 s) [] (secElem_mk s) ?_; intro w1 ho1 ht1; have H1 := HE.out _ _ ho1 ht1; clear ho1 ht1))
          go_ret
          exact ⟨rfl, H1⟩
    · rw [decide_eq_false h64, cond_false]
      have h64i : ¬ (s.size : Int) = 64 := by omega
      clear h hst hs
      go_enter Try.func24, Try.ntmps24
      go_wp2_with (go_at_call 39; refine HR.mono ?_; rintro e w' ⟨rfl, rfl⟩)
      go_ret
      exact ⟨rfl, HO.out _ (Gr.refl _)⟩
  · have HO : Hid (Own w0 w (DL d z l mb st dead R)) := Lib.hid h
    rw [decide_eq_false hr, cond_false]
    have e : setSt (refF dead z.safe.length i) st i s = st := by unfold setSt; rw [decide_eq_false hr]; rfl
    rw [e]
    clear h hst hs e
    generalize refF dead z.safe.length i = r at *
    go_enter Try.func24, Try.ntmps24
    go_wp2_with (go_at_call 39; refine HR.mono ?_; rintro e w' ⟨rfl, rfl⟩)
    go_ret
    exact ⟨rfl, HO.out⟩
theorem o_abort {w0 w : World} {d : Nat} {z : DState} {l mb : Nat} {st : List (Int × ByteArray)} {dead : Bool} {R : Asn} (h : Own w0 w (DL d z l mb st dead R)) (hs : Stable R) :
    Calls Try.prog 22 #[.pointer (some ⟨l, 0, none⟩)] w fun e w' => e = .returned (.tuple #[]) ∧ Own w0 w' (DL d z l mb [] dead R) := by
  obtain ⟨hb, hm, hri, hne⟩ := h.log
  have c1 := blk_cell hb 1 (v := .map (some mb)) rfl
  have HM := Lib.hid hm
  have HE : Hid (∀ w1, w1.ownsMap Try.prog 3 secElem mb 0 (mapD []) → w.mapTurned w1 mb → Own w0 w1 (DL d z l mb [] dead R)) :=
    Lib.hid (fun w1 ho ht => own_turned h hs (ch_turned hm ht) trivial ho)
  clear h hb hm hs
  go_enter Try.func22, Try.ntmps22
  go_wp2_with (refine wpList_clear_own _ rfl _ 62 rfl 3 73 Try.underlying62 mb _ _ rfl HM.out ?_; intro w1 ho1 ht1; have H1 := HE.out _ ho1 ht1; clear ho1 ht1)
  exact bodyPost_end (results_none rfl _ _ _) rfl ⟨rfl, H1⟩
end Go.Proofs.Ytgaibknhdaeidaa.P
