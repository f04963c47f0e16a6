/- Stage 7: the staged sectors in order; Commit. No condition. -/
import Derived.Test.YtgaibknhdaeidaaA18
set_option linter.unusedVariables false
set_option maxRecDepth 50000
namespace Go.Proofs.Ytgaibknhdaeidaa.P
open Go.RowKit
theorem c_keys (mb : Option Nat) (w : World) : Calls Try.prog 35 #[.map mb] w fun e w' => e = .returned (.func (.func 60) #[] #[.pointer (some ⟨w.heap.size, 0, none⟩)]) ∧ w' = w.alloc (.cells #[.map mb] 62) :=
  (callsIn_wide (n := 5)).1 (AnyZI.keys_in sg_keysA Fence.wide 5 trivial rfl mb w)
set_option maxHeartbeats 1000000 in
theorem c_sorted (w : World) (b nn : Nat) (D0 : DataW Nat) (hown : w.ownsMap Try.prog 3 secElem b nn D0) (hmax : Maps.size D0 ≤ 1000) :
    Calls Try.prog 34 #[.func (.func 60) #[] #[.pointer (some ⟨w.heap.size, 0, none⟩)]] (w.alloc (.cells #[.map (some b)] 62)) fun e w' => ∃ (v : Value) (ss : List Int), e = .returned v ∧ ss.Perm (intKeys D0) ∧
      w'.ownsRow (w.alloc (.cells #[.map (some b)] 62)).heap.size 3 1 v ss.length ((ss.mergeSort (fun x y => decide (x ≤ y))).map encZ) ∧ (v = .slice none 0 0 ↔ ss = []) ∧ Below (w.alloc (.cells #[.map (some b)] 62)).heap.size (w.alloc (.cells #[.map (some b)] 62)) w' := by
  have hseq : SeqGives Fence.wide 2 Try.prog 60 #[.pointer (some ⟨w.heap.size, 0, none⟩)] encZ (fun ss => ss.Perm (intKeys D0)) (Maps.size D0) (w.alloc (.cells #[.map (some b)] 62)) :=
    AnyZI.keys_gives (ρ := sg_keysA_ren) { sg_keysA with } Fence.wide _ trivial rfl (by omega) w.heap.size b nn D0 _ (by simp) (by simp) (hown.alloc _)
  have cS := AnyZI.sorted_in sg_sortedA Fence.wide 5 trivial trivial trivial trivial rfl (by omega) (sg_sortsA _) (enters_of Try.func59 (by kernel_rfl) rfl) 60 #[.pointer (some ⟨w.heap.size, 0, none⟩)] trivial (enters_of Try.func60 (by kernel_rfl) rfl) _ _ (by unfold maxLen; omega) (by omega) _ hseq
  exact (callsIn_wide (n := 5)).1 cS
/-- What Sorted hands to acts. -/
def KeysO (w0 : World) (D : Asn → Asn) (st : List (Int × ByteArray)) (R : Asn) (e : Ending) (w' : World) : Prop := ∃ o c, e = .returned (.slice o st.length c) ∧ Own w0 w' (D (Star (rowIA o (st.map (·.1))) R))
theorem o_keys {w0 w : World} {d : Nat} {z : DState} {l mb : Nat} {st : List (Int × ByteArray)} {dead : Bool} {R : Asn} (h : Own w0 w (DL d z l mb st dead R)) (hs : Stable R) (hl : st.length ≤ 1000) :
    Calls Try.prog 34 #[.func (.func 60) #[] #[.pointer (some ⟨w.heap.size, 0, none⟩)]] (w.alloc (.cells #[.map (some mb)] 62)) (KeysO w0 (DL d z l mb st dead) st R) := by
  have hst : Stable (DL d z l mb st dead R) := stable_dl _ _ _ _ _ _ hs
  obtain ⟨hb, hm, hri, hne⟩ := h.log
  refine (c_sorted w mb _ (mapD st) hm (by rw [mapD_size]; exact hl)).mono ?_
  rintro e w' ⟨v, ss, rfl, hp, hrow, _, hbl⟩
  rw [mapD_keys] at hp
  rw [sort_rising st hri ss hp] at hrow
  have hlen : ss.length = st.length := by rw [hp.length_eq, List.length_map]
  rw [hlen] at hrow
  obtain ⟨o, c, rfl⟩ := row_form hrow
  refine ⟨o, c, rfl, ?_⟩
  have h1 := h.gr hst ((Gr.refl _).alloc (Nat.le_refl _) (.cells #[.map (some mb)] 62))
  have hl2 : (st.map (·.1)).length = st.length := List.length_map _
  have h2 := h1.add hst hbl (A := rowIA o (st.map (·.1))) ⟨fun x => ∃ off, o = some ⟨x, off, none⟩, ⟨rowI_own (c := c) (by rw [hl2]; exact hrow), fun b off e => ⟨off, e⟩⟩, fun x hx => by
    obtain ⟨off, e⟩ := hx
    exact row_from hrow x off e⟩
  exact h2.rot3'
theorem own_drop {w0 w : World} {d : Nat} {z : DState} {l mb : Nat} {st : List (Int × ByteArray)} {dead : Bool} {X R : Asn} (h : Own w0 w (DL d z l mb st dead (Star X R))) : Own w0 w (DL d z l mb st dead R) := h.rot3.right
theorem own_dead {w0 w : World} {d : Nat} {z : DState} {l mb : Nat} {st : List (Int × ByteArray)} {dead : Bool} {R : Asn} (h : Own w0 w (DL d z l mb st dead R)) (hs : Stable R) (b : Bool) : Own w0 (w.setCell ⟨l, 2, none⟩ (.bool b)) (DL d z l mb st b R) := by
  refine (h.swap2.step (A' := lgA l d mb st b) (stable_star (stable_dsk _ _) hs) (fun F hF => ?_)).swap2
  obtain ⟨h1, h2, h3, h4, h5, h6⟩ := hF
  refine ⟨fun x => x = l ∨ x = mb, ⟨.inl rfl, .inr rfl, h3, h4, blk_set h5 2 _, h6.setCell (fun e => h3 e.symm) _⟩, fun x hx => ?_, Ch.setCell (Ch.refl _ _) (.inl h1) _⟩
  have hl := blk_lt h5
  have hm := h6.lt
  have hsz : (w.setCell ⟨l, 2, none⟩ (.bool b)).heap.size = w.heap.size := by simp [World.setCell]
  rcases hx with hx | hx
  · exact ⟨.inl (by rw [hx]; exact h1), by rw [hx, hsz]; exact hl⟩
  · exact ⟨.inl (by rw [hx]; exact h2), by rw [hx, hsz]; exact hm⟩
theorem o_commit_dead {w0 w : World} {d : Nat} {z : DState} {l mb : Nat} {st : List (Int × ByteArray)} {R : Asn} (h : Own w0 w (DL d z l mb st true R)) :
    Calls Try.prog 14 #[.pointer (some ⟨l, 0, none⟩)] w fun e w' => e = .returned (.int .i64 7) ∧ w' = w := by
  have c2 := blk_cell h.log.1 2 (v := .bool true) rfl
  clear h
  go_enter Try.func14, Try.ntmps14
  go_wp2
  go_ret
  exact ⟨rfl, rfl⟩
theorem o_commit_nil {w0 w : World} {d : Nat} {z : DState} {l mb : Nat} {R : Asn} (h : Own w0 w (DL d z l mb [] false R)) :
    Calls Try.prog 14 #[.pointer (some ⟨l, 0, none⟩)] w fun e w' => e = .returned (.int .i64 0) ∧ w' = w := by
  have c2 := blk_cell h.log.1 2 (v := .bool false) rfl
  have c1 := blk_cell h.log.1 1 (v := .map (some mb)) rfl
  have HM := Lib.hid h.log.2.1
  clear h
  go_enter Try.func14, Try.ntmps14
  go_wp2_with (at_len; refine wpList_len_own _ rfl _ 62 rfl 3 73 Try.underlying62 _ mb _ _ rfl HM.out ?_; rw [mapD_size])
  go_ret
  exact ⟨rfl, rfl⟩
set_option maxHeartbeats 1600000 in
theorem o_commit {w0 w : World} {d : Nat} {z : DState} {l mb : Nat} {st : List (Int × ByteArray)} {R : Asn} (h : Own w0 w (DL d z l mb st false R)) (hs : Stable R) (h0 : 0 < st.length) (hl : st.length ≤ 30) (hb : ∀ x ∈ st, 0 ≤ x.1 ∧ x.1 < 65536) (hw : z.wait.length ≤ 2000000000000) :
    Calls Try.prog 14 #[.pointer (some ⟨l, 0, none⟩)] w fun e w' => e = .returned (.int .i64 (exec (commitOps st) z).1) ∧ Own w0 w' (DL d (exec (commitOps st) z).2 l mb [] (!decide ((exec (commitOps st) z).1 = 0)) R) := by
  have c2 := blk_cell h.log.1 2 (v := .bool false) rfl
  have c1 := blk_cell h.log.1 1 (v := .map (some mb)) rfl
  have HM := Lib.hid h.log.2.1
  have CK := Lib.hid (c_keys (some mb) w)
  have CS := Lib.hid (o_keys h hs (by omega))
  have CA : Hid (∀ o c w1, Own w0 w1 (DL d z l mb st false (Star (rowIA o (st.map (·.1))) R)) → Calls Try.prog 33 #[.pointer (some ⟨l, 0, none⟩), .slice o st.length c] w1 fun e w2 => e = .returned (.int .i64 (exec (commitOps st) z).1) ∧ Own w0 w2 (DL d (exec (commitOps st) z).2 l mb st false R)) :=
    Lib.hid (fun o c w1 h1 => (o_acts o c h1 hs hl hb hw).mono (by
      rintro e w2 ⟨rfl, k⟩
      exact ⟨rfl, own_drop k⟩))
  have HS := Lib.hid hs
  clear h hb hw hs
  generalize exec (commitOps st) z = q at *
  obtain ⟨q1, q2⟩ := q
  dsimp only at *
  have hnz : ¬ (Maps.size (mapD st) : Int) = 0 := by rw [mapD_size]; omega
  go_enter Try.func14, Try.ntmps14
  go_upto_region 8 with (first
    | (at_len; refine wpList_len_own _ rfl _ 62 rfl 3 73 Try.underlying62 _ mb _ _ rfl HM.out ?_)
    | (go_at_call 35; refine CK.out.mono ?_; rintro e w1 ⟨rfl, rfl⟩)
    | (go_at_call 34; refine CS.out.mono ?_; rintro e w2 ⟨o, c, rfl, h2⟩; have H2 := Lib.hid h2; clear h2)
    | (go_at_call 33; refine (CA.out _ _ _ H2.out).mono ?_; rintro e w3 ⟨rfl, h3⟩; have H3 := Lib.hid h3; have b3 := Lib.hid h3.log.1; have d2 := blk_cell b3.out 2 rfl; have z2 := blk_frozen b3.out 2; clear h3))
  by_cases hq : q1 = 0
  · subst hq
    have H9 := Lib.hid (own_dead H3.out HS.out false)
    go_upto_region 9 with fail
    generalize (World.setCell _ ⟨l, 2, none⟩ _) = w9 at *
    have e1 := blk_cell H9.out.log.1 1 (v := .map (some mb)) rfl
    have HM9 := Lib.hid H9.out.log.2.1
    have HE9 : Hid (∀ w1, w1.ownsMap Try.prog 3 secElem mb 0 (mapD []) → w9.mapTurned w1 mb → Own w0 w1 (DL d q2 l mb [] false R)) :=
      Lib.hid (fun w1 ho ht => own_turned H9.out HS.out (ch_turned HM9.out ht) trivial ho)
    go_wp2_with (refine wpList_clear_own _ rfl _ 62 rfl 3 73 Try.underlying62 mb _ _ rfl HM9.out ?_; intro w1 ho1 ht1; have H10 := HE9.out _ ho1 ht1; clear ho1 ht1)
    go_ret
    exact ⟨rfl, H10⟩
  · have hq2 : (q1 != 0) = true := by simp [hq]
    have H9 := Lib.hid (own_dead H3.out HS.out true)
    go_upto_region 9 with fail
    generalize (World.setCell _ ⟨l, 2, none⟩ _) = w9 at *
    have e1 := blk_cell H9.out.log.1 1 (v := .map (some mb)) rfl
    have HM9 := Lib.hid H9.out.log.2.1
    have HE9 : Hid (∀ w1, w1.ownsMap Try.prog 3 secElem mb 0 (mapD []) → w9.mapTurned w1 mb → Own w0 w1 (DL d q2 l mb [] true R)) :=
      Lib.hid (fun w1 ho ht => own_turned H9.out HS.out (ch_turned HM9.out ht) trivial ho)
    go_wp2_with (refine wpList_clear_own _ rfl _ 62 rfl 3 73 Try.underlying62 mb _ _ rfl HM9.out ?_; intro w1 ho1 ht1; have H10 := HE9.out _ ho1 ht1; clear ho1 ht1)
    go_ret
    rw [decide_eq_false hq]
    exact ⟨rfl, H10⟩
end Go.Proofs.Ytgaibknhdaeidaa.P
