/- Stage 7: the staged sectors in order; Commit. No condition. -/
import Derived.Test.YtlpcccpagmipnaaGreatA18
set_option linter.unusedVariables false
set_option maxRecDepth 50000
namespace Go.Proofs.YtlpcccpagmipnaaGreat.P
open Go.RowKit
theorem c_keys (mb : Option Nat) (w : World) : Calls Tryz.prog 48 #[.map mb] w fun e w' => e = .returned (.func (.func 94) #[] #[.pointer (some ⟨w.heap.size, 0, none⟩)]) ∧ w' = w.alloc (.cells #[.map mb] 90) :=
  (callsIn_wide (n := 5)).1 (AnyZI.keys_in sg_keysA Fence.wide 5 trivial rfl mb w)
set_option maxHeartbeats 1000000 in
theorem c_sorted (w : World) (b nn : Nat) (D0 : DataW Nat) (hown : w.ownsMap Tryz.prog 3 secElem b nn D0) (hmax : Maps.size D0 ≤ 1000) :
    Calls Tryz.prog 47 #[.func (.func 94) #[] #[.pointer (some ⟨w.heap.size, 0, none⟩)]] (w.alloc (.cells #[.map (some b)] 90)) fun e w' => ∃ (v : Value) (ss : List Int), e = .returned v ∧ ss.Perm (intKeys D0) ∧
      w'.ownsRow (w.alloc (.cells #[.map (some b)] 90)).heap.size 3 1 v ss.length ((ss.mergeSort (fun x y => decide (x ≤ y))).map encZ) ∧ (v = .slice none 0 0 ↔ ss = []) ∧ Below (w.alloc (.cells #[.map (some b)] 90)).heap.size (w.alloc (.cells #[.map (some b)] 90)) w' := by
  have hseq : SeqGives Fence.wide 2 Tryz.prog 94 #[.pointer (some ⟨w.heap.size, 0, none⟩)] encZ (fun ss => ss.Perm (intKeys D0)) (Maps.size D0) (w.alloc (.cells #[.map (some b)] 90)) :=
    AnyZI.keys_gives (ρ := sg_keysA_ren) { sg_keysA with } Fence.wide _ trivial rfl (by omega) w.heap.size b nn D0 _ (by simp) (by simp) (hown.alloc _)
  have cS := AnyZI.sorted_in sg_sortedA Fence.wide 5 trivial trivial trivial trivial rfl (by omega) (sg_sortsA _) (enters_of Tryz.func93 (by kernel_rfl) rfl) 94 #[.pointer (some ⟨w.heap.size, 0, none⟩)] trivial (enters_of Tryz.func94 (by kernel_rfl) rfl) _ _ (by unfold maxLen; omega) (by omega) _ hseq
  exact (callsIn_wide (n := 5)).1 cS
/-- What Sorted hands to acts. -/
def KeysO (w0 : World) (D : Asn → Asn) (st : List (Int × ByteArray)) (R : Asn) (e : Ending) (w' : World) : Prop := ∃ o c, e = .returned (.slice o st.length c) ∧ Own w0 w' (D (Star (rowIA o (st.map (·.1))) R))
theorem o_keys {w0 w : World} {d : Nat} {z : DState} {l mb : Nat} {st : List (Int × ByteArray)} {dead : Bool} {R : Asn} (h : Own w0 w (DL d z l mb st dead R)) (hs : Stable R) (hl : st.length ≤ 1000) :
    Calls Tryz.prog 47 #[.func (.func 94) #[] #[.pointer (some ⟨w.heap.size, 0, none⟩)]] (w.alloc (.cells #[.map (some mb)] 90)) (KeysO w0 (DL d z l mb st dead) st R) := by
  have hst : Stable (DL d z l mb st dead R) := stable_dl _ _ _ _ _ _ hs
  obtain ⟨hb, hm, hri, hne⟩ := h.log
  refine (c_sorted w mb _ (mapD st) hm (by rw [mapD_size]; exact hl)).mono ?_
  rintro e w' ⟨v, ss, rfl, hp, hrow, _, hbl⟩
  rw [mapD_keys] at hp
  rw [sort_rising st hri ss hp] at hrow
  have hlen : ss.length = st.length := by rw [hp.length_eq, List.length_map]
  rw [hlen] at hrow
  obtain ⟨o, c, rfl⟩ := row_form hrow
  refine ⟨o, c, rfl, ?_⟩
  have h1 := h.gr hst ((Gr.refl _).alloc (Nat.le_refl _) (.cells #[.map (some mb)] 90))
  have hl2 : (st.map (·.1)).length = st.length := List.length_map _
  have h2 := h1.add hst hbl (A := rowIA o (st.map (·.1))) ⟨fun x => ∃ off, o = some ⟨x, off, none⟩, ⟨rowI_own (c := c) (by rw [hl2]; exact hrow), fun b off e => ⟨off, e⟩⟩, fun x hx => by
    obtain ⟨off, e⟩ := hx
    exact row_from hrow x off e⟩
  exact h2.rot3'
theorem own_drop {w0 w : World} {d : Nat} {z : DState} {l mb : Nat} {st : List (Int × ByteArray)} {dead : Bool} {X R : Asn} (h : Own w0 w (DL d z l mb st dead (Star X R))) : Own w0 w (DL d z l mb st dead R) := h.rot3.right
theorem own_dead {w0 w : World} {d : Nat} {z : DState} {l mb : Nat} {st : List (Int × ByteArray)} {dead : Bool} {R : Asn} (h : Own w0 w (DL d z l mb st dead R)) (hs : Stable R) (b : Bool) : Own w0 (w.setCell ⟨l, 2, none⟩ (.bool b)) (DL d z l mb st b R) := by
  refine (h.swap2.step (A' := lgA l d mb st b) (stable_star (stable_dsk _ _) hs) (fun F hF => ?_)).swap2
  obtain ⟨h1, h2, h3, h4, h5, h6⟩ := hF
  refine ⟨fun x => x = l ∨ x = mb, ⟨.inl rfl, .inr rfl, h3, h4, blk_set h5 2 _, h6.setCell (fun e => h3 e.symm) _⟩, fun x hx => ?_, Ch.setCell (Ch.refl _ _) (.inl h1) _⟩
  have hl := blk_lt h5
  have hm := h6.lt
  have hsz : (w.setCell ⟨l, 2, none⟩ (.bool b)).heap.size = w.heap.size := by simp [World.setCell]
  rcases hx with hx | hx
  · exact ⟨.inl (by rw [hx]; exact h1), by rw [hx, hsz]; exact hl⟩
  · exact ⟨.inl (by rw [hx]; exact h2), by rw [hx, hsz]; exact hm⟩
theorem o_commit_dead {w0 w : World} {d : Nat} {z : DState} {l mb : Nat} {st : List (Int × ByteArray)} {R : Asn} (h : Own w0 w (DL d z l mb st true R)) :
    Calls Tryz.prog 14 #[.pointer (some ⟨l, 0, none⟩)] w fun e w' => e = .returned (.int .i64 7) ∧ w' = w := by
  have c2 := blk_cell h.log.1 2 (v := .bool true) rfl
  clear h
  go_enter Tryz.func14, Tryz.ntmps14
  go_wp2
  go_ret
  exact ⟨rfl, rfl⟩
theorem o_commit_nil {w0 w : World} {d : Nat} {z : DState} {l mb : Nat} {R : Asn} (h : Own w0 w (DL d z l mb [] false R)) :
    Calls Tryz.prog 14 #[.pointer (some ⟨l, 0, none⟩)] w fun e w' => e = .returned (.int .i64 0) ∧ w' = w := by
  have c2 := blk_cell h.log.1 2 (v := .bool false) rfl
  have c1 := blk_cell h.log.1 1 (v := .map (some mb)) rfl
  have HM := Lib.hid h.log.2.1
  clear h
  go_enter Tryz.func14, Tryz.ntmps14
  go_wp2_with (at_len; refine wpList_len_own _ rfl _ 90 rfl 3 99 Tryz.underlying90 _ mb _ _ rfl HM.out ?_; rw [mapD_size])
  go_ret
  exact ⟨rfl, rfl⟩
set_option maxHeartbeats 1600000 in
theorem o_commit {w0 w : World} {d : Nat} {z : DState} {l mb : Nat} {st : List (Int × ByteArray)} {R : Asn} (h : Own w0 w (DL d z l mb st false R)) (hs : Stable R) (h0 : 0 < st.length) (hl : st.length ≤ 30) (hb : ∀ x ∈ st, 0 ≤ x.1 ∧ x.1 < 65536) (hw : z.wait.length ≤ 2000000000000) :
    Calls Tryz.prog 14 #[.pointer (some ⟨l, 0, none⟩)] w fun e w' => e = .returned (.int .i64 (exec (commitOps st) z).1) ∧ Own w0 w' (DL d (exec (commitOps st) z).2 l mb [] (!decide ((exec (commitOps st) z).1 = 0)) R) := by
  have c2 := blk_cell h.log.1 2 (v := .bool false) rfl
  have c1 := blk_cell h.log.1 1 (v := .map (some mb)) rfl
  have HM := Lib.hid h.log.2.1
  have CK := Lib.hid (c_keys (some mb) w)
  have CS := Lib.hid (o_keys h hs (by omega))
  have CA : Hid (∀ o c w1, Own w0 w1 (DL d z l mb st false (Star (rowIA o (st.map (·.1))) R)) → Calls Tryz.prog 46 #[.pointer (some ⟨l, 0, none⟩), .slice o st.length c] w1 fun e w2 => e = .returned (.int .i64 (exec (commitOps st) z).1) ∧ Own w0 w2 (DL d (exec (commitOps st) z).2 l mb st false R)) :=
    Lib.hid (fun o c w1 h1 => (o_acts o c h1 hs hl hb hw).mono (by
      rintro e w2 ⟨rfl, k⟩
      exact ⟨rfl, own_drop k⟩))
  have HS := Lib.hid hs
  clear h hb hw hs
  generalize exec (commitOps st) z = q at *
  obtain ⟨q1, q2⟩ := q
  dsimp only at *
  have hnz : ¬ (Maps.size (mapD st) : Int) = 0 := by rw [mapD_size]; omega
  go_enter Tryz.func14, Tryz.ntmps14
  go_upto_region 8 with (first
    | (at_len; refine wpList_len_own _ rfl _ 90 rfl 3 99 Tryz.underlying90 _ mb _ _ rfl HM.out ?_)
    | (go_at_call 48; refine CK.out.mono ?_; rintro e w1 ⟨rfl, rfl⟩)
    | (go_at_call 47; refine CS.out.mono ?_; rintro e w2 ⟨o, c, rfl, h2⟩; have H2 := Lib.hid h2; clear h2)
    | (go_at_call 46; refine (CA.out _ _ _ H2.out).mono ?_; rintro e w3 ⟨rfl, h3⟩; have H3 := Lib.hid h3; have b3 := Lib.hid h3.log.1; have d2 := blk_cell b3.out 2 rfl; have z2 := blk_frozen b3.out 2; clear h3))
  by_cases hq : q1 = 0
  · subst hq
    have H9 := Lib.hid (own_dead H3.out HS.out false)
    go_upto_region 9 with fail
    generalize (World.setCell _ ⟨l, 2, none⟩ _) = w9 at *
    have e1 := blk_cell H9.out.log.1 1 (v := .map (some mb)) rfl
    have HM9 := Lib.hid H9.out.log.2.1
    have HE9 : Hid (∀ w1, w1.ownsMap Tryz.prog 3 secElem mb 0 (mapD []) → w9.mapTurned w1 mb → Own w0 w1 (DL d q2 l mb [] false R)) :=
      Lib.hid (fun w1 ho ht => own_turned H9.out HS.out (ch_turned HM9.out ht) trivial ho)
    go_wp2_with (refine wpList_clear_own _ rfl _ 90 rfl 3 99 Tryz.underlying90 mb _ _ rfl HM9.out ?_; intro w1 ho1 ht1; have H10 := HE9.out _ ho1 ht1; clear ho1 ht1)
    go_ret
    exact ⟨rfl, H10⟩
  · have hq2 : (q1 != 0) = true := by simp [hq]
    have H9 := Lib.hid (own_dead H3.out HS.out true)
    go_upto_region 9 with fail
    generalize (World.setCell _ ⟨l, 2, none⟩ _) = w9 at *
    have e1 := blk_cell H9.out.log.1 1 (v := .map (some mb)) rfl
    have HM9 := Lib.hid H9.out.log.2.1
    have HE9 : Hid (∀ w1, w1.ownsMap Tryz.prog 3 secElem mb 0 (mapD []) → w9.mapTurned w1 mb → Own w0 w1 (DL d q2 l mb [] true R)) :=
      Lib.hid (fun w1 ho ht => own_turned H9.out HS.out (ch_turned HM9.out ht) trivial ho)
    go_wp2_with (refine wpList_clear_own _ rfl _ 90 rfl 3 99 Tryz.underlying90 mb _ _ rfl HM9.out ?_; intro w1 ho1 ht1; have H10 := HE9.out _ ho1 ht1; clear ho1 ht1)
    go_ret
    rw [decide_eq_false hq]
    exact ⟨rfl, H10⟩
end Go.Proofs.YtlpcccpagmipnaaGreat.P
namespace Go.Proofs.YtlpcccpagmipnaaGreat.P
open Go.RowKit
def redoL : Nat → List Int → DState → Int × DState
  | _, [], z => (0, z)
  | k, i :: l, z => bif decide (readR z (2 + (k : Int)) = 0) then thenE (stepD z (.wr (32 + i) (readB z (2 + (k : Int))))) (redoL (k + 1) l) else (readR z (2 + (k : Int)), z)
def redoF (hs : List Int) (z : DState) : Int × DState := bif decide (hs.length = 0) then (0, z) else thenE (redoL 0 hs z) (fun z => thenE (stepD z .fl) (exec (pointOps [])))
theorem own_r {w0 w : World} {d : Nat} {z : DState} {l mb : Nat} {st : List (Int × ByteArray)} {dead : Bool} {R : Asn} (h : Own w0 w (DL d z l mb st dead R)) (hs : Stable R) (i : Int) (hl : z.wait.length ≤ 4000000000000) :
    Calls Tryz.prog 65 #[.pointer (some ⟨d, 0, none⟩), .int .i64 i] w fun e w' => e = .returned (.tuple #[.string (readB z i), .int .i64 (readR z i)]) ∧ Own w0 w' (DL d z l mb st dead R) :=
  o_read h (stable_star (stable_lg _ _ _ _ _) hs) i hl
theorem redo_at {k : Nat} {i : Int} {hs : List Int} (h : hs[k]? = some i) : hs.drop k = i :: hs.drop (k + 1) := by
  obtain ⟨hk, e⟩ := List.getElem?_eq_some_iff.1 h
  rw [List.drop_eq_getElem_cons hk, e]
set_option maxHeartbeats 1600000 in
theorem o_redo {w0 w : World} {d : Nat} {z : DState} {l mb : Nat} {st : List (Int × ByteArray)} {dead : Bool} {R : Asn} (o : Option Addr) (c : Nat) (hs : List Int) (h : Own w0 w (DL d z l mb st dead (Star (rowIA o hs) R))) (hsR : Stable R) (hl : hs.length ≤ 30) (hb : ∀ i ∈ hs, 0 ≤ i ∧ i < 65536) (hw : z.wait.length ≤ 2000000000000) :
    Calls Tryz.prog 67 #[.pointer (some ⟨l, 0, none⟩), .slice o hs.length c] w (EO w0 (fun z => DL d z l mb st dead (Star (rowIA o hs) R)) (redoF hs z)) := by
  have hs2 : Stable (Star (rowIA o hs) R) := stable_star (stable_rowI _ _) hsR
  unfold redoF
  by_cases h0 : hs.length = 0
  · rw [decide_eq_true h0, cond_true, h0]
    have H := Lib.hid h
    clear h
    go_enter Tryz.func67, Tryz.ntmps67
    go_wp2
    go_ret
    exact ⟨rfl, H.out⟩
  · rw [decide_eq_false h0, cond_false]
    have CR : Hid (∀ z' i wr, z'.wait.length ≤ z.wait.length + 30 → Own w0 wr (DL d z' l mb st dead (Star (rowIA o hs) R)) → Calls Tryz.prog 65 #[.pointer (some ⟨d, 0, none⟩), .int .i64 i] wr fun e w2 => e = .returned (.tuple #[.string (readB z' i), .int .i64 (readR z' i)]) ∧ Own w0 w2 (DL d z' l mb st dead (Star (rowIA o hs) R))) :=
      Lib.hid (fun z' i wr hz ho => own_r ho hs2 i (by omega))
    have CW : Hid (∀ z' i s wr, z'.wait.length ≤ z.wait.length + 30 → Own w0 wr (DL d z' l mb st dead (Star (rowIA o hs) R)) → Calls Tryz.prog 102 #[.pointer (some ⟨d, 0, none⟩), .int .i64 i, .string s] wr fun e w2 => e = .returned (.int .i64 (stepD z' (.wr i s)).1) ∧ Own w0 w2 (DL d (stepD z' (.wr i s)).2 l mb st dead (Star (rowIA o hs) R))) :=
      Lib.hid (fun z' i s wr hz ho => own_w ho hs2 i s (by omega))
    have CF : Hid (∀ z' wr, z'.wait.length ≤ z.wait.length + 30 → Own w0 wr (DL d z' l mb st dead (Star (rowIA o hs) R)) → Calls Tryz.prog 103 #[.pointer (some ⟨d, 0, none⟩)] wr fun e w2 => e = .returned (.int .i64 (stepD z' .fl).1) ∧ Own w0 w2 (DL d (stepD z' .fl).2 l mb st dead (Star (rowIA o hs) R))) :=
      Lib.hid (fun z' wr hz ho => own_f ho hs2 (by omega))
    have CP : Hid (∀ z' wr, z'.wait.length ≤ z.wait.length + 31 → Own w0 wr (DL d z' l mb st dead (Star (rowIA o hs) R)) → Calls Tryz.prog 90 #[.pointer (some ⟨l, 0, none⟩), .slice none 0 0] wr (EO w0 (fun z => DL d z l mb st dead (Star (rowIA o hs) R)) (exec (pointOps []) z'))) :=
      Lib.hid (fun z' wr hz ho => o_point ho hs2 none 0 [] (rowI_nil _ _) (by simp) (fun i hi => by cases hi) (by omega))
    have HB := Lib.hid (fun k i (e : hs[k]? = some i) => hb i (List.mem_of_getElem? e))
    have HG : Hid (∀ k, k < hs.length → ∃ i, hs[k]? = some i) := Lib.hid (fun k h => ⟨_, List.getElem?_eq_getElem h⟩)
    have HD : Hid (hs.drop hs.length = []) := Lib.hid (List.drop_eq_nil_of_le (Nat.le_refl _))
    have H0 := Lib.hid h
    obtain ⟨q0, hq0⟩ : ∃ q, q = thenE (redoL 0 hs z) (fun z => thenE (stepD z .fl) (exec (pointOps []))) := ⟨_, rfl⟩
    rw [← hq0]
    have HQ := Lib.hid hq0
    clear h hb hq0
    generalize hn : hs.length = n at *
    clear hn
    have hn0 : ((n : Int) == 0) = false := by simp; omega
    go_enter Tryz.func67, Tryz.ntmps67
    go_wp2_with fail
    go_loopw [15] (fun v wr => ∃ (k : Nat) (z' : DState), k ≤ n ∧ v = .int .i64 k ∧ redoL 0 hs z = redoL k (hs.drop k) z' ∧ z'.wait.length ≤ z.wait.length + k ∧ Own w0 wr (DL d z' l mb st dead (Star (rowIA o hs) R))) (fun v _ => n - (intOf v).toNat)
    case atStart => exact ⟨0, z, Nat.zero_le _, rfl, rfl, by omega, H0.out⟩
    case round =>
      obtain ⟨k, z', hk, rfl, he, hzw, hh⟩ := hrel
      have HH := Lib.hid hh
      have c0 := hh.ldisk
      by_cases hlt : k < n
      · have dl : decide (k < n) = true := decide_eq_true hlt
        obtain ⟨i, hi⟩ := HG.out k hlt
        obtain ⟨b1, o1, rfl, ca1⟩ := hh.right.right.left.get.choose_spec.1 k i hi
        obtain ⟨i0, i1⟩ := HB.out k i hi
        rw [redo_at hi] at he
        have he2 : redoL 0 hs z = bif decide (readR z' (2 + (k : Int)) = 0) then thenE (stepD z' (.wr (32 + i) (readB z' (2 + (k : Int))))) (redoL (k + 1) (hs.drop (k + 1))) else (readR z' (2 + (k : Int)), z') := he
        have HE := Lib.hid he2
        have CR2 := Lib.hid (CR.out z' (2 + (k : Int)) wr (by omega) HH.out)
        have CW2 := Lib.hid (fun s w1 => CW.out z' (32 + i) s w1 (by omega))
        have HZW := step_wait z' (.wr (32 + i) (readB z' (2 + (k : Int))))
        clear hh he he2 hi
        generalize readB z' (2 + (k : Int)) = rb at *
        generalize readR z' (2 + (k : Int)) = rr at *
        by_cases hr : rr = 0
        · subst hr
          generalize hq : stepD z' (.wr (32 + i) rb) = q at *
          obtain ⟨q1, q2⟩ := q
          dsimp only at *
          have CW3 := Lib.hid (CW2.out rb)
          have HQ3 := Lib.hid hq
          clear hq
          by_cases hk0 : q1 = 0
          · subst hk0
            go_wp2_with (first
              | (go_at_call 65; refine CR2.out.mono ?_; rintro e w1 ⟨rfl, h1⟩; have H1 := Lib.hid h1; have c1 := h1.ldisk; clear h1)
              | (go_at_call 102; refine (CW3.out _ H1.out).mono ?_; rintro e w2 ⟨rfl, h2⟩; rw [HQ3.out] at h2; have H2 := Lib.hid h2; clear h2; rw [HQ3.out]))
            go_roundw
            case rel => exact ⟨k + 1, q2, by omega, by go_num, by rw [HE.out]; rfl, by omega, H2.out⟩
            case measure => simp [intOf]; omega
          · go_wp2_with (first
              | (go_at_call 65; refine CR2.out.mono ?_; rintro e w1 ⟨rfl, h1⟩; have H1 := Lib.hid h1; have c1 := h1.ldisk; clear h1)
              | (go_at_call 102; refine (CW3.out _ H1.out).mono ?_; rintro e w2 ⟨rfl, h2⟩; rw [HQ3.out] at h2; have H2 := Lib.hid h2; clear h2; rw [HQ3.out]))
            go_ret
            have e9 : q0 = (q1, q2) := by
              rw [HQ.out, HE.out]
              show thenE (thenE (q1, q2) _) _ = _
              rw [thenE_no (a := (q1, q2)) hk0, thenE_no (a := (q1, q2)) hk0]
            rw [e9]
            exact ⟨rfl, H2.out⟩
        · go_wp2_with (go_at_call 65; refine CR2.out.mono ?_; rintro e w1 ⟨rfl, h1⟩; have H1 := Lib.hid h1; have c1 := h1.ldisk; clear h1)
          go_ret
          have e9 : q0 = (rr, z') := by
            rw [HQ.out, HE.out, decide_eq_false hr, cond_false, thenE_no (a := (rr, z')) hr]
          rw [e9]
          exact ⟨rfl, H1.out⟩
      · obtain rfl : k = n := by omega
        rw [HD.out] at he
        have e9 : q0 = thenE (stepD z' .fl) (exec (pointOps [])) := by rw [HQ.out, he]; rfl
        have HE := Lib.hid e9
        have CF2 := Lib.hid (CF.out z' wr (by omega) HH.out)
        have HZW := step_wait z' .fl
        clear he e9 hh
        generalize hq : stepD z' .fl = q at *
        obtain ⟨q1, q2⟩ := q
        dsimp only at *
        have CP2 := Lib.hid (fun w1 => CP.out q2 w1 (by omega))
        by_cases hk0 : q1 = 0
        · subst hk0
          go_wp2_with (first
            | (go_at_call 103; refine CF2.out.mono ?_; rintro e w1 ⟨rfl, h1⟩; have H1 := Lib.hid h1; clear h1)
            | (go_at_call 90; refine (CP2.out _ H1.out).mono ?_; rintro e w2 ⟨rfl, h2⟩; have H2 := Lib.hid h2; clear h2))
          go_ret
          rw [HE.out]
          exact ⟨rfl, H2.out⟩
        · go_wp2_with (go_at_call 103; refine CF2.out.mono ?_; rintro e w1 ⟨rfl, h1⟩; have H1 := Lib.hid h1; clear h1)
          go_ret
          rw [HE.out, thenE_no (a := (q1, q2)) hk0]
          exact ⟨rfl, H1.out⟩
end Go.Proofs.YtlpcccpagmipnaaGreat.P
namespace Go.Proofs.YtlpcccpagmipnaaGreat.P
open Go.RowKit
theorem fold_size (q : Int) : ∀ (l : List (Int × ByteArray)) (s : ByteArray), (∀ x ∈ l, x.2.size = 64) → s.size = 64 → (l.foldl (stepR q) s).size = 64
  | [], s, _, h => h
  | x :: l, s, hl, h => by
    rw [List.foldl_cons]
    refine fold_size q l _ (fun y hy => hl y (List.mem_cons_of_mem _ hy)) ?_
    unfold stepR
    cases decide (x.1 = q) with
    | true => exact hl x (List.mem_cons_self ..)
    | false => exact h
theorem read_size {z : DState} (hz : SZ z) {i : Int} (h : readR z i = 0) : (readB z i).size = 64 := by
  unfold readR at h
  unfold readB
  cases ho : z.off with
  | true => rw [ho] at h; cases h
  | false =>
    rw [ho] at h
    cases hh : hasB z i with
    | false => rw [hh] at h; cases h
    | true =>
      show (readS z i.toNat).size = 64
      unfold readS
      refine fold_size _ _ _ hz.2 ?_
      unfold hasB at hh
      rw [Bool.and_eq_true, decide_eq_true_eq, decide_eq_true_eq] at hh
      rw [List.getElem?_eq_getElem (by omega)]
      exact hz.1 _ (List.getElem_mem _)
theorem parse_some {s : ByteArray} {most : Int} {hs : List Int} (h : parseH s most = some hs) : hs.length ≤ 30 ∧ ∀ i ∈ hs, -1 < i ∧ i < most := by
  unfold parseH at h
  by_cases h30 : 30 < byteN s 0
  · rw [if_pos h30] at h; cases h
  · rw [if_neg h30] at h
    by_cases hg : goodH most (-1) (rdHomes s (byteN s 0)) = true
    · rw [if_pos hg] at h
      by_cases e : s = headF (rdHomes s (byteN s 0))
      · rw [if_pos e] at h
        injection h with h
        rw [← h]
        exact ⟨by rw [rdHomes_len]; omega, fun i hi => good_mem hg i hi⟩
      · rw [if_neg e] at h; cases h
    · rw [if_neg hg] at h; cases h
theorem mk_map (w : World) : (Instr.makeMap 90 none).run Tryz.prog w = .ok (.map (some w.heap.size)) (w.alloc (.map #[] 0)) := run_makeMap _ _
def openQ (z : DState) : Int × DState := bif decide (readR z 1 = 0) then (match parseH (readB z 1) ((z.safe.length : Int) - 32) with | none => (6, z) | some hs => redoF hs z) else (readR z 1, z)
def OpenP (w0 : World) (d : Nat) (R : Asn) (q : Int × DState) (e : Ending) (w' : World) : Prop :=
  (q.1 = 0 → ∃ l mb, e = .returned (.tuple #[.pointer (some ⟨l, 0, none⟩), .int .i64 0]) ∧ Own w0 w' (DL d q.2 l mb [] false R)) ∧ (q.1 ≠ 0 → e = .returned (.tuple #[.pointer none, .int .i64 q.1]) ∧ Own w0 w' (Star (dsk d q.2) R))
theorem own_newlog {w0 w : World} {d : Nat} {z : DState} {R : Asn} (h : Own w0 w (Star (dsk d z) R)) (hs : Stable R) :
    Own w0 ((w.alloc (.map #[] 0)).alloc (.cells #[.pointer (some ⟨d, 0, none⟩), .map (some w.heap.size), .bool false] 92)) (DL d z (w.heap.size + 1) w.heap.size [] false R) := by
  have g1 : Gr w (w.alloc (.map #[] 0)) := (Gr.refl _).alloc (Nat.le_refl _) _
  have hsz : (w.alloc (.map #[] 0)).heap.size = w.heap.size + 1 := by simp
  have g2 : Gr w ((w.alloc (.map #[] 0)).alloc (.cells #[.pointer (some ⟨d, 0, none⟩), .map (some w.heap.size), .bool false] 92)) := g1.alloc g1.size _
  have hb := blk_new (w.alloc (.map #[] 0)) (.cells #[.pointer (some ⟨d, 0, none⟩), .map (some w.heap.size), .bool false] 92)
  rw [hsz] at hb
  have hm := (World.ownsMap_made w Tryz.prog 3 secElem).alloc (.cells #[.pointer (some ⟨d, 0, none⟩), .map (some w.heap.size), .bool false] 92)
  have h1 := h.add (stable_star (stable_dsk _ _) hs) g2 (A := lgA (w.heap.size + 1) d w.heap.size [] false) ⟨fun x => x = w.heap.size + 1 ∨ x = w.heap.size, ⟨.inl rfl, .inr rfl, by omega, trivial, hb, hm⟩, fun x hx => by
    have := blk_lt hb
    rcases hx with hx | hx <;> omega⟩
  exact h1.swap2
set_option maxHeartbeats 1600000 in
theorem o_open {w0 w : World} {d : Nat} {z : DState} {R : Asn} (h : Own w0 w (Star (dsk d z) R)) (hs : Stable R) (hz : SZ z) (hw : z.wait.length ≤ 2000000000000) :
    Calls Tryz.prog 30 #[.pointer (some ⟨d, 0, none⟩)] w (OpenP w0 d R (openQ z)) := by
  have HN := Lib.hid (own_newlog h hs)
  have hmk := mk_map w
  have hwz := own_wz h
  have hmost : (z.safe.length : Int) - 32 ≤ 512 := by have := hwz.2.1; omega
  have CR : Hid (∀ l mb wr, Own w0 wr (DL d z l mb [] false R) → Calls Tryz.prog 65 #[.pointer (some ⟨d, 0, none⟩), .int .i64 1] wr fun e w2 => e = .returned (.tuple #[.string (readB z 1), .int .i64 (readR z 1)]) ∧ Own w0 w2 (DL d z l mb [] false R)) :=
    Lib.hid (fun l mb wr ho => own_r ho hs 1 (by omega))
  clear h hwz
  unfold openQ
  by_cases hr : readR z 1 = 0
  · have hsz := read_size hz hr
    rw [decide_eq_true hr, cond_true]
    rw [hr] at CR
    cases hp : parseH (readB z 1) ((z.safe.length : Int) - 32) with
    | none =>
      have CF : Hid (∀ l mb wr, Own w0 wr (DL d z l mb [] false R) → Calls Tryz.prog 66 #[.pointer (some ⟨l, 0, none⟩), .string (readB z 1)] wr fun e w2 => (∃ o n c, e = .returned (.tuple #[.slice o n c, .bool false])) ∧ Own w0 w2 (DL d z l mb [] false R)) :=
        Lib.hid (fun l mb wr ho => (o_fromHead ho hs _ hsz).mono (by
          rintro e w2 ⟨o, n, c, rfl, g, _⟩
          rw [hp]
          exact ⟨⟨o, n, c, rfl⟩, ho.gr (stable_dl _ _ _ _ _ _ hs) g⟩))
      clear hs hz hsz hp hr
      generalize readB z 1 = s at *
      go_enter Tryz.func30, Tryz.ntmps30
      go_upto_region 4 with fail
      generalize (World.alloc (World.alloc w _) _) = w4 at *
      generalize w.heap.size = mb at *
      go_wp2_with (first
        | (go_at_call 65; refine (CR.out _ _ _ HN.out).mono ?_; rintro e w1 ⟨rfl, h1⟩; have H1 := Lib.hid h1; clear h1)
        | (go_at_call 66; refine (CF.out _ _ _ H1.out).mono ?_; rintro e w2 ⟨⟨o, n, c, rfl⟩, h2⟩; have H2 := Lib.hid h2; clear h2))
      refine bodyPost_ret (results_tmp2 rfl _ _ _) rfl ⟨fun h => absurd h (show ¬ ((6 : Int) = 0) by omega), fun _ => ⟨rfl, H2.out.drop2⟩⟩
    | some hs' =>
      obtain ⟨hl, hb⟩ := parse_some hp
      have CF : Hid (∀ l mb wr, Own w0 wr (DL d z l mb [] false R) → Calls Tryz.prog 66 #[.pointer (some ⟨l, 0, none⟩), .string (readB z 1)] wr fun e w2 => ∃ o c, e = .returned (.tuple #[.slice o hs'.length c, .bool true]) ∧ Own w0 w2 (DL d z l mb [] false (Star (rowIA o hs') R))) :=
        Lib.hid (fun l mb wr ho => (o_fromHead ho hs _ hsz).mono (by
          rintro e w2 ⟨o, n, c, rfl, g, hall⟩
          obtain ⟨rfl, hrow, hnew⟩ := hall hs' hp
          rw [hp]
          refine ⟨o, c, rfl, ?_⟩
          exact (ho.add (stable_dl _ _ _ _ _ _ hs) g (A := rowIA o hs') ⟨fun x => ∃ off, o = some ⟨x, off, none⟩, ⟨hrow, fun b off e => ⟨off, e⟩⟩, fun x hx => by
            obtain ⟨off, e⟩ := hx
            exact hnew x off e⟩).rot3'))
      have CD : Hid (∀ o c l mb wr, Own w0 wr (DL d z l mb [] false (Star (rowIA o hs') R)) → Calls Tryz.prog 67 #[.pointer (some ⟨l, 0, none⟩), .slice o hs'.length c] wr fun e w2 => e = .returned (.int .i64 (redoF hs' z).1) ∧ Own w0 w2 (DL d (redoF hs' z).2 l mb [] false R)) :=
        Lib.hid (fun o c l mb wr ho => (o_redo o c hs' ho hs hl (fun i hi => by have := hb i hi; omega) hw).mono (by
          rintro e w2 ⟨rfl, k⟩
          exact ⟨rfl, own_drop k⟩))
      clear hs hz hsz hp hr hl hb
      generalize readB z 1 = s at *
      show Calls _ _ _ _ (OpenP w0 d R (redoF hs' z))
      generalize hq : redoF hs' z = q at *
      obtain ⟨q1, q2⟩ := q
      clear hq
      generalize hs'.length = n at *
      dsimp only at CD
      by_cases k0 : q1 = 0
      · subst k0
        go_enter Tryz.func30, Tryz.ntmps30
        go_upto_region 4 with fail
        generalize (World.alloc (World.alloc w _) _) = w4 at *
        generalize w.heap.size = mb at *
        go_wp2_with (first
          | (go_at_call 65; refine (CR.out _ _ _ HN.out).mono ?_; rintro e w1 ⟨rfl, h1⟩; have H1 := Lib.hid h1; clear h1)
          | (go_at_call 66; refine (CF.out _ _ _ H1.out).mono ?_; rintro e w2 ⟨o, c, rfl, h2⟩; have H2 := Lib.hid h2; clear h2)
          | (go_at_call 67; refine (CD.out _ _ _ _ _ H2.out).mono ?_; rintro e w3 ⟨rfl, h3⟩; have H3 := Lib.hid h3; clear h3))
        refine bodyPost_ret (results_tmp2 rfl _ _ _) rfl ⟨fun _ => ⟨_, _, rfl, H3.out⟩, fun h => absurd rfl h⟩
      · go_enter Tryz.func30, Tryz.ntmps30
        go_upto_region 4 with fail
        generalize (World.alloc (World.alloc w _) _) = w4 at *
        generalize w.heap.size = mb at *
        go_wp2_with (first
          | (go_at_call 65; refine (CR.out _ _ _ HN.out).mono ?_; rintro e w1 ⟨rfl, h1⟩; have H1 := Lib.hid h1; clear h1)
          | (go_at_call 66; refine (CF.out _ _ _ H1.out).mono ?_; rintro e w2 ⟨o, c, rfl, h2⟩; have H2 := Lib.hid h2; clear h2)
          | (go_at_call 67; refine (CD.out _ _ _ _ _ H2.out).mono ?_; rintro e w3 ⟨rfl, h3⟩; have H3 := Lib.hid h3; clear h3))
        refine bodyPost_ret (results_tmp2 rfl _ _ _) rfl ⟨fun h => absurd h k0, fun _ => ⟨rfl, H3.out.drop2⟩⟩
  · rw [decide_eq_false hr, cond_false]
    clear hs hz
    generalize readR z 1 = rr at *
    generalize readB z 1 = s at *
    go_enter Tryz.func30, Tryz.ntmps30
    go_upto_region 4 with fail
    generalize (World.alloc (World.alloc w _) _) = w4 at *
    generalize w.heap.size = mb at *
    go_wp2_with (go_at_call 65; refine (CR.out _ _ _ HN.out).mono ?_; rintro e w1 ⟨rfl, h1⟩; have H1 := Lib.hid h1; clear h1)
    refine bodyPost_ret (results_tmp2 rfl _ _ _) rfl ⟨fun h => absurd h hr, fun _ => ⟨rfl, H1.out.drop2⟩⟩
end Go.Proofs.YtlpcccpagmipnaaGreat.P
