/- Stage 8: maps.DeleteFunc over a draft's rows. No condition. -/
import Derived.Test.YtlpcccpagmipnaaGreatVL
import Derived.WalkKit
import Derived.Maps.Ext
import Derived.Maps.RangeWalk
import Derived.Laws.IdiomRangeMap
import Derived.Deep.LoopGhost
set_option linter.unusedVariables false
set_option linter.unusedSimpArgs false
set_option maxRecDepth 100000
namespace Go.Proofs.YtlpcccpagmipnaaGreat.P
open Go.RowKit Go.ChangeMaps Go.MapKept Go.Maps
theorem blk_inv8 {c : ByteArray} {y : DataW Nat × List MemPlace} (h : blkElem (.agg (bcL c.data.toList)) = some y) : c.size = 64 ∧ y.1 = E1 c := by
  obtain ⟨s, h64, he, hy⟩ := blkElem_inv h
  injection he with he
  have h1 := bcL_inj he
  have : c = s := by
    cases c; cases s
    exact congrArg ByteArray.mk (Array.toList_inj.1 h1)
  rw [this]
  exact ⟨h64, by rw [hy]⟩
theorem inv_key8 (key : Value) (kl : Lit) (h : keyOf Tryz.prog 3 key = some kl) : ∃ x : Int, key = Value.int .i64 x := by
  obtain ⟨x, e, _, _⟩ := Maps.keyOf_int_inv Tryz.underlying3 h
  exact ⟨x, e⟩
theorem inv_val8 (v : Value) (y : DataW Nat × List MemPlace) (h : blkElem v = some y) : ∃ s : ByteArray, v = .agg (bcL s.data.toList) := by
  obtain ⟨s, _, e, _⟩ := blkElem_inv h
  exact ⟨s, e⟩
section
variable {w0 w : World} {D l d ml mb n P : Nat} {st rows : List (Int × ByteArray)} {z : DState} {R : Asn}
set_option maxHeartbeats 6400000 in
theorem o_strike (h : Own w0 w (Star (bmA mb rows) (VN d z l ml st D (Star (ptA P D) R)))) (hs : Stable R) (hz : LI z n) (hst : okSt (n + 32) st) (hk : ∀ x ∈ rows, 0 ≤ x.1 ∧ x.1 < (n : Int)) :
    Calls Tryz.prog 110 #[.map (some mb), .func (.func 111) #[] #[.pointer (some ⟨P, 0, none⟩)]] w fun e w' => e = .returned (.tuple #[]) ∧ Own w0 w' (Star (bmA mb (strikeS z st rows)) (VN d z l ml st D (Star (ptA P D) R))) := by
  have hsP : Stable (Star (ptA P D) R) := stable_star (stable_blk _ _) hs
  have hsV : Stable (VN d z l ml st D (Star (ptA P D) R)) := stable_vn hsP
  obtain ⟨hF1, hri, h64, hown⟩ := h.left.get.choose_spec
  have HEND : Hid (∀ wx it cnt left, Own w0 wx (Star (rgA mb it rows.length (mapD (strikeS z st rows)) left cnt) (VN d z l ml st D (Star (ptA P D) R))) → Own w0 wx (Star (bmA mb (strikeS z st rows)) (VN d z l ml st D (Star (ptA P D) R)))) := Lib.hid (fun wx it cnt left ho => own_end ho (rising_filter _ _ hri) (fun x hx => h64 x (List.mem_filter.1 hx).1))
  obtain ⟨es0, hes, hap, hkeys⟩ := hown.entries key_int
  have HKEY : Hid (∀ i : Int, Maps.has (mapD rows) (.int .i64 i) = true → 0 ≤ i ∧ i < (n : Int)) := Lib.hid (fun i hi => by
    rw [mapD_has] at hi
    obtain ⟨s, hs⟩ := Option.isSome_iff_exists.1 hi
    exact hk _ (look_mem hs))
  have HST : Hid (Fk (pdS z st) es0 (Maps.has (mapD rows)) = mapD rows) := Lib.hid (by rw [hes]; exact Fk_start hkeys)
  have HFE : Hid (∀ left, (∀ kl, left kl = false) → Fk (pdS z st) es0 left = mapD (strikeS z st rows)) := Lib.hid (fun left hl => by rw [Fk_end hl, ← hes, strike_map])
  have HOWN := Lib.hid hown
  have H0 := Lib.hid h
  have HV := Lib.hid hsV
  have HFS : Hid (∀ left kl d, WideAt.IsKeyLit kl → left kl = true → pdS z st kl d = true → (∀ zd, (Fk (pdS z st) es0 left).atKey kl zd = d) → (Fk (pdS z st) es0 left).del kl = Fk (pdS z st) es0 (fun z => left z && !z.sameKey kl)) := Lib.hid (fun left kl d h1 h2 h3 h4 => Fk_struck hap h1 h2 h3 h4)
  have HFK : Hid (∀ left kl d, WideAt.IsKeyLit kl → left kl = true → pdS z st kl d = false → (∀ zd, (Fk (pdS z st) es0 left).atKey kl zd = d) → Fk (pdS z st) es0 left = Fk (pdS z st) es0 (fun z => left z && !z.sameKey kl)) := Lib.hid (fun left kl d h1 h2 h3 h4 => Fk_stays hap h1 h2 h3 h4)
  have CSM : Hid (∀ wx (i : Int) (s : ByteArray) (Y : Asn), Stable Y → 0 ≤ i → i < (n : Int) → s.size = 64 → Own w0 wx (VN d z l ml st D (Star (ptA P D) Y)) → Calls Tryz.prog 111 #[.int .i64 i, .agg (bcL s.data.toList), .pointer (some ⟨P, 0, none⟩)] wx fun e w' => e = .returned (.bool (eqRow (getB false z st i) s)) ∧ Own w0 w' (VN d z l ml st D (Star (ptA P D) Y))) := Lib.hid (fun wx i s Y hY h0 hn hs64 ho => by
    obtain ⟨k, rfl⟩ := Int.eq_ofNat_of_zero_le h0
    exact c_same8 ho hY hz hst k (by omega) s hs64)
  have HSR := Lib.hid hs
  clear h hs hz hst hk hsP hsV hF1 hri h64 hown hes hap hkeys
  go_enter Tryz.func110, Tryz.ntmps110
  go_wp2_with (first
    | (at_range; refine wpList_range_own _ rfl _ 116 rfl 3 83 key_int Tryz.underlying116 blkElem mb _ (mapD rows) rfl HOWN.out ?_; intro w1 hrg1 hg1 hs1))
  go_frame
  have H1 := Lib.hid (own_range H0.out HV.out hrg1 hg1 hs1)
  clear H0 HOWN hg1 hs1
  rw [← HST.out] at hrg1
  generalize w.heap.size = it at *
  have HS0 : Hid (∀ left cnt Dd, Stable (Star (rgA mb it rows.length Dd left cnt) R)) := Lib.hid (fun left cnt Dd => stable_star (stable_rg _ _ _ _ _ _) HSR.out)
  have HS1 : Hid (∀ left cnt Dd, Stable (Star (rgA mb it rows.length Dd left cnt) (VN d z l ml st D (Star (ptA P D) R)))) := Lib.hid (fun left cnt Dd => stable_star (stable_rg _ _ _ _ _ _) HV.out)
  rw [← HST.out] at H1
  go_loopw [8] (fun _ wr => ∃ (left : Lit → Bool) (cnt : Nat), (∀ kl, left kl = true → Maps.has (mapD rows) kl = true) ∧ Own w0 wr (Star (rgA mb it rows.length (Fk (pdS z st) es0 left) left cnt) (VN d z l ml st D (Star (ptA P D) R)))) (fun _ wr => wr.rangeLeft mb it)
  case atStart => exact ⟨_, _, fun kl h => h, by rw [HST.out] at H1 ⊢; exact H1.out⟩
  case round =>
    obtain ⟨left, cnt, hsub, ho⟩ := hrel
    have HO := Lib.hid ho
    have hrg := rg_is ho
    clear ho H1 hrg1
    go_wp2_with (first
      | (at_next; refine wpList_next_ranges _ rfl _ rfl 3 key_int blkElem (Value.int .i64) (fun s : ByteArray => .agg (bcL s.data.toList)) inv_key8 inv_val8 mb it _ _ _ _ rfl hrg ?_ ?_))
    · intro _ hl0
      go_wp2_with fail
      refine bodyPost_end (results_none rfl _ _ _) rfl ?_
      refine ⟨rfl, HEND.out _ it cnt left ?_⟩
      have h2 := HO.out
      rw [HFE.out left hl0] at h2
      exact h2
    · intro x c kl y yp w2 cnt1 hkey hlx hv hat hrg2 hlt hg2 hs2 hen
      obtain ⟨hc64, hy⟩ := blk_inv8 hv
      dsimp only at hy
      rw [hy] at hat
      have hkl : kl = .int .i64 x := by
        obtain ⟨x', ex, e2, _⟩ := Maps.keyOf_int_inv Tryz.underlying3 hkey
        injection ex with _ ex
        rw [e2, ex]
      rw [hkl] at hkey hlx hat hrg2
      clear hkl hv hy y yp
      obtain ⟨hx0, hxn⟩ := HKEY.out x (hsub _ hlx)
      have hsub1 : ∀ kl, (left kl && !kl.sameKey (.int .i64 x)) = true → Maps.has (mapD rows) kl = true := fun kl hkl => hsub kl (Bool.and_eq_true_iff.1 hkl).1
      have hle0 := hrg.left_eq
      have H2 := Lib.hid (own_rg HO.out HV.out hrg2 hg2 (.inr rfl))
      have HB := Lib.hid (H2.out.alloc (HS1.out _ _ _) (.cells (bcL zL) 83))
      have hl : c.data.toList.length = 64 := by rw [← hc64]; exact (Go.Lib.size_eq c).symm
      have HC1 := Lib.hid (bc_info _ hl)
      have HC2 := Lib.hid (bcL_all1 c.data.toList)
      have HC3 : Hid ((bcL zL).size = (bcL c.data.toList).size) := Lib.hid (by rw [bcL_size, bcL_size, hl]; rfl)
      have H4 := Lib.hid (HB.out.setRow (HS1.out _ _ _) (bcL c.data.toList))
      have CS := Lib.hid (CSM.out _ x c _ (HS0.out _ _ _) hx0 hxn hc64 H4.out.right.in4.swapR)
      have HSUB := Lib.hid hsub1
      have HAT := Lib.hid hat
      have HKX := Lib.hid hkey
      have HMS := Lib.hid hle0
      have hik : WideAt.IsKeyLit (.int .i64 x) := key_int.key hkey
      have HIK := Lib.hid hik
      clear hsub hsub1 hat hkey hle0 hik HO hl hrg hrg2 hg2 hs2 CSM HKEY
      have HZ : Hid (∀ w, (zeroValue 83).run Tryz.prog w = .ok (.agg (bcL zL)) w) := Lib.hid blk_zero
      generalize bcL c.data.toList = C at *
      generalize bcL zL = Z0 at *
      go_upto_region 3 with (first
        | (refine wpList_alloc_blk rfl 83 Z0 rfl (HZ.out _) ?_)
        | (refine wpList_store_row rfl _ _ _ rfl w2.heap.size C rfl rfl _ _ HB.out.blk HC1.out HC3.out HC2.out ?_))
      clear hen HB
      generalize (World.setRow _ _ _) = w4 at *
      generalize w2.heap.size = g at *
      go_frame
      have HPD : Hid (pdS z st (.int .i64 x) (E1 c) = eqRow (getB false z st x) c) := Lib.hid rfl
      have HNX : Hid (∀ wx, Own w0 wx (VN d z l ml st D (Star (ptA P D) (Star (rgA mb it rows.length (Fk (pdS z st) es0 left) (fun z => left z && !z.sameKey (.int .i64 x)) cnt1) R))) → Own w0 wx (Star (rgA mb it rows.length (Fk (pdS z st) es0 left) (fun z => left z && !z.sameKey (.int .i64 x)) cnt1) (VN d z l ml st D (Star (ptA P D) R)))) := Lib.hid (fun wx hw => hw.swapR.out4)
      cases hp : eqRow (getB false z st x) c with
      | false =>
        rw [hp] at CS HPD
        clear hp
        go_wp2_with (first
          | (refine wpList_load_row rfl _ _ rfl g rfl _ C (0, 0) _ H4.out.blk Tryz.underlying83 rfl HC1.out ?_)
          | (go_at_call 111; refine CS.out.mono ?_; rintro e w5 ⟨rfl, h5⟩; have H5 := Lib.hid (HNX.out _ h5); clear h5))
        have hL5 := (rg_is H5.out).left_eq
        go_roundw
        case rel => exact ⟨_, cnt1, HSUB.out, by rw [← HFK.out left _ _ HIK.out hlx HPD.out HAT.out]; exact H5.out⟩
        case measure => rw [hL5, HMS.out]; exact hlt
      | true =>
        rw [hp] at CS HPD
        clear hp
        go_wp2_with (first
          | (refine wpList_load_row rfl _ _ rfl g rfl _ C (0, 0) _ H4.out.blk Tryz.underlying83 rfl HC1.out ?_)
          | (go_at_call 111; refine CS.out.mono ?_; rintro e w5 ⟨rfl, h5⟩; have H5 := Lib.hid (HNX.out _ h5); have hrg5 := rg_is H5.out; clear h5)
          | (at_delete; refine wpList_delete_ranges _ rfl _ _ 116 3 rfl 83 key_int Tryz.underlying116 blkElem mb it _ _ _ _ rfl hrg5 _ _ rfl HKX.out ?_; intro w6 cnt3 hrg6 hle6 hturn; go_frame))
        rw [strike_twice] at hrg6
        have H6 := own_rg H5.out HV.out hrg6 hturn.grown (.inl rfl)
        have hL6 := hrg6.left_eq
        go_roundw
        case rel => exact ⟨_, cnt3, HSUB.out, by rw [← HFS.out left _ _ HIK.out hlx HPD.out HAT.out]; exact H6⟩
        case measure => rw [hL6, HMS.out]; omega
end
end Go.Proofs.YtlpcccpagmipnaaGreat.P
namespace Go.Proofs.YtlpcccpagmipnaaGreat.P
open Go.RowKit Go.ChangeMaps Go.MapKept
/-- Rows staged one after the other: the first error, and what is staged then. -/
def stgF (len : Nat) : List (Int × ByteArray) → List (Int × ByteArray) → Int × List (Int × ByteArray)
  | [], st => (0, st)
  | x :: l, st => bif decide (setR false len st x.1 x.2 = 0) then stgF len l (putS x.1 x.2 st) else (setR false len st x.1 x.2, st)
theorem stgF_ok {len : Nat} {x : Int × ByteArray} {l st : List (Int × ByteArray)} (h : setR false len st x.1 x.2 = 0) : stgF len (x :: l) st = stgF len l (putS x.1 x.2 st) := by
  show (bif decide _ then _ else _) = _
  rw [decide_eq_true h]; rfl
theorem stgF_no {len : Nat} {x : Int × ByteArray} {l st : List (Int × ByteArray)} (h : ¬ setR false len st x.1 x.2 = 0) : stgF len (x :: l) st = (setR false len st x.1 x.2, st) := by
  show (bif decide _ then _ else _) = _
  rw [decide_eq_false h]; rfl
theorem putS_len (i : Int) (s : ByteArray) : ∀ st, (putS i s st).length ≤ st.length + 1
  | [] => by simp [putS]
  | x :: l => by
    unfold putS
    split
    · have := putS_len i s l
      simp only [List.length_cons]; omega
    · split <;> simp only [List.length_cons] <;> omega
section
variable {w0 w : World} {D l d ml mb n P : Nat} {st rows : List (Int × ByteArray)} {z : DState} {R X A B : Asn}
theorem star_emp {w : World} {F : Nat → Prop} (h : X w F) : Star emp X w F := ⟨fun _ => False, F, trivial, h, fun x hx => hx.elim, fun x hx => hx.elim, fun x hx => hx⟩
theorem own_takeRows (h : Own w0 w (VX d z l ml st D mb rows X)) (hs : Stable X) : w.cell? ⟨D, 1, none⟩ = some (.map (some mb)) ∧ w.frozen? ⟨D, 1, none⟩ = false ∧ Own w0 (w.setCell ⟨D, 1, none⟩ (.map none)) (Star (bmA mb rows) (VN d z l ml st D X)) := by
  have h1 : Own w0 w (Star (drB D l (.map (some mb))) (Star (dsk d z) (Star (lgA l d ml st false) (Star (bmA mb rows) X)))) := h.rot3
  refine ⟨blk_cell h1.blk 1 rfl, blk_frozen h1.blk 1, ?_⟩
  have h2 := h1.put8 (cs' := #[.pointer (some ⟨l, 0, none⟩), .map none, .int .i64 0]) (stable_star (stable_dsk _ _) (stable_star (stable_lg _ _ _ _ _) (stable_star (stable_bm _ _) hs))) 1 (.map none) rfl
  have h3 := h2.rot3'
  have h4 := h3.mono fun F hF => star_mono_r (fun F h => star_mono_r (fun F h => star_swap2 h) h) hF
  have h5 := h4.rot3
  exact h5.mono fun F hF => star_mono_r (fun F h => star_mono_r (fun F h => star_mono_r (fun F h => star_mono_r (fun F h => star_emp h) h) h) h) hF
theorem own_in2 (h : Own w0 w (Star A (Star B (DL d z l ml st false X)))) : Own w0 w (DL d z l ml st false (Star A (Star B X))) := by
  have h1 := h.mono fun F hF => star_mono_r (fun F h => star_rot3' h) hF
  exact h1.rot3'
theorem o_keysB (h : Own w0 w (Star (bmA mb rows) X)) (hs : Stable X) (hl : rows.length ≤ 1000) :
    Calls Tryz.prog 47 #[.func (.func 132) #[] #[.pointer (some ⟨w.heap.size, 0, none⟩)]] (w.alloc (.cells #[.map (some mb)] 116)) fun e w' => ∃ o c, e = .returned (.slice o rows.length c) ∧ Own w0 w' (Star (rowIA o (rows.map (·.1))) (Star (bmA mb rows) X)) := by
  have hst : Stable (Star (bmA mb rows) X) := stable_star (stable_bm _ _) hs
  obtain ⟨_, hri, h64, hm⟩ := h.left.get.choose_spec
  refine (c_sortedB w mb _ (mapD rows) hm (by rw [mapD_size]; exact hl)).mono ?_
  rintro e w' ⟨v, ss, rfl, hp, hrow, _, hbl⟩
  rw [mapD_keys] at hp
  rw [sort_rising rows hri ss hp] at hrow
  have hlen : ss.length = rows.length := by rw [hp.length_eq, List.length_map]
  rw [hlen] at hrow
  obtain ⟨o, c, rfl⟩ := row_form hrow
  refine ⟨o, c, rfl, ?_⟩
  have h1 := h.gr hst ((Gr.refl _).alloc (Nat.le_refl _) (.cells #[.map (some mb)] 116))
  have hl2 : (rows.map (·.1)).length = rows.length := List.length_map _
  exact h1.add hst hbl (A := rowIA o (rows.map (·.1))) ⟨fun x => ∃ off, o = some ⟨x, off, none⟩, ⟨rowI_own (c := c) (by rw [hl2]; exact hrow), fun b off e => ⟨off, e⟩⟩, fun x hx => by
    obtain ⟨off, e⟩ := hx
    exact row_from hrow x off e⟩
end
end Go.Proofs.YtlpcccpagmipnaaGreat.P
namespace Go.Proofs.YtlpcccpagmipnaaGreat.P
open Go.RowKit Go.ChangeMaps Go.MapKept
theorem drop_at {T : Type} {k : Nat} {x : T} {l : List T} (h : l[k]? = some x) : l.drop k = x :: l.drop (k + 1) := by
  obtain ⟨hk, e⟩ := List.getElem?_eq_some_iff.1 h
  rw [List.drop_eq_getElem_cons hk, e]
section
variable {w0 w : World} {D l d ml mb n : Nat} {st rows : List (Int × ByteArray)} {z : DState} {R : Asn}
set_option maxHeartbeats 6400000 in
theorem c_stage (h : Own w0 w (VX d z l ml st D mb rows R)) (hs : Stable R) (hz : LI z n) (hst : okSt (n + 32) st) (hk : ∀ x ∈ rows, 0 ≤ x.1 ∧ x.1 < (n : Int)) (hn : rows.length ≤ 100) :
    Calls Tryz.prog 77 #[.pointer (some ⟨D, 0, none⟩)] w fun e w' => e = .returned (.int .i64 (stgF z.safe.length (strikeS z st rows) st).1) ∧ Own w0 w' (DL d z l ml (stgF z.safe.length (strikeS z st rows) st).2 false R) := by
  have hhi := hz.hi
  have hs30 := hst.2.1
  have HP0 : Hid (Own w0 (w.alloc (.cells #[.pointer (some ⟨D, 0, none⟩)] 114)) (VX d z l ml st D mb rows (Star (ptA w.heap.size D) R))) := Lib.hid (h.box4 (stable_vx hs) _)
  have hsP : Stable (Star (ptA w.heap.size D) R) := stable_star (stable_blk _ _) hs
  have cP := blk_cell HP0.out.out4.blk 0 (v := .pointer (some ⟨D, 0, none⟩)) rfl
  obtain ⟨c1, z1, h2⟩ := own_takeRows HP0.out hsP
  have H2 := Lib.hid h2
  have CS := Lib.hid (o_strike h2 hs hz hst hk)
  have HKX : Hid (∀ x ∈ strikeS z st rows, 0 ≤ x.1 ∧ x.1 < (n : Int)) := Lib.hid (fun x hx => hk x (List.mem_filter.1 hx).1)
  have hlen : (strikeS z st rows).length ≤ 100 := Nat.le_trans (List.length_filter_le _ _) hn
  have HS := Lib.hid hs
  have HPF : Hid (∀ wx P rows', Own w0 wx (Star (bmA mb rows') (VN d z l ml st D (Star (ptA P D) R))) → wx.cell? ⟨P, 0, none⟩ = some (.pointer (some ⟨D, 0, none⟩)) ∧ wx.cell? ⟨D, 2, none⟩ = some (.int .i64 0)) := Lib.hid (fun wx P rows' hw => ⟨blk_cell hw.right.out4.blk 0 rfl, blk_cell (vn_map hw.right) 2 rfl⟩)
  clear h hs hz hst hk hn hsP h2
  generalize strikeS z st rows = RR at *
  go_enter Tryz.func77, Tryz.ntmps77
  go_upto_region 1 with fail
  generalize w.alloc _ = wa at *
  generalize w.heap.size = P at *
  go_upto_region 3 with fail
  generalize (World.setCell _ _ _) = w2 at *
  clear cP c1 z1 H2 HP0
  go_upto_region 4 with (go_at_call 110; refine CS.out.mono ?_; rintro e w3 ⟨rfl, h3⟩; have H3 := Lib.hid h3; clear h3)
  clear CS
  obtain ⟨cP, cE⟩ := HPF.out _ _ _ H3.out
  have CK := Lib.hid (c_keysB (some mb) w3)
  have CSO := Lib.hid (o_keysB H3.out (stable_vn (stable_star (stable_blk P _) HS.out)) (by omega))
  go_wp2_with (first
    | (go_at_call 112; refine CK.out.mono ?_; rintro e w4 ⟨rfl, rfl⟩)
    | (go_at_call 47; refine CSO.out.mono ?_; rintro e w5 ⟨o, c, rfl, h5⟩; have H5 := Lib.hid h5; clear h5))
  have H6 := Lib.hid (own_in2 H5.out)
  have HYS : Hid (Stable (Star (rowIA o (RR.map (·.1))) (Star (bmA mb RR) (Star (drB D l (.map none)) (Star emp (Star (ptA P D) R)))))) := Lib.hid (stable_star (stable_rowI _ _) (stable_star (stable_bm _ _) (stable_star (stable_blk _ _) (stable_star stable_emp (stable_star (stable_blk _ _) HS.out)))))
  have HYF : Hid (∀ wx, Own w0 wx (Star (rowIA o (RR.map (·.1))) (Star (bmA mb RR) (Star (drB D l (.map none)) (Star emp (Star (ptA P D) R))))) → RowI wx o (RR.map (·.1)) ∧ (Rising RR ∧ (∀ x ∈ RR, x.2.size = 64) ∧ wx.ownsMap Tryz.prog 3 blkElem mb RR.length (mapD RR)) ∧ wx.cell? ⟨P, 0, none⟩ = some (.pointer (some ⟨D, 0, none⟩)) ∧ wx.cell? ⟨D, 0, none⟩ = some (.pointer (some ⟨l, 0, none⟩))) := Lib.hid (fun wx hw => ⟨hw.left.get.choose_spec.1, hw.right.left.get.choose_spec.2, blk_cell hw.right.right.right.right.blk 0 rfl, blk_cell hw.right.right.blk 0 rfl⟩)
  have HYR : Hid (∀ wx zz ss, Own w0 wx (DL d zz l ml ss false (Star (rowIA o (RR.map (·.1))) (Star (bmA mb RR) (Star (drB D l (.map none)) (Star emp (Star (ptA P D) R)))))) → Own w0 wx (DL d zz l ml ss false R)) := Lib.hid (fun wx zz ss hw => own_drop (own_drop (own_drop (own_drop (own_drop hw)))))
  clear H3 H5 cP cE CK CSO HPF HS
  generalize (Star (rowIA o (RR.map (·.1))) (Star (bmA mb RR) (Star (drB D l (.map none)) (Star emp (Star (ptA P D) R))))) = YY at *
  obtain ⟨N, hN⟩ : ∃ N, N = RR.length := ⟨_, rfl⟩
  have HN := Lib.hid hN
  rw [← hN] at hlen ⊢
  clear hN
  go_loopw [31] (fun v wr => ∃ (k : Nat) (st' : List (Int × ByteArray)), k ≤ N ∧ v = .int .i64 (k : Int) ∧ stgF z.safe.length RR st = stgF z.safe.length (RR.drop k) st' ∧ st'.length ≤ 30 + k ∧ Own w0 wr (DL d z l ml st' false YY)) (fun v _ => N - (intOf v).toNat)
  case atStart => exact ⟨0, st, by omega, rfl, rfl, by omega, H6.out⟩
  case round =>
    obtain ⟨k, st', hk, rfl, he, hl', ho⟩ := hrel
    have HO := Lib.hid ho
    have HE := Lib.hid he
    clear ho he H6
    by_cases hlt : k < N
    · have dl : decide (k < N) = true := decide_eq_true hlt
      have hx : RR[k]? = some (RR[k]'(by rw [← HN.out]; exact hlt)) := List.getElem?_eq_getElem _
      generalize RR[k]'_ = x at *
      obtain ⟨hro, ⟨hri, h64, hmp⟩, _, _⟩ := HYF.out _ HO.out.right.right
      obtain ⟨b1, o1, rfl, ca1⟩ := hro k x.1 (by rw [List.getElem?_map, hx]; rfl)
      have hmem := List.mem_of_getElem? hx
      obtain ⟨x0, x1⟩ := HKX.out x hmem
      have hlk := blk_look1 hmp (i := x.1) (wf_small x0 (by omega))
      rw [look_of_mem hri hmem] at hlk
      have hc64 := h64 x hmem
      have HD := Lib.hid (drop_at hx)
      have HLK := Lib.hid hlk
      have HO2 := HO.out
      obtain ⟨xi, xs⟩ := x
      dsimp only at *
      change RowKit.Hid ((Instr.lookup _ _ _ _).run _ _ = .ok (.agg (bcL xs.data.toList)) _) at HLK
      have hsY : Stable (DL d z l ml st' false YY) := stable_dl _ _ _ _ _ _ HYS.out
      have HB := Lib.hid (HO.out.alloc hsY (.cells (bcL zL) 83))
      have hl : xs.data.toList.length = 64 := by rw [← hc64]; exact (Go.Lib.size_eq xs).symm
      have HC1 := Lib.hid (bc_info _ hl)
      have HC2 := Lib.hid (bcL_all1 xs.data.toList)
      have HC3 : Hid ((bcL zL).size = (bcL xs.data.toList).size) := Lib.hid (by rw [bcL_size, bcL_size, hl]; rfl)
      have h4 := (HB.out.setRow hsY (bcL xs.data.toList)).drew (stable_star (stable_blk _ _) hsY)
      have H4 := Lib.hid h4
      have hcv : ∀ wx g, wx.heap[g]? = some (.cells (bcL xs.data.toList) 83) → (convert 87 9 (.slice (some ⟨g, 0, none⟩) 64 64)).run Tryz.prog wx = .ok (.string xs) wx := fun wx g hg => by
        have := Go.Lib.run_convert_whole (P := Tryz.prog) wx 87 5 9 Tryz.underlying87 Tryz.underlying5 Tryz.underlying9 g 0 xs (fun i hi => by
          have := blk_cell hg i (bcL_cell (L := xs.data.toList) (k := i) (by rw [hl]; omega))
          simp only [byL, List.getD_eq_getElem?_getD, Array.getElem?_toList] at this
          rw [Array.getElem?_eq_getElem (show i < xs.data.size from hi)] at this
          have t2 : wx.cell? ⟨g, i, none⟩ = some (.int .u8 ((xs.data[i]'hi).toNat : Int)) := by simpa using this
          first | exact t2 | (rw [Nat.zero_add]; exact t2)) 64
        rw [hc64] at this
        exact this
      have HCV := Lib.hid (hcv _ _ h4.blk)
      obtain ⟨_, _, cPx, cDx⟩ := HYF.out _ h4.right.right.right
      have CPX := Lib.hid cPx
      have CDX := Lib.hid cDx
      have CST := Lib.hid (o_set (h4.rot3') (stable_star (stable_blk _ _) HYS.out) xi xs (by omega))
      clear h4 hl hsY hlk hmp hri hro h64 hx hcv cPx cDx HO2 hmem
      have HZ : Hid (∀ w, (zeroValue 83).run Tryz.prog w = .ok (.agg (bcL zL)) w) := Lib.hid blk_zero
      generalize bcL xs.data.toList = C at *
      generalize bcL zL = Z0 at *
      go_upto_region 10 with (first
        | (refine wpList_lookup_run rfl _ _ _ _ rfl _ _ _ rfl rfl HLK.out ?_)
        | (refine wpList_alloc_blk rfl 83 Z0 rfl (HZ.out _) ?_)
        | (refine wpList_store_row rfl _ _ _ rfl wr.heap.size C rfl rfl _ _ HB.out.blk HC1.out HC3.out HC2.out ?_))
      clear HB HC1 HC2 HC3 HLK ca1
      have HCV2 := HCV.out
      have cpx := CPX.out
      have cdx := CDX.out
      generalize (World.setRow _ _ _) = w4 at *
      generalize wr.heap.size = g at *
      go_frame
      have kk : ((64 : Nat) : Int) = 64 := rfl
      go_still_tail 7, (by kernel_rfl)
      clear HCV2 cpx cdx CPX CDX HCV
      have HW : Hid (∀ wx ss, Own w0 wx (DL d z l ml ss false (Star (blkA g (.cells C 83)) YY)) → Own w0 wx (DL d z l ml ss false YY)) := Lib.hid (fun wx ss hw => own_drop hw)
      have HSO : Hid (∀ r, ¬ r = 0 → setSt r st' xi xs = st') := Lib.hid (fun r hr => by unfold setSt; rw [decide_eq_false hr]; rfl)
      have HSK : Hid (setSt 0 st' xi xs = putS xi xs st') := Lib.hid rfl
      have HL2 := Lib.hid (putS_len xi xs st')
      have HK0 : Hid (setR false z.safe.length st' xi xs = 0 → stgF z.safe.length RR st = stgF z.safe.length (RR.drop (k + 1)) (putS xi xs st')) := Lib.hid (fun h0 => by rw [HE.out, HD.out]; exact stgF_ok h0)
      have HK1 : Hid (¬ setR false z.safe.length st' xi xs = 0 → stgF z.safe.length RR st = (setR false z.safe.length st' xi xs, st')) := Lib.hid (fun h0 => by rw [HE.out, HD.out]; exact stgF_no h0)
      clear HE HD H4
      generalize setR false z.safe.length st' xi xs = q at *
      by_cases hq : q = 0
      · rw [hq, HSK.out] at CST
        have HK2 := Lib.hid (HK0.out hq)
        clear HK0 HK1 hq
        go_wp2_with (go_at_call 45; refine CST.out.mono ?_; rintro e w6 ⟨rfl, h6⟩; have H6 := Lib.hid (HW.out _ _ h6); clear h6)
        go_roundw
        case rel => exact ⟨k + 1, putS xi xs st', by omega, by go_num, HK2.out, by have := HL2.out; omega, H6.out⟩
        case measure => simp [intOf]; omega
      · have hq2 : (q != 0) = true := by simp [hq]
        rw [HSO.out q hq] at CST
        have HK2 := Lib.hid (HK1.out hq)
        clear HK0 HK1
        go_wp2_with (go_at_call 45; refine CST.out.mono ?_; rintro e w6 ⟨rfl, h6⟩; have H6 := Lib.hid (HYR.out _ _ _ (HW.out _ _ h6)); clear h6)
        go_ret
        refine ⟨?_, ?_⟩
        · rw [HK2.out]; rfl
        · rw [HK2.out]; exact H6.out
    · obtain ⟨hkm⟩ : Nonempty (k = N) := ⟨by omega⟩
      have HK2 : Hid (stgF z.safe.length RR st = (0, st')) := Lib.hid (by rw [HE.out, hkm, List.drop_of_length_le (by rw [HN.out]; exact Nat.le_refl _)]; rfl)
      have H6 := Lib.hid (HYR.out _ _ _ HO.out)
      have dl : decide (k < N) = false := decide_eq_false hlt
      have dl2 : ¬ (k : Int) < (N : Int) := by omega
      clear HE HO
      go_wp2_with fail
      go_ret
      refine ⟨?_, ?_⟩
      · rw [HK2.out]; rfl
      · rw [HK2.out]; exact H6.out
end
end Go.Proofs.YtlpcccpagmipnaaGreat.P
namespace Go.Proofs.YtlpcccpagmipnaaGreat.P
open Go.RowKit Go.ChangeMaps Go.MapKept
abbrev volA (V l : Nat) : Asn := blkA V (.cells #[.pointer (some ⟨l, 0, none⟩)] 89)
abbrev VL (d : Nat) (z : DState) (l ml : Nat) (st : List (Int × ByteArray)) (V : Nat) (R : Asn) : Asn := DL d z l ml st false (Star (volA V l) R)
theorem set_minus (len : Nat) (st : List (Int × ByteArray)) (s : ByteArray) : setR false len st (-1) s = 1 ∧ setSt (setR false len st (-1) s) st (-1) s = st := by
  have h : setR false len st (-1) s = 1 := by
    have : refF false len (-1) = 1 := by
      unfold refF
      rw [cond_false]
      rfl
    unfold setR
    rw [this]; rfl
  exact ⟨h, by rw [h]; rfl⟩
section
variable {w0 w : World} {d : Nat} {z : DState} {l ml V : Nat} {st : List (Int × ByteArray)} {n : Nat} {R : Asn}
theorem c_lusable (h : Own w0 w (DL d z l ml st false R)) (hs : Stable R) (hl : st.length ≤ 1000) :
    Calls Tryz.prog 43 #[.pointer (some ⟨l, 0, none⟩)] w fun e w' => e = .returned (.int .i64 0) ∧ Own w0 w' (DL d z l ml st false R) := by
  have hc := o_set h hs (-1) ⟨#[]⟩ hl
  rw [(set_minus z.safe.length st ⟨#[]⟩).2, (set_minus z.safe.length st ⟨#[]⟩).1] at hc
  have CS := Lib.hid hc
  clear h hs hl hc
  go_enter Tryz.func43, Tryz.ntmps43
  go_wp2_with (go_at_call 45; refine CS.out.mono ?_; rintro e w6 ⟨rfl, h6⟩; have H6 := Lib.hid h6; clear h6)
  go_ret
  exact ⟨rfl, H6.out⟩
theorem c_lusable_nil (w : World) : Calls Tryz.prog 43 #[.pointer none] w fun e w' => e = .returned (.int .i64 1) ∧ w' = w := by
  go_enter Tryz.func43, Tryz.ntmps43
  go_wp2_with fail
  go_ret
  exact ⟨rfl, rfl⟩
theorem c_usable_nil (w : World) : Calls Tryz.prog 59 #[.pointer none] w fun e w' => e = .returned (.int .i64 1) ∧ w' = w := by
  go_enter Tryz.func59, Tryz.ntmps59
  go_wp2_with fail
  go_ret
  exact ⟨rfl, rfl⟩
theorem vl_cell (h : Own w0 w (VL d z l ml st V R)) : w.cell? ⟨V, 0, none⟩ = some (.pointer (some ⟨l, 0, none⟩)) := blk_cell h.right.right.blk 0 rfl
theorem c_usable (h : Own w0 w (VL d z l ml st V R)) (hs : Stable R) (hl : st.length ≤ 1000) :
    Calls Tryz.prog 59 #[.pointer (some ⟨V, 0, none⟩)] w fun e w' => e = .returned (.int .i64 0) ∧ Own w0 w' (VL d z l ml st V R) := by
  have cV := vl_cell h
  have CS := Lib.hid (c_lusable h (stable_star (stable_blk _ _) hs) hl)
  clear h hs hl
  go_enter Tryz.func59, Tryz.ntmps59
  go_wp2_with (go_at_call 43; refine CS.out.mono ?_; rintro e w6 ⟨rfl, h6⟩; have H6 := Lib.hid h6; clear h6)
  go_ret
  exact ⟨rfl, H6.out⟩
def roomF (st : List (Int × ByteArray)) : Int := bif decide (16 < st.length) then 4 else 0
theorem c_room (h : Own w0 w (VL d z l ml st V R)) :
    Calls Tryz.prog 74 #[.pointer (some ⟨V, 0, none⟩)] w fun e w' => e = .returned (.int .i64 (roomF st)) ∧ w' = w := by
  have cV := vl_cell h
  have CS := Lib.hid (o_staged h)
  clear h
  unfold roomF
  generalize st.length = k at *
  by_cases hk : 16 < k
  · have h1 : (16 : Int) < (k : Int) := by omega
    rw [decide_eq_true hk]
    go_enter Tryz.func74, Tryz.ntmps74
    go_wp2_with (go_at_call 18; refine CS.out.mono ?_; rintro e w' ⟨rfl, hw'⟩; rw [hw']; clear hw' w')
    go_ret
    exact ⟨rfl, rfl⟩
  · have h1 : ¬ (16 : Int) < (k : Int) := by omega
    rw [decide_eq_false hk]
    go_enter Tryz.func74, Tryz.ntmps74
    go_wp2_with (go_at_call 18; refine CS.out.mono ?_; rintro e w' ⟨rfl, hw'⟩; rw [hw']; clear hw' w')
    go_ret
    exact ⟨rfl, rfl⟩
end
/-- The first k bits set. -/
def mapK : Nat → List UInt8
  | 0 => zL
  | k + 1 => setB (mapK k) k true
theorem mapK_len : ∀ k, (mapK k).length = 64
  | 0 => rfl
  | k + 1 => by show (setB _ _ _).length = 64; rw [setB_len, mapK_len k]
set_option maxHeartbeats 3200000 in
theorem c_systemMap (w : World) : Calls Tryz.prog 44 #[] w fun e w' => e = .returned (.agg (bcL (mapK 9))) ∧ Gr w w' := by
  have H0 := Lib.hid ((Own.start (Gr.refl w)).alloc stable_emp (.cells (bcL zL) 84))
  have H1 := Lib.hid (H0.out.alloc (stable_star (stable_blk _ _) stable_emp) (.cells (bcL zL) 84))
  clear H0
  have CS : Hid (∀ wx k B (Y : Asn), Stable Y → k < 9 → Own w wx (Star (uk B (mapK k)) Y) → Calls Tryz.prog 86 #[.pointer (some ⟨B, 0, none⟩), .int .i64 (k : Int), .bool true] wx fun e w' => e = .returned (.tuple #[]) ∧ Own w w' (Star (uk B (mapK (k + 1))) Y)) := Lib.hid (fun wx k B Y hY hk ho => c_bset ho hY (mapK_len k) k (by omega) true)
  have H10 : Hid (Own w _ (Star (uk (w.alloc (.cells (bcL zL) 84)).heap.size (mapK 0)) (Star (uk w.heap.size zL) emp))) := Lib.hid H1.out
  have HML := Lib.hid mapK_len
  clear H1
  generalize mapK = MM at *
  go_enter Tryz.func44, Tryz.ntmps44
  go_upto_region 2 with (refine wpList_alloc_blk rfl 84 (bcL zL) rfl (bits_zero _) ?_)
  generalize (World.alloc (World.alloc w _) _) = w1 at *
  generalize (World.alloc w _).heap.size = B at *
  generalize w.heap.size = A at *
  have HYS : Hid (Stable (Star (uk A zL) emp)) := Lib.hid (stable_star (stable_blk _ _) stable_emp)
  go_wp2_with fail
  go_loopw [3] (fun v wr => ∃ k : Nat, k ≤ 9 ∧ v = .int .i64 (k : Int) ∧ Own w wr (Star (uk B (MM k)) (Star (uk A zL) emp))) (fun v _ => 9 - (intOf v).toNat)
  case atStart => exact ⟨0, by omega, rfl, H10.out⟩
  case round =>
    obtain ⟨k, hk, rfl, ho⟩ := hrel
    have HO := Lib.hid ho
    clear ho H10
    by_cases hlt : k < 9
    · have dl : decide (k < 9) = true := decide_eq_true hlt
      have hi : (k : Int) < 9 := by omega
      have n5 : IntKind.i64.wrap ((k : Int) + 1) = (k : Int) + 1 := IntWalk.i64_in _ (by omega)
      have C1 := Lib.hid (CS.out _ k B _ HYS.out hlt HO.out)
      go_wp2_with (go_at_call 86; refine C1.out.mono ?_; rintro e w6 ⟨rfl, h6⟩; have H6 := Lib.hid h6; clear h6)
      go_roundw
      case rel => exact ⟨k + 1, by omega, by go_num, H6.out⟩
      case measure => simp [intOf]; omega
    · obtain rfl : k = 9 := by omega
      have HC1 : Hid ((Tryz.prog.info? 84).map (·.size) = some (bcL (MM 9)).size) := Lib.hid (by rw [bcL_size, HML.out]; exact bits_info)
      have HC2 := Lib.hid (bcL_all1 (MM 9))
      have HC3 : Hid ((bcL zL).size = (bcL (MM 9)).size) := Lib.hid (by rw [bcL_size, bcL_size, HML.out]; rfl)
      have H4 := Lib.hid (HO.out.swap2.setRow (stable_star (stable_blk _ _) stable_emp) (bcL (MM 9)))
      have hb := HO.out.blk
      have ha := HO.out.swap2.blk
      generalize hC : bcL (MM 9) = C at *
      have HCC := Lib.hid hC
      clear hC
      go_wp2_with (first
        | (refine wpList_load_row rfl _ _ rfl B rfl _ C (0, 0) _ hb Tryz.underlying84 rfl HC1.out ?_)
        | (refine wpList_store_row rfl _ _ _ rfl A C rfl rfl _ _ ha HC1.out HC3.out HC2.out ?_))
      refine bodyPost_ret (results_cell_row rfl _ _ A _ C (0, 0) _ rfl H4.out.blk Tryz.underlying84 rfl HC1.out) rfl ?_
      exact ⟨by rw [HCC.out], H4.out.sub⟩
end Go.Proofs.YtlpcccpagmipnaaGreat.P
namespace Go.Proofs.YtlpcccpagmipnaaGreat.P
open Go.RowKit Go.ChangeMaps Go.MapKept
theorem res_tct {fn : Func} {p t u : Tmp} {ty : TypeId} (h : fn.results = #[.tmp t, .cell p ty, .tmp u]) {tmps : Array Value} {P : Program} {w : World} {g : Nat} {cs : Array Value}
    (hp : tmps.getD p undef = .pointer (some ⟨g, 0, none⟩)) (hld : (loadVar ty ⟨g, 0, none⟩).run P w = .ok (.agg cs) w) :
    (results fn tmps).run P w = .ok (.tuple #[tmps.getD t undef, .agg cs, tmps.getD u undef]) w := by
  have hp' : tmps[p]?.getD undef = .pointer (some ⟨g, 0, none⟩) := by simpa using hp
  simp [results, h, hp', asAddr, hld]
theorem wpList_build0 {P : Program} {ops : Array Oper} {rest : List Oper} {o : Oper} {a : Act} {w : World} {Q : Exit → Act → World → Prop} (hgd : o.guard = none) (t : TypeId) (ho : o.op = .build t #[])
    (cells : Array Value) (hb : P.built t [] = some cells) (h : wpList P ops Q rest (a.put o.dst (.agg cells)) w) : wpList P ops Q (o :: rest) a w := by
  refine wpList_plain hgd fun K' hK' => ?_
  unfold Oper.wp execOp
  have hb2 : P.built t ((#[] : Array (Nat × Operand)).map fun (i, x) => (i, a.eval x)).toList = some cells := by simpa using hb
  simp only [ho, Sem.run_bind, run_build w t _ cells hb2, Result.andThen_ok, Sem.run_pure]
  exact hK' _ _ h
/-- Its size, as a call takes it. -/
def minI (x : Ino) : Ino := { x with size := min x.size 2368 }
theorem min_set (x : Ino) : (inoL x).toArray.setIfInBounds 2 (.int .i64 ((min x.size 2368 : Nat) : Int)) = (inoL (minI x)).toArray := by
  rw [List.setIfInBounds_toArray]
  rfl
section
variable {w0 w : World} {d : Nat} {z : DState} {l ml V : Nat} {st : List (Int × ByteArray)} {n : Nat} {R : Asn}
set_option maxHeartbeats 1600000 in
theorem c_take_nil (k : Int) (w : World) : Calls Tryz.prog 68 #[.pointer none, .int .i64 k] w fun e w' => e = .returned (.tuple #[.pointer none, .agg (inoL i0).toArray, .int .i64 1]) ∧ Gr w w' := by
  have H0 := Lib.hid ((Own.start (Gr.refl w)).alloc stable_emp (.cells (inoL i0).toArray 132))
  have CN := Lib.hid (fun wx => c_usable_nil wx)
  have HC1 := Lib.hid (ino_infoX i0 rfl)
  have HC2 := Lib.hid (ino_one i0)
  have H1 := Lib.hid (H0.out.setRow stable_emp (inoL i0).toArray)
  go_enter Tryz.func68, Tryz.ntmps68
  go_wp2_with (first
    | (refine wpList_alloc_blk rfl 132 (inoL i0).toArray rfl (ino_zero _) ?_)
    | (refine wpList_build0 rfl 132 rfl (inoL i0).toArray (by kernel_rfl) ?_)
    | (refine wpList_store_row rfl _ _ _ rfl w.heap.size (inoL i0).toArray rfl rfl _ _ H0.out.blk HC1.out rfl HC2.out ?_)
    | (go_at_call 59; refine (CN.out _).mono ?_; rintro e w' ⟨rfl, hw'⟩; rw [hw']; clear hw' w'))
  refine bodyPost_ret (res_tct rfl rfl (ld_ino H1.out.blk HC1.out)) rfl ?_
  exact ⟨rfl, H1.out.sub⟩
set_option maxHeartbeats 1600000 in
theorem c_take_bad (h : Own w0 w (VL d z l ml st V R)) (hs : Stable R) (hl : st.length ≤ 1000) (k : Int) (hk : k < 0 ∨ 32 ≤ k) : Calls Tryz.prog 68 #[.pointer (some ⟨V, 0, none⟩), .int .i64 k] w fun e w' => e = .returned (.tuple #[.pointer none, .agg (inoL i0).toArray, .int .i64 1]) ∧ Own w0 w' (VL d z l ml st V R) := by
  have hsV : Stable (Star (volA V l) R) := stable_star (stable_blk _ _) hs
  have H0 := h.alloc (stable_dl _ _ _ _ _ _ hsV) (.cells (inoL i0).toArray 132)
  have hsA : ∀ o, Stable (Star (blkA w.heap.size o) R) := fun o => stable_star (stable_blk _ _) hs
  have H1 : Own w0 (w.alloc (.cells (inoL i0).toArray 132)) (VL d z l ml st V (Star (ik w.heap.size i0) R)) := H0.rot3'.mono fun F hF => star_mono_r (fun F h => star_mono_r (fun F h => star_swap2 h) h) hF
  have CU := Lib.hid (c_usable H1 (hsA _) hl)
  have HC1 := Lib.hid (ino_infoX i0 rfl)
  have HC2 := Lib.hid (ino_one i0)
  have HO : Hid (∀ wx, Own w0 wx (VL d z l ml st V (Star (ik w.heap.size i0) R)) → wx.heap[w.heap.size]? = some (.cells (inoL i0).toArray 132) ∧ (wx.setRow w.heap.size (inoL i0).toArray).heap[w.heap.size]? = some (.cells (inoL i0).toArray 132) ∧ Own w0 (wx.setRow w.heap.size (inoL i0).toArray) (VL d z l ml st V R)) := Lib.hid (fun wx hw => by
    have h1 : Own w0 wx (Star (ik w.heap.size i0) (VL d z l ml st V R)) := Own.rot3 (hw.mono fun F hF => star_mono_r (fun F h => star_mono_r (fun F h => star_swap2 h) h) hF)
    have h2 := h1.setRow (stable_dl _ _ _ _ _ _ hsV) (inoL i0).toArray
    exact ⟨h1.blk, h2.blk, h2.right⟩)
  clear h hs hl hsV hsA H0 H1
  rcases hk with hk | hk
  · go_enter Tryz.func68, Tryz.ntmps68
    go_upto_region 1 with (refine wpList_alloc_blk rfl 132 (inoL i0).toArray rfl (ino_zero _) ?_)
    generalize (World.alloc w _) = w1 at *
    generalize w.heap.size = g at *
    go_wp2_with (first
      | (refine wpList_build0 rfl 132 rfl (inoL i0).toArray (by kernel_rfl) ?_)
      | (refine wpList_store_row rfl _ _ _ rfl g (inoL i0).toArray rfl rfl _ _ b1 HC1.out rfl HC2.out ?_)
      | (go_at_call 59; refine CU.out.mono ?_; rintro e w2 ⟨rfl, h2⟩; obtain ⟨b1, b2, h3⟩ := HO.out _ h2; have H3 := Lib.hid h3; clear h2 h3))
    refine bodyPost_ret (res_tct rfl rfl (ld_ino b2 HC1.out)) rfl ?_
    exact ⟨rfl, H3.out⟩
  · have hk0 : ¬ k < 0 := by omega
    go_enter Tryz.func68, Tryz.ntmps68
    go_upto_region 1 with (refine wpList_alloc_blk rfl 132 (inoL i0).toArray rfl (ino_zero _) ?_)
    generalize (World.alloc w _) = w1 at *
    generalize w.heap.size = g at *
    go_wp2_with (first
      | (refine wpList_build0 rfl 132 rfl (inoL i0).toArray (by kernel_rfl) ?_)
      | (refine wpList_store_row rfl _ _ _ rfl g (inoL i0).toArray rfl rfl _ _ b1 HC1.out rfl HC2.out ?_)
      | (go_at_call 59; refine CU.out.mono ?_; rintro e w2 ⟨rfl, h2⟩; obtain ⟨b1, b2, h3⟩ := HO.out _ h2; have H3 := Lib.hid h3; clear h2 h3))
    refine bodyPost_ret (res_tct rfl rfl (ld_ino b2 HC1.out)) rfl ?_
    exact ⟨rfl, H3.out⟩
set_option maxHeartbeats 3200000 in
theorem c_take_free (h : Own w0 w (VL d z l ml st V R)) (hs : Stable R) (hz : LI z n) (hst : okSt (n + 32) st) (k : Nat) (hk : k < 32) (hkd : (inoV [] z st k).kind = 0) : Calls Tryz.prog 68 #[.pointer (some ⟨V, 0, none⟩), .int .i64 (k : Int)] w fun e w' => e = .returned (.tuple #[.pointer none, .agg (inoL i0).toArray, .int .i64 5]) ∧ Own w0 w' (VL d z l ml st V R) := by
  have hlo := hz.lo
  have hx6 := inoV_len [] z st k
  have hsV : Stable (Star (volA V l) R) := stable_star (stable_blk _ _) hs
  have H0 := h.alloc (stable_dl _ _ _ _ _ _ hsV) (.cells (inoL i0).toArray 132)
  have H1 : Own w0 (w.alloc (.cells (inoL i0).toArray 132)) (VL d z l ml st V (Star (ik w.heap.size i0) R)) := H0.rot3'.mono fun F hF => star_mono_r (fun F h => star_mono_r (fun F h => star_swap2 h) h) hF
  have hsY : Stable (Star (volA V l) (Star (ik w.heap.size i0) R)) := stable_star (stable_blk _ _) (stable_star (stable_blk _ _) hs)
  have CU := Lib.hid (c_usable H1 (stable_star (stable_blk _ _) hs) (by have := hst.2.1; omega))
  have CND : Hid (∀ wx, Own w0 wx (VL d z l ml st V (Star (ik w.heap.size i0) R)) → wx.cell? ⟨V, 0, none⟩ = some (.pointer (some ⟨l, 0, none⟩)) ∧ Calls Tryz.prog 57 #[.pointer (some ⟨l, 0, none⟩)] wx (NewDP w0 d z l ml st (Star (volA V l) (Star (ik w.heap.size i0) R)))) := Lib.hid (fun wx hw => ⟨vl_cell hw, c_newDraft hw hsY⟩)
  have CVI : Hid (∀ wx D mb, Own w0 wx (VX d z l ml st D mb [] (Star (volA V l) (Star (ik w.heap.size i0) R))) → Calls Tryz.prog 75 #[.pointer (some ⟨D, 0, none⟩), .int .i64 (k : Int)] wx fun e w' => e = .returned (.agg (inoL (inoV [] z st k)).toArray) ∧ Own w0 w' (VX d z l ml st D mb [] (Star (volA V l) (Star (ik w.heap.size i0) R)))) := Lib.hid (fun wx D mb hw => c_vinode hw hsY hz hst k hk)
  have HBX : Hid (∀ wx D mb, Own w0 wx (VX d z l ml st D mb [] (Star (volA V l) (Star (ik w.heap.size i0) R))) → (wx.alloc (.cells (inoL i0).toArray 132)).heap[wx.heap.size]? = some (.cells (inoL i0).toArray 132) ∧ Own w0 ((wx.alloc (.cells (inoL i0).toArray 132)).setRow wx.heap.size (inoL (inoV [] z st k)).toArray) (VX d z l ml st D mb [] (Star (ik wx.heap.size (inoV [] z st k)) (Star (volA V l) (Star (ik w.heap.size i0) R))))) := Lib.hid (fun wx D mb hw => by
    have h1 := hw.box4 (stable_vx hsY) (.cells (inoL i0).toArray 132)
    exact ⟨h1.out4.blk, (h1.out4.setRow (stable_vx hsY) _).in4⟩)
  have HF : Hid (∀ wx D mb g9, Own w0 wx (VX d z l ml st D mb [] (Star (ik g9 (inoV [] z st k)) (Star (volA V l) (Star (ik w.heap.size i0) R)))) → wx.heap[g9]? = some (.cells (inoL (inoV [] z st k)).toArray 132) ∧ wx.cell? ⟨D, 2, none⟩ = some (.int .i64 0)) := Lib.hid (fun wx D mb g9 hw => ⟨hw.out4.blk, blk_cell (vx_map hw).1 2 rfl⟩)
  have HC1 := Lib.hid (ino_infoX i0 rfl)
  have HC2 := Lib.hid (ino_one i0)
  have HD1 := Lib.hid (ino_infoX (inoV [] z st k) hx6)
  have HD2 := Lib.hid (ino_one (inoV [] z st k))
  have HD3 : Hid ((inoL i0).toArray.size = (inoL (inoV [] z st k)).toArray.size) := Lib.hid (by rw [ino_size _ hx6]; rfl)
  have hk0 : ¬ (k : Int) < 0 := by omega
  have hk1 : ¬ (32 : Int) ≤ (k : Int) := by omega
  have HE : Hid (∀ wx D mb g9, Own w0 wx (VX d z l ml st D mb [] (Star (ik g9 (inoV [] z st k)) (Star (volA V l) (Star (ik w.heap.size i0) R)))) → wx.heap[w.heap.size]? = some (.cells (inoL i0).toArray 132) ∧ (wx.setRow w.heap.size (inoL i0).toArray).heap[w.heap.size]? = some (.cells (inoL i0).toArray 132) ∧ Own w0 (wx.setRow w.heap.size (inoL i0).toArray) (VL d z l ml st V R)) := Lib.hid (fun wx D mb g9 hw => by
    have hv : Own w0 wx (DL d z l ml st false (Star (volA V l) (Star (ik w.heap.size i0) R))) := own_drop (own_drop hw.out4.right)
    have h1 : Own w0 wx (Star (ik w.heap.size i0) (VL d z l ml st V R)) := Own.rot3 (hv.mono fun F hF => star_mono_r (fun F h => star_mono_r (fun F h => star_swap2 h) h) hF)
    have h2 := h1.setRow (stable_dl _ _ _ _ _ _ hsV) (inoL i0).toArray
    exact ⟨h1.blk, h2.blk, h2.right⟩)
  have cK : ∀ (wx : World) (g9 : Nat), wx.heap[g9]? = some (.cells (inoL (inoV [] z st k)).toArray 132) → wx.cell? ⟨g9, 0, none⟩ = some (.int .i64 0) := fun wx g9 hb => by
    have := blk_cell hb 0 (v := .int .i64 ((inoV [] z st k).kind : Int)) rfl
    rw [hkd] at this
    exact this
  have CK := Lib.hid cK
  clear h hs hz hst hk H0 H1 hsV hsY cK hx6 hkd
  generalize inoV [] z st k = X at *
  go_enter Tryz.func68, Tryz.ntmps68
  go_upto_region 1 with (refine wpList_alloc_blk rfl 132 (inoL i0).toArray rfl (ino_zero _) ?_)
  generalize (World.alloc w _) = w1 at *
  generalize w.heap.size = g at *
  go_upto_region 6 with (go_at_call 59; refine CU.out.mono ?_; rintro e w2 ⟨rfl, h2⟩; have H2 := Lib.hid h2; clear h2)
  obtain ⟨cV, cnd⟩ := CND.out _ H2.out
  have CN2 := Lib.hid cnd
  clear cnd CND CU
  go_upto_region 8 with (first
    | (go_at_call 57; refine CN2.out.mono ?_; rintro e w3 ⟨D, mb, rfl, h3⟩; have H3 := Lib.hid h3; clear h3)
    | (go_at_call 75; refine (CVI.out _ _ _ H3.out).mono ?_; rintro e w4 ⟨rfl, h4⟩; have H4 := Lib.hid h4; clear h4)
    | (refine wpList_alloc_blk rfl 132 (inoL i0).toArray rfl (ino_zero _) ?_)
    | (refine wpList_store_row rfl _ _ _ rfl w4.heap.size (inoL X).toArray rfl rfl _ _ (HBX.out _ _ _ H4.out).1 HD1.out HD3.out HD2.out ?_))
  have H5 := Lib.hid (HBX.out _ _ _ H4.out).2
  clear HBX CVI CN2 H2 H3 cV
  generalize (World.setRow _ _ _) = w5 at *
  generalize w4.heap.size = g9 at *
  clear H4
  obtain ⟨bx, c2⟩ := HF.out _ _ _ _ H5.out
  have ck := CK.out _ _ bx
  have hee := HE.out _ _ _ _ H5.out
  obtain ⟨e1, e2, e3⟩ := hee
  have H6 := Lib.hid e3
  clear e3 HE H5 CK
  go_wp2_with (first
    | (refine wpList_build0 rfl 132 rfl (inoL i0).toArray (by kernel_rfl) ?_)
    | (refine wpList_store_row rfl _ _ _ rfl g (inoL i0).toArray rfl rfl _ _ e1 HC1.out rfl HC2.out ?_))
  refine bodyPost_ret (res_tct rfl rfl (ld_ino e2 HC1.out)) rfl ?_
  exact ⟨rfl, H6.out⟩
/-- What take answers where all is well. -/
def TakeP (w0 : World) (d : Nat) (z : DState) (l ml : Nat) (st : List (Int × ByteArray)) (V : Nat) (R : Asn) (k : Nat) (e : Ending) (w' : World) : Prop := ∃ D mb, e = .returned (.tuple #[.pointer (some ⟨D, 0, none⟩), .agg (inoL (minI (inoV [] z st k))).toArray, .int .i64 0]) ∧ Own w0 w' (VX d z l ml st D mb [] (Star (volA V l) R))
set_option maxHeartbeats 3200000 in
theorem c_take_ok (h : Own w0 w (VL d z l ml st V R)) (hs : Stable R) (hz : LI z n) (hst : okSt (n + 32) st) (k : Nat) (hk : k < 32) (hkd : ¬ (inoV [] z st k).kind = 0) : Calls Tryz.prog 68 #[.pointer (some ⟨V, 0, none⟩), .int .i64 (k : Int)] w (TakeP w0 d z l ml st V R k) := by
  have hlo := hz.lo
  have hx6 := inoV_len [] z st k
  have hsV : Stable (Star (volA V l) R) := stable_star (stable_blk _ _) hs
  have H0 := h.alloc (stable_dl _ _ _ _ _ _ hsV) (.cells (inoL i0).toArray 132)
  have H1 : Own w0 (w.alloc (.cells (inoL i0).toArray 132)) (VL d z l ml st V (Star (ik w.heap.size i0) R)) := H0.rot3'.mono fun F hF => star_mono_r (fun F h => star_mono_r (fun F h => star_swap2 h) h) hF
  have hsY : Stable (Star (volA V l) (Star (ik w.heap.size i0) R)) := stable_star (stable_blk _ _) (stable_star (stable_blk _ _) hs)
  have CU := Lib.hid (c_usable H1 (stable_star (stable_blk _ _) hs) (by have := hst.2.1; omega))
  have CND : Hid (∀ wx, Own w0 wx (VL d z l ml st V (Star (ik w.heap.size i0) R)) → wx.cell? ⟨V, 0, none⟩ = some (.pointer (some ⟨l, 0, none⟩)) ∧ Calls Tryz.prog 57 #[.pointer (some ⟨l, 0, none⟩)] wx (NewDP w0 d z l ml st (Star (volA V l) (Star (ik w.heap.size i0) R)))) := Lib.hid (fun wx hw => ⟨vl_cell hw, c_newDraft hw hsY⟩)
  have CVI : Hid (∀ wx D mb, Own w0 wx (VX d z l ml st D mb [] (Star (volA V l) (Star (ik w.heap.size i0) R))) → Calls Tryz.prog 75 #[.pointer (some ⟨D, 0, none⟩), .int .i64 (k : Int)] wx fun e w' => e = .returned (.agg (inoL (inoV [] z st k)).toArray) ∧ Own w0 w' (VX d z l ml st D mb [] (Star (volA V l) (Star (ik w.heap.size i0) R)))) := Lib.hid (fun wx D mb hw => c_vinode hw hsY hz hst k hk)
  have HBX : Hid (∀ wx D mb, Own w0 wx (VX d z l ml st D mb [] (Star (volA V l) (Star (ik w.heap.size i0) R))) → (wx.alloc (.cells (inoL i0).toArray 132)).heap[wx.heap.size]? = some (.cells (inoL i0).toArray 132) ∧ Own w0 ((wx.alloc (.cells (inoL i0).toArray 132)).setRow wx.heap.size (inoL (inoV [] z st k)).toArray) (VX d z l ml st D mb [] (Star (ik wx.heap.size (inoV [] z st k)) (Star (volA V l) (Star (ik w.heap.size i0) R))))) := Lib.hid (fun wx D mb hw => by
    have h1 := hw.box4 (stable_vx hsY) (.cells (inoL i0).toArray 132)
    exact ⟨h1.out4.blk, (h1.out4.setRow (stable_vx hsY) _).in4⟩)
  have HF : Hid (∀ wx D mb g9, Own w0 wx (VX d z l ml st D mb [] (Star (ik g9 (inoV [] z st k)) (Star (volA V l) (Star (ik w.heap.size i0) R)))) → wx.heap[g9]? = some (.cells (inoL (inoV [] z st k)).toArray 132) ∧ wx.cell? ⟨D, 2, none⟩ = some (.int .i64 0)) := Lib.hid (fun wx D mb g9 hw => ⟨hw.out4.blk, blk_cell (vx_map hw).1 2 rfl⟩)
  have HC1 := Lib.hid (ino_infoX i0 rfl)
  have HC2 := Lib.hid (ino_one i0)
  have HD1 := Lib.hid (ino_infoX (inoV [] z st k) hx6)
  have HD2 := Lib.hid (ino_one (inoV [] z st k))
  have HD3 : Hid ((inoL i0).toArray.size = (inoL (inoV [] z st k)).toArray.size) := Lib.hid (by rw [ino_size _ hx6]; rfl)
  have hk0 : ¬ (k : Int) < 0 := by omega
  have hk1 : ¬ (32 : Int) ≤ (k : Int) := by omega
  have HM : Hid (∀ wx D mb g9, Own w0 wx (VX d z l ml st D mb [] (Star (ik g9 (inoV [] z st k)) (Star (volA V l) (Star (ik w.heap.size i0) R)))) → Own w0 (wx.setCell ⟨g9, 2, none⟩ (.int .i64 (min ((inoV [] z st k).size : Int) 2368))) (VX d z l ml st D mb [] (Star (ik g9 (minI (inoV [] z st k))) (Star (volA V l) (Star (ik w.heap.size i0) R))))) := Lib.hid (fun wx D mb g9 hw => by
    have e : (min ((inoV [] z st k).size : Int) 2368) = ((min (inoV [] z st k).size 2368 : Nat) : Int) := by omega
    rw [e]
    exact (hw.out4.put8 (stable_vx hsY) 2 _ _ (min_set _)).in4)
  have HE : Hid (∀ wx D mb g9, Own w0 wx (VX d z l ml st D mb [] (Star (ik g9 (minI (inoV [] z st k))) (Star (volA V l) (Star (ik w.heap.size i0) R)))) → wx.drew.heap[g9]? = some (.cells (inoL (minI (inoV [] z st k))).toArray 132) ∧ wx.drew.heap[w.heap.size]? = some (.cells (inoL i0).toArray 132) ∧ (wx.drew.setRow w.heap.size (inoL (minI (inoV [] z st k))).toArray).heap[w.heap.size]? = some (.cells (inoL (minI (inoV [] z st k))).toArray 132) ∧ Own w0 (wx.drew.setRow w.heap.size (inoL (minI (inoV [] z st k))).toArray) (VX d z l ml st D mb [] (Star (volA V l) R))) := Lib.hid (fun wx D mb g9 hw => by
    have h0 := hw.drew (stable_vx (stable_star (stable_blk _ _) hsY))
    have h1 : Own w0 wx.drew (Star (ik w.heap.size i0) (VX d z l ml st D mb [] (Star (volA V l) R))) := h0.out4.right.swapR.out4
    have h2 := h1.setRow (stable_vx hsV) (inoL (minI (inoV [] z st k))).toArray
    exact ⟨h0.out4.blk, h1.blk, h2.blk, h2.right⟩)
  have cK : ∀ (wx : World) (g9 : Nat), wx.heap[g9]? = some (.cells (inoL (inoV [] z st k)).toArray 132) → wx.cell? ⟨g9, 0, none⟩ = some (.int .i64 ((inoV [] z st k).kind : Int)) ∧ wx.cell? ⟨g9, 2, none⟩ = some (.int .i64 ((inoV [] z st k).size : Int)) ∧ wx.frozen? ⟨g9, 2, none⟩ = false := fun wx g9 hb => ⟨blk_cell hb 0 rfl, blk_cell hb 2 rfl, blk_frozen hb 2⟩
  have CK := Lib.hid cK
  have HM1 := Lib.hid (ino_infoX (minI (inoV [] z st k)) hx6)
  have HM2 := Lib.hid (ino_one (minI (inoV [] z st k)))
  have HM3 : Hid ((inoL i0).toArray.size = (inoL (minI (inoV [] z st k))).toArray.size) := Lib.hid (by rw [ino_size _ (show (minI (inoV [] z st k)).pl.length = 6 from hx6)]; rfl)
  have hki : ¬ ((inoV [] z st k).kind : Int) = 0 := by omega
  unfold TakeP
  clear h hs hz hst hk H0 H1 hsV hsY cK hx6 hkd
  generalize inoV [] z st k = X at *
  go_enter Tryz.func68, Tryz.ntmps68
  go_upto_region 1 with (refine wpList_alloc_blk rfl 132 (inoL i0).toArray rfl (ino_zero _) ?_)
  generalize (World.alloc w _) = w1 at *
  generalize w.heap.size = g at *
  go_upto_region 6 with (go_at_call 59; refine CU.out.mono ?_; rintro e w2 ⟨rfl, h2⟩; have H2 := Lib.hid h2; clear h2)
  obtain ⟨cV, cnd⟩ := CND.out _ H2.out
  have CN2 := Lib.hid cnd
  clear cnd CND CU
  go_upto_region 8 with (first
    | (go_at_call 57; refine CN2.out.mono ?_; rintro e w3 ⟨D, mb, rfl, h3⟩; have H3 := Lib.hid h3; clear h3)
    | (go_at_call 75; refine (CVI.out _ _ _ H3.out).mono ?_; rintro e w4 ⟨rfl, h4⟩; have H4 := Lib.hid h4; clear h4)
    | (refine wpList_alloc_blk rfl 132 (inoL i0).toArray rfl (ino_zero _) ?_)
    | (refine wpList_store_row rfl _ _ _ rfl w4.heap.size (inoL X).toArray rfl rfl _ _ (HBX.out _ _ _ H4.out).1 HD1.out HD3.out HD2.out ?_))
  have H5 := Lib.hid (HBX.out _ _ _ H4.out).2
  clear HBX CVI CN2 H2 H3 cV
  generalize (World.setRow _ _ _) = w5 at *
  generalize w4.heap.size = g9 at *
  clear H4
  obtain ⟨bx, c2⟩ := HF.out _ _ _ _ H5.out
  obtain ⟨ck, cs, zs⟩ := CK.out _ _ bx
  have H6 := Lib.hid (HM.out _ _ _ _ H5.out)
  clear HM H5 CK
  go_upto_region 13 with fail
  clear ck cs zs bx c2
  generalize (World.setCell _ _ _) = w6 at *
  obtain ⟨e1, e2, e3, e4⟩ := HE.out _ _ _ _ H6.out
  have H7 := Lib.hid e4
  clear e4 HE
  have hLD := ld_ino e1 HM1.out
  go_still_tail 3, (by kernel_rfl)
  refine still_run rfl _ (ex_row hLD rfl) ?_
  repeat still_step
  refine wpStill_nil ?_
  go_wp2_with (refine wpList_store_row rfl _ _ _ rfl g (inoL (minI X)).toArray rfl rfl _ _ e2 HM1.out HM3.out HM2.out ?_)
  refine bodyPost_ret (res_tct rfl rfl (ld_ino e3 HM1.out)) rfl ?_
  exact ⟨_, _, rfl, H7.out⟩
end
end Go.Proofs.YtlpcccpagmipnaaGreat.P
namespace Go.Proofs.YtlpcccpagmipnaaGreat.P
open Go.RowKit Go.ChangeMaps Go.MapKept
theorem fileV_len (rows : List (Int × ByteArray)) (z : DState) (st : List (Int × ByteArray)) {x : Ino} (hx : x.pl.length = 6) : (fileV rows z st x).all.length = 37 := by
  unfold fileV
  cases decide (x.pl.getD 5 0 = 0) with
  | true =>
    show (_ ++ _ : List Nat).length = 37
    rw [List.length_append, List.length_take, List.length_replicate, hx]; rfl
  | false => exact allK_len x hx _ 32 (by omega)
theorem ok_i0 : okI i0 := ⟨by decide, by decide, by decide, rfl, fun k hk => by
  unfold i0
  rw [List.getD_eq_getElem?_getD, List.getElem?_replicate]
  split <;> decide⟩
theorem shF_len (L : List UInt8) (f : Fil) (s : Nat) : (shF L f s).1.length = L.length := by
  unfold shF
  have := (shK_len L f.all (cntN s) (cntN f.ino.size - cntN s)).1
  cases !decide (f.ino.pl.getD 5 0 = 0) && decide (cntN s ≤ 5) with
  | true => show (setB _ _ _).length = _; rw [setB_len, this]
  | false => exact this
section
variable {w0 w : World} {d : Nat} {z : DState} {l ml V D mb : Nat} {st : List (Int × ByteArray)} {n : Nat} {R Y : Asn}
theorem c_roomX (h : Own w0 w (DL d z l ml st false R)) (cV : w.cell? ⟨V, 0, none⟩ = some (.pointer (some ⟨l, 0, none⟩))) (h16 : st.length ≤ 16) :
    Calls Tryz.prog 74 #[.pointer (some ⟨V, 0, none⟩)] w fun e w' => e = .returned (.int .i64 0) ∧ w' = w := by
  have CS := Lib.hid (o_staged h)
  have h1 : ¬ (16 : Int) < (st.length : Int) := by omega
  clear h
  generalize st.length = k at *
  go_enter Tryz.func74, Tryz.ntmps74
  go_wp2_with (go_at_call 18; refine CS.out.mono ?_; rintro e w' ⟨rfl, hw'⟩; rw [hw']; clear hw' w')
  go_ret
  exact ⟨rfl, rfl⟩
/-- An inode's block laid in a draft's company. -/
theorem own_ino (h : Own w0 w (VX d z l ml st D mb [] Y)) (hs : Stable Y) (x : Ino) : (w.alloc (.cells (inoL i0).toArray 132)).heap[w.heap.size]? = some (.cells (inoL i0).toArray 132) ∧ Own w0 ((w.alloc (.cells (inoL i0).toArray 132)).setRow w.heap.size (inoL x).toArray) (VX d z l ml st D mb [] (Star (ik w.heap.size x) Y)) :=
  ⟨(h.box4 (stable_vx hs) _).out4.blk, ((h.box4 (stable_vx hs) _).out4.setRow (stable_vx hs) _).in4⟩
theorem own_fil (h : Own w0 w (VX d z l ml st D mb [] Y)) (hs : Stable Y) (x : Fil) : (w.alloc (.cells (filL f0).toArray 137)).heap[w.heap.size]? = some (.cells (filL f0).toArray 137) ∧ Own w0 ((w.alloc (.cells (filL f0).toArray 137)).setRow w.heap.size (filL x).toArray) (VX d z l ml st D mb [] (Star (fk w.heap.size x) Y)) :=
  ⟨(h.box4 (stable_vx hs) _).out4.blk, ((h.box4 (stable_vx hs) _).out4.setRow (stable_vx hs) _).in4⟩
/-- What Free is about to stage. -/
def freeR (z : DState) (st : List (Int × ByteArray)) (k : Nat) : List (Int × ByteArray) := putR (putS 0 ⟨(shF (rowL [] z st 0) (fileV [] z st (minI (inoV [] z st k))) 0).1.toArray⟩ []) z st k i0
theorem keys_two {n k : Nat} {a b : ByteArray} (hn : 9 ≤ n) (hk : k < 32) : ∀ x ∈ putS ((1 + k / 4 : Nat) : Int) a (putS 0 b []), 0 ≤ x.1 ∧ x.1 < (n : Int) := fun x hx => by
  rcases mem_putS hx with e | e
  · rw [e]
    exact ⟨by show (0 : Int) ≤ ((1 + k / 4 : Nat) : Int); omega, by show ((1 + k / 4 : Nat) : Int) < _; omega⟩
  · rcases mem_putS e with e | e
    · rw [e]
      exact ⟨by show (0 : Int) ≤ 0; omega, by show (0 : Int) < _; omega⟩
    · cases e
set_option maxHeartbeats 6400000 in
theorem c_vfree (h : Own w0 w (VL d z l ml st V R)) (hs : Stable R) (hz : LI z n) (hst : okSt (n + 32) st) (h16 : st.length ≤ 16) (k : Nat) (hk : k < 32) (hkd : ¬ (inoV [] z st k).kind = 0)
    (hp : (inoV [] z st k).pl.getD 5 0 < n) (ha : ∀ j, j < cntN (min (inoV [] z st k).size 2368) → (fileV [] z st (minI (inoV [] z st k))).all.getD j 0 < 512) :
    Calls Tryz.prog 37 #[.pointer (some ⟨V, 0, none⟩), .int .i64 (k : Int)] w fun e w' => e = .returned (.int .i64 (stgF z.safe.length (strikeS z st (freeR z st k)) st).1) ∧ Own w0 w' (VL d z l ml (stgF z.safe.length (strikeS z st (freeR z st k)) st).2 V R) := by
  have hlo := hz.lo
  have hhi := hz.hi
  have hx6 : (minI (inoV [] z st k)).pl.length = 6 := inoV_len [] z st k
  have h37 := fileV_len [] z st hx6
  have hpm : (minI (inoV [] z st k)).pl.getD 5 0 < n := hp
  have hsz : (minI (inoV [] z st k)).size ≤ 2368 := Nat.min_le_right _ _
  have hsY : Stable (Star (volA V l) R) := stable_star (stable_blk _ _) hs
  have hsI : ∀ g x, Stable (Star (ik g x) (Star (volA V l) R)) := fun g x => stable_star (stable_blk _ _) hsY
  have hsF : ∀ G f g x, Stable (Star (fk G f) (Star (ik g x) (Star (volA V l) R))) := fun G f g x => stable_star (stable_blk _ _) (hsI g x)
  have CT := Lib.hid (c_take_ok h hs hz hst k hk hkd)
  have HB1 : Hid (∀ wx D mb, Own w0 wx (VX d z l ml st D mb [] (Star (volA V l) R)) → (wx.alloc (.cells (inoL i0).toArray 132)).heap[wx.heap.size]? = some (.cells (inoL i0).toArray 132) ∧ Own w0 ((wx.alloc (.cells (inoL i0).toArray 132)).setRow wx.heap.size (inoL (minI (inoV [] z st k))).toArray) (VX d z l ml st D mb [] (Star (ik wx.heap.size (minI (inoV [] z st k))) (Star (volA V l) R)))) := Lib.hid (fun wx D mb hw => own_ino hw hsY _)
  have CRM : Hid (∀ wx D mb g, Own w0 wx (VX d z l ml st D mb [] (Star (ik g (minI (inoV [] z st k))) (Star (volA V l) R))) → Calls Tryz.prog 74 #[.pointer (some ⟨V, 0, none⟩)] wx fun e w' => e = .returned (.int .i64 0) ∧ w' = wx) := Lib.hid (fun wx D mb g hw => c_roomX hw (blk_cell hw.swapR.out4.blk 0 rfl) h16)
  have CFI : Hid (∀ wx D mb g, Own w0 wx (VX d z l ml st D mb [] (Star (ik g (minI (inoV [] z st k))) (Star (volA V l) R))) → wx.heap[g]? = some (.cells (inoL (minI (inoV [] z st k))).toArray 132) ∧ Calls Tryz.prog 70 #[.pointer (some ⟨D, 0, none⟩), .agg (inoL (minI (inoV [] z st k))).toArray] wx fun e w' => e = .returned (.agg (filL (fileV [] z st (minI (inoV [] z st k)))).toArray) ∧ Own w0 w' (VX d z l ml st D mb [] (Star (ik g (minI (inoV [] z st k))) (Star (volA V l) R)))) := Lib.hid (fun wx D mb g hw => ⟨hw.out4.blk, c_vfile hw (hsI _ _) hz hst _ hx6 hpm⟩)
  have HB2 : Hid (∀ wx D mb g, Own w0 wx (VX d z l ml st D mb [] (Star (ik g (minI (inoV [] z st k))) (Star (volA V l) R))) → (wx.alloc (.cells (filL f0).toArray 137)).heap[wx.heap.size]? = some (.cells (filL f0).toArray 137) ∧ Own w0 ((wx.alloc (.cells (filL f0).toArray 137)).setRow wx.heap.size (filL (fileV [] z st (minI (inoV [] z st k)))).toArray) (VX d z l ml st D mb [] (Star (fk wx.heap.size (fileV [] z st (minI (inoV [] z st k)))) (Star (ik g (minI (inoV [] z st k))) (Star (volA V l) R))))) := Lib.hid (fun wx D mb g hw => own_fil hw (hsI _ _) _)
  have CSH : Hid (∀ wx D mb g G, Own w0 wx (VX d z l ml st D mb [] (Star (fk G (fileV [] z st (minI (inoV [] z st k)))) (Star (ik g (minI (inoV [] z st k))) (Star (volA V l) R)))) → Calls Tryz.prog 82 #[.pointer (some ⟨D, 0, none⟩), .pointer (some ⟨G, 0, none⟩), .int .i64 0] wx fun e w' => e = .returned (.tuple #[]) ∧ Own w0 w' (VX d z l ml st D mb (putS 0 ⟨(shF (rowL [] z st 0) (fileV [] z st (minI (inoV [] z st k))) 0).1.toArray⟩ []) (Star (fk G (shF (rowL [] z st 0) (fileV [] z st (minI (inoV [] z st k))) 0).2) (Star (ik g (minI (inoV [] z st k))) (Star (volA V l) R))))) := Lib.hid (fun wx D mb g G hw => c_vshrink hw (hsI _ _) hz hst (by simp) hx6 h37 hsz 0 (Nat.zero_le _) ha (by have : (fileV [] z st (minI (inoV [] z st k))).ino.pl.getD 5 0 < n := hpm; omega))
  have CPI : Hid (∀ wx D mb g G f, Own w0 wx (VX d z l ml st D mb (putS 0 ⟨(shF (rowL [] z st 0) (fileV [] z st (minI (inoV [] z st k))) 0).1.toArray⟩ []) (Star (fk G f) (Star (ik g (minI (inoV [] z st k))) (Star (volA V l) R)))) → Calls Tryz.prog 76 #[.pointer (some ⟨D, 0, none⟩), .int .i64 (k : Int), .agg (inoL i0).toArray] wx fun e w' => e = .returned (.tuple #[]) ∧ Own w0 w' (VX d z l ml st D mb (freeR z st k) (Star (fk G f) (Star (ik g (minI (inoV [] z st k))) (Star (volA V l) R))))) := Lib.hid (fun wx D mb g G f hw => c_vputInode hw (hsF _ _ _ _) hz hst (by simp [putS]) k hk i0 ok_i0)
  have CSG : Hid (∀ wx D mb g G f, Own w0 wx (VX d z l ml st D mb (freeR z st k) (Star (fk G f) (Star (ik g (minI (inoV [] z st k))) (Star (volA V l) R)))) → Calls Tryz.prog 77 #[.pointer (some ⟨D, 0, none⟩)] wx fun e w' => e = .returned (.int .i64 (stgF z.safe.length (strikeS z st (freeR z st k)) st).1) ∧ Own w0 w' (VL d z l ml (stgF z.safe.length (strikeS z st (freeR z st k)) st).2 V R)) := Lib.hid (fun wx D mb g G f hw => (c_stage hw (hsF _ _ _ _) hz hst (keys_two (by omega) hk) (by
    have h1 := putS_len ((1 + k / 4 : Nat) : Int) ⟨(frI (rowL (putS 0 ⟨(shF (rowL [] z st 0) (fileV [] z st (minI (inoV [] z st k))) 0).1.toArray⟩ []) z st (1 + k / 4)) (k % 4 * 16) i0).toArray⟩ (putS 0 ⟨(shF (rowL [] z st 0) (fileV [] z st (minI (inoV [] z st k))) 0).1.toArray⟩ [])
    have h2 := putS_len 0 ⟨(shF (rowL [] z st 0) (fileV [] z st (minI (inoV [] z st k))) 0).1.toArray⟩ []
    have h3 : ([] : List (Int × ByteArray)).length = 0 := rfl
    show (putS _ _ _).length ≤ 100
    omega)).mono (by
    rintro e w' ⟨rfl, h2⟩
    exact ⟨rfl, own_drop (own_drop h2)⟩))
  have HC1 := Lib.hid (ino_infoX i0 rfl)
  have HM1 := Lib.hid (ino_infoX (minI (inoV [] z st k)) hx6)
  have HM2 := Lib.hid (ino_one (minI (inoV [] z st k)))
  have HM3 : Hid ((inoL i0).toArray.size = (inoL (minI (inoV [] z st k))).toArray.size) := Lib.hid (by rw [ino_size _ hx6]; rfl)
  have HF1 := Lib.hid (fil_infoX (f := fileV [] z st (minI (inoV [] z st k))) hx6 h37)
  have HF2 := Lib.hid (fil_one (fileV [] z st (minI (inoV [] z st k))))
  have HF3 : Hid ((filL f0).toArray.size = (filL (fileV [] z st (minI (inoV [] z st k)))).toArray.size) := Lib.hid (by rw [List.size_toArray, List.size_toArray, fil_len (f := fileV [] z st (minI (inoV [] z st k))) hx6 h37]; rfl)
  unfold TakeP at CT
  clear h hs hz hst hk hkd hp ha hx6 h37 hpm hsz hsY hsI hsF h16 hlo hhi
  generalize minI (inoV [] z st k) = X at *
  generalize fileV [] z st X = FF at *
  generalize shF (rowL [] z st 0) FF 0 = SF at *
  generalize freeR z st k = R2 at *
  generalize stgF z.safe.length (strikeS z st R2) st = q at *
  obtain ⟨q1, q2⟩ := q
  dsimp only at *
  go_enter Tryz.func37, Tryz.ntmps37
  go_upto_region 2 with (first
    | (go_at_call 68; refine CT.out.mono ?_; rintro e w2 ⟨D, mb, rfl, h2⟩; have H2 := Lib.hid h2; clear h2)
    | (refine wpList_alloc_blk rfl 132 (inoL i0).toArray rfl (ino_zero _) ?_)
    | (refine wpList_store_row rfl _ _ _ rfl w2.heap.size (inoL X).toArray rfl rfl _ _ (HB1.out _ _ _ H2.out).1 HM1.out HM3.out HM2.out ?_))
  have H3 := Lib.hid (HB1.out _ _ _ H2.out).2
  clear HB1 CT
  generalize (World.setRow _ _ _) = w3 at *
  generalize w2.heap.size = g at *
  clear H2
  obtain ⟨b3, cf⟩ := CFI.out _ _ _ _ H3.out
  have CF := Lib.hid cf
  have CR := Lib.hid (CRM.out _ _ _ _ H3.out)
  clear CFI CRM cf
  go_upto_region 7 with (first
    | (go_at_call 74; refine CR.out.mono ?_; rintro e w' ⟨rfl, hw'⟩; rw [hw']; clear hw' w')
    | (refine wpList_load_row rfl _ _ rfl g rfl _ (inoL X).toArray (0, 0) _ b3 Tryz.underlying132 rfl HM1.out ?_)
    | (go_at_call 70; refine CF.out.mono ?_; rintro e w4 ⟨rfl, h4⟩; have H4 := Lib.hid h4; clear h4)
    | (refine wpList_alloc_blk rfl 137 (filL f0).toArray rfl (fil_zero _) ?_)
    | (refine wpList_store_row rfl _ _ _ rfl w4.heap.size (filL FF).toArray rfl rfl _ _ (HB2.out _ _ _ _ H4.out).1 HF1.out HF3.out HF2.out ?_))
  have H5 := Lib.hid (HB2.out _ _ _ _ H4.out).2
  clear HB2 b3 CF CR H3
  generalize (World.setRow _ _ _) = w5 at *
  generalize w4.heap.size = G at *
  clear H4
  have CS2 := Lib.hid (CSH.out _ _ _ _ _ H5.out)
  clear CSH
  go_wp2_with (first
    | (go_at_call 82; refine CS2.out.mono ?_; rintro e w6 ⟨rfl, h6⟩; have H6 := Lib.hid h6; clear h6)
    | (refine wpList_build0 rfl 132 rfl (inoL i0).toArray (by kernel_rfl) ?_)
    | (go_at_call 76; refine (CPI.out _ _ _ _ _ _ H6.out).mono ?_; rintro e w7 ⟨rfl, h7⟩; have H7 := Lib.hid h7; clear h7)
    | (go_at_call 77; refine (CSG.out _ _ _ _ _ _ H7.out).mono ?_; rintro e w8 ⟨rfl, h8⟩; have H8 := Lib.hid h8; clear h8))
  go_ret
  exact ⟨rfl, H8.out⟩
end
end Go.Proofs.YtlpcccpagmipnaaGreat.P
namespace Go.Proofs.YtlpcccpagmipnaaGreat.P
open Go.RowKit Go.ChangeMaps Go.MapKept
section
variable {w0 w : World} {d : Nat} {z : DState} {l ml V D mb : Nat} {st : List (Int × ByteArray)} {n : Nat} {R Y : Asn}
/-- What Cut is about to stage. -/
def cutR (z : DState) (st : List (Int × ByteArray)) (k size : Nat) : List (Int × ByteArray) := putF (putS 0 ⟨(shF (rowL [] z st 0) (fileV [] z st (minI (inoV [] z st k))) size).1.toArray⟩ []) z st k (shF (rowL [] z st 0) (fileV [] z st (minI (inoV [] z st k))) size).2
theorem mem_putF {rows : List (Int × ByteArray)} {z : DState} {st : List (Int × ByteArray)} {k : Nat} {f : Fil} {x : Int × ByteArray} (hx : x ∈ putF rows z st k f) : x.1 = ((1 + k / 4 : Nat) : Int) ∨ x.1 = ((f.ino.pl.getD 5 0 : Nat) : Int) ∨ x ∈ rows := by
  unfold putF putR at hx
  rcases mem_putS hx with e | e
  · rw [e]; exact .inl rfl
  · unfold putF1 at e
    cases hb : decide (f.ino.pl.getD 5 0 = 0) with
    | true => rw [hb] at e; exact .inr (.inr e)
    | false =>
      rw [hb] at e
      rcases mem_putS e with e2 | e2
      · rw [e2]; exact .inr (.inl rfl)
      · exact .inr (.inr e2)
theorem putF_len (rows : List (Int × ByteArray)) (z : DState) (st : List (Int × ByteArray)) (k : Nat) (f : Fil) : (putF rows z st k f).length ≤ rows.length + 2 := by
  unfold putF putR
  have h1 := putS_len ((1 + k / 4 : Nat) : Int) ⟨(frI (rowL (putF1 rows f) z st (1 + k / 4)) (k % 4 * 16) (pI f)).toArray⟩ (putF1 rows f)
  have h2 : (putF1 rows f).length ≤ rows.length + 1 := by
    unfold putF1
    cases decide (f.ino.pl.getD 5 0 = 0) with
    | true => exact Nat.le_succ _
    | false => exact putS_len _ _ _
  omega
theorem cut_keys {n k size : Nat} (hn : 16 ≤ n) (hk : k < 32) (hp5 : (shF (rowL [] z st 0) (fileV [] z st (minI (inoV [] z st k))) size).2.ino.pl.getD 5 0 < n) : ∀ x ∈ cutR z st k size, 0 ≤ x.1 ∧ x.1 < (n : Int) := fun x hx => by
  rcases mem_putF hx with e | e | e
  · rw [e]; omega
  · rw [e]; omega
  · rcases mem_putS e with e | e
    · rw [e]
      exact ⟨by show (0 : Int) ≤ 0; omega, by show (0 : Int) < _; omega⟩
    · cases e
theorem cut_len (z : DState) (st : List (Int × ByteArray)) (k size : Nat) : (cutR z st k size).length ≤ 100 := by
  have h1 := putF_len (putS 0 ⟨(shF (rowL [] z st 0) (fileV [] z st (minI (inoV [] z st k))) size).1.toArray⟩ []) z st k (shF (rowL [] z st 0) (fileV [] z st (minI (inoV [] z st k))) size).2
  have h2 := putS_len 0 ⟨(shF (rowL [] z st 0) (fileV [] z st (minI (inoV [] z st k))) size).1.toArray⟩ []
  have h3 : ([] : List (Int × ByteArray)).length = 0 := rfl
  unfold cutR
  omega
set_option maxHeartbeats 6400000 in
theorem c_vcut (h : Own w0 w (VL d z l ml st V R)) (hs : Stable R) (hz : LI z n) (hst : okSt (n + 32) st) (h16 : st.length ≤ 16) (k : Nat) (hk : k < 32) (size : Nat) (hkd : ¬ (inoV [] z st k).kind = 0)
    (hle : size ≤ min (inoV [] z st k).size 2368) (hok : okF (shF (rowL [] z st 0) (fileV [] z st (minI (inoV [] z st k))) size).2) (hp5 : (shF (rowL [] z st 0) (fileV [] z st (minI (inoV [] z st k))) size).2.ino.pl.getD 5 0 < n)
    (hp : (inoV [] z st k).pl.getD 5 0 < n) (ha : ∀ j, j < cntN (min (inoV [] z st k).size 2368) → (fileV [] z st (minI (inoV [] z st k))).all.getD j 0 < 512) :
    Calls Tryz.prog 39 #[.pointer (some ⟨V, 0, none⟩), .int .i64 (k : Int), .int .i64 (size : Int)] w fun e w' => e = .returned (.int .i64 (stgF z.safe.length (strikeS z st (cutR z st k size)) st).1) ∧ Own w0 w' (VL d z l ml (stgF z.safe.length (strikeS z st (cutR z st k size)) st).2 V R) := by
  have hlo := hz.lo
  have hhi := hz.hi
  have hx6 : (minI (inoV [] z st k)).pl.length = 6 := inoV_len [] z st k
  have h37 := fileV_len [] z st hx6
  have hpm : (minI (inoV [] z st k)).pl.getD 5 0 < n := hp
  have hsz : (minI (inoV [] z st k)).size ≤ 2368 := Nat.min_le_right _ _
  have hsY : Stable (Star (volA V l) R) := stable_star (stable_blk _ _) hs
  have hsI : ∀ g x, Stable (Star (ik g x) (Star (volA V l) R)) := fun g x => stable_star (stable_blk _ _) hsY
  have hsF : ∀ G f g x, Stable (Star (fk G f) (Star (ik g x) (Star (volA V l) R))) := fun G f g x => stable_star (stable_blk _ _) (hsI g x)
  have CT := Lib.hid (c_take_ok h hs hz hst k hk hkd)
  have HB1 : Hid (∀ wx D mb, Own w0 wx (VX d z l ml st D mb [] (Star (volA V l) R)) → (wx.alloc (.cells (inoL i0).toArray 132)).heap[wx.heap.size]? = some (.cells (inoL i0).toArray 132) ∧ Own w0 ((wx.alloc (.cells (inoL i0).toArray 132)).setRow wx.heap.size (inoL (minI (inoV [] z st k))).toArray) (VX d z l ml st D mb [] (Star (ik wx.heap.size (minI (inoV [] z st k))) (Star (volA V l) R)))) := Lib.hid (fun wx D mb hw => own_ino hw hsY _)
  have CRM : Hid (∀ wx D mb g, Own w0 wx (VX d z l ml st D mb [] (Star (ik g (minI (inoV [] z st k))) (Star (volA V l) R))) → Calls Tryz.prog 74 #[.pointer (some ⟨V, 0, none⟩)] wx fun e w' => e = .returned (.int .i64 0) ∧ w' = wx) := Lib.hid (fun wx D mb g hw => c_roomX hw (blk_cell hw.swapR.out4.blk 0 rfl) h16)
  have CFI : Hid (∀ wx D mb g, Own w0 wx (VX d z l ml st D mb [] (Star (ik g (minI (inoV [] z st k))) (Star (volA V l) R))) → wx.heap[g]? = some (.cells (inoL (minI (inoV [] z st k))).toArray 132) ∧ Calls Tryz.prog 70 #[.pointer (some ⟨D, 0, none⟩), .agg (inoL (minI (inoV [] z st k))).toArray] wx fun e w' => e = .returned (.agg (filL (fileV [] z st (minI (inoV [] z st k)))).toArray) ∧ Own w0 w' (VX d z l ml st D mb [] (Star (ik g (minI (inoV [] z st k))) (Star (volA V l) R)))) := Lib.hid (fun wx D mb g hw => ⟨hw.out4.blk, c_vfile hw (hsI _ _) hz hst _ hx6 hpm⟩)
  have HB2 : Hid (∀ wx D mb g, Own w0 wx (VX d z l ml st D mb [] (Star (ik g (minI (inoV [] z st k))) (Star (volA V l) R))) → (wx.alloc (.cells (filL f0).toArray 137)).heap[wx.heap.size]? = some (.cells (filL f0).toArray 137) ∧ Own w0 ((wx.alloc (.cells (filL f0).toArray 137)).setRow wx.heap.size (filL (fileV [] z st (minI (inoV [] z st k)))).toArray) (VX d z l ml st D mb [] (Star (fk wx.heap.size (fileV [] z st (minI (inoV [] z st k)))) (Star (ik g (minI (inoV [] z st k))) (Star (volA V l) R))))) := Lib.hid (fun wx D mb g hw => own_fil hw (hsI _ _) _)
  have CSH : Hid (∀ wx D mb g G, Own w0 wx (VX d z l ml st D mb [] (Star (fk G (fileV [] z st (minI (inoV [] z st k)))) (Star (ik g (minI (inoV [] z st k))) (Star (volA V l) R)))) → Calls Tryz.prog 82 #[.pointer (some ⟨D, 0, none⟩), .pointer (some ⟨G, 0, none⟩), .int .i64 (size : Int)] wx fun e w' => e = .returned (.tuple #[]) ∧ Own w0 w' (VX d z l ml st D mb (putS 0 ⟨(shF (rowL [] z st 0) (fileV [] z st (minI (inoV [] z st k))) size).1.toArray⟩ []) (Star (fk G (shF (rowL [] z st 0) (fileV [] z st (minI (inoV [] z st k))) size).2) (Star (ik g (minI (inoV [] z st k))) (Star (volA V l) R))))) := Lib.hid (fun wx D mb g G hw => c_vshrink hw (hsI _ _) hz hst (by simp) hx6 h37 hsz size hle ha (by have : (fileV [] z st (minI (inoV [] z st k))).ino.pl.getD 5 0 < n := hpm; omega))
  have CPI : Hid (∀ wx D mb g G, Own w0 wx (VX d z l ml st D mb (putS 0 ⟨(shF (rowL [] z st 0) (fileV [] z st (minI (inoV [] z st k))) size).1.toArray⟩ []) (Star (fk G (shF (rowL [] z st 0) (fileV [] z st (minI (inoV [] z st k))) size).2) (Star (ik g (minI (inoV [] z st k))) (Star (volA V l) R)))) → wx.heap[G]? = some (.cells (filL (shF (rowL [] z st 0) (fileV [] z st (minI (inoV [] z st k))) size).2).toArray 137) ∧ Calls Tryz.prog 81 #[.pointer (some ⟨D, 0, none⟩), .int .i64 (k : Int), .agg (filL (shF (rowL [] z st 0) (fileV [] z st (minI (inoV [] z st k))) size).2).toArray] wx fun e w' => e = .returned (.tuple #[]) ∧ Own w0 w' (VX d z l ml st D mb (cutR z st k size) (Star (fk G (shF (rowL [] z st 0) (fileV [] z st (minI (inoV [] z st k))) size).2) (Star (ik g (minI (inoV [] z st k))) (Star (volA V l) R))))) := Lib.hid (fun wx D mb g G hw => ⟨hw.out4.blk, c_vputFile hw (hsF _ _ _ _) hz hst (by simp [putS]) k hk _ hok hp5⟩)
  have CC : Hid (∀ wx D mb g, Own w0 wx (VX d z l ml st D mb [] (Star (ik g (minI (inoV [] z st k))) (Star (volA V l) R))) → wx.cell? ⟨g, 2, none⟩ = some (.int .i64 ((minI (inoV [] z st k)).size : Int))) := Lib.hid (fun wx D mb g hw => blk_cell hw.out4.blk 2 rfl)
  have hge : ¬ (size : Int) < 0 := by omega
  have hgt : ¬ ((minI (inoV [] z st k)).size : Int) < (size : Int) := by
    have : size ≤ (minI (inoV [] z st k)).size := hle
    omega
  have CSG : Hid (∀ wx D mb g G f, Own w0 wx (VX d z l ml st D mb (cutR z st k size) (Star (fk G f) (Star (ik g (minI (inoV [] z st k))) (Star (volA V l) R)))) → Calls Tryz.prog 77 #[.pointer (some ⟨D, 0, none⟩)] wx fun e w' => e = .returned (.int .i64 (stgF z.safe.length (strikeS z st (cutR z st k size)) st).1) ∧ Own w0 w' (VL d z l ml (stgF z.safe.length (strikeS z st (cutR z st k size)) st).2 V R)) := Lib.hid (fun wx D mb g G f hw => (c_stage hw (hsF _ _ _ _) hz hst (cut_keys hlo hk hp5) (cut_len z st k size)).mono (by
    rintro e w' ⟨rfl, h2⟩
    exact ⟨rfl, own_drop (own_drop h2)⟩))
  have HG1 := Lib.hid (fil_infoX (f := (shF (rowL [] z st 0) (fileV [] z st (minI (inoV [] z st k))) size).2) hok.1 hok.2.1)
  have HM1 := Lib.hid (ino_infoX (minI (inoV [] z st k)) hx6)
  have HM2 := Lib.hid (ino_one (minI (inoV [] z st k)))
  have HM3 : Hid ((inoL i0).toArray.size = (inoL (minI (inoV [] z st k))).toArray.size) := Lib.hid (by rw [ino_size _ hx6]; rfl)
  have HF1 := Lib.hid (fil_infoX (f := fileV [] z st (minI (inoV [] z st k))) hx6 h37)
  have HF2 := Lib.hid (fil_one (fileV [] z st (minI (inoV [] z st k))))
  have HF3 : Hid ((filL f0).toArray.size = (filL (fileV [] z st (minI (inoV [] z st k)))).toArray.size) := Lib.hid (by rw [List.size_toArray, List.size_toArray, fil_len (f := fileV [] z st (minI (inoV [] z st k))) hx6 h37]; rfl)
  unfold TakeP at CT
  clear h hs hz hst hk hkd hp ha hle hok hp5 hx6 h37 hpm hsz hsY hsI hsF h16 hlo hhi
  generalize minI (inoV [] z st k) = X at *
  generalize fileV [] z st X = FF at *
  generalize shF (rowL [] z st 0) FF size = SF at *
  generalize cutR z st k size = R2 at *
  generalize stgF z.safe.length (strikeS z st R2) st = q at *
  obtain ⟨q1, q2⟩ := q
  dsimp only at *
  go_enter Tryz.func39, Tryz.ntmps39
  go_upto_region 2 with (first
    | (go_at_call 68; refine CT.out.mono ?_; rintro e w2 ⟨D, mb, rfl, h2⟩; have H2 := Lib.hid h2; clear h2)
    | (refine wpList_alloc_blk rfl 132 (inoL i0).toArray rfl (ino_zero _) ?_)
    | (refine wpList_store_row rfl _ _ _ rfl w2.heap.size (inoL X).toArray rfl rfl _ _ (HB1.out _ _ _ H2.out).1 HM1.out HM3.out HM2.out ?_))
  have H3 := Lib.hid (HB1.out _ _ _ H2.out).2
  clear HB1 CT
  generalize (World.setRow _ _ _) = w3 at *
  generalize w2.heap.size = g at *
  clear H2
  have cz := CC.out _ _ _ _ H3.out
  clear CC
  obtain ⟨b3, cf⟩ := CFI.out _ _ _ _ H3.out
  have CF := Lib.hid cf
  have CR := Lib.hid (CRM.out _ _ _ _ H3.out)
  clear CFI CRM cf
  go_upto_region 10 with (first
    | (go_at_call 74; refine CR.out.mono ?_; rintro e w' ⟨rfl, hw'⟩; rw [hw']; clear hw' w')
    | (refine wpList_load_row rfl _ _ rfl g rfl _ (inoL X).toArray (0, 0) _ b3 Tryz.underlying132 rfl HM1.out ?_)
    | (go_at_call 70; refine CF.out.mono ?_; rintro e w4 ⟨rfl, h4⟩; have H4 := Lib.hid h4; clear h4)
    | (refine wpList_alloc_blk rfl 137 (filL f0).toArray rfl (fil_zero _) ?_)
    | (refine wpList_store_row rfl _ _ _ rfl w4.heap.size (filL FF).toArray rfl rfl _ _ (HB2.out _ _ _ _ H4.out).1 HF1.out HF3.out HF2.out ?_))
  have H5 := Lib.hid (HB2.out _ _ _ _ H4.out).2
  clear HB2 b3 CF CR H3
  generalize (World.setRow _ _ _) = w5 at *
  generalize w4.heap.size = G at *
  clear H4
  have CS2 := Lib.hid (CSH.out _ _ _ _ _ H5.out)
  clear CSH
  go_upto_region 11 with (go_at_call 82; refine CS2.out.mono ?_; rintro e w6 ⟨rfl, h6⟩; have H6 := Lib.hid h6; clear h6)
  obtain ⟨b6, cp⟩ := CPI.out _ _ _ _ _ H6.out
  have CP := Lib.hid cp
  clear CPI cp CS2
  go_wp2_with (first
    | (refine wpList_load_row rfl _ _ rfl G rfl _ (filL SF.2).toArray (0, 0) _ b6 Tryz.underlying137 rfl HG1.out ?_)
    | (go_at_call 81; refine CP.out.mono ?_; rintro e w7 ⟨rfl, h7⟩; have H7 := Lib.hid h7; clear h7)
    | (go_at_call 77; refine (CSG.out _ _ _ _ _ _ H7.out).mono ?_; rintro e w8 ⟨rfl, h8⟩; have H8 := Lib.hid h8; clear h8))
  go_ret
  exact ⟨rfl, H8.out⟩
end
end Go.Proofs.YtlpcccpagmipnaaGreat.P
namespace Go.Proofs.YtlpcccpagmipnaaGreat.P
open Go.RowKit Go.ChangeMaps Go.MapKept
def linkI (x : Ino) (lk : Nat) : Ino := { x with links := lk }
theorem link_set (x : Ino) (lk : Nat) : (inoL x).toArray.setIfInBounds 1 (.int .i64 (lk : Int)) = (inoL (linkI x lk)).toArray := by
  rw [List.setIfInBounds_toArray]
  rfl
section
variable {w0 w : World} {d : Nat} {z : DState} {l ml V D mb : Nat} {st : List (Int × ByteArray)} {n : Nat} {R Y : Asn}
/-- What Link is about to stage. -/
def linkR (z : DState) (st : List (Int × ByteArray)) (k lk : Nat) : List (Int × ByteArray) := putR [] z st k (linkI (minI (inoV [] z st k)) lk)
set_option maxHeartbeats 6400000 in
theorem c_vlink (h : Own w0 w (VL d z l ml st V R)) (hs : Stable R) (hz : LI z n) (hst : okSt (n + 32) st) (h16 : st.length ≤ 16) (k : Nat) (hk : k < 32) (lk : Nat) (by_ : Int) (hby : ((inoV [] z st k).links : Int) + by_ = (lk : Int)) (hlk : lk ≤ 255) (hl0 : (inoV [] z st k).links ≤ 255) (hok : okI (linkI (minI (inoV [] z st k)) lk)) (hkd : ¬ (inoV [] z st k).kind = 0) :
    Calls Tryz.prog 38 #[.pointer (some ⟨V, 0, none⟩), .int .i64 (k : Int), .int .i64 by_] w fun e w' => e = .returned (.int .i64 (stgF z.safe.length (strikeS z st (linkR z st k lk)) st).1) ∧ Own w0 w' (VL d z l ml (stgF z.safe.length (strikeS z st (linkR z st k lk)) st).2 V R) := by
  have hlo := hz.lo
  have hhi := hz.hi
  have hx6 : (minI (inoV [] z st k)).pl.length = 6 := inoV_len [] z st k
  have hml : (minI (inoV [] z st k)).links ≤ 255 := hl0
  have hmb : ((minI (inoV [] z st k)).links : Int) + by_ = (lk : Int) := hby
  have hsY : Stable (Star (volA V l) R) := stable_star (stable_blk _ _) hs
  have hsI : ∀ g x, Stable (Star (ik g x) (Star (volA V l) R)) := fun g x => stable_star (stable_blk _ _) hsY
  have CT := Lib.hid (c_take_ok h hs hz hst k hk hkd)
  have HB1 : Hid (∀ wx D mb, Own w0 wx (VX d z l ml st D mb [] (Star (volA V l) R)) → (wx.alloc (.cells (inoL i0).toArray 132)).heap[wx.heap.size]? = some (.cells (inoL i0).toArray 132) ∧ Own w0 ((wx.alloc (.cells (inoL i0).toArray 132)).setRow wx.heap.size (inoL (minI (inoV [] z st k))).toArray) (VX d z l ml st D mb [] (Star (ik wx.heap.size (minI (inoV [] z st k))) (Star (volA V l) R)))) := Lib.hid (fun wx D mb hw => own_ino hw hsY _)
  have CRM : Hid (∀ wx D mb g, Own w0 wx (VX d z l ml st D mb [] (Star (ik g (minI (inoV [] z st k))) (Star (volA V l) R))) → Calls Tryz.prog 74 #[.pointer (some ⟨V, 0, none⟩)] wx fun e w' => e = .returned (.int .i64 0) ∧ w' = wx) := Lib.hid (fun wx D mb g hw => c_roomX hw (blk_cell hw.swapR.out4.blk 0 rfl) h16)
  have CC : Hid (∀ wx D mb g, Own w0 wx (VX d z l ml st D mb [] (Star (ik g (minI (inoV [] z st k))) (Star (volA V l) R))) → (wx.cell? ⟨g, 1, none⟩ = some (.int .i64 ((minI (inoV [] z st k)).links : Int)) ∧ wx.frozen? ⟨g, 1, none⟩ = false) ∧ Own w0 (wx.setCell ⟨g, 1, none⟩ (.int .i64 (lk : Int))) (VX d z l ml st D mb [] (Star (ik g (linkI (minI (inoV [] z st k)) lk)) (Star (volA V l) R)))) := Lib.hid (fun wx D mb g hw => ⟨⟨blk_cell hw.out4.blk 1 rfl, blk_frozen hw.out4.blk 1⟩, (hw.out4.put8 (stable_vx hsY) 1 (.int .i64 (lk : Int)) _ (link_set _ _)).in4⟩)
  have CPI : Hid (∀ wx D mb g, Own w0 wx (VX d z l ml st D mb [] (Star (ik g (linkI (minI (inoV [] z st k)) lk)) (Star (volA V l) R))) → wx.heap[g]? = some (.cells (inoL (linkI (minI (inoV [] z st k)) lk)).toArray 132) ∧ Calls Tryz.prog 76 #[.pointer (some ⟨D, 0, none⟩), .int .i64 (k : Int), .agg (inoL (linkI (minI (inoV [] z st k)) lk)).toArray] wx fun e w' => e = .returned (.tuple #[]) ∧ Own w0 w' (VX d z l ml st D mb (linkR z st k lk) (Star (ik g (linkI (minI (inoV [] z st k)) lk)) (Star (volA V l) R)))) := Lib.hid (fun wx D mb g hw => ⟨hw.out4.blk, c_vputInode hw (hsI _ _) hz hst (by simp) k hk _ hok⟩)
  have CSG : Hid (∀ wx D mb g x, Own w0 wx (VX d z l ml st D mb (linkR z st k lk) (Star (ik g x) (Star (volA V l) R))) → Calls Tryz.prog 77 #[.pointer (some ⟨D, 0, none⟩)] wx fun e w' => e = .returned (.int .i64 (stgF z.safe.length (strikeS z st (linkR z st k lk)) st).1) ∧ Own w0 w' (VL d z l ml (stgF z.safe.length (strikeS z st (linkR z st k lk)) st).2 V R)) := Lib.hid (fun wx D mb g x hw => (c_stage hw (hsI _ _) hz hst (fun x hx => by
    rcases mem_putS hx with e | e
    · rw [e]; exact ⟨by show (0 : Int) ≤ ((1 + k / 4 : Nat) : Int); omega, by show ((1 + k / 4 : Nat) : Int) < _; omega⟩
    · cases e) (by
    have h1 := putS_len ((1 + k / 4 : Nat) : Int) ⟨(frI (rowL [] z st (1 + k / 4)) (k % 4 * 16) (linkI (minI (inoV [] z st k)) lk)).toArray⟩ []
    have h3 : ([] : List (Int × ByteArray)).length = 0 := rfl
    show (putS _ _ _).length ≤ 100
    omega)).mono (by
    rintro e w' ⟨rfl, h2⟩
    exact ⟨rfl, own_drop h2⟩))
  have HC1 := Lib.hid (ino_infoX i0 rfl)
  have HM1 := Lib.hid (ino_infoX (minI (inoV [] z st k)) hx6)
  have HM2 := Lib.hid (ino_one (minI (inoV [] z st k)))
  have HM3 : Hid ((inoL i0).toArray.size = (inoL (minI (inoV [] z st k))).toArray.size) := Lib.hid (by rw [ino_size _ hx6]; rfl)
  have HG1 := Lib.hid (ino_infoX (linkI (minI (inoV [] z st k)) lk) hx6)
  have k1 : ¬ by_ < -((minI (inoV [] z st k)).links : Int) := by omega
  have k2 : ¬ (255 : Int) - ((minI (inoV [] z st k)).links : Int) < by_ := by omega
  have n1 : IntKind.i64.wrap (-((minI (inoV [] z st k)).links : Int)) = -((minI (inoV [] z st k)).links : Int) := IntWalk.i64_in _ (by omega)
  have n2 : IntKind.i64.wrap (255 - ((minI (inoV [] z st k)).links : Int)) = 255 - ((minI (inoV [] z st k)).links : Int) := IntWalk.i64_in _ (by omega)
  have n3 : IntKind.i64.wrap (((minI (inoV [] z st k)).links : Int) + by_) = (lk : Int) := by rw [hmb]; exact IntWalk.i64_in _ (by omega)
  unfold TakeP at CT
  clear h hs hz hst hk hkd hx6 hsY hsI h16 hlo hhi hby hmb hlk hl0 hml hok
  generalize minI (inoV [] z st k) = X at *
  generalize linkR z st k lk = R2 at *
  generalize stgF z.safe.length (strikeS z st R2) st = q at *
  obtain ⟨q1, q2⟩ := q
  dsimp only at *
  go_enter Tryz.func38, Tryz.ntmps38
  go_upto_region 2 with (first
    | (go_at_call 68; refine CT.out.mono ?_; rintro e w2 ⟨D, mb, rfl, h2⟩; have H2 := Lib.hid h2; clear h2)
    | (refine wpList_alloc_blk rfl 132 (inoL i0).toArray rfl (ino_zero _) ?_)
    | (refine wpList_store_row rfl _ _ _ rfl w2.heap.size (inoL X).toArray rfl rfl _ _ (HB1.out _ _ _ H2.out).1 HM1.out HM3.out HM2.out ?_))
  have H3 := Lib.hid (HB1.out _ _ _ H2.out).2
  clear HB1 CT
  generalize (World.setRow _ _ _) = w3 at *
  generalize w2.heap.size = g at *
  clear H2
  obtain ⟨⟨c3, z3⟩, h4⟩ := CC.out _ _ _ _ H3.out
  have H4 := Lib.hid h4
  have CR := Lib.hid (CRM.out _ _ _ _ H3.out)
  clear CC CRM h4
  go_upto_region 10 with (go_at_call 74; refine CR.out.mono ?_; rintro e w' ⟨rfl, hw'⟩; rw [hw']; clear hw' w')
  clear c3 z3 CR H3
  generalize (World.setCell _ _ _) = w4 at *
  obtain ⟨b6, cp⟩ := CPI.out _ _ _ _ H4.out
  have CP := Lib.hid cp
  clear CPI cp
  generalize linkI X lk = X2 at *
  go_wp2_with (first
    | (refine wpList_load_row rfl _ _ rfl g rfl _ (inoL X2).toArray (0, 0) _ b6 Tryz.underlying132 rfl HG1.out ?_)
    | (go_at_call 76; refine CP.out.mono ?_; rintro e w7 ⟨rfl, h7⟩; have H7 := Lib.hid h7; clear h7)
    | (go_at_call 77; refine (CSG.out _ _ _ _ _ H7.out).mono ?_; rintro e w8 ⟨rfl, h8⟩; have H8 := Lib.hid h8; clear h8))
  go_ret
  exact ⟨rfl, H8.out⟩
end
end Go.Proofs.YtlpcccpagmipnaaGreat.P
namespace Go.Proofs.YtlpcccpagmipnaaGreat.P
open Go.RowKit Go.ChangeMaps Go.MapKept
theorem res_ct {fn : Func} {p u : Tmp} {ty : TypeId} (h : fn.results = #[.cell p ty, .tmp u]) {tmps : Array Value} {P : Program} {w : World} {g : Nat} {v : Value}
    (hp : tmps.getD p undef = .pointer (some ⟨g, 0, none⟩)) (hld : (loadVar ty ⟨g, 0, none⟩).run P w = .ok v w) :
    (results fn tmps).run P w = .ok (.tuple #[v, tmps.getD u undef]) w := by
  have hp' : tmps[p]?.getD undef = .pointer (some ⟨g, 0, none⟩) := by simpa using hp
  simp [results, h, hp', asAddr, hld]
def statL (x : Ino) : Array Value := #[.int .i64 (x.kind : Int), .int .i64 (x.links : Int), .int .i64 (x.size : Int)]
def stat0 : Array Value := #[.int .i64 0, .int .i64 0, .int .i64 0]
theorem stat_zero (w : World) : (zeroValue 56).run Tryz.prog w = .ok (.agg stat0) w := Tryz.zeroValue56 w
theorem stat_info (x : Ino) : (Tryz.prog.info? 56).map (·.size) = some (statL x).size := by
  show _ = some 3
  kernel_rfl
theorem stat_one (x : Ino) : (statL x).all (·.oneCell') = true := by simp [statL, Value.oneCell']
theorem ld_stat {w : World} {g : Nat} {C : Array Value} {t : TypeId} (h : w.heap[g]? = some (.cells C t)) (hi : (Tryz.prog.info? 56).map (·.size) = some C.size) : (loadVar 56 ⟨g, 0, none⟩).run Tryz.prog w = .ok (.agg C) w := run_loadVar_row w g t 56 C (0, 0) _ h Tryz.underlying56 rfl hi
section
variable {w0 w : World} {d : Nat} {z : DState} {l ml V D mb : Nat} {st : List (Int × ByteArray)} {n : Nat} {R Y : Asn}
set_option maxHeartbeats 6400000 in
theorem c_vstat (h : Own w0 w (VL d z l ml st V R)) (hs : Stable R) (hz : LI z n) (hst : okSt (n + 32) st) (k : Nat) (hk : k < 32) (hkd : ¬ (inoV [] z st k).kind = 0) :
    Calls Tryz.prog 31 #[.pointer (some ⟨V, 0, none⟩), .int .i64 (k : Int)] w fun e w' => e = .returned (.tuple #[.agg (statL (minI (inoV [] z st k))), .int .i64 0]) ∧ Own w0 w' (VL d z l ml st V R) := by
  have hx6 : (minI (inoV [] z st k)).pl.length = 6 := inoV_len [] z st k
  have hsV : Stable (Star (volA V l) R) := stable_star (stable_blk _ _) hs
  have H0 := h.alloc (stable_dl _ _ _ _ _ _ hsV) (.cells stat0 56)
  have H1 : Own w0 (w.alloc (.cells stat0 56)) (VL d z l ml st V (Star (blkA w.heap.size (.cells stat0 56)) R)) := H0.rot3'.mono fun F hF => star_mono_r (fun F h => star_mono_r (fun F h => star_swap2 h) h) hF
  have hs1 : Stable (Star (blkA w.heap.size (.cells stat0 56)) R) := stable_star (stable_blk _ _) hs
  have hsY : Stable (Star (volA V l) (Star (blkA w.heap.size (.cells stat0 56)) R)) := stable_star (stable_blk _ _) hs1
  have CT := Lib.hid (c_take_ok H1 hs1 hz hst k hk hkd)
  have HB1 : Hid (∀ wx D mb, Own w0 wx (VX d z l ml st D mb [] (Star (volA V l) (Star (blkA w.heap.size (.cells stat0 56)) R))) → (wx.alloc (.cells (inoL i0).toArray 132)).heap[wx.heap.size]? = some (.cells (inoL i0).toArray 132) ∧ Own w0 ((wx.alloc (.cells (inoL i0).toArray 132)).setRow wx.heap.size (inoL (minI (inoV [] z st k))).toArray) (VX d z l ml st D mb [] (Star (ik wx.heap.size (minI (inoV [] z st k))) (Star (volA V l) (Star (blkA w.heap.size (.cells stat0 56)) R))))) := Lib.hid (fun wx D mb hw => own_ino hw hsY _)
  have HE : Hid (∀ wx D mb g, Own w0 wx (VX d z l ml st D mb [] (Star (ik g (minI (inoV [] z st k))) (Star (volA V l) (Star (blkA w.heap.size (.cells stat0 56)) R)))) → (wx.cell? ⟨g, 0, none⟩ = some (.int .i64 ((minI (inoV [] z st k)).kind : Int)) ∧ wx.cell? ⟨g, 1, none⟩ = some (.int .i64 ((minI (inoV [] z st k)).links : Int)) ∧ wx.cell? ⟨g, 2, none⟩ = some (.int .i64 ((minI (inoV [] z st k)).size : Int))) ∧ wx.heap[w.heap.size]? = some (.cells stat0 56) ∧ (wx.setRow w.heap.size (statL (minI (inoV [] z st k)))).heap[w.heap.size]? = some (.cells (statL (minI (inoV [] z st k))) 56) ∧ Own w0 (wx.setRow w.heap.size (statL (minI (inoV [] z st k)))) (VL d z l ml st V R)) := Lib.hid (fun wx D mb g hw => by
    have hv : Own w0 wx (DL d z l ml st false (Star (volA V l) (Star (blkA w.heap.size (.cells stat0 56)) R))) := own_drop (own_drop hw.out4.right)
    have h1 : Own w0 wx (Star (blkA w.heap.size (.cells stat0 56)) (VL d z l ml st V R)) := Own.rot3 (hv.mono fun F hF => star_mono_r (fun F h => star_mono_r (fun F h => star_swap2 h) h) hF)
    have h2 := h1.setRow (stable_dl _ _ _ _ _ _ hsV) (statL (minI (inoV [] z st k)))
    exact ⟨⟨blk_cell hw.out4.blk 0 rfl, blk_cell hw.out4.blk 1 rfl, blk_cell hw.out4.blk 2 rfl⟩, h1.blk, h2.blk, h2.right⟩)
  have HM1 := Lib.hid (ino_infoX (minI (inoV [] z st k)) hx6)
  have HM2 := Lib.hid (ino_one (minI (inoV [] z st k)))
  have HM3 : Hid ((inoL i0).toArray.size = (inoL (minI (inoV [] z st k))).toArray.size) := Lib.hid (by rw [ino_size _ hx6]; rfl)
  have HS1 := Lib.hid (stat_info (minI (inoV [] z st k)))
  have HS2 := Lib.hid (stat_one (minI (inoV [] z st k)))
  have HS3 : Hid (stat0.size = (statL (minI (inoV [] z st k))).size) := Lib.hid rfl
  unfold TakeP at CT
  clear h hs hz hst hk hkd hx6 hsV H0 H1 hs1 hsY
  generalize minI (inoV [] z st k) = X at *
  go_enter Tryz.func31, Tryz.ntmps31
  go_upto_region 1 with (refine wpList_alloc_blk rfl 56 stat0 rfl (stat_zero _) ?_)
  generalize (World.alloc w _) = w1 at *
  generalize w.heap.size = s at *
  go_upto_region 2 with (first
    | (go_at_call 68; refine CT.out.mono ?_; rintro e w2 ⟨D, mb, rfl, h2⟩; have H2 := Lib.hid h2; clear h2)
    | (refine wpList_alloc_blk rfl 132 (inoL i0).toArray rfl (ino_zero _) ?_)
    | (refine wpList_store_row rfl _ _ _ rfl w2.heap.size (inoL X).toArray rfl rfl _ _ (HB1.out _ _ _ H2.out).1 HM1.out HM3.out HM2.out ?_))
  have H3 := Lib.hid (HB1.out _ _ _ H2.out).2
  clear HB1 CT
  generalize (World.setRow _ _ _) = w3 at *
  generalize w2.heap.size = g at *
  clear H2
  obtain ⟨⟨c0, c1, c2⟩, e1, e2, e3⟩ := HE.out _ _ _ _ H3.out
  have H4 := Lib.hid e3
  clear e3 HE H3
  go_wp2_with (refine wpList_store_row rfl _ _ _ rfl s (statL X) rfl rfl _ _ e1 HS1.out HS3.out HS2.out ?_)
  refine bodyPost_ret (res_ct rfl rfl (ld_stat e2 HS1.out)) rfl ?_
  exact ⟨rfl, H4.out⟩
end
end Go.Proofs.YtlpcccpagmipnaaGreat.P
namespace Go.Proofs.YtlpcccpagmipnaaGreat.P
open Go.RowKit Go.ChangeMaps Go.MapKept
section
variable {w0 w : World} {d : Nat} {z : DState} {l ml V D mb : Nat} {st : List (Int × ByteArray)} {n : Nat} {R Y : Asn}
set_option maxHeartbeats 6400000 in
theorem c_vroom (h : Own w0 w (VL d z l ml st V R)) (hs : Stable R) (hz : LI z n) (hst : okSt (n + 32) st) :
    Calls Tryz.prog 25 #[.pointer (some ⟨V, 0, none⟩)] w fun e w' => e = .returned (.tuple #[.int .i64 (freeN (rowL [] z st 0) n : Int), .int .i64 0]) ∧ Own w0 w' (VL d z l ml st V R) := by
  have hlo := hz.lo
  have hhi := hz.hi
  have hsV : Stable (Star (volA V l) R) := stable_star (stable_blk _ _) hs
  have CU := Lib.hid (c_usable h hs (by have := hst.2.1; omega))
  have CND : Hid (∀ wx, Own w0 wx (VL d z l ml st V R) → wx.cell? ⟨V, 0, none⟩ = some (.pointer (some ⟨l, 0, none⟩)) ∧ Calls Tryz.prog 57 #[.pointer (some ⟨l, 0, none⟩)] wx (NewDP w0 d z l ml st (Star (volA V l) R))) := Lib.hid (fun wx hw => ⟨vl_cell hw, c_newDraft hw hsV⟩)
  have CUS0 : Hid (∀ wx D mb, Own w0 wx (VX d z l ml st D mb [] (Star (volA V l) R)) → Calls Tryz.prog 60 #[.pointer (some ⟨D, 0, none⟩)] wx fun e w' => e = .returned (.agg (bcL (rowL [] z st 0))) ∧ Own w0 w' (VX d z l ml st D mb [] (Star (volA V l) R))) := Lib.hid (fun wx D mb hw => c_used hw hsV hz hst)
  have CHO0 : Hid (∀ wx D mb, Own w0 wx (VX d z l ml st D mb [] (Star (volA V l) R)) → Calls Tryz.prog 16 #[.pointer (some ⟨l, 0, none⟩)] wx fun e w' => e = .returned (.int .i64 (n : Int)) ∧ w' = wx) := Lib.hid (fun wx D mb hw => (o_home hw).mono (by
    rintro e w' ⟨rfl, rfl⟩
    rw [hz.len]
    exact ⟨ret_i (by omega), rfl⟩))
  have CFR0 : Hid (∀ wx D mb, Own w0 wx (VX d z l ml st D mb [] (Star (volA V l) R)) → Calls Tryz.prog 61 #[.agg (bcL (rowL [] z st 0)), .int .i64 (n : Int)] wx fun e w' => e = .returned (.int .i64 (freeN (rowL [] z st 0) n : Int)) ∧ Own w0 w' (VX d z l ml st D mb [] (Star (volA V l) R))) := Lib.hid (fun wx D mb hw => (c_bfree wx _ (rowL_len hw hz hst (i := 0) (by omega)).1 n hhi).mono (by
    rintro e w' ⟨rfl, g⟩
    exact ⟨rfl, hw.gr (stable_vx hsV) g⟩))
  have CE0 : Hid (∀ wx D mb, Own w0 wx (VX d z l ml st D mb [] (Star (volA V l) R)) → wx.cell? ⟨D, 2, none⟩ = some (.int .i64 0)) := Lib.hid (fun wx D mb hw => blk_cell (vx_map hw).1 2 rfl)
  have HOUT0 : Hid (∀ wx D mb, Own w0 wx (VX d z l ml st D mb [] (Star (volA V l) R)) → Own w0 wx (VL d z l ml st V R)) := Lib.hid (fun wx D mb hw => own_drop (own_drop hw))
  have HDR0 : Hid (∀ (wx : World) D mb, Own w0 wx (VX d z l ml st D mb [] (Star (volA V l) R)) → Own w0 wx.drew (VX d z l ml st D mb [] (Star (volA V l) R))) := Lib.hid (fun wx D mb hw => hw.drew (stable_vx hsV))
  clear h hs hz hst hsV hlo hhi
  generalize rowL [] z st 0 = LL at *
  generalize bcL LL = C at *
  go_enter Tryz.func25, Tryz.ntmps25
  go_upto_region 4 with (go_at_call 59; refine CU.out.mono ?_; rintro e w2 ⟨rfl, h2⟩; have H2 := Lib.hid h2; clear h2)
  obtain ⟨cV, cnd⟩ := CND.out _ H2.out
  have CN2 := Lib.hid cnd
  clear cnd CND CU
  go_upto_region 5 with (go_at_call 57; refine CN2.out.mono ?_; rintro e w3 ⟨D, mb, rfl, h3⟩; have H3 := Lib.hid h3; clear h3)
  clear CN2 cV H2
  have CUS := Lib.hid (fun wx => CUS0.out wx D mb)
  have CHO := Lib.hid (fun wx => CHO0.out wx D mb)
  have CFR := Lib.hid (fun wx => CFR0.out wx D mb)
  have CE := Lib.hid (fun wx => CE0.out wx D mb)
  have HOUT := Lib.hid (fun wx => HOUT0.out wx D mb)
  have HDR := Lib.hid (fun wx => HDR0.out wx D mb)
  clear CUS0 CHO0 CFR0 CE0 HOUT0 HDR0
  refine wp_region_held_drew (S := fun w' => Own w0 w' (VX d z l ml st D mb [] (Star (volA V l) R))) (by kernel_rfl) (HDR.out _ H3.out) (fun hH => ?_)
  have HD0 := Lib.hid (HDR.out _ H3.out)
  generalize w3.drew = wd at *
  try simp only [Act.put, List.setIfInBounds_toArray, List.set_cons_zero, List.set_cons_succ]
  refine wpAnyH_take (i := 0) (oi := { dst := some 17, op := Go.Op.move (Go.Operand.tmp 5), type := 114, pos := "vol.go:239", after := #[], guard := none }) (v := .pointer (some ⟨D, 0, none⟩)) rfl (by kernel_rfl) (by kernel_rfl) (by kernel_rfl) (fun _ _ _ h => h) (Or.inl ⟨by rfl, fun w' hS' => by first | rfl | (go_simp; done) | (go_simp; rfl)⟩) HD0.out ?_
  try simp only [Act.put, List.setIfInBounds_toArray, List.set_cons_zero, List.set_cons_succ]
  refine wpAnyH_take (i := 2) (oi := { dst := some 19, op := Go.Op.move (Go.Operand.tmp 0), type := 28, pos := "vol.go:239", after := #[], guard := none }) (v := .pointer (some ⟨V, 0, none⟩)) rfl (by kernel_rfl) (by kernel_rfl) (by kernel_rfl) (fun _ _ _ h => h) (Or.inl ⟨by rfl, fun w' hS' => by first | rfl | (go_simp; done) | (go_simp; rfl)⟩) HD0.out ?_
  try simp only [Act.put, List.setIfInBounds_toArray, List.set_cons_zero, List.set_cons_succ]
  refine wpAnyH_take (i := 3) (oi := { dst := some 20, op := Go.Op.nilCheck (Go.Operand.tmp 19), type := 0, pos := "vol.go:239", after := #[{ on := 2, ground := Go.Ground.data }], guard := none }) (v := .pointer (some ⟨V, 0, none⟩)) rfl (by kernel_rfl) (by kernel_rfl) (by kernel_rfl) (fun _ _ _ h => h) (Or.inl ⟨by rfl, fun w' hS' => by first | rfl | (go_simp; done) | (go_simp; rfl)⟩) HD0.out ?_
  try simp only [Act.put, List.setIfInBounds_toArray, List.set_cons_zero, List.set_cons_succ]
  refine wpAnyH_take (i := 4) (oi := { dst := some 21, op := Go.Op.fieldAddr 89 (Go.Operand.tmp 20) 0, type := 0, pos := "vol.go:239", after := #[{ on := 3, ground := Go.Ground.data }], guard := none }) (v := .pointer (some ⟨V, 0, none⟩)) rfl (by kernel_rfl) (by kernel_rfl) (by kernel_rfl) (fun _ _ _ h => h) (Or.inl ⟨by rfl, fun w' hS' => by first | rfl | (go_simp; done) | (go_simp; rfl)⟩) HD0.out ?_
  try simp only [Act.put, List.setIfInBounds_toArray, List.set_cons_zero, List.set_cons_succ]
  refine wpAnyH_take (i := 5) (oi := { dst := some 22, op := Go.Op.load 25 (Go.Operand.tmp 21), type := 25, pos := "vol.go:239", after := #[{ on := 4, ground := Go.Ground.data }], guard := none }) (v := .pointer (some ⟨l, 0, none⟩)) rfl (by kernel_rfl) (by kernel_rfl) (by kernel_rfl) (fun _ _ _ h => h) (Or.inl ⟨by rfl, fun w' hS' => by have c := blk_cell (Own.blk (Own.out4 hS')) 0 (v := .pointer (some ⟨l, 0, none⟩)) rfl; go_simp⟩) HD0.out ?_
  try simp only [Act.put, List.setIfInBounds_toArray, List.set_cons_zero, List.set_cons_succ]
  refine wpAnyH_ready (rs := [1]) (by kernel_rfl) (by simp) ?_
  refine AllReadyH.cons (o := { dst := some 18, op := Go.Op.call { callee := Go.Callee.value (Go.Operand.func 60), args := #[Go.Operand.tmp 17], argTypes := #[114] }, type := 84, pos := "vol.go:239", after := #[{ on := 0, ground := Go.Ground.data }], guard := none }) rfl (fun K' hK => ?_) AllReadyH.nil
  rw [if_pos (by rfl)]
  go_wp2_with (go_at_call 60; refine (CUS.out _ HD0.out).mono ?_; rintro e wa ⟨rfl, hu⟩; have HA := Lib.hid hu; clear hu)
  refine hK.out _ _ (HA.out) (fun hza => ?_)
  clear hK K'
  try simp only [Act.put, List.setIfInBounds_toArray, List.set_cons_zero, List.set_cons_succ]
  refine wpAnyH_ready (rs := [6]) (by kernel_rfl) (by simp) ?_
  refine AllReadyH.cons (o := { dst := some 23, op := Go.Op.call { callee := Go.Callee.value (Go.Operand.func 16), args := #[Go.Operand.tmp 22], argTypes := #[25] }, type := 3, pos := "vol.go:239", after := #[{ on := 5, ground := Go.Ground.data }, { on := 1, ground := Go.Ground.chain }], guard := none }) rfl (fun K' hK => ?_) AllReadyH.nil
  rw [if_pos (by rfl)]
  go_wp2_with (go_at_call 16; refine (CHO.out _ HA.out).mono ?_; rintro e w' ⟨rfl, hw'⟩; rw [hw']; clear hw' w')
  refine hK.out _ _ (HA.out) (fun hzb => ?_)
  clear hK K'
  try simp only [Act.put, List.setIfInBounds_toArray, List.set_cons_zero, List.set_cons_succ]
  refine wpAnyH_ready (rs := [7]) (by kernel_rfl) (by simp) ?_
  refine AllReadyH.cons (o := { dst := some 24, op := Go.Op.call { callee := Go.Callee.value (Go.Operand.func 61), args := #[Go.Operand.tmp 18, Go.Operand.tmp 23], argTypes := #[84, 3] }, type := 3, pos := "vol.go:239", after := #[{ on := 1, ground := Go.Ground.data }, { on := 6, ground := Go.Ground.data }, { on := 6, ground := Go.Ground.chain }], guard := none }) rfl (fun K' hK => ?_) AllReadyH.nil
  rw [if_pos (by rfl)]
  go_wp2_with (go_at_call 61; refine (CFR.out _ HA.out).mono ?_; rintro e wb ⟨rfl, hu⟩; have HB := Lib.hid hu; clear hu)
  refine hK.out _ _ (HB.out) (fun hzHB => ?_)
  clear hK K'
  try simp only [Act.put, List.setIfInBounds_toArray, List.set_cons_zero, List.set_cons_succ]
  refine wpAnyH_take (i := 8) (oi := { dst := some 6, op := Go.Op.assign (Go.Operand.tmp 24), type := 3, pos := "vol.go:239", after := #[{ on := 7, ground := Go.Ground.data }, { on := 7, ground := Go.Ground.chain }, { on := 0, ground := Go.Ground.phase }, { on := 1, ground := Go.Ground.phase }, { on := 2, ground := Go.Ground.phase }, { on := 3, ground := Go.Ground.phase }, { on := 4, ground := Go.Ground.phase }, { on := 5, ground := Go.Ground.phase }, { on := 6, ground := Go.Ground.phase }, { on := 7, ground := Go.Ground.phase }], guard := none }) (v := .int .i64 (freeN LL n : Int)) rfl (by kernel_rfl) (by kernel_rfl) (by kernel_rfl) (fun _ _ _ h => h) (Or.inl ⟨by rfl, fun w' hS' => by first | rfl | (go_simp; done) | (go_simp; rfl)⟩) HB.out ?_
  try simp only [Act.put, List.setIfInBounds_toArray, List.set_cons_zero, List.set_cons_succ]
  refine wpAnyH_done (by kernel_rfl) ?_ _
  have cE := CE.out _ HB.out
  have H9 := Lib.hid (HOUT.out _ HB.out)
  go_wp2_with fail
  go_ret2
  exact ⟨rfl, H9.out⟩
end
end Go.Proofs.YtlpcccpagmipnaaGreat.P
