/- Stage 7: LogGroups. No condition. -/
import Derived.Test.YtgaibknhdaeidaaA35
set_option linter.unusedVariables false
set_option maxRecDepth 50000
namespace Go.Proofs.Ytgaibknhdaeidaa.P
open Go.RowKit
theorem own_old {w0 w : World} {A : Asn} (h : Own w0 w A) (hs : Stable A) (B i : Nat) (hB : B < w0.heap.size) (v : Value) : Own (w0.setCell ⟨B, i, none⟩ v) (w.setCell ⟨B, i, none⟩ v) A := by
  obtain ⟨F, h1, h2, g⟩ := h
  have s0 : (w0.setCell ⟨B, i, none⟩ v).heap.size = w0.heap.size := by simp [World.setCell]
  have s1 : (w.setCell ⟨B, i, none⟩ v).heap.size = w.heap.size := by simp [World.setCell]
  refine ⟨F, hs w _ F (fun x => x = B) h1 (Ch.setCell (S := fun x => x = B) (Ch.refl _ _) (.inl rfl) _) (fun x hx e => by have := (h2 x hx).1; omega), fun x hx => by rw [s0, s1]; exact h2 x hx, ?_⟩
  refine ⟨g.os, g.tape, g.output, by rw [s0, s1]; exact g.size, fun k hk => ?_⟩
  rw [s0] at hk
  by_cases e : k = B
  · subst e
    unfold World.setCell
    simp only [Array.getElem?_modify, g.block k hk]
  · rw [Below.heap_setCell _ _ _ _ (by exact e), Below.heap_setCell _ _ _ _ (by exact e)]
    exact g.block k hk
abbrev W2 (e : Nat) (zh : DState) (lh mh : Nat) (sh : List (Int × ByteArray)) (d : Nat) (zg : DState) (lg mg : Nat) (sg : List (Int × ByteArray)) (Q : Asn) : Asn := DL e zh lh mh sh false (DL d zg lg mg sg false Q)
theorem own_flip {w0 w : World} {A B C D Q : Asn} (h : Own w0 w (Star A (Star B (Star C (Star D Q))))) : Own w0 w (Star C (Star D (Star A (Star B Q)))) :=
  h.rot3.mono (fun F hF => star_mono_r (fun F h => star_swap2 (star_mono_r (fun F h => star_swap2 h) h)) hF)
theorem stable_w2 (e : Nat) (zh : DState) (lh mh : Nat) (sh : List (Int × ByteArray)) (d : Nat) (zg : DState) (lg mg : Nat) (sg : List (Int × ByteArray)) {Q : Asn} (hs : Stable Q) : Stable (W2 e zh lh mh sh d zg lg mg sg Q) := stable_dl _ _ _ _ _ _ (stable_dl _ _ _ _ _ _ hs)
/-- Behind the cutting of the transactions. -/
def CutP (w : World) (B0 B1 : Nat) (v0 v1 : Array Value) (D : Asn) (wx : World) : Prop :=
  ∃ wb, Gr w wb ∧ w.heap.size ≤ B0 ∧ w.heap.size ≤ B1 ∧ wb.heap[B0]? = some (.cells v0 26) ∧ wb.heap[B1]? = some (.cells v1 26) ∧ Own wb wx D
theorem rowI_take {w : World} {o : Option Addr} {A : List Int} (h : RowI w o A) (k : Nat) : RowI w o (A.take k) := fun j i hj => by
  rw [List.getElem?_take] at hj
  split at hj
  · exact h j i hj
  · cases hj
theorem cut_cells {w wx : World} {B0 B1 : Nat} {v0 v1 : Array Value} {D : Asn} (h : CutP w B0 B1 v0 v1 D wx) : wx.heap[B0]? = some (.cells v0 26) ∧ wx.heap[B1]? = some (.cells v1 26) := by
  obtain ⟨wb, g, l0, l1, k0, k1, ho⟩ := h
  exact ⟨blk_gr ho.sub k0, blk_gr ho.sub k1⟩
theorem gr_set {w wb : World} (g : Gr w wb) (B i : Nat) (hB : w.heap.size ≤ B) (u : Value) : Gr w (wb.setCell ⟨B, i, none⟩ u) :=
  gr_ch g (Ch.setCell (S := fun x => x = B) (Ch.refl _ _) (.inl rfl) u) (fun x hx => by rw [hx]; exact hB)
theorem cut0 {w wx : World} {B0 B1 : Nat} {x0 y0 : Value} {v1 : Array Value} {D : Asn} (h : CutP w B0 B1 #[x0, y0] v1 D wx) (hs : Stable D) (hne : B1 ≠ B0) (u : Value) : CutP w B0 B1 #[u, y0] v1 D (wx.setCell ⟨B0, 0, none⟩ u) := by
  obtain ⟨wb, g, l0, l1, k0, k1, ho⟩ := h
  exact ⟨wb.setCell ⟨B0, 0, none⟩ u, gr_set g B0 0 l0 u, l0, l1, blk_set k0 0 u, blk_other k1 _ u hne, own_old ho hs B0 0 (blk_lt k0) u⟩
theorem cut1 {w wx : World} {B0 B1 : Nat} {x1 y1 : Value} {v0 : Array Value} {D : Asn} (h : CutP w B0 B1 v0 #[x1, y1] D wx) (hs : Stable D) (hne : B0 ≠ B1) (u : Value) : CutP w B0 B1 v0 #[u, y1] D (wx.setCell ⟨B1, 0, none⟩ u) := by
  obtain ⟨wb, g, l0, l1, k0, k1, ho⟩ := h
  exact ⟨wb.setCell ⟨B1, 0, none⟩ u, gr_set g B1 0 l1 u, l0, l1, blk_other k0 _ u hne, blk_set k1 0 u, own_old ho hs B1 0 (blk_lt k1) u⟩
theorem own_flip5 {w0 w : World} {A B C D E Q : Asn} (h : Own w0 w (Star A (Star B (Star C (Star D (Star E Q)))))) : Own w0 w (Star D (Star E (Star C (Star A (Star B Q))))) :=
  (h.rot3.mono (fun F hF => star_mono_r (fun F h => star_mono_r (fun F h => star_swap2 (star_mono_r (fun F h => star_swap2 h) h)) (star_swap2 (star_mono_r (fun F h => star_swap2 h) h))) hF) : Own w0 w (Star C (Star D (Star E (Star A (Star B Q)))))).rot3'
theorem e_same28 {w0 w : World} {d l mb ga ca gb cb : Nat} {z : DState} {LA LB : List ByteArray} {R : Asn} (hx : LA = LB) (hl : LA.length = 28) (h : Own w0 w (DL d z l mb [] false (Star (rowV (.slice (some ⟨gb, 0, none⟩) 28 cb) 28 LB) (Star (rowV (.slice (some ⟨ga, 0, none⟩) 28 ca) 28 LA) R)))) :
    Calls Try.prog 18 #[.slice (some ⟨ga, 0, none⟩) 28 ca, .slice (some ⟨gb, 0, none⟩) 28 cb] w fun e w' => e = .returned (.bool true) ∧ Gr w w' := by
  subst hx
  have hb : RowS w (some ⟨gb, 0, none⟩) LA := rowS_own (c := cb) (by rw [hl]; exact h.right.right.row)
  have ha : RowS w (some ⟨ga, 0, none⟩) LA := rowS_own (c := ca) (by rw [hl]; exact h.right.right.right.row)
  have := e_same w _ _ ca cb LA LA ha hb (by rw [hl]; omega)
  rw [hl] at this
  have e1 : sameB LA LA = true := decide_eq_true rfl
  rw [e1] at this
  exact this
set_option maxHeartbeats 6400000 in
theorem l_groups7 (w : World) (oI oS oJ oT : Option Addr) (cI cS cJ cT : Nat) (I J : List Int) (S T : List ByteArray) (hI : RowI w oI I) (hS : RowS w oS S) (hcI : I.length ≤ cI) (hlI : I.length ≤ 4000000000000000) (hlS : S.length ≤ 4000000000000000) (hss : ∀ s ∈ S, s.size ≤ 9223372036854770000)
    (hJ : RowI w oJ J) (hT : RowS w oT T) (hcJ : J.length ≤ cJ) (hlJ : J.length ≤ 4000000000000000) (hlT : T.length ≤ 4000000000000000) (htt : ∀ s ∈ T, s.size ≤ 9223372036854770000) :
    Calls Try.prog 7 #[.agg #[.slice oI I.length cI, .slice oS S.length cS], .agg #[.slice oJ J.length cJ, .slice oT T.length cT]] w fun e w' => e = .returned (.bool true) ∧ Gr w w' := by
  obtain ⟨wA, hwA⟩ : ∃ wA, wA = (w.alloc (.cells #[.slice oI I.length cI, .slice oS S.length cS] 26)).alloc (.cells #[.slice oJ J.length cJ, .slice oT T.length cT] 26) := ⟨_, rfl⟩
  have g1 : Gr w (w.alloc (.cells #[.slice oI I.length cI, .slice oS S.length cS] 26)) := (Gr.refl w).alloc (Nat.le_refl _) _
  have gA : Gr w wA := by rw [hwA]; exact g1.alloc g1.size _
  have hb0 : wA.heap[w.heap.size]? = some (.cells #[.slice oI I.length cI, .slice oS S.length cS] 26) := by rw [hwA]; exact blk_alloc _ (blk_new _ _)
  have hb1 : wA.heap[w.heap.size + 1]? = some (.cells #[.slice oJ J.length cJ, .slice oT T.length cT] 26) := by
    rw [hwA]
    have := blk_new (w.alloc (.cells #[.slice oI I.length cI, .slice oS S.length cS] 26)) (.cells #[.slice oJ J.length cJ, .slice oT T.length cT] 26)
    rw [show (w.alloc (.cells #[.slice oI I.length cI, .slice oS S.length cS] 26)).heap.size = w.heap.size + 1 by simp] at this
    exact this
  have CSH := Lib.hid (c_shown7 wA)
  have CN : Hid (∀ (R : Asn) w1, Stable R → Own wA w1 R → Calls Try.prog 11 #[.int .i64 60] w1 fun e w' => ∃ d, e = .returned (.tuple #[ptr d, .int .i64 0]) ∧ Own wA w' (Star (dsk d zG) R)) := Lib.hid (fun R w1 hs h => o_new h hs 60 (by omega) (by omega))
  have CO : Hid (∀ (R : Asn) d w1, Stable R → Own wA w1 (Star (dsk d zG) R) → Calls Try.prog 12 #[ptr d] w1 fun e w' => ∃ l mb, e = .returned (.tuple #[ptr l, .int .i64 0]) ∧ Own wA w' (DL d zG l mb [] false R)) := Lib.hid (fun R d w1 hs h => o_open_ok h hs (sz_new 60) (by show 0 ≤ _; omega) zG (ex_new 60 (by omega)))
  have HB0 := Lib.hid hb0
  have HB1 := Lib.hid hb1
  have GA := Lib.hid gA
  have HI := Lib.hid hI
  have HJ := Lib.hid hJ
  have HS := Lib.hid hS
  have HT := Lib.hid hT
  have HSS := Lib.hid hss
  have HTT := Lib.hid htt
  clear hI hS hss hJ hT htt hb0 hb1 gA g1
  go_enter Try.func7, Try.ntmps7
  go_upto_region 1 with fail
  rw [← hwA]
  clear hwA
  go_upto_region 2 with (go_at_call 10; refine CSH.out.mono ?_; rintro e w1 ⟨rfl, h1⟩; have H1 := Lib.hid (Own.start h1); clear h1)
  go_upto_region 3 with (go_at_call 11; refine (CN.out _ _ stable_emp H1.out).mono ?_; rintro e w2 ⟨d, rfl, h2⟩; have H2 := Lib.hid h2; clear h2)
  go_upto_region 4 with (go_at_call 11; refine (CN.out _ _ (stable_star (stable_dsk _ _) stable_emp) H2.out).mono ?_; rintro e w3 ⟨f, rfl, h3⟩; have H3 := Lib.hid h3; clear h3)
  go_upto_region 5 with (go_at_call 12; refine (CO.out _ _ _ (stable_star (stable_dsk _ _) stable_emp) H3.out.swap2).mono ?_; rintro e w4 ⟨lg, mg, rfl, h4⟩; have H4 := Lib.hid h4; clear h4)
  go_upto_region 8 with (go_at_call 12; refine (CO.out _ _ _ (stable_dl _ _ _ _ _ _ stable_emp) H4.out.rot3).mono ?_; rintro e w5 ⟨lh, mh, rfl, h5⟩; have H5 := Lib.hid h5; clear h5)
  clear CSH CN CO
  have H6 : Hid (CutP w w.heap.size (w.heap.size + 1) #[.slice oI I.length cI, .slice oS S.length cS] #[.slice oJ J.length cJ, .slice oT T.length cT] (W2 f zG lh mh [] d zG lg mg [] emp) w5) := Lib.hid ⟨wA, GA.out, Nat.le_refl _, by omega, HB0.out, HB1.out, H5.out⟩
  obtain ⟨hc0, hc1⟩ := cut_cells H6.out
  have t0 := blk_cell hc0 0 (v := .slice oI I.length cI) rfl
  have t1 := blk_cell hc1 0 (v := .slice oJ J.length cJ) rfl
  have f0 := blk_frozen hc0 0
  have f1 := blk_frozen hc1 0
  clear hc0 hc1
  by_cases bI : 14 < I.length
  · obtain ⟨bi, fi, rfl, _⟩ := HI.out 14 _ (List.getElem?_eq_getElem bI)
    go_upto_region 10 with fail
    have H6' := Lib.hid (cut0 H6.out (stable_w2 _ _ _ _ _ _ _ _ _ _ stable_emp) (by omega) (.slice (some ⟨bi, fi, none⟩) 14 cI))
    generalize (World.setCell _ ⟨w.heap.size, 0, none⟩ _) = wy at *
    clear t0 t1 f0 f1 H6
    have H6 := H6'
    clear H6'
    obtain ⟨hc0, hc1⟩ := cut_cells H6.out
    have t0 := blk_cell hc0 0 (v := .slice (some ⟨bi, fi, none⟩) 14 cI) rfl
    have t1 := blk_cell hc1 0 (v := .slice oJ J.length cJ) rfl
    have f0 := blk_frozen hc0 0
    have f1 := blk_frozen hc1 0
    clear hc0 hc1
    by_cases bJ : 14 < J.length
    · obtain ⟨bj, fj, rfl, _⟩ := HJ.out 14 _ (List.getElem?_eq_getElem bJ)
      go_upto_region 12 with fail
      have H7 := Lib.hid (cut1 H6.out (stable_w2 _ _ _ _ _ _ _ _ _ _ stable_emp) (by omega) (.slice (some ⟨bj, fj, none⟩) 14 cJ))
      generalize (World.setCell _ ⟨w.heap.size + 1, 0, none⟩ _) = wz at *
      clear t0 t1 f0 f1 H6
      obtain ⟨wb, gb, l0, l1, k0, k1, h8⟩ := H7.out
      have PA := (I.take 14).zip S
      have hA14 : ((I.take 14).zip S).length ≤ 14 := by rw [List.length_zip, List.length_take]; omega
      have hB14 : ((J.take 14).zip T).length ≤ 14 := by rw [List.length_zip, List.length_take]; omega
      have eI : (I.take 14).length = 14 := by rw [List.length_take]; omega
      have eJ : (J.take 14).length = 14 := by rw [List.length_take]; omega
      have K0 := Lib.hid k0
      have K1 := Lib.hid k1
      have GB := Lib.hid gb
      have H8 := Lib.hid h8
      have HX := Lib.hid (group_homes hA14 hB14)
      have oA : okSt 60 (setsF 60 [] ((I.take 14).zip S)) := ok_sets _ _ (ok_nil 60)
      have oB : okSt 60 (setsF 60 [] ((J.take 14).zip T)) := ok_sets _ _ (ok_nil 60)
      have oAB : okSt 60 (setsF 60 (setsF 60 [] ((I.take 14).zip S)) ((J.take 14).zip T)) := ok_sets _ _ oA
      have SA : Hid (∀ e l mb st (R : Asn) z wr, z.safe.length = 60 → Stable R → okSt 60 st → Own wb wr (DL e z l mb st false R) → Calls Try.prog 13 #[ptr l, .agg #[.slice (some ⟨bi, fi, none⟩) 14 cI, .slice oS S.length cS]] wr fun e' w' => e' = .returned (.tuple #[]) ∧ Own wb w' (DL e z l mb (setsF 60 st ((I.take 14).zip S)) false R)) :=
        Lib.hid (fun e l mb st R z wr hz hs ho h => by
          have := o_sets h hs (by rw [hz]; exact ho) _ oS cI cS (I.take 14) S ((rowI_take HI.out 14).gr gb) (HS.out.gr gb) (by rw [List.length_take]; omega) hlS HSS.out
          rw [eI, hz] at this
          exact this)
      have SB : Hid (∀ e l mb st (R : Asn) z wr, z.safe.length = 60 → Stable R → okSt 60 st → Own wb wr (DL e z l mb st false R) → Calls Try.prog 13 #[ptr l, .agg #[.slice (some ⟨bj, fj, none⟩) 14 cJ, .slice oT T.length cT]] wr fun e' w' => e' = .returned (.tuple #[]) ∧ Own wb w' (DL e z l mb (setsF 60 st ((J.take 14).zip T)) false R)) :=
        Lib.hid (fun e l mb st R z wr hz hs ho h => by
          have := o_sets h hs (by rw [hz]; exact ho) _ oT cJ cT (J.take 14) T ((rowI_take HJ.out 14).gr gb) (HT.out.gr gb) (by rw [List.length_take]; omega) hlT HTT.out
          rw [eJ, hz] at this
          exact this)
      have cG : Clean zG 60 := clean_new 60 (by omega) (by omega)
      have cA := (comm_clean cG (by omega) oA).1
      have cB := (comm_clean cA (by omega) oB).1
      have cAB := (comm_clean cG (by omega) oAB).1
      generalize (I.take 14).zip S = A at *
      generalize (J.take 14).zip T = B at *
      generalize hAB : setsF 60 (setsF 60 [] A) B = stAB at *
      have HAB := Lib.hid hAB
      clear hAB
      have F0 := Lib.hid (own_flip H8.out)
      have sE := stable_emp
      have B0C : Hid (∀ wr, Gr wb wr → wr.cell? ⟨w.heap.size, 0, none⟩ = some (.slice (some ⟨bi, fi, none⟩) 14 cI) ∧ wr.cell? ⟨w.heap.size, 1, none⟩ = some (.slice oS S.length cS)) := Lib.hid (fun wr g => ⟨blk_cell (blk_gr g K0.out) 0 rfl, blk_cell (blk_gr g K0.out) 1 rfl⟩)
      have B1C : Hid (∀ wr, Gr wb wr → wr.cell? ⟨w.heap.size + 1, 0, none⟩ = some (.slice (some ⟨bj, fj, none⟩) 14 cJ) ∧ wr.cell? ⟨w.heap.size + 1, 1, none⟩ = some (.slice oT T.length cT)) := Lib.hid (fun wr g => ⟨blk_cell (blk_gr g K1.out) 0 rfl, blk_cell (blk_gr g K1.out) 1 rfl⟩)
      clear k0 k1 gb h8 H7
      obtain ⟨t0, t1⟩ := B0C.out _ F0.out.sub
      go_upto_region 13 with (go_at_call 13; refine (SA.out d lg mg [] _ zG _ zG_len (stable_dl _ _ _ _ _ _ sE) (ok_nil 60) F0.out).mono ?_; rintro e w6 ⟨rfl, h6⟩; have H6 := Lib.hid h6; clear h6)
      clear t0 t1
      obtain ⟨t0, t1⟩ := B1C.out _ H6.out.sub
      go_upto_region 14 with (go_at_call 13; refine (SB.out d lg mg _ _ zG _ zG_len (stable_dl _ _ _ _ _ _ sE) oA H6.out).mono ?_; rintro e w7 ⟨rfl, h7⟩; rw [HAB.out] at h7; have H7 := Lib.hid h7; clear h7)
      clear t0 t1
      go_upto_region 15 with (go_at_call 14; refine (o_comm H7.out (stable_dl _ _ _ _ _ _ sE) cG (by omega) (by omega) oAB).mono ?_; rintro e w8 ⟨rfl, h8⟩; have H9 := Lib.hid (own_flip h8); clear h8)
      obtain ⟨t0, t1⟩ := B0C.out _ H9.out.sub
      go_upto_region 16 with (go_at_call 13; refine (SA.out f lh mh [] _ zG _ zG_len (stable_dl _ _ _ _ _ _ sE) (ok_nil 60) H9.out).mono ?_; rintro e w9 ⟨rfl, h9⟩; have H10 := Lib.hid h9; clear h9)
      clear t0 t1
      go_upto_region 17 with (go_at_call 14; refine (o_comm H10.out (stable_dl _ _ _ _ _ _ sE) cG (by omega) (by omega) oA).mono ?_; rintro e w10 ⟨rfl, h10⟩; have H11 := Lib.hid h10; clear h10)
      obtain ⟨t0, t1⟩ := B1C.out _ H11.out.sub
      go_upto_region 18 with (go_at_call 13; refine (SB.out f lh mh [] _ _ _ cA.len (stable_dl _ _ _ _ _ _ sE) (ok_nil 60) H11.out).mono ?_; rintro e w11 ⟨rfl, h11⟩; have H12 := Lib.hid h11; clear h11)
      clear t0 t1
      go_upto_region 19 with (go_at_call 14; refine (o_comm H12.out (stable_dl _ _ _ _ _ _ sE) cA (by omega) (by omega) oB).mono ?_; rintro e w12 ⟨rfl, h12⟩; have H13 := Lib.hid (own_flip h12); clear h12)
      generalize hzb : commZ (setsF 60 [] B) (commZ (setsF 60 [] A) zG) = zb at *
      generalize hzg : commZ stAB zG = zg at *
      clear hzb hzg SA SB B0C B1C K0 K1
      have CH1 := Lib.hid (o_homes H13.out (stable_dl _ _ _ _ _ _ sE) (by rw [cAB.still]; simp) 28 cAB.len)
      have hstill := cB.still
      have hlenb := cB.len
      go_upto_region 20 with (first
        | (go_at_call 15; first
          | (refine (o_homes H14.out (stable_star (stable_row _ _ _ _ _) (stable_dl _ _ _ _ _ _ sE)) (by rw [hstill]; simp) 28 hlenb).mono ?_; rintro e w14 ⟨gb2, cb2, rfl, h14⟩; have H15 := Lib.hid h14; clear h14)
          | (refine CH1.out.mono ?_; rintro e w13 ⟨ga, ca, rfl, h13⟩; have H14 := Lib.hid (own_flip5 h13); clear h13))
        | (go_at_call 18; refine (e_same28 HX.out (homeL_len _ _ _ _) H15.out).mono ?_; rintro e w15 ⟨rfl, g15⟩; have H16 := Lib.hid (gtrans H15.out.sub g15); clear g15))
      go_wp2_with fail
      go_ret
      exact ⟨rfl, gtrans GB.out H16.out⟩
    · go_upto_region 12 with fail
      have H7 := H6
      clear t0 t1 f0 f1 H6
      obtain ⟨wb, gb, l0, l1, k0, k1, h8⟩ := H7.out
      have PA := (I.take 14).zip S
      have hA14 : ((I.take 14).zip S).length ≤ 14 := by rw [List.length_zip, List.length_take]; omega
      have hB14 : ((J.take 14).zip T).length ≤ 14 := by rw [List.length_zip, List.length_take]; omega
      have eI : (I.take 14).length = 14 := by rw [List.length_take]; omega
      have eJ : (J.take 14).length = J.length := by rw [List.length_take]; omega
      have K0 := Lib.hid k0
      have K1 := Lib.hid k1
      have GB := Lib.hid gb
      have H8 := Lib.hid h8
      have HX := Lib.hid (group_homes hA14 hB14)
      have oA : okSt 60 (setsF 60 [] ((I.take 14).zip S)) := ok_sets _ _ (ok_nil 60)
      have oB : okSt 60 (setsF 60 [] ((J.take 14).zip T)) := ok_sets _ _ (ok_nil 60)
      have oAB : okSt 60 (setsF 60 (setsF 60 [] ((I.take 14).zip S)) ((J.take 14).zip T)) := ok_sets _ _ oA
      have SA : Hid (∀ e l mb st (R : Asn) z wr, z.safe.length = 60 → Stable R → okSt 60 st → Own wb wr (DL e z l mb st false R) → Calls Try.prog 13 #[ptr l, .agg #[.slice (some ⟨bi, fi, none⟩) 14 cI, .slice oS S.length cS]] wr fun e' w' => e' = .returned (.tuple #[]) ∧ Own wb w' (DL e z l mb (setsF 60 st ((I.take 14).zip S)) false R)) :=
        Lib.hid (fun e l mb st R z wr hz hs ho h => by
          have := o_sets h hs (by rw [hz]; exact ho) _ oS cI cS (I.take 14) S ((rowI_take HI.out 14).gr gb) (HS.out.gr gb) (by rw [List.length_take]; omega) hlS HSS.out
          rw [eI, hz] at this
          exact this)
      have SB : Hid (∀ e l mb st (R : Asn) z wr, z.safe.length = 60 → Stable R → okSt 60 st → Own wb wr (DL e z l mb st false R) → Calls Try.prog 13 #[ptr l, .agg #[.slice oJ J.length cJ, .slice oT T.length cT]] wr fun e' w' => e' = .returned (.tuple #[]) ∧ Own wb w' (DL e z l mb (setsF 60 st ((J.take 14).zip T)) false R)) :=
        Lib.hid (fun e l mb st R z wr hz hs ho h => by
          have := o_sets h hs (by rw [hz]; exact ho) _ oT cJ cT (J.take 14) T ((rowI_take HJ.out 14).gr gb) (HT.out.gr gb) (by rw [List.length_take]; omega) hlT HTT.out
          rw [eJ, hz] at this
          exact this)
      have cG : Clean zG 60 := clean_new 60 (by omega) (by omega)
      have cA := (comm_clean cG (by omega) oA).1
      have cB := (comm_clean cA (by omega) oB).1
      have cAB := (comm_clean cG (by omega) oAB).1
      generalize (I.take 14).zip S = A at *
      generalize (J.take 14).zip T = B at *
      generalize hAB : setsF 60 (setsF 60 [] A) B = stAB at *
      have HAB := Lib.hid hAB
      clear hAB
      have F0 := Lib.hid (own_flip H8.out)
      have sE := stable_emp
      have B0C : Hid (∀ wr, Gr wb wr → wr.cell? ⟨w.heap.size, 0, none⟩ = some (.slice (some ⟨bi, fi, none⟩) 14 cI) ∧ wr.cell? ⟨w.heap.size, 1, none⟩ = some (.slice oS S.length cS)) := Lib.hid (fun wr g => ⟨blk_cell (blk_gr g K0.out) 0 rfl, blk_cell (blk_gr g K0.out) 1 rfl⟩)
      have B1C : Hid (∀ wr, Gr wb wr → wr.cell? ⟨w.heap.size + 1, 0, none⟩ = some (.slice oJ J.length cJ) ∧ wr.cell? ⟨w.heap.size + 1, 1, none⟩ = some (.slice oT T.length cT)) := Lib.hid (fun wr g => ⟨blk_cell (blk_gr g K1.out) 0 rfl, blk_cell (blk_gr g K1.out) 1 rfl⟩)
      clear k0 k1 gb h8 H7
      obtain ⟨t0, t1⟩ := B0C.out _ F0.out.sub
      go_upto_region 13 with (go_at_call 13; refine (SA.out d lg mg [] _ zG _ zG_len (stable_dl _ _ _ _ _ _ sE) (ok_nil 60) F0.out).mono ?_; rintro e w6 ⟨rfl, h6⟩; have H6 := Lib.hid h6; clear h6)
      clear t0 t1
      obtain ⟨t0, t1⟩ := B1C.out _ H6.out.sub
      go_upto_region 14 with (go_at_call 13; refine (SB.out d lg mg _ _ zG _ zG_len (stable_dl _ _ _ _ _ _ sE) oA H6.out).mono ?_; rintro e w7 ⟨rfl, h7⟩; rw [HAB.out] at h7; have H7 := Lib.hid h7; clear h7)
      clear t0 t1
      go_upto_region 15 with (go_at_call 14; refine (o_comm H7.out (stable_dl _ _ _ _ _ _ sE) cG (by omega) (by omega) oAB).mono ?_; rintro e w8 ⟨rfl, h8⟩; have H9 := Lib.hid (own_flip h8); clear h8)
      obtain ⟨t0, t1⟩ := B0C.out _ H9.out.sub
      go_upto_region 16 with (go_at_call 13; refine (SA.out f lh mh [] _ zG _ zG_len (stable_dl _ _ _ _ _ _ sE) (ok_nil 60) H9.out).mono ?_; rintro e w9 ⟨rfl, h9⟩; have H10 := Lib.hid h9; clear h9)
      clear t0 t1
      go_upto_region 17 with (go_at_call 14; refine (o_comm H10.out (stable_dl _ _ _ _ _ _ sE) cG (by omega) (by omega) oA).mono ?_; rintro e w10 ⟨rfl, h10⟩; have H11 := Lib.hid h10; clear h10)
      obtain ⟨t0, t1⟩ := B1C.out _ H11.out.sub
      go_upto_region 18 with (go_at_call 13; refine (SB.out f lh mh [] _ _ _ cA.len (stable_dl _ _ _ _ _ _ sE) (ok_nil 60) H11.out).mono ?_; rintro e w11 ⟨rfl, h11⟩; have H12 := Lib.hid h11; clear h11)
      clear t0 t1
      go_upto_region 19 with (go_at_call 14; refine (o_comm H12.out (stable_dl _ _ _ _ _ _ sE) cA (by omega) (by omega) oB).mono ?_; rintro e w12 ⟨rfl, h12⟩; have H13 := Lib.hid (own_flip h12); clear h12)
      generalize hzb : commZ (setsF 60 [] B) (commZ (setsF 60 [] A) zG) = zb at *
      generalize hzg : commZ stAB zG = zg at *
      clear hzb hzg SA SB B0C B1C K0 K1
      have CH1 := Lib.hid (o_homes H13.out (stable_dl _ _ _ _ _ _ sE) (by rw [cAB.still]; simp) 28 cAB.len)
      have hstill := cB.still
      have hlenb := cB.len
      go_upto_region 20 with (first
        | (go_at_call 15; first
          | (refine (o_homes H14.out (stable_star (stable_row _ _ _ _ _) (stable_dl _ _ _ _ _ _ sE)) (by rw [hstill]; simp) 28 hlenb).mono ?_; rintro e w14 ⟨gb2, cb2, rfl, h14⟩; have H15 := Lib.hid h14; clear h14)
          | (refine CH1.out.mono ?_; rintro e w13 ⟨ga, ca, rfl, h13⟩; have H14 := Lib.hid (own_flip5 h13); clear h13))
        | (go_at_call 18; refine (e_same28 HX.out (homeL_len _ _ _ _) H15.out).mono ?_; rintro e w15 ⟨rfl, g15⟩; have H16 := Lib.hid (gtrans H15.out.sub g15); clear g15))
      go_wp2_with fail
      go_ret
      exact ⟨rfl, gtrans GB.out H16.out⟩
  · by_cases bJ : 14 < J.length
    · obtain ⟨bj, fj, rfl, _⟩ := HJ.out 14 _ (List.getElem?_eq_getElem bJ)
      go_upto_region 12 with fail
      have H7 := Lib.hid (cut1 H6.out (stable_w2 _ _ _ _ _ _ _ _ _ _ stable_emp) (by omega) (.slice (some ⟨bj, fj, none⟩) 14 cJ))
      generalize (World.setCell _ ⟨w.heap.size + 1, 0, none⟩ _) = wz at *
      clear t0 t1 f0 f1 H6
      obtain ⟨wb, gb, l0, l1, k0, k1, h8⟩ := H7.out
      have PA := (I.take 14).zip S
      have hA14 : ((I.take 14).zip S).length ≤ 14 := by rw [List.length_zip, List.length_take]; omega
      have hB14 : ((J.take 14).zip T).length ≤ 14 := by rw [List.length_zip, List.length_take]; omega
      have eI : (I.take 14).length = I.length := by rw [List.length_take]; omega
      have eJ : (J.take 14).length = 14 := by rw [List.length_take]; omega
      have K0 := Lib.hid k0
      have K1 := Lib.hid k1
      have GB := Lib.hid gb
      have H8 := Lib.hid h8
      have HX := Lib.hid (group_homes hA14 hB14)
      have oA : okSt 60 (setsF 60 [] ((I.take 14).zip S)) := ok_sets _ _ (ok_nil 60)
      have oB : okSt 60 (setsF 60 [] ((J.take 14).zip T)) := ok_sets _ _ (ok_nil 60)
      have oAB : okSt 60 (setsF 60 (setsF 60 [] ((I.take 14).zip S)) ((J.take 14).zip T)) := ok_sets _ _ oA
      have SA : Hid (∀ e l mb st (R : Asn) z wr, z.safe.length = 60 → Stable R → okSt 60 st → Own wb wr (DL e z l mb st false R) → Calls Try.prog 13 #[ptr l, .agg #[.slice oI I.length cI, .slice oS S.length cS]] wr fun e' w' => e' = .returned (.tuple #[]) ∧ Own wb w' (DL e z l mb (setsF 60 st ((I.take 14).zip S)) false R)) :=
        Lib.hid (fun e l mb st R z wr hz hs ho h => by
          have := o_sets h hs (by rw [hz]; exact ho) _ oS cI cS (I.take 14) S ((rowI_take HI.out 14).gr gb) (HS.out.gr gb) (by rw [List.length_take]; omega) hlS HSS.out
          rw [eI, hz] at this
          exact this)
      have SB : Hid (∀ e l mb st (R : Asn) z wr, z.safe.length = 60 → Stable R → okSt 60 st → Own wb wr (DL e z l mb st false R) → Calls Try.prog 13 #[ptr l, .agg #[.slice (some ⟨bj, fj, none⟩) 14 cJ, .slice oT T.length cT]] wr fun e' w' => e' = .returned (.tuple #[]) ∧ Own wb w' (DL e z l mb (setsF 60 st ((J.take 14).zip T)) false R)) :=
        Lib.hid (fun e l mb st R z wr hz hs ho h => by
          have := o_sets h hs (by rw [hz]; exact ho) _ oT cJ cT (J.take 14) T ((rowI_take HJ.out 14).gr gb) (HT.out.gr gb) (by rw [List.length_take]; omega) hlT HTT.out
          rw [eJ, hz] at this
          exact this)
      have cG : Clean zG 60 := clean_new 60 (by omega) (by omega)
      have cA := (comm_clean cG (by omega) oA).1
      have cB := (comm_clean cA (by omega) oB).1
      have cAB := (comm_clean cG (by omega) oAB).1
      generalize (I.take 14).zip S = A at *
      generalize (J.take 14).zip T = B at *
      generalize hAB : setsF 60 (setsF 60 [] A) B = stAB at *
      have HAB := Lib.hid hAB
      clear hAB
      have F0 := Lib.hid (own_flip H8.out)
      have sE := stable_emp
      have B0C : Hid (∀ wr, Gr wb wr → wr.cell? ⟨w.heap.size, 0, none⟩ = some (.slice oI I.length cI) ∧ wr.cell? ⟨w.heap.size, 1, none⟩ = some (.slice oS S.length cS)) := Lib.hid (fun wr g => ⟨blk_cell (blk_gr g K0.out) 0 rfl, blk_cell (blk_gr g K0.out) 1 rfl⟩)
      have B1C : Hid (∀ wr, Gr wb wr → wr.cell? ⟨w.heap.size + 1, 0, none⟩ = some (.slice (some ⟨bj, fj, none⟩) 14 cJ) ∧ wr.cell? ⟨w.heap.size + 1, 1, none⟩ = some (.slice oT T.length cT)) := Lib.hid (fun wr g => ⟨blk_cell (blk_gr g K1.out) 0 rfl, blk_cell (blk_gr g K1.out) 1 rfl⟩)
      clear k0 k1 gb h8 H7
      obtain ⟨t0, t1⟩ := B0C.out _ F0.out.sub
      go_upto_region 13 with (go_at_call 13; refine (SA.out d lg mg [] _ zG _ zG_len (stable_dl _ _ _ _ _ _ sE) (ok_nil 60) F0.out).mono ?_; rintro e w6 ⟨rfl, h6⟩; have H6 := Lib.hid h6; clear h6)
      clear t0 t1
      obtain ⟨t0, t1⟩ := B1C.out _ H6.out.sub
      go_upto_region 14 with (go_at_call 13; refine (SB.out d lg mg _ _ zG _ zG_len (stable_dl _ _ _ _ _ _ sE) oA H6.out).mono ?_; rintro e w7 ⟨rfl, h7⟩; rw [HAB.out] at h7; have H7 := Lib.hid h7; clear h7)
      clear t0 t1
      go_upto_region 15 with (go_at_call 14; refine (o_comm H7.out (stable_dl _ _ _ _ _ _ sE) cG (by omega) (by omega) oAB).mono ?_; rintro e w8 ⟨rfl, h8⟩; have H9 := Lib.hid (own_flip h8); clear h8)
      obtain ⟨t0, t1⟩ := B0C.out _ H9.out.sub
      go_upto_region 16 with (go_at_call 13; refine (SA.out f lh mh [] _ zG _ zG_len (stable_dl _ _ _ _ _ _ sE) (ok_nil 60) H9.out).mono ?_; rintro e w9 ⟨rfl, h9⟩; have H10 := Lib.hid h9; clear h9)
      clear t0 t1
      go_upto_region 17 with (go_at_call 14; refine (o_comm H10.out (stable_dl _ _ _ _ _ _ sE) cG (by omega) (by omega) oA).mono ?_; rintro e w10 ⟨rfl, h10⟩; have H11 := Lib.hid h10; clear h10)
      obtain ⟨t0, t1⟩ := B1C.out _ H11.out.sub
      go_upto_region 18 with (go_at_call 13; refine (SB.out f lh mh [] _ _ _ cA.len (stable_dl _ _ _ _ _ _ sE) (ok_nil 60) H11.out).mono ?_; rintro e w11 ⟨rfl, h11⟩; have H12 := Lib.hid h11; clear h11)
      clear t0 t1
      go_upto_region 19 with (go_at_call 14; refine (o_comm H12.out (stable_dl _ _ _ _ _ _ sE) cA (by omega) (by omega) oB).mono ?_; rintro e w12 ⟨rfl, h12⟩; have H13 := Lib.hid (own_flip h12); clear h12)
      generalize hzb : commZ (setsF 60 [] B) (commZ (setsF 60 [] A) zG) = zb at *
      generalize hzg : commZ stAB zG = zg at *
      clear hzb hzg SA SB B0C B1C K0 K1
      have CH1 := Lib.hid (o_homes H13.out (stable_dl _ _ _ _ _ _ sE) (by rw [cAB.still]; simp) 28 cAB.len)
      have hstill := cB.still
      have hlenb := cB.len
      go_upto_region 20 with (first
        | (go_at_call 15; first
          | (refine (o_homes H14.out (stable_star (stable_row _ _ _ _ _) (stable_dl _ _ _ _ _ _ sE)) (by rw [hstill]; simp) 28 hlenb).mono ?_; rintro e w14 ⟨gb2, cb2, rfl, h14⟩; have H15 := Lib.hid h14; clear h14)
          | (refine CH1.out.mono ?_; rintro e w13 ⟨ga, ca, rfl, h13⟩; have H14 := Lib.hid (own_flip5 h13); clear h13))
        | (go_at_call 18; refine (e_same28 HX.out (homeL_len _ _ _ _) H15.out).mono ?_; rintro e w15 ⟨rfl, g15⟩; have H16 := Lib.hid (gtrans H15.out.sub g15); clear g15))
      go_wp2_with fail
      go_ret
      exact ⟨rfl, gtrans GB.out H16.out⟩
    · go_upto_region 12 with fail
      have H7 := H6
      clear t0 t1 f0 f1 H6
      obtain ⟨wb, gb, l0, l1, k0, k1, h8⟩ := H7.out
      have PA := (I.take 14).zip S
      have hA14 : ((I.take 14).zip S).length ≤ 14 := by rw [List.length_zip, List.length_take]; omega
      have hB14 : ((J.take 14).zip T).length ≤ 14 := by rw [List.length_zip, List.length_take]; omega
      have eI : (I.take 14).length = I.length := by rw [List.length_take]; omega
      have eJ : (J.take 14).length = J.length := by rw [List.length_take]; omega
      have K0 := Lib.hid k0
      have K1 := Lib.hid k1
      have GB := Lib.hid gb
      have H8 := Lib.hid h8
      have HX := Lib.hid (group_homes hA14 hB14)
      have oA : okSt 60 (setsF 60 [] ((I.take 14).zip S)) := ok_sets _ _ (ok_nil 60)
      have oB : okSt 60 (setsF 60 [] ((J.take 14).zip T)) := ok_sets _ _ (ok_nil 60)
      have oAB : okSt 60 (setsF 60 (setsF 60 [] ((I.take 14).zip S)) ((J.take 14).zip T)) := ok_sets _ _ oA
      have SA : Hid (∀ e l mb st (R : Asn) z wr, z.safe.length = 60 → Stable R → okSt 60 st → Own wb wr (DL e z l mb st false R) → Calls Try.prog 13 #[ptr l, .agg #[.slice oI I.length cI, .slice oS S.length cS]] wr fun e' w' => e' = .returned (.tuple #[]) ∧ Own wb w' (DL e z l mb (setsF 60 st ((I.take 14).zip S)) false R)) :=
        Lib.hid (fun e l mb st R z wr hz hs ho h => by
          have := o_sets h hs (by rw [hz]; exact ho) _ oS cI cS (I.take 14) S ((rowI_take HI.out 14).gr gb) (HS.out.gr gb) (by rw [List.length_take]; omega) hlS HSS.out
          rw [eI, hz] at this
          exact this)
      have SB : Hid (∀ e l mb st (R : Asn) z wr, z.safe.length = 60 → Stable R → okSt 60 st → Own wb wr (DL e z l mb st false R) → Calls Try.prog 13 #[ptr l, .agg #[.slice oJ J.length cJ, .slice oT T.length cT]] wr fun e' w' => e' = .returned (.tuple #[]) ∧ Own wb w' (DL e z l mb (setsF 60 st ((J.take 14).zip T)) false R)) :=
        Lib.hid (fun e l mb st R z wr hz hs ho h => by
          have := o_sets h hs (by rw [hz]; exact ho) _ oT cJ cT (J.take 14) T ((rowI_take HJ.out 14).gr gb) (HT.out.gr gb) (by rw [List.length_take]; omega) hlT HTT.out
          rw [eJ, hz] at this
          exact this)
      have cG : Clean zG 60 := clean_new 60 (by omega) (by omega)
      have cA := (comm_clean cG (by omega) oA).1
      have cB := (comm_clean cA (by omega) oB).1
      have cAB := (comm_clean cG (by omega) oAB).1
      generalize (I.take 14).zip S = A at *
      generalize (J.take 14).zip T = B at *
      generalize hAB : setsF 60 (setsF 60 [] A) B = stAB at *
      have HAB := Lib.hid hAB
      clear hAB
      have F0 := Lib.hid (own_flip H8.out)
      have sE := stable_emp
      have B0C : Hid (∀ wr, Gr wb wr → wr.cell? ⟨w.heap.size, 0, none⟩ = some (.slice oI I.length cI) ∧ wr.cell? ⟨w.heap.size, 1, none⟩ = some (.slice oS S.length cS)) := Lib.hid (fun wr g => ⟨blk_cell (blk_gr g K0.out) 0 rfl, blk_cell (blk_gr g K0.out) 1 rfl⟩)
      have B1C : Hid (∀ wr, Gr wb wr → wr.cell? ⟨w.heap.size + 1, 0, none⟩ = some (.slice oJ J.length cJ) ∧ wr.cell? ⟨w.heap.size + 1, 1, none⟩ = some (.slice oT T.length cT)) := Lib.hid (fun wr g => ⟨blk_cell (blk_gr g K1.out) 0 rfl, blk_cell (blk_gr g K1.out) 1 rfl⟩)
      clear k0 k1 gb h8 H7
      obtain ⟨t0, t1⟩ := B0C.out _ F0.out.sub
      go_upto_region 13 with (go_at_call 13; refine (SA.out d lg mg [] _ zG _ zG_len (stable_dl _ _ _ _ _ _ sE) (ok_nil 60) F0.out).mono ?_; rintro e w6 ⟨rfl, h6⟩; have H6 := Lib.hid h6; clear h6)
      clear t0 t1
      obtain ⟨t0, t1⟩ := B1C.out _ H6.out.sub
      go_upto_region 14 with (go_at_call 13; refine (SB.out d lg mg _ _ zG _ zG_len (stable_dl _ _ _ _ _ _ sE) oA H6.out).mono ?_; rintro e w7 ⟨rfl, h7⟩; rw [HAB.out] at h7; have H7 := Lib.hid h7; clear h7)
      clear t0 t1
      go_upto_region 15 with (go_at_call 14; refine (o_comm H7.out (stable_dl _ _ _ _ _ _ sE) cG (by omega) (by omega) oAB).mono ?_; rintro e w8 ⟨rfl, h8⟩; have H9 := Lib.hid (own_flip h8); clear h8)
      obtain ⟨t0, t1⟩ := B0C.out _ H9.out.sub
      go_upto_region 16 with (go_at_call 13; refine (SA.out f lh mh [] _ zG _ zG_len (stable_dl _ _ _ _ _ _ sE) (ok_nil 60) H9.out).mono ?_; rintro e w9 ⟨rfl, h9⟩; have H10 := Lib.hid h9; clear h9)
      clear t0 t1
      go_upto_region 17 with (go_at_call 14; refine (o_comm H10.out (stable_dl _ _ _ _ _ _ sE) cG (by omega) (by omega) oA).mono ?_; rintro e w10 ⟨rfl, h10⟩; have H11 := Lib.hid h10; clear h10)
      obtain ⟨t0, t1⟩ := B1C.out _ H11.out.sub
      go_upto_region 18 with (go_at_call 13; refine (SB.out f lh mh [] _ _ _ cA.len (stable_dl _ _ _ _ _ _ sE) (ok_nil 60) H11.out).mono ?_; rintro e w11 ⟨rfl, h11⟩; have H12 := Lib.hid h11; clear h11)
      clear t0 t1
      go_upto_region 19 with (go_at_call 14; refine (o_comm H12.out (stable_dl _ _ _ _ _ _ sE) cA (by omega) (by omega) oB).mono ?_; rintro e w12 ⟨rfl, h12⟩; have H13 := Lib.hid (own_flip h12); clear h12)
      generalize hzb : commZ (setsF 60 [] B) (commZ (setsF 60 [] A) zG) = zb at *
      generalize hzg : commZ stAB zG = zg at *
      clear hzb hzg SA SB B0C B1C K0 K1
      have CH1 := Lib.hid (o_homes H13.out (stable_dl _ _ _ _ _ _ sE) (by rw [cAB.still]; simp) 28 cAB.len)
      have hstill := cB.still
      have hlenb := cB.len
      go_upto_region 20 with (first
        | (go_at_call 15; first
          | (refine (o_homes H14.out (stable_star (stable_row _ _ _ _ _) (stable_dl _ _ _ _ _ _ sE)) (by rw [hstill]; simp) 28 hlenb).mono ?_; rintro e w14 ⟨gb2, cb2, rfl, h14⟩; have H15 := Lib.hid h14; clear h14)
          | (refine CH1.out.mono ?_; rintro e w13 ⟨ga, ca, rfl, h13⟩; have H14 := Lib.hid (own_flip5 h13); clear h13))
        | (go_at_call 18; refine (e_same28 HX.out (homeL_len _ _ _ _) H15.out).mono ?_; rintro e w15 ⟨rfl, g15⟩; have H16 := Lib.hid (gtrans H15.out.sub g15); clear g15))
      go_wp2_with fail
      go_ret
      exact ⟨rfl, gtrans GB.out H16.out⟩
end Go.Proofs.Ytgaibknhdaeidaa.P
