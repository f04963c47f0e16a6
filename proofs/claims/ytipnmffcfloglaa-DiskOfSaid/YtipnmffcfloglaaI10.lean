/- Stage 6: DiskOf. No condition. -/
import Derived.Test.YtipnmffcfloglaaI9
import Derived.Test.YtipnmffcfloglaaI7
set_option linter.unusedVariables false
namespace Go.Proofs.Ytipnmffcfloglaa.P
open Go.RowKit
theorem Own.stored {w0 w : World} {e : TypeId} {size g n cap : Nat} {xs : List Value} {R : Asn} (h : Own w0 w (Star (rowA e size (.slice (some ⟨g, 0, none⟩) n cap) n xs) R)) (hs : Stable R) (j : Nat) (u : Value) :
    Own w0 (w.setCell ⟨g, j, none⟩ u) (Star (rowA e size (.slice (some ⟨g, 0, none⟩) n cap) n (xs.set j u)) R) := by
  refine h.step hs (fun F hF => ⟨fun x => x = g, ⟨(World.ownsRow.stored hF.1 j u).1, fun b hb => by injection hb with hb; exact hb.symm⟩, fun x hx => ?_, Ch.setCell (Ch.refl _ w) (p := ⟨g, j, none⟩) (.inl (hF.2 g rfl)) u⟩)
  have := ownsRow_lt hF.1
  exact ⟨.inl (by rw [hx]; exact hF.2 g rfl), by rw [hx, size_setCell]; exact this⟩
theorem row_cells {w : World} {o : Option Addr} {A : List ByteArray} (hA : RowS w o A) {sb off : Nat} (ho : o = some ⟨sb, off, none⟩) : ∀ j u, (strs A)[j]? = some u → w.cell? ⟨sb, off + j, none⟩ = some u := fun j u hu => by
  unfold strs at hu
  rw [List.getElem?_map] at hu
  cases hs : A[j]? with
  | none => rw [hs] at hu; cases hu
  | some s =>
    rw [hs] at hu
    injection hu with hu
    obtain ⟨b2, o2, e2, h2⟩ := hA j s hs
    rw [ho] at e2
    injection e2 with e2
    injection e2 with e2 e3
    subst e2; subst e3; rw [h2, ← hu]
theorem gr_grown {w w' : World} (h : w.grownBy w' none) : Gr w w' := ⟨h.os, h.tape, h.output, h.size, fun k hk => h.block k hk (fun e => by cases e)⟩
set_option maxRecDepth 100000 in
set_option maxHeartbeats 4000000 in
theorem l_of6_no (w : World) (o : Option Addr) (c : Nat) (A : List ByteArray) (hA : RowS w o A) (hz : A.length * 16 ≤ 140737488351232) (hn : okRow A = false) (v1 v2 : Value) :
    Calls Try.prog 4 #[.slice o A.length c, v1, v2] w fun e w' => e = .returned (.bool true) ∧ Gr w w' := by
  obtain ⟨i0, hi0, hz0, hz1, hz2⟩ := info_parts strInfo
  have CO := Lib.hid (fun w' (g : Gr w w') => c_of_no w' o c A (by omega) (hA.gr g) hn)
  have CE := Lib.hid (fun w' (g : Gr w w') => e_of_no w' o c A (by omega) (hA.gr g) hn)
  by_cases h0 : A.length = 0
  · rw [h0] at CO CE ⊢
    clear hA h0 hn hz
    go_enter Try.func4, Try.ntmps4
    go_wp2_with fail
    refine (c_shown _).mono ?_
    rintro e w1 ⟨rfl, g1⟩
    have G1 := Lib.hid g1
    clear g1
    go_wp2_with (at_builtin; refine wpList_append_run rfl _ _ 37 rfl (.slice (some ⟨w1.heap.size, 0, none⟩) 0 0) (.slice o 0 c) _ _ rfl rfl (run_append_empty _ 37 _ 9 i0 Try.underlying37 hi0 ⟨w1.heap.size, 0, none⟩ 0 0 (Nat.le_refl _) o c) ?_)
    have G2 := Lib.hid (gtrans G1.out (Below.alloc (Below.refl _ _) (Nat.le_refl _) (.cells #[] 9)))
    refine (CO.out _ G2.out).mono ?_
    rintro e w3 ⟨rfl, g3⟩
    have G3 := Lib.hid (gtrans G2.out g3)
    clear g3
    go_wp2_with fail
    refine (CE.out _ G3.out).mono ?_
    rintro e w4 ⟨rfl, g4⟩
    have G4 := Lib.hid (gtrans G3.out g4)
    clear g4
    go_wp2_with fail
    go_ret
    exact ⟨rfl, G4.out⟩
  · obtain ⟨sb, off, ho, _⟩ := hA 0 _ (List.getElem?_eq_getElem (show 0 < A.length by omega))
    have hcs := row_cells hA ho
    have HCS := Lib.hid hcs
    have HLS := Lib.hid (strs_length A)
    subst ho
    obtain ⟨n, hnn⟩ : ∃ n, n = A.length := ⟨_, rfl⟩
    have HN := Lib.hid hnn
    rw [← hnn] at CO CE hz h0
    rw [show A.length = n from hnn.symm]
    clear hA hnn hcs hn
    go_enter Try.func4, Try.ntmps4
    go_wp2_with fail
    refine (c_shown _).mono ?_
    rintro e w1 ⟨rfl, g1⟩
    have G1 := Lib.hid g1
    clear g1
    go_wp2_with (at_builtin; refine wpList_append_grows _ rfl _ _ 37 rfl 9 i0 (.string ⟨#[]⟩) 1 16 Try.underlying37 hi0 hz0 hz1 hz2 rfl (by decide) (some ⟨w1.heap.size, 0, none⟩) 0 0 [] rfl (by simp) rfl (by intro b _ j u h; simp at h) ⟨sb, off, none⟩ n c (strs A) rfl (by rw [HLS.out, HN.out]; omega) (fun j u h => by rw [Addr.add_lit]; exact calloc _ (kcell G1.out (HCS.out j u h))) (strs_one A) (by omega) (by unfold maxLen; omega) (by omega) ?_; intro v' w2 hown hgrow; have HGROW := Lib.hid hgrow; clear hown hgrow)
    have G2 : RowKit.Hid (Gr w w2) := Lib.hid (gtrans (gtrans G1.out (Below.alloc (Below.refl _ _) (Nat.le_refl _) (.cells #[] 9))) (gr_grown HGROW.out))
    refine (CO.out _ G2.out).mono ?_
    rintro e w3 ⟨rfl, g3⟩
    have G3 := Lib.hid (gtrans G2.out g3)
    clear g3
    go_wp2_with fail
    refine (CE.out _ G3.out).mono ?_
    rintro e w4 ⟨rfl, g4⟩
    have G4 := Lib.hid (gtrans G3.out g4)
    clear g4
    go_wp2_with fail
    go_ret
    exact ⟨rfl, G4.out⟩
set_option maxRecDepth 100000 in
set_option maxHeartbeats 4000000 in
theorem l_of6 (w : World) (o : Option Addr) (c : Nat) (A : List ByteArray) (hA : RowS w o A) (hn : okRow A = true) (i : Int) (s : ByteArray) (hsz : s.size ≤ 9223372036854770000) :
    Calls Try.prog 4 #[.slice o A.length c, .int .i64 i, .string s] w fun e w' => e = .returned (.bool true) ∧ Gr w w' := by
  obtain ⟨i0, hi0, hz0, hz1, hz2⟩ := info_parts strInfo
  have hok := hn
  unfold okRow at hok
  simp only [Bool.and_eq_true, decide_eq_true_eq] at hok
  obtain ⟨⟨h1, h2⟩, hall⟩ := hok
  have h64 : ∀ x ∈ A, x.size = 64 := fun x hx => of_decide_eq_true (List.all_eq_true.1 hall x hx)
  have CO := Lib.hid (fun w' (g : Gr w w') => c_of w' o c A h1 h2 (hA.gr g) h64)
  have CE := Lib.hid (fun w' (g : Gr w w') => e_of w' o c A (hA.gr g) hn)
  have HA := Lib.hid hA
  have H64 := Lib.hid h64
  have HSZ := Lib.hid hsz
  obtain ⟨sb, off, ho, _⟩ := hA 0 _ (List.getElem?_eq_getElem (show 0 < A.length by omega))
  have hcs := row_cells hA ho
  have HCS := Lib.hid hcs
  have HLS := Lib.hid (strs_length A)
  subst ho
  have hzA : SZ (newZ A) := ⟨h64, fun x hx => by cases hx⟩
  obtain ⟨z1, hz1'⟩ : ∃ z1, z1 = writeZ (newZ A) i (secF s) := ⟨_, rfl⟩
  obtain ⟨z2, hz2'⟩ : ∃ z2, z2 = flushZ z1 := ⟨_, rfl⟩
  have hl1 : Live z1 := by rw [hz1']; exact (live_new A).write _ _
  have hl2 : Live z2 := by rw [hz2']; exact hl1.flush
  have hw1 : z1.wait.length ≤ 4000000000000 := by rw [hz1']; exact Nat.le_trans (write_wait _ _ _) (by show 0 + 1 ≤ _; omega)
  have hw2 : z2.wait.length ≤ 4000000000000 := by rw [hz2']; exact Nat.le_trans (flush_wait _) hw1
  have hsz2 : SZ z2 := by rw [hz2']; exact sz_flush z1 hl1 (by rw [hz1']; exact sz_write _ (live_new A) hzA _ _)
  have hln2 : z2.safe.length = A.length := by rw [hz2', flush_len, hz1', write_safe]; rfl
  have hrd : ∃ x, readB z2 0 = x ∧ x.size = 64 := by
    refine ⟨_, rfl, ?_⟩
    have := (readB_live z2 hl2 0 (by omega)).1
    rw [show readB z2 0 = readB z2 ((0 : Nat) : Int) from rfl, this]
    have hwe : z2.wait = [] := by rw [hz2', hl1.flushZ]
    have : readS z2 0 = getS z2.safe 0 := by unfold readS; rw [hwe]; rfl
    rw [this]
    unfold getS
    rw [List.getElem?_eq_getElem (show 0 < z2.safe.length by omega)]
    exact hsz2.1 _ (List.getElem_mem _)
  obtain ⟨x, hx1, hx2⟩ := hrd
  have HX1 := Lib.hid hx1
  have HW1 := Lib.hid hw1
  have HW2 := Lib.hid hw2
  have CWR := Lib.hid (fun (R : Asn) (hR : Stable R) w' d (h : Own w w' (Star (dsk d (newZ A)) R)) => o_write h hR i (secF s) (by show 0 ≤ _; omega))
  have CFL := Lib.hid (fun (R : Asn) (hR : Stable R) w' d (h : Own w w' (Star (dsk d z1) R)) => o_flush h hR hw1)
  have CRD := Lib.hid (fun (R : Asn) (hR : Stable R) w' d (h : Own w w' (Star (dsk d z2) R)) => o_read h hR 0 hw2)
  rw [← hz1'] at CWR
  rw [← hz2'] at CFL
  rw [hx1] at CRD
  generalize writeR (newZ A) i (secF s) = wr1 at *
  generalize flushR z1 = fr1 at *
  generalize readR z2 0 = rr2 at *
  have hne : ¬ x = ⟨#[63]⟩ := fun e => by rw [e] at hx2; exact absurd hx2 (by decide)
  have HNE := Lib.hid hne
  obtain ⟨n, hnn⟩ : ∃ n, n = A.length := ⟨_, rfl⟩
  have HN := Lib.hid hnn
  rw [← hnn] at CO CE h1 h2
  rw [show A.length = n from hnn.symm]
  clear hA hnn hcs hn hall h64 hsz hz1' hz2' hl1 hl2 hw1 hw2 hsz2 hln2 hx1 hx2 hne hzA
  go_enter Try.func4, Try.ntmps4
  go_wp2_with fail
  refine (c_shown _).mono ?_
  rintro e w1 ⟨rfl, g1⟩
  have G1 := Lib.hid g1
  clear g1
  go_wp2_with (at_builtin; refine wpList_append_grows _ rfl _ _ 37 rfl 9 i0 (.string ⟨#[]⟩) 1 16 Try.underlying37 hi0 hz0 hz1 hz2 rfl (by decide) (some ⟨w1.heap.size, 0, none⟩) 0 0 [] rfl (by simp) rfl (by intro b _ j u h; simp at h) ⟨sb, off, none⟩ n c (strs A) rfl (by rw [HLS.out, HN.out]; omega) (fun j u h => by rw [Addr.add_lit]; exact calloc _ (kcell G1.out (HCS.out j u h))) (strs_one A) (by omega) (by unfold maxLen; omega) (by omega) ?_; intro v' w2 hown hgrow; obtain ⟨gw, cw, rfl, hbg, hlt1⟩ := hown.form (by omega); have HGROW := Lib.hid hgrow; have HOWN := Lib.hid hown; have HBG := Lib.hid hbg; clear hown hgrow hbg hlt1)
  rw [Nat.zero_add] at *
  have H2 : RowKit.Hid (Own w w2 (Star (rowA 9 1 (.slice (some ⟨gw, 0, none⟩) n cw) n (strs A)) emp)) := by
    have g0 : Gr w (w1.alloc (.cells #[] 9)) := gtrans G1.out (Below.alloc (Below.refl _ _) (Nat.le_refl _) _)
    have ho := own_base HOWN.out
    rw [List.nil_append] at ho
    exact Lib.hid ((Own.start g0).add stable_emp (gr_grown HGROW.out) ⟨fun x => x = gw, ⟨ho, fun b hb => by injection hb with hb; exact hb.symm⟩, fun x hx => ⟨by rw [hx]; exact HBG.out, by rw [hx]; exact ownsRow_lt ho⟩⟩)
  refine (CO.out _ H2.out.sub).mono ?_
  rintro e w3 ⟨d, F3, rfl, k31, k32, k33⟩
  have H3 := Lib.hid (H2.out.add (by repeat (first | exact stable_emp | exact stable_dsk _ _ | exact stable_rdk _ _ | exact stable_row _ _ _ _ _ | exact stable_blk _ _ | apply stable_star)) k33 ⟨F3, k31, k32⟩ : Own w w3 (Star (dsk d (newZ A)) _))
  clear k31 k32 k33
  go_wp2_with fail
  refine (CE.out _ H3.out.sub).mono ?_
  rintro e w4 ⟨r, F4, rfl, k41, k42, k43⟩
  have H4 := Lib.hid (H3.out.gr (by repeat (first | exact stable_emp | exact stable_dsk _ _ | exact stable_rdk _ _ | exact stable_row _ _ _ _ _ | exact stable_blk _ _ | apply stable_star)) k43)
  clear k41 k42 k43
  go_wp2_with fail
  refine (o_image H4.out (by repeat (first | exact stable_emp | exact stable_dsk _ _ | exact stable_rdk _ _ | exact stable_row _ _ _ _ _ | exact stable_blk _ _ | apply stable_star))).mono ?_
  rintro e w5 ⟨g5, c5, rfl, h5⟩
  have H5 : RowKit.Hid (Own w w5 (Star (rowA 9 1 (.slice (some ⟨g5, 0, none⟩) A.length c5) A.length (strs A)) (Star (dsk d (newZ A)) (Star (rowA 9 1 (.slice (some ⟨gw, 0, none⟩) n cw) n (strs A)) emp)))) := Lib.hid h5
  rw [show (newZ A).safe.length = A.length from rfl]
  clear h5
  have r1 : RowS w5 (some ⟨g5, 0, none⟩) A := rowS_own H5.out.row
  have r2 : RowS w5 (some ⟨gw, 0, none⟩) A := rowS_own (by have := H5.out.rot3.row; rw [HN.out] at this; exact this)
  have CS := Lib.hid (e_same w5 _ _ c5 cw A A r1 r2 (by have := HN.out; omega))
  rw [show sameB A A = true from decide_eq_true rfl, ← HN.out] at CS
  rw [← HN.out] at H5 ⊢
  clear r1 r2
  have hn0 : (0 : Int) < n := by omega
  go_wp2_with fail
  refine CS.out.mono ?_
  rintro e w6 ⟨rfl, g6⟩
  have H6 := Lib.hid (H5.out.gr (by repeat (first | exact stable_emp | exact stable_dsk _ _ | exact stable_rdk _ _ | exact stable_row _ _ _ _ _ | exact stable_blk _ _ | apply stable_star)) g6)
  have hc0 : w6.cell? ⟨g5, 0, none⟩ = (strs A)[0]? := World.ownsRow.cellAt H6.out.row 0 (by omega)
  obtain ⟨s0, hs0⟩ : ∃ s0, (strs A)[0]? = some s0 := ⟨_, List.getElem?_eq_getElem (by rw [HLS.out, ← HN.out]; omega)⟩
  rw [hs0] at hc0
  have hf0 : w6.frozen? ⟨g5, 0, none⟩ = false := World.ownsRow.frozenAt H6.out.row 0
  have H7 := Lib.hid (H6.out.stored (by repeat (first | exact stable_emp | exact stable_dsk _ _ | exact stable_rdk _ _ | exact stable_row _ _ _ _ _ | exact stable_blk _ _ | apply stable_star)) 0 (.string ⟨#[63]⟩)).right
  clear g6 CS hs0
  go_wp2_with fail
  refine (c_sector _ HSZ.out _).mono ?_
  rintro e w8 ⟨rfl, g8⟩
  have H8 := Lib.hid (H7.out.gr (by repeat (first | exact stable_emp | exact stable_dsk _ _ | exact stable_rdk _ _ | exact stable_row _ _ _ _ _ | exact stable_blk _ _ | apply stable_star)) g8)
  clear g8 hc0 hf0
  go_wp2_with fail
  refine (CWR.out _ (by repeat (first | exact stable_emp | exact stable_dsk _ _ | exact stable_rdk _ _ | exact stable_row _ _ _ _ _ | exact stable_blk _ _ | apply stable_star)) _ _ H8.out).mono ?_
  rintro e w9 ⟨rfl, h9⟩
  have H9 := Lib.hid h9
  clear h9
  go_wp2_with fail
  refine (CFL.out _ (by repeat (first | exact stable_emp | exact stable_dsk _ _ | exact stable_rdk _ _ | exact stable_row _ _ _ _ _ | exact stable_blk _ _ | apply stable_star)) _ _ H9.out).mono ?_
  rintro e w10 ⟨rfl, h10⟩
  have H10 := Lib.hid h10
  have r1 : RowS w10 (some ⟨sb, off, none⟩) A := HA.out.gr h10.sub
  have r2 : RowS w10 (some ⟨gw, 0, none⟩) A := rowS_own (by have := h10.swap2.row; rw [HN.out] at this; exact this)
  have CS := Lib.hid (e_same w10 _ _ c cw A A r1 r2 (by have := HN.out; omega))
  rw [show sameB A A = true from decide_eq_true rfl, ← HN.out] at CS
  clear r1 r2 h10
  go_wp2_with fail
  refine CS.out.mono ?_
  rintro e w11 ⟨rfl, g11⟩
  have H11 := Lib.hid (H10.out.gr (by repeat (first | exact stable_emp | exact stable_dsk _ _ | exact stable_rdk _ _ | exact stable_row _ _ _ _ _ | exact stable_blk _ _ | apply stable_star)) g11)
  clear g11 CS
  go_wp2_with fail
  refine (CRD.out _ (by repeat (first | exact stable_emp | exact stable_dsk _ _ | exact stable_rdk _ _ | exact stable_row _ _ _ _ _ | exact stable_blk _ _ | apply stable_star)) _ _ H11.out).mono ?_
  rintro e w12 ⟨rfl, h12⟩
  have H12 := Lib.hid h12
  have hne2 := tl_ne HNE.out
  rw [Go.ByteArray.toList_eq ⟨#[63]⟩] at hne2
  have hne3 : (x.toList == [63]) = false := hne2
  clear hne2
  clear h12
  go_wp2_with fail
  go_ret
  exact ⟨rfl, H12.out.sub⟩
end Go.Proofs.Ytipnmffcfloglaa.P
