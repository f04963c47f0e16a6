/- Stage 7: rows of texts held against each other. No condition. -/
import Derived.Test.YtgaibknhdaeidaaA30
import Derived.Deep.QuietTactic
import Derived.BigQuiet
set_option linter.unusedVariables false
set_option maxRecDepth 50000
namespace Go.Proofs.Ytgaibknhdaeidaa.P
open Go.RowKit
theorem rowS_own {w : World} {g c : Nat} {A : List ByteArray} (h : w.ownsRow 0 9 1 (.slice (some ⟨g, 0, none⟩) A.length c) A.length (strs A)) : RowS w (some ⟨g, 0, none⟩) A := fun j s hj => by
  refine ⟨g, 0, rfl, ?_⟩
  have hl : j < A.length := (List.getElem?_eq_some_iff.1 hj).1
  rw [Nat.zero_add, World.ownsRow.cellAt h j (by omega)]
  unfold strs; rw [List.getElem?_map, hj]; rfl
theorem beq_of {x s : ByteArray} (h : x = s) : (x.toList == s.toList) = true := by rw [h]; exact beq_self_eq_true _
def sameB (A B : List ByteArray) : Bool := decide (A = B)
theorem same_step (A B : List ByteArray) (hl : A.length = B.length) (h : ∀ j, j < A.length → A[j]? = B[j]?) : sameB A B = true := by
  unfold sameB
  refine decide_eq_true (List.ext_getElem? fun j => ?_)
  rcases Nat.lt_or_ge j A.length with hj | hj
  · exact h j hj
  · rw [List.getElem?_eq_none hj, List.getElem?_eq_none (by omega)]
set_option maxHeartbeats 1600000 in
theorem e_same (w : World) (oa ob : Option Addr) (ca cb : Nat) (A B : List ByteArray) (hA : RowS w oa A) (hB : RowS w ob B) (hla : A.length ≤ 4000000000000000) :
    Calls Try.prog 18 #[.slice oa A.length ca, .slice ob B.length cb] w fun e w' => e = .returned (.bool (sameB A B)) ∧ Gr w w' := by
  by_cases hl : A.length = B.length
  · have HA := Lib.hid hA
    have HB := Lib.hid hB
    have HL := Lib.hid hl
    obtain ⟨n, hn⟩ : ∃ n, n = A.length := ⟨_, rfl⟩
    have HN := Lib.hid hn
    rw [← hl, ← hn]
    rw [← hn] at hla
    clear hA hB hl hn
    go_enter Try.func18, Try.ntmps18
    go_wp2_with fail
    go_loopw [5] (fun v wr => ∃ k : Nat, k ≤ n ∧ v = .int .i64 k ∧ (∀ j, j < k → A[j]? = B[j]?) ∧ Gr w wr) (fun v _ => n - (intOf v).toNat)
    case atStart => exact ⟨0, Nat.zero_le _, rfl, fun j h => absurd h (by omega), Gr.refl _⟩
    case round =>
      obtain ⟨k, hk, rfl, hj, hg⟩ := hrel
      have HJ := Lib.hid hj
      have HG := Lib.hid hg
      clear hj hg
      by_cases hlt : k < n
      · have dl : decide (k < n) = true := decide_eq_true hlt
        have ha : A[k]? = some (A[k]'(by have := HN.out; omega)) := List.getElem?_eq_getElem _
        have hb : B[k]? = some (B[k]'(by have := HN.out; have := HL.out; omega)) := List.getElem?_eq_getElem _
        obtain ⟨b1, o1, rfl, ca1⟩ := (HA.out.gr HG.out) k _ ha
        obtain ⟨b2, o2, rfl, ca2⟩ := (HB.out.gr HG.out) k _ hb
        generalize A[k]'_ = x at *
        generalize B[k]'_ = y at *
        have H1 := Lib.hid ha
        have H2 := Lib.hid hb
        clear ha hb
        by_cases hxy : x = y
        · subst hxy
          go_upto_region 6 with fail
          go_quiet (fail)
          go_wp2_with fail
          go_roundw
          case rel => exact ⟨k + 1, by omega, by go_num, fun j hj => by
            rcases Nat.lt_or_ge j k with h | h
            · exact HJ.out j h
            · have : j = k := by omega
              subst this; rw [H1.out, H2.out], HG.out.drewN _⟩
          case measure => simp [intOf]; omega
        · have hne := tl_ne hxy
          have HXY : RowKit.Hid (sameB A B = false) := Lib.hid (by
            unfold sameB; refine decide_eq_false (fun e => hxy ?_)
            have := H1.out; rw [e, H2.out] at this; injection this with this; exact this.symm)
          clear hxy
          go_upto_region 6 with fail
          go_quiet (fail)
          go_wp2_with fail
          go_ret
          exact ⟨by rw [HXY.out]; rfl, HG.out.drewN _⟩
      · obtain rfl : k = n := by omega
        have dl : decide (k < k) = false := decide_eq_false (by omega)
        go_wp2_with fail
        go_ret
        exact ⟨by rw [same_step A B HL.out (fun j h => HJ.out j (by have := HN.out; omega))]; rfl, HG.out⟩
  · have HXY : RowKit.Hid (sameB A B = false) := Lib.hid (decide_eq_false (fun e => hl (by rw [e])))
    have hl2 : ((A.length : Int) == (B.length : Int)) = false := beq_eq_false_iff_ne.2 (by omega)
    have hl3 : ((A.length : Int) != (B.length : Int)) = true := bne_iff_ne.2 (by omega)
    have hl4 : ¬ (A.length : Int) = (B.length : Int) := by omega
    go_enter Try.func18, Try.ntmps18
    go_wp2_with fail
    go_ret
    exact ⟨by rw [HXY.out]; rfl, Gr.refl _⟩
end Go.Proofs.Ytgaibknhdaeidaa.P
namespace Go.Proofs.Ytgaibknhdaeidaa.P
open Go.RowKit
abbrev imgA (g c : Nat) : Asn := rowA 9 1 (.slice (some ⟨g, 0, none⟩) 60 c) 60 (strs zG.safe)
theorem e_img {w0 w : World} {d l mb : Nat} {st : List (Int × ByteArray)} {dead : Bool} {R : Asn} (h : Own w0 w (DL d zG l mb st dead R)) (hs : Stable R) :
    Calls Try.prog 19 #[ptr d] w fun e w' => ∃ g c, e = .returned (.slice (some ⟨g, 0, none⟩) 60 c) ∧ Own w0 w' (DL d zG l mb st dead (Star (imgA g c) R)) :=
  (o_image h (stable_star (stable_lg _ _ _ _ _) hs)).mono (by
    rintro e w' ⟨g, cap, rfl, k⟩
    rw [zG_len] at k ⊢
    exact ⟨g, cap, rfl, k.rot3'⟩)
theorem e_sameI {w0 w : World} {d l mb ga ca gb cb : Nat} {st : List (Int × ByteArray)} {dead : Bool} {R : Asn} (h : Own w0 w (DL d zG l mb st dead (Star (imgA gb cb) (Star (imgA ga ca) R)))) :
    Calls Try.prog 18 #[.slice (some ⟨ga, 0, none⟩) 60 ca, .slice (some ⟨gb, 0, none⟩) 60 cb] w fun e w' => e = .returned (.bool true) ∧ Gr w w' := by
  have hb : RowS w (some ⟨gb, 0, none⟩) zG.safe := rowS_own (c := cb) (by rw [zG_len]; exact h.right.right.row)
  have ha : RowS w (some ⟨ga, 0, none⟩) zG.safe := rowS_own (c := ca) (by rw [zG_len]; exact h.right.right.right.row)
  have := e_same w _ _ ca cb zG.safe zG.safe ha hb (by rw [zG_len]; omega)
  rw [zG_len] at this
  have e1 : sameB zG.safe zG.safe = true := decide_eq_true rfl
  rw [e1] at this
  exact this
theorem e_gety {w0 w : World} {d l mb : Nat} {R : Asn} (hs : Stable R) (i : Int) (h : Own w0 w (DL d zG l mb [] false R)) :
    Calls Try.prog 20 #[ptr l, .int .i64 i] w fun e w' => e = .returned (.tuple #[.string (getB false zG [] i), .int .i64 (getR false zG [] i)]) ∧ Own w0 w' (DL d zG l mb [] false R) := o_get h hs i (by show 0 ≤ _; omega)
theorem e_waitG {w0 w : World} {d l mb : Nat} {st : List (Int × ByteArray)} {dead : Bool} {R : Asn} (h : Own w0 w (DL d zG l mb st dead R)) :
    Calls Try.prog 21 #[ptr d] w fun e w' => e = .returned (.int .i64 0) ∧ w' = w := o_waiting h
theorem stable_img (g c : Nat) {R : Asn} (hs : Stable R) : Stable (Star (imgA g c) R) := stable_star (stable_row _ _ _ _ _) hs
set_option maxHeartbeats 6400000 in
theorem l_hides7 (w : World) (oI oS : Option Addr) (cI cS : Nat) (I : List Int) (S : List ByteArray) (hI : RowI w oI I) (hS : RowS w oS S) (hlI : I.length ≤ 4000000000000000) (hlS : S.length ≤ 4000000000000000) (hss : ∀ s ∈ S, s.size ≤ 9223372036854770000) (i : Int) :
    Calls Try.prog 4 #[.agg #[.slice oI I.length cI, .slice oS S.length cS], .int .i64 i] w fun e w' => e = .returned (.bool true) ∧ Gr w w' := by
  obtain ⟨wA, hwA⟩ : ∃ wA, wA = w.alloc (.cells #[.slice oI I.length cI, .slice oS S.length cS] 26) := ⟨_, rfl⟩
  have gA : Gr w wA := by rw [hwA]; exact (Gr.refl w).alloc (Nat.le_refl _) _
  have hbA : wA.heap[w.heap.size]? = some (.cells #[.slice oI I.length cI, .slice oS S.length cS] 26) := by rw [hwA]; exact blk_new _ _
  have HBX : Hid (∀ w1, Gr wA w1 → w1.heap[w.heap.size]? = some (.cells #[.slice oI I.length cI, .slice oS S.length cS] 26)) := Lib.hid (fun w1 g => blk_gr g hbA)
  have CSH := Lib.hid (c_shown7 wA)
  have CN : Hid (∀ w1, Gr wA w1 → Calls Try.prog 11 #[.int .i64 60] w1 fun e w' => ∃ d, e = .returned (.tuple #[ptr d, .int .i64 0]) ∧ Own wA w' (Star (dsk d zG) emp)) := Lib.hid (fun w1 g => o_new (Own.start g) stable_emp 60 (by omega) (by omega))
  have CX : Hid (∀ d l mb g c w1, Own wA w1 (DL d zG l mb [] false (Star (imgA g c) emp)) → Calls Try.prog 13 #[ptr l, .agg #[.slice oI I.length cI, .slice oS S.length cS]] w1 fun e w' => e = .returned (.tuple #[]) ∧ Own wA w' (DL d zG l mb (setsF 60 [] (I.zip S)) false (Star (imgA g c) emp))) :=
    Lib.hid (fun d l mb g c w1 h => by
      have := o_sets h (stable_img g c stable_emp) (by rw [zG_len]; exact ok_nil 60) oI oS cI cS I S (hI.gr gA) (hS.gr gA) hlI hlS hss
      rw [zG_len] at this
      exact this)
  have GA := Lib.hid gA
  clear hI hS hss hbA gA
  generalize setsF 60 [] (I.zip S) = st at *
  have hbq : ∀ b : ByteArray, (b.toList == b.toList) = true := fun b => beq_self_eq_true _
  have CG : Hid (∀ d l mb (R : Asn) w1, Stable R → Own wA w1 (DL d zG l mb [] false R) → Calls Try.prog 20 #[ptr l, .int .i64 i] w1 fun e w' => e = .returned (.tuple #[.string (getB false zG [] i), .int .i64 (getR false zG [] i)]) ∧ Own wA w' (DL d zG l mb [] false R)) := Lib.hid (fun d l mb R w1 hs h => e_gety hs i h)
  generalize getB false zG [] i = gb at *
  generalize getR false zG [] i = gr at *
  go_enter Try.func4, Try.ntmps4
  go_upto_region 1 with fail
  rw [← hwA]
  generalize w.heap.size = B0 at *
  clear hwA
  go_upto_region 3 with (first
    | (go_at_call 10; refine CSH.out.mono ?_; rintro e w1 ⟨rfl, h1⟩; have H1 := Lib.hid h1; clear h1)
    | (go_at_call 11; refine (CN.out _ H1.out).mono ?_; rintro e w2 ⟨d, rfl, h2⟩; have H2 := Lib.hid h2; clear h2))
  clear CSH CN
  go_upto_region 8 with (go_at_call 12; refine (o_open_ok H2.out stable_emp (sz_new 60) (by show 0 ≤ _; omega) zG (ex_new 60 (by omega))).mono ?_; rintro e w3 ⟨l, mb, rfl, h3⟩; have H3 := Lib.hid h3; clear h3)
  go_upto_region 9 with (go_at_call 19; refine (e_img H3.out stable_emp).mono ?_; rintro e w4 ⟨ga, ca, rfl, h4⟩; have H4 := Lib.hid h4; clear h4)
  go_upto_region 10 with (go_at_call 20; refine (CG.out _ _ _ _ _ (stable_img _ _ stable_emp) H4.out).mono ?_; rintro e w5 ⟨rfl, h5⟩; have H5 := Lib.hid h5; clear h5)
  have hb5 := HBX.out w5 H5.out.sub
  have t0 := blk_cell hb5 0 (v := .slice oI I.length cI) rfl
  have t1 := blk_cell hb5 1 (v := .slice oS S.length cS) rfl
  clear hb5
  go_upto_region 11 with (go_at_call 13; refine (CX.out _ _ _ _ _ _ H5.out).mono ?_; rintro e w6 ⟨rfl, h6⟩; have H6 := Lib.hid h6; clear h6)
  clear t0 t1 CX
  go_upto_region 12 with (go_at_call 19; refine (e_img H6.out (stable_img _ _ stable_emp)).mono ?_; rintro e w7 ⟨gb2, cb2, rfl, h7⟩; have H7 := Lib.hid h7; clear h7)
  go_upto_region 14 with (first
    | (go_at_call 21; refine (e_waitG H7.out).mono ?_; rintro e w8 ⟨rfl, rfl⟩)
    | (go_at_call 22; refine (o_abort H7.out (stable_img _ _ (stable_img _ _ stable_emp))).mono ?_; rintro e w9 ⟨rfl, h9⟩; have H9 := Lib.hid h9; clear h9))
  go_upto_region 15 with (go_at_call 20; refine (CG.out _ _ _ _ _ (stable_img _ _ (stable_img _ _ stable_emp)) H9.out).mono ?_; rintro e w10 ⟨rfl, h10⟩; have H10 := Lib.hid h10; clear h10)
  go_upto_region 17 with (first
    | (go_at_call 23; refine (o_staged H10.out).mono ?_; rintro e w11 ⟨rfl, rfl⟩)
    | (go_at_call 14; refine (o_commit_nil H10.out).mono ?_; rintro e w12 ⟨rfl, rfl⟩))
  go_upto_region 18 with (go_at_call 18; refine (e_sameI H10.out).mono ?_; rintro e w13 ⟨rfl, g13⟩; have H13 := Lib.hid (H10.out.gr (stable_dl _ _ _ _ _ _ (stable_img _ _ (stable_img _ _ stable_emp))) g13); clear g13)
  go_wp2_with (go_at_call 21; refine (e_waitG H13.out).mono ?_; rintro e w14 ⟨rfl, rfl⟩)
  go_ret
  exact ⟨by simp, gtrans GA.out H13.out.sub⟩
end Go.Proofs.Ytgaibknhdaeidaa.P
