/- Stage 8: VolPieces, walked. No condition. -/
import Derived.Test.YtlpcccpagmipnaaGreatWV
set_option linter.unusedVariables false
set_option linter.unusedSimpArgs false
set_option maxRecDepth 100000
namespace Go.Proofs.YtlpcccpagmipnaaGreat.P
open Go.RowKit Go.ChangeMaps Go.MapKept
theorem app_toList8 (a b : ByteArray) : (a ++ b).data.toList = a.data.toList ++ b.data.toList := by
  rw [ByteArray.data_append, Array.toList_append]
theorem takes_all {s : Nat} (h : s ≤ 2368) : takesN s ≤ 38 := by unfold takesN cntN; split <;> omega
theorem toL_size (D : ByteArray) : D.data.toList.length = D.size := (Go.Lib.size_eq D).symm
section
variable {w0 w : World} {d l V m lk : Nat} {R : Asn} {D : ByteArray}
theorem q_piece (h : VS w0 d 68 l V R m (oneN lk D.data.toList) w) (hs : Stable R) (hm : m ≤ 16) (s : ByteArray) (h5 : s.size ≤ 512) (h6 : D.size + s.size ≤ 2368) :
    Calls Tryz.prog 36 #[.pointer (some ⟨V, 0, none⟩), .int .i64 0, .int .i64 (D.size : Int), .string s] w fun e w' => e = .returned (.int .i64 0) ∧ VS w0 d 68 l V R (m + wrC D.size s.size) (oneN lk (D ++ s).data.toList) w' := by
  have h7 : wrD D.data.toList D.size s.data.toList = (D ++ s).data.toList := by
    have := wrD_end D.data.toList s.data.toList
    rw [toL_size] at this
    rw [this, app_toList8]
  have := q_write h hs (by omega) (by omega) hm D.size s (by rw [toL_size]; omega) h5 h6 (by
    have := takes_all (s := (wrD D.data.toList D.size s.data.toList).length) (by rw [h7, toL_size, ByteArray.size_append]; omega)
    omega)
  rw [h7] at this
  exact this
theorem q_piece_no (h : VS w0 d 68 l V R m (oneN lk D.data.toList) w) (hs : Stable R) (hm : m ≤ 16) (s : ByteArray) (h5 : ¬ (s.size ≤ 512 ∧ D.size + s.size ≤ 2368)) :
    ∃ r : Int, (r == 0) = false ∧ Calls Tryz.prog 36 #[.pointer (some ⟨V, 0, none⟩), .int .i64 0, .int .i64 (D.size : Int), .string s] w fun e w' => e = .returned (.int .i64 r) ∧ VS w0 d 68 l V R (m + wrC D.size s.size) (oneN lk D.data.toList) w' := by
  have hd : (oneN lk D.data.toList (0 : Int).toNat).data = D.data.toList := rfl
  have hl := toL_size D
  have hl2 := toL_size s
  have hw : ∃ r : Int, (r == 0) = false ∧ writeN (oneN lk D.data.toList) 68 false 0 (D.size : Int) s.data.toList = (r, oneN lk D.data.toList) := by
    unfold writeN
    rw [find_one, if_neg (fun e => e rfl), hd]
    by_cases h1 : 512 < s.data.toList.length
    · exact ⟨1, rfl, by rw [if_pos (.inr (.inr h1))]⟩
    · exact ⟨15, rfl, by rw [if_neg (by omega), if_pos (by omega)]⟩
  obtain ⟨r, h1, h2⟩ := hw
  refine ⟨r, h1, ?_⟩
  have := k_write h hs (by omega) (by omega) hm 0 (D.size : Int) s
  rw [h2, Int.toNat_natCast] at this
  exact this
end
set_option maxHeartbeats 12800000 in
theorem l_pieces8 (w : World) (o : Option Addr) (c : Nat) (A : List ByteArray) (hA : RowS w o A) (hlA : A.length ≤ 4000000000000000) (hsA : ∀ s ∈ A, s.size ≤ 9223372036854770000) : Calls Tryz.prog 8 #[.slice o A.length c] w fun e w' => e = .returned (.bool true) ∧ Gr w w' := by
  have CS := Lib.hid (c_shown8 w)
  have CF : Hid (∀ w1, Gr w w1 → Calls Tryz.prog 12 #[.int .i64 100] w1 (FreshP w (68 + 32) emp)) := Lib.hid (fun w1 g => c_fresh8 (Own.start g) stable_emp 100)
  unfold FreshP at CF
  have HA := Lib.hid hA
  have HI := Lib.hid stat_info
  have HZ := Lib.hid stat_zero
  have H1S := Lib.hid stat_one
  clear hA
  go_enter Tryz.func8, Tryz.ntmps8
  go_upto_region 2 with (go_at_call 11; refine CS.out.mono ?_; rintro e w1 ⟨rfl, g1⟩; have G1 := Lib.hid g1; clear g1)
  go_upto_region 3 with (go_at_call 12; refine (CF.out _ G1.out).mono ?_; rintro e w2 ⟨d, l, ml, rfl, h2⟩; have H2 := Lib.hid h2; clear h2)
  go_upto_region 6 with (go_at_call 13; refine (k_format H2.out stable_emp (by omega) (by omega)).mono ?_; rintro e w3 ⟨V, rfl, h3⟩; have H3 := Lib.hid h3; clear h3)
  go_upto_region 7 with (go_at_call 14; refine (k_commit H3.out stable_emp (by omega) (by omega)).mono ?_; rintro e w4 ⟨rfl, h4⟩; have H4 := Lib.hid h4; clear h4)
  go_upto_region 10 with (go_at_call 35; refine (q_new H4.out stable_emp (by omega) (by omega) (by omega)).mono ?_; rintro e w5 ⟨rfl, h5⟩; have H5 := Lib.hid h5; clear h5)
  clear CS CF G1 H2 H3 H4
  go_wp2_with fail
  go_loopw [10, 11] (fun v10 v11 wr => ∃ (k m : Nat) (D : ByteArray), k ≤ A.length ∧ m ≤ 16 ∧ D.size ≤ 2368 ∧ v11 = .int .i64 (k : Int) ∧ v10 = .string D ∧ VS w d 68 l V emp m (oneN 0 D.data.toList) wr) (fun _ v _ => A.length - (intOf v).toNat)
  case atStart => exact ⟨0, 1, ⟨#[]⟩, Nat.zero_le _, by omega, by decide, rfl, rfl, H5.out⟩
  case round =>
    clear H5
    obtain ⟨k, m, D, hk, hm, hD, rfl, rfl, ho⟩ := hrel
    have HO := Lib.hid ho
    clear ho
    by_cases hlt : k < A.length
    · have dl : decide (k < A.length) = true := decide_eq_true hlt
      obtain ⟨s, hx⟩ : ∃ s, A[k]? = some s := ⟨A[k], List.getElem?_eq_getElem hlt⟩
      obtain ⟨b, off, rfl, cx⟩ := HA.out.gr HO.out.sub k s hx
      have HKC : Hid (∀ wx, Gr w wx → wx.cell? ⟨b, off + k, none⟩ = some (.string s)) := Lib.hid (fun wx g => by
        obtain ⟨b2, off2, e2, c2⟩ := HA.out.gr g k s hx
        injection e2 with e2
        injection e2 with e3 e4
        rw [e3, e4]
        exact c2)
      clear hx
      by_cases hok : s.size ≤ 512 ∧ D.size + s.size ≤ 2368
      · have CW := Lib.hid (q_piece HO.out stable_emp hm s hok.1 hok.2)
        go_upto_region 15 with (go_at_call 36; refine CW.out.mono ?_; rintro e w8 ⟨rfl, h8⟩; have H8 := Lib.hid h8; clear h8)
        clear CW cx HO
        have c8 := HKC.out _ H8.out.sub
        go_wp2_with (go_at_call 14; refine (k_commit H8.out stable_emp (by omega) (by omega)).mono ?_; rintro e w9 ⟨rfl, h9⟩; have H9 := Lib.hid h9; clear h9)
        go_roundw
        case rel => exact ⟨k + 1, 0, D ++ s, by omega, by omega, by rw [ByteArray.size_append]; omega, by go_num, rfl, H9.out⟩
        case measure => simp [intOf]; omega
      · obtain ⟨r, hr, cw⟩ := q_piece_no HO.out stable_emp hm s hok
        have CW := Lib.hid cw
        clear cw
        go_upto_region 15 with (go_at_call 36; refine CW.out.mono ?_; rintro e w8 ⟨rfl, h8⟩; have H8 := Lib.hid h8; clear h8)
        clear CW cx HO
        go_wp2_with (go_at_call 14; refine (k_commit H8.out stable_emp (by omega) (by omega)).mono ?_; rintro e w9 ⟨rfl, h9⟩; have H9 := Lib.hid h9; clear h9)
        go_roundw
        case rel => exact ⟨k + 1, 0, D, by omega, by omega, hD, by go_num, rfl, H9.out⟩
        case measure => simp [intOf]; omega
    · obtain rfl : k = A.length := by omega
      have dl : decide (A.length < A.length) = false := decide_eq_false (by omega)
      have CR := Lib.hid (q_read HO.out stable_emp (by omega) (by omega) 0 5000 (by omega) (by omega) D (by rw [List.drop_zero, List.take_of_length_le (by rw [toL_size]; omega)]))
      have CST : Hid (∀ wx, VS w d 68 l V emp m (oneN 0 D.data.toList) wx → Calls Tryz.prog 31 #[.pointer (some ⟨V, 0, none⟩), .int .i64 0] wx fun e w' => e = .returned (.tuple #[.agg (statL (stI 0 D.size)), .int .i64 0]) ∧ VS w d 68 l V emp m (oneN 0 D.data.toList) w') := Lib.hid (fun wx hw => by
        have := q_stat hw stable_emp (by omega) (by omega)
        rw [toL_size] at this
        exact this)
      clear HO
      go_upto_region 19 with (go_at_call 33; refine CR.out.mono ?_; rintro e w8 ⟨rfl, h8⟩; have H8 := Lib.hid h8; clear h8)
      go_upto_region 20 with (first
        | (go_at_call 31; refine (CST.out _ H8.out).mono ?_; rintro e w9 ⟨rfl, h9⟩; have H9 := Lib.hid h9; clear h9)
        | (refine wpList_alloc_blk rfl 56 stat0 rfl (HZ.out _) ?_)
        | (refine wpList_store_row rfl _ _ _ rfl w9.heap.size (statL (stI 0 D.size)) rfl rfl _ _ (blk_new w9 _) (HI.out (stI 0 D.size)) rfl (H1S.out (stI 0 D.size)) ?_))
      have H10 := Lib.hid (vs_stat H9.out stable_emp (statL (stI 0 D.size)))
      generalize (World.setRow _ _ _) = w10 at *
      generalize w9.heap.size = g at *
      clear H8 H9 CST CR
      have c2 : w10.cell? ⟨g, 2, none⟩ = some (.int .i64 (D.size : Int)) := blk_cell H10.out.1 2 rfl
      have HX := Lib.hid H10.out.2.sub
      go_wp2_with fail
      go_ret
      exact ⟨rfl, HX.out⟩
end Go.Proofs.YtlpcccpagmipnaaGreat.P
