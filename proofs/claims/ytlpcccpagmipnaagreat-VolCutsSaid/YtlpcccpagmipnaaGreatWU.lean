/- Stage 8: VolCuts, walked. No condition. -/
import Derived.Test.YtlpcccpagmipnaaGreatWT
set_option linter.unusedVariables false
set_option linter.unusedSimpArgs false
set_option maxRecDepth 100000
namespace Go.Proofs.YtlpcccpagmipnaaGreat.P
open Go.RowKit Go.ChangeMaps Go.MapKept
theorem takes_small {s : Nat} (h : s ≤ 1024) : takesN s ≤ 17 := by unfold takesN cntN; split <;> omega
theorem app_toList (a b : ByteArray) : (a ++ b).data.toList = a.data.toList ++ b.data.toList := by
  rw [ByteArray.data_append, Array.toList_append]
theorem take_all0 {L : List UInt8} {m : Nat} (h : L.length ≤ m) : (L.drop 0).take m = L := by rw [List.drop_zero, List.take_of_length_le h]
set_option maxHeartbeats 12800000 in
theorem l_cuts8 (s t : ByteArray) (size : Int) (w : World) (hsz : size ≤ 9223372036854775807) : Calls Tryz.prog 9 #[.string s, .int .i64 size, .string t] w fun e w' => e = .returned (.bool true) ∧ Gr w w' := by
  have CS := Lib.hid (c_shown8 w)
  have CF : Hid (∀ w1, Gr w w1 → Calls Tryz.prog 12 #[.int .i64 100] w1 (FreshP w (68 + 32) emp)) := Lib.hid (fun w1 g => c_fresh8 (Own.start g) stable_emp 100)
  unfold FreshP at CF
  have hSS : ∀ x : ByteArray, (x.extract 0 512).size ≤ 512 := fun x => by rw [ByteArray.size_extract]; omega
  go_enter Tryz.func9, Tryz.ntmps9
  go_upto_region 2 with (go_at_call 11; refine CS.out.mono ?_; rintro e w1 ⟨rfl, g1⟩; have G1 := Lib.hid g1; clear g1)
  go_upto_region 3 with (go_at_call 12; refine (CF.out _ G1.out).mono ?_; rintro e w2 ⟨d, l, ml, rfl, h2⟩; have H2 := Lib.hid h2; clear h2)
  go_upto_region 6 with (go_at_call 13; refine (k_format H2.out stable_emp (by omega) (by omega)).mono ?_; rintro e w3 ⟨V, rfl, h3⟩; have H3 := Lib.hid h3; clear h3)
  go_upto_region 7 with (go_at_call 14; refine (k_commit H3.out stable_emp (by omega) (by omega)).mono ?_; rintro e w4 ⟨rfl, h4⟩; have H4 := Lib.hid h4; clear h4)
  go_upto_region 8 with (go_at_call 35; refine (q_new H4.out stable_emp (by omega) (by omega) (by omega)).mono ?_; rintro e w5 ⟨rfl, h5⟩; have H5 := Lib.hid h5; clear h5)
  clear CS CF G1 H2 H3 H4
  by_cases hs5 : 512 < s.size
  · have ds : decide (512 < s.size) = true := decide_eq_true hs5
    have ds2 : (512 : Int) < (s.size : Int) := by omega
    by_cases ht5 : 512 < t.size
    · have dt : decide (512 < t.size) = true := decide_eq_true ht5
      have dt2 : (512 : Int) < (t.size : Int) := by omega
      go_upto_region 12 with fail
      have hS := hSS s
      generalize s.extract 0 512 = S at *
      have hT := hSS t
      generalize t.extract 0 512 = T at *
      have hlS : S.data.toList.length = S.size := (Go.Lib.size_eq S).symm
      have hlT : T.data.toList.length = T.size := (Go.Lib.size_eq T).symm
      have tk1 := takes_small (s := (wrD [] 0 S.data.toList).length) (by rw [wrD_nil]; omega)
      have W1 : Hid (∀ wx m, m ≤ 16 → VS w d 68 l V emp m (oneN 0 []) wx → Calls Tryz.prog 36 #[.pointer (some ⟨V, 0, none⟩), .int .i64 0, .int .i64 0, .string S] wx fun e w' => e = .returned (.int .i64 0) ∧ VS w d 68 l V emp (m + wrC 0 S.size) (oneN 0 S.data.toList) w') := Lib.hid (fun wx m hm hw => by
        have := q_write hw stable_emp (by omega) (by omega) hm 0 S (Nat.zero_le _) hS (by omega) (by omega)
        rw [wrD_nil] at this
        exact this)
      go_upto_region 13 with (go_at_call 36; refine (W1.out _ _ (by omega) H5.out).mono ?_; rintro e w6 ⟨rfl, h6⟩; have H6 := Lib.hid h6; clear h6)
      go_upto_region 14 with (go_at_call 14; refine (k_commit H6.out stable_emp (by omega) (by omega)).mono ?_; rintro e w7 ⟨rfl, h7⟩; have H7 := Lib.hid h7; clear h7)
      clear W1 H5 H6 tk1
      by_cases hb : size < 0 ∨ (S.size : Int) < size
      · have CN := Lib.hid (q_cut_no H7.out stable_emp (by omega) (by omega) (by omega) size (by rw [hlS]; exact hb))
        go_upto_region 15 with (go_at_call 39; refine CN.out.mono ?_; rintro e w8 ⟨rfl, h8⟩; have H8 := Lib.hid h8.sub; clear h8)
        clear CN H7
        by_cases k1 : size < 0
        · have d1 : decide (size < 0) = true := decide_eq_true k1
          go_wp2_with fail
          go_ret
          exact ⟨rfl, H8.out⟩
        · have d1 : decide (size < 0) = false := decide_eq_false k1
          have k2 : (S.size : Int) < size := by omega
          have d2 : decide ((S.size : Int) < size) = true := decide_eq_true k2
          clear hb
          go_wp2_with fail
          go_ret
          exact ⟨rfl, H8.out⟩
      · obtain ⟨q, rfl⟩ : ∃ q : Nat, size = (q : Int) := ⟨size.toNat, by omega⟩
        have hq : q ≤ S.size := by omega
        have k1 : ¬ (q : Int) < 0 := by omega
        have k2 : ¬ (S.size : Int) < (q : Int) := by omega
        have k3 : ¬ S.size < q := by omega
        clear hb
        have hlq : (S.data.toList.take q).length = q := by rw [List.length_take]; omega
        have CN := Lib.hid (q_cut H7.out stable_emp (by omega) (by omega) (by omega) q (by omega))
        go_upto_region 15 with (go_at_call 39; refine CN.out.mono ?_; rintro e w8 ⟨rfl, h8⟩; have H8 := Lib.hid h8; clear h8)
        go_upto_region 18 with (go_at_call 14; refine (k_commit H8.out stable_emp (by omega) (by omega)).mono ?_; rintro e w9 ⟨rfl, h9⟩; have H9 := Lib.hid h9; clear h9)
        have eA : (S.extract 0 q).data.toList = S.data.toList.take q := by rw [ext_toList, List.drop_zero, Nat.sub_zero]
        have R1 := Lib.hid (q_read H9.out stable_emp (by omega) (by omega) 0 600 (by omega) (by omega) (S.extract 0 q) (by rw [eA, take_all0 (by omega)]))
        go_upto_region 19 with (go_at_call 33; refine R1.out.mono ?_; rintro e w10 ⟨rfl, h10⟩; have H10 := Lib.hid h10; clear h10)
        have eW : wrD (S.data.toList.take q) q T.data.toList = S.data.toList.take q ++ T.data.toList := by
          have := wrD_end (S.data.toList.take q) T.data.toList
          rw [hlq] at this
          exact this
        have W2 := Lib.hid (q_write H10.out stable_emp (by omega) (by omega) (by omega) q T (by omega) hT (by omega) (by
          have h1 := takes_small (s := (wrD (S.data.toList.take q) q T.data.toList).length) (by rw [eW, List.length_append]; omega)
          omega))
        rw [eW] at W2
        go_upto_region 20 with (go_at_call 36; refine W2.out.mono ?_; rintro e w11 ⟨rfl, h11⟩; have H11 := Lib.hid h11; clear h11)
        have R2 := Lib.hid (q_read H11.out stable_emp (by omega) (by omega) 0 2000 (by omega) (by omega) (S.extract 0 q ++ T) (by rw [app_toList, eA, take_all0 (by rw [List.length_append]; omega)]))
        have hAs : (S.extract 0 q).size = q := by rw [ByteArray.size_extract]; omega
        have hAb : (S.extract 0 q).size ≤ 512 := by omega
        clear hAs eA eW W2 R1 CN H7 H8 H9 H10 hlq hlS hlT
        go_wp2_with (go_at_call 33; refine R2.out.mono ?_; rintro e w12 ⟨rfl, h12⟩; have H12 := Lib.hid h12.sub; clear h12)
        go_ret
        exact ⟨rfl, H12.out⟩
    · have dt : decide (512 < t.size) = false := decide_eq_false ht5
      have dt2 : ¬ (512 : Int) < (t.size : Int) := by omega
      go_upto_region 12 with fail
      have hS := hSS s
      generalize s.extract 0 512 = S at *
      have hT : t.size ≤ 512 := by omega
      have hlS : S.data.toList.length = S.size := (Go.Lib.size_eq S).symm
      have hlT : t.data.toList.length = t.size := (Go.Lib.size_eq t).symm
      have tk1 := takes_small (s := (wrD [] 0 S.data.toList).length) (by rw [wrD_nil]; omega)
      have W1 : Hid (∀ wx m, m ≤ 16 → VS w d 68 l V emp m (oneN 0 []) wx → Calls Tryz.prog 36 #[.pointer (some ⟨V, 0, none⟩), .int .i64 0, .int .i64 0, .string S] wx fun e w' => e = .returned (.int .i64 0) ∧ VS w d 68 l V emp (m + wrC 0 S.size) (oneN 0 S.data.toList) w') := Lib.hid (fun wx m hm hw => by
        have := q_write hw stable_emp (by omega) (by omega) hm 0 S (Nat.zero_le _) hS (by omega) (by omega)
        rw [wrD_nil] at this
        exact this)
      go_upto_region 13 with (go_at_call 36; refine (W1.out _ _ (by omega) H5.out).mono ?_; rintro e w6 ⟨rfl, h6⟩; have H6 := Lib.hid h6; clear h6)
      go_upto_region 14 with (go_at_call 14; refine (k_commit H6.out stable_emp (by omega) (by omega)).mono ?_; rintro e w7 ⟨rfl, h7⟩; have H7 := Lib.hid h7; clear h7)
      clear W1 H5 H6 tk1
      by_cases hb : size < 0 ∨ (S.size : Int) < size
      · have CN := Lib.hid (q_cut_no H7.out stable_emp (by omega) (by omega) (by omega) size (by rw [hlS]; exact hb))
        go_upto_region 15 with (go_at_call 39; refine CN.out.mono ?_; rintro e w8 ⟨rfl, h8⟩; have H8 := Lib.hid h8.sub; clear h8)
        clear CN H7
        by_cases k1 : size < 0
        · have d1 : decide (size < 0) = true := decide_eq_true k1
          go_wp2_with fail
          go_ret
          exact ⟨rfl, H8.out⟩
        · have d1 : decide (size < 0) = false := decide_eq_false k1
          have k2 : (S.size : Int) < size := by omega
          have d2 : decide ((S.size : Int) < size) = true := decide_eq_true k2
          clear hb
          go_wp2_with fail
          go_ret
          exact ⟨rfl, H8.out⟩
      · obtain ⟨q, rfl⟩ : ∃ q : Nat, size = (q : Int) := ⟨size.toNat, by omega⟩
        have hq : q ≤ S.size := by omega
        have k1 : ¬ (q : Int) < 0 := by omega
        have k2 : ¬ (S.size : Int) < (q : Int) := by omega
        have k3 : ¬ S.size < q := by omega
        clear hb
        have hlq : (S.data.toList.take q).length = q := by rw [List.length_take]; omega
        have CN := Lib.hid (q_cut H7.out stable_emp (by omega) (by omega) (by omega) q (by omega))
        go_upto_region 15 with (go_at_call 39; refine CN.out.mono ?_; rintro e w8 ⟨rfl, h8⟩; have H8 := Lib.hid h8; clear h8)
        go_upto_region 18 with (go_at_call 14; refine (k_commit H8.out stable_emp (by omega) (by omega)).mono ?_; rintro e w9 ⟨rfl, h9⟩; have H9 := Lib.hid h9; clear h9)
        have eA : (S.extract 0 q).data.toList = S.data.toList.take q := by rw [ext_toList, List.drop_zero, Nat.sub_zero]
        have R1 := Lib.hid (q_read H9.out stable_emp (by omega) (by omega) 0 600 (by omega) (by omega) (S.extract 0 q) (by rw [eA, take_all0 (by omega)]))
        go_upto_region 19 with (go_at_call 33; refine R1.out.mono ?_; rintro e w10 ⟨rfl, h10⟩; have H10 := Lib.hid h10; clear h10)
        have eW : wrD (S.data.toList.take q) q t.data.toList = S.data.toList.take q ++ t.data.toList := by
          have := wrD_end (S.data.toList.take q) t.data.toList
          rw [hlq] at this
          exact this
        have W2 := Lib.hid (q_write H10.out stable_emp (by omega) (by omega) (by omega) q t (by omega) hT (by omega) (by
          have h1 := takes_small (s := (wrD (S.data.toList.take q) q t.data.toList).length) (by rw [eW, List.length_append]; omega)
          omega))
        rw [eW] at W2
        go_upto_region 20 with (go_at_call 36; refine W2.out.mono ?_; rintro e w11 ⟨rfl, h11⟩; have H11 := Lib.hid h11; clear h11)
        have R2 := Lib.hid (q_read H11.out stable_emp (by omega) (by omega) 0 2000 (by omega) (by omega) (S.extract 0 q ++ t) (by rw [app_toList, eA, take_all0 (by rw [List.length_append]; omega)]))
        have hAs : (S.extract 0 q).size = q := by rw [ByteArray.size_extract]; omega
        have hAb : (S.extract 0 q).size ≤ 512 := by omega
        clear hAs eA eW W2 R1 CN H7 H8 H9 H10 hlq hlS hlT
        go_wp2_with (go_at_call 33; refine R2.out.mono ?_; rintro e w12 ⟨rfl, h12⟩; have H12 := Lib.hid h12.sub; clear h12)
        go_ret
        exact ⟨rfl, H12.out⟩
  · have ds : decide (512 < s.size) = false := decide_eq_false hs5
    have ds2 : ¬ (512 : Int) < (s.size : Int) := by omega
    by_cases ht5 : 512 < t.size
    · have dt : decide (512 < t.size) = true := decide_eq_true ht5
      have dt2 : (512 : Int) < (t.size : Int) := by omega
      go_upto_region 12 with fail
      have hS : s.size ≤ 512 := by omega
      have hT := hSS t
      generalize t.extract 0 512 = T at *
      have hlS : s.data.toList.length = s.size := (Go.Lib.size_eq s).symm
      have hlT : T.data.toList.length = T.size := (Go.Lib.size_eq T).symm
      have tk1 := takes_small (s := (wrD [] 0 s.data.toList).length) (by rw [wrD_nil]; omega)
      have W1 : Hid (∀ wx m, m ≤ 16 → VS w d 68 l V emp m (oneN 0 []) wx → Calls Tryz.prog 36 #[.pointer (some ⟨V, 0, none⟩), .int .i64 0, .int .i64 0, .string s] wx fun e w' => e = .returned (.int .i64 0) ∧ VS w d 68 l V emp (m + wrC 0 s.size) (oneN 0 s.data.toList) w') := Lib.hid (fun wx m hm hw => by
        have := q_write hw stable_emp (by omega) (by omega) hm 0 s (Nat.zero_le _) hS (by omega) (by omega)
        rw [wrD_nil] at this
        exact this)
      go_upto_region 13 with (go_at_call 36; refine (W1.out _ _ (by omega) H5.out).mono ?_; rintro e w6 ⟨rfl, h6⟩; have H6 := Lib.hid h6; clear h6)
      go_upto_region 14 with (go_at_call 14; refine (k_commit H6.out stable_emp (by omega) (by omega)).mono ?_; rintro e w7 ⟨rfl, h7⟩; have H7 := Lib.hid h7; clear h7)
      clear W1 H5 H6 tk1
      by_cases hb : size < 0 ∨ (s.size : Int) < size
      · have CN := Lib.hid (q_cut_no H7.out stable_emp (by omega) (by omega) (by omega) size (by rw [hlS]; exact hb))
        go_upto_region 15 with (go_at_call 39; refine CN.out.mono ?_; rintro e w8 ⟨rfl, h8⟩; have H8 := Lib.hid h8.sub; clear h8)
        clear CN H7
        by_cases k1 : size < 0
        · have d1 : decide (size < 0) = true := decide_eq_true k1
          go_wp2_with fail
          go_ret
          exact ⟨rfl, H8.out⟩
        · have d1 : decide (size < 0) = false := decide_eq_false k1
          have k2 : (s.size : Int) < size := by omega
          have d2 : decide ((s.size : Int) < size) = true := decide_eq_true k2
          clear hb
          go_wp2_with fail
          go_ret
          exact ⟨rfl, H8.out⟩
      · obtain ⟨q, rfl⟩ : ∃ q : Nat, size = (q : Int) := ⟨size.toNat, by omega⟩
        have hq : q ≤ s.size := by omega
        have k1 : ¬ (q : Int) < 0 := by omega
        have k2 : ¬ (s.size : Int) < (q : Int) := by omega
        have k3 : ¬ s.size < q := by omega
        clear hb
        have hlq : (s.data.toList.take q).length = q := by rw [List.length_take]; omega
        have CN := Lib.hid (q_cut H7.out stable_emp (by omega) (by omega) (by omega) q (by omega))
        go_upto_region 15 with (go_at_call 39; refine CN.out.mono ?_; rintro e w8 ⟨rfl, h8⟩; have H8 := Lib.hid h8; clear h8)
        go_upto_region 18 with (go_at_call 14; refine (k_commit H8.out stable_emp (by omega) (by omega)).mono ?_; rintro e w9 ⟨rfl, h9⟩; have H9 := Lib.hid h9; clear h9)
        have eA : (s.extract 0 q).data.toList = s.data.toList.take q := by rw [ext_toList, List.drop_zero, Nat.sub_zero]
        have R1 := Lib.hid (q_read H9.out stable_emp (by omega) (by omega) 0 600 (by omega) (by omega) (s.extract 0 q) (by rw [eA, take_all0 (by omega)]))
        go_upto_region 19 with (go_at_call 33; refine R1.out.mono ?_; rintro e w10 ⟨rfl, h10⟩; have H10 := Lib.hid h10; clear h10)
        have eW : wrD (s.data.toList.take q) q T.data.toList = s.data.toList.take q ++ T.data.toList := by
          have := wrD_end (s.data.toList.take q) T.data.toList
          rw [hlq] at this
          exact this
        have W2 := Lib.hid (q_write H10.out stable_emp (by omega) (by omega) (by omega) q T (by omega) hT (by omega) (by
          have h1 := takes_small (s := (wrD (s.data.toList.take q) q T.data.toList).length) (by rw [eW, List.length_append]; omega)
          omega))
        rw [eW] at W2
        go_upto_region 20 with (go_at_call 36; refine W2.out.mono ?_; rintro e w11 ⟨rfl, h11⟩; have H11 := Lib.hid h11; clear h11)
        have R2 := Lib.hid (q_read H11.out stable_emp (by omega) (by omega) 0 2000 (by omega) (by omega) (s.extract 0 q ++ T) (by rw [app_toList, eA, take_all0 (by rw [List.length_append]; omega)]))
        have hAs : (s.extract 0 q).size = q := by rw [ByteArray.size_extract]; omega
        have hAb : (s.extract 0 q).size ≤ 512 := by omega
        clear hAs eA eW W2 R1 CN H7 H8 H9 H10 hlq hlS hlT
        go_wp2_with (go_at_call 33; refine R2.out.mono ?_; rintro e w12 ⟨rfl, h12⟩; have H12 := Lib.hid h12.sub; clear h12)
        go_ret
        exact ⟨rfl, H12.out⟩
    · have dt : decide (512 < t.size) = false := decide_eq_false ht5
      have dt2 : ¬ (512 : Int) < (t.size : Int) := by omega
      go_upto_region 12 with fail
      have hS : s.size ≤ 512 := by omega
      have hT : t.size ≤ 512 := by omega
      have hlS : s.data.toList.length = s.size := (Go.Lib.size_eq s).symm
      have hlT : t.data.toList.length = t.size := (Go.Lib.size_eq t).symm
      have tk1 := takes_small (s := (wrD [] 0 s.data.toList).length) (by rw [wrD_nil]; omega)
      have W1 : Hid (∀ wx m, m ≤ 16 → VS w d 68 l V emp m (oneN 0 []) wx → Calls Tryz.prog 36 #[.pointer (some ⟨V, 0, none⟩), .int .i64 0, .int .i64 0, .string s] wx fun e w' => e = .returned (.int .i64 0) ∧ VS w d 68 l V emp (m + wrC 0 s.size) (oneN 0 s.data.toList) w') := Lib.hid (fun wx m hm hw => by
        have := q_write hw stable_emp (by omega) (by omega) hm 0 s (Nat.zero_le _) hS (by omega) (by omega)
        rw [wrD_nil] at this
        exact this)
      go_upto_region 13 with (go_at_call 36; refine (W1.out _ _ (by omega) H5.out).mono ?_; rintro e w6 ⟨rfl, h6⟩; have H6 := Lib.hid h6; clear h6)
      go_upto_region 14 with (go_at_call 14; refine (k_commit H6.out stable_emp (by omega) (by omega)).mono ?_; rintro e w7 ⟨rfl, h7⟩; have H7 := Lib.hid h7; clear h7)
      clear W1 H5 H6 tk1
      by_cases hb : size < 0 ∨ (s.size : Int) < size
      · have CN := Lib.hid (q_cut_no H7.out stable_emp (by omega) (by omega) (by omega) size (by rw [hlS]; exact hb))
        go_upto_region 15 with (go_at_call 39; refine CN.out.mono ?_; rintro e w8 ⟨rfl, h8⟩; have H8 := Lib.hid h8.sub; clear h8)
        clear CN H7
        by_cases k1 : size < 0
        · have d1 : decide (size < 0) = true := decide_eq_true k1
          go_wp2_with fail
          go_ret
          exact ⟨rfl, H8.out⟩
        · have d1 : decide (size < 0) = false := decide_eq_false k1
          have k2 : (s.size : Int) < size := by omega
          have d2 : decide ((s.size : Int) < size) = true := decide_eq_true k2
          clear hb
          go_wp2_with fail
          go_ret
          exact ⟨rfl, H8.out⟩
      · obtain ⟨q, rfl⟩ : ∃ q : Nat, size = (q : Int) := ⟨size.toNat, by omega⟩
        have hq : q ≤ s.size := by omega
        have k1 : ¬ (q : Int) < 0 := by omega
        have k2 : ¬ (s.size : Int) < (q : Int) := by omega
        have k3 : ¬ s.size < q := by omega
        clear hb
        have hlq : (s.data.toList.take q).length = q := by rw [List.length_take]; omega
        have CN := Lib.hid (q_cut H7.out stable_emp (by omega) (by omega) (by omega) q (by omega))
        go_upto_region 15 with (go_at_call 39; refine CN.out.mono ?_; rintro e w8 ⟨rfl, h8⟩; have H8 := Lib.hid h8; clear h8)
        go_upto_region 18 with (go_at_call 14; refine (k_commit H8.out stable_emp (by omega) (by omega)).mono ?_; rintro e w9 ⟨rfl, h9⟩; have H9 := Lib.hid h9; clear h9)
        have eA : (s.extract 0 q).data.toList = s.data.toList.take q := by rw [ext_toList, List.drop_zero, Nat.sub_zero]
        have R1 := Lib.hid (q_read H9.out stable_emp (by omega) (by omega) 0 600 (by omega) (by omega) (s.extract 0 q) (by rw [eA, take_all0 (by omega)]))
        go_upto_region 19 with (go_at_call 33; refine R1.out.mono ?_; rintro e w10 ⟨rfl, h10⟩; have H10 := Lib.hid h10; clear h10)
        have eW : wrD (s.data.toList.take q) q t.data.toList = s.data.toList.take q ++ t.data.toList := by
          have := wrD_end (s.data.toList.take q) t.data.toList
          rw [hlq] at this
          exact this
        have W2 := Lib.hid (q_write H10.out stable_emp (by omega) (by omega) (by omega) q t (by omega) hT (by omega) (by
          have h1 := takes_small (s := (wrD (s.data.toList.take q) q t.data.toList).length) (by rw [eW, List.length_append]; omega)
          omega))
        rw [eW] at W2
        go_upto_region 20 with (go_at_call 36; refine W2.out.mono ?_; rintro e w11 ⟨rfl, h11⟩; have H11 := Lib.hid h11; clear h11)
        have R2 := Lib.hid (q_read H11.out stable_emp (by omega) (by omega) 0 2000 (by omega) (by omega) (s.extract 0 q ++ t) (by rw [app_toList, eA, take_all0 (by rw [List.length_append]; omega)]))
        have hAs : (s.extract 0 q).size = q := by rw [ByteArray.size_extract]; omega
        have hAb : (s.extract 0 q).size ≤ 512 := by omega
        clear hAs eA eW W2 R1 CN H7 H8 H9 H10 hlq hlS hlT
        go_wp2_with (go_at_call 33; refine R2.out.mono ?_; rintro e w12 ⟨rfl, h12⟩; have H12 := Lib.hid h12.sub; clear h12)
        go_ret
        exact ⟨rfl, H12.out⟩
end Go.Proofs.YtlpcccpagmipnaaGreat.P
