/- Stage 4: the document's Walk. No condition. -/
import Derived.Test.YtngeabphjdfdgaaGreatDoorK10
import Derived.Deep.QuietTactic
import Derived.Test.YtngeabphjdfdgaaGreatDoorON
set_option linter.unusedVariables false
namespace Go.Proofs.YtngeabphjdfdgaaGreatDoor.P
open Go.RowKit Go.MuLone Go.Proofs.YtngeabphjdfdgaaGreatDoor.W
theorem r_leaf (rb vb : Nat) (fr : Nat) (s : List UInt8) (t : Int) (w : World) (h : RMemO w rb vb s t) (hs : s.length = fr * 256) (r a v x : Int) (ha : u64 a) (hr : i64 r) (hv : leafV fr s r a = v) (hx : leafR fr s r a = x) :
    Calls Tryz.prog 71 #[.pointer (some ⟨rb, 0, none⟩), .int .i64 r, .int .u64 a] w (RLeafP rb vb s v x w) := by
  by_cases hn : (r < 0 ∨ (fr : Int) ≤ r) ∨ 8388608 ≤ a
  · exact r_leaf_no rb vb fr s t w h hs r a v x ha hr hv hx hn
  · obtain ⟨n, rfl⟩ : ∃ n : Nat, r = (n : Int) := ⟨r.toNat, by omega⟩
    subst hv; subst hx
    exact r_leaf_yes rb vb fr s t w h hs n a ha (by omega) (by omega)
theorem leaf_even (fr : Nat) (s : List UInt8) (r a : Int) : leafV fr s r a % 8 = 0 := by
  unfold leafV
  cases decide (leafR fr s r a = 0)
  · rfl
  · have h : ∀ x y : Int, (x * 256 + y * 8) % 8 = 0 := fun x y => by omega
    exact h _ _
set_option maxRecDepth 100000 in
theorem r_walk_acc (rb vb : Nat) (fr : Nat) (s : List UInt8) (t : Int) (w : World) (h : RMemO w rb vb s t) (hs : s.length = fr * 256) (r a acc : Int) (hn : (decide (0 ≤ r) && decide (r < (fr : Int))) = false ∨ acc < 1 ∨ 3 < acc) :
    Calls Tryz.prog 47 #[.pointer (some ⟨rb, 0, none⟩), .int .i64 r, .int .u64 a, .int .i64 acc] w (RLeafP rb vb s 0 1 w) := by
  have C := r_root rb vb s t w h r fr hs
  have H := Lib.hid h
  clear h
  cases hb : (decide (0 ≤ r) && decide (r < (fr : Int))) with
  | false =>
    rw [hb] at C
    clear hb hn
    go_enter Tryz.func47, Tryz.ntmps47
    go_wp2_with (go_at_call 70; refine C.mono ?_; rintro e w' ⟨rfl, rfl⟩)
    go_ret2
    exact ⟨rfl, KeptR.refl H.out⟩
  | true =>
    rw [hb] at C hn
    clear hb
    have hn2 : acc < 1 ∨ (1 ≤ acc ∧ 3 < acc) := by
      rcases hn with q | q
      · cases q
      · omega
    clear hn
    rcases hn2 with q | ⟨q1, q2⟩
    · go_enter Tryz.func47, Tryz.ntmps47
      go_wp2_with (go_at_call 70; refine C.mono ?_; rintro e w' ⟨rfl, rfl⟩)
      go_ret2
      exact ⟨rfl, KeptR.refl H.out⟩
    · go_enter Tryz.func47, Tryz.ntmps47
      go_wp2_with (go_at_call 70; refine C.mono ?_; rintro e w' ⟨rfl, rfl⟩)
      go_ret2
      exact ⟨rfl, KeptR.refl H.out⟩
set_option maxRecDepth 100000 in
theorem r_walk_bad (rb vb : Nat) (fr : Nat) (s : List UInt8) (t : Int) (w : World) (h : RMemO w rb vb s t) (hs : s.length = fr * 256) (r a acc x : Int) (ha : u64 a) (hi : i64 r) (hb : (decide (0 ≤ r) && decide (r < (fr : Int))) = true) (hacc : 1 ≤ acc ∧ acc ≤ 3) (hx : leafR fr s r a = x) (hx0 : x ≠ 0) :
    Calls Tryz.prog 47 #[.pointer (some ⟨rb, 0, none⟩), .int .i64 r, .int .u64 a, .int .i64 acc] w (RLeafP rb vb s 0 x w) := by
  have C := r_root rb vb s t w h r fr hs
  have hv : leafV fr s r a = 0 := by unfold leafV; rw [hx, decide_eq_false hx0]; rfl
  have L := r_leaf rb vb fr s t w h hs r a 0 x ha hi hv hx
  rw [hb] at C
  have d1 : (x == 0) = false := by simpa using hx0
  have d2 : decide (x = 0) = false := decide_eq_false hx0
  clear h hs hb hx hx0 hv
  obtain ⟨q1, q2⟩ := hacc
  go_enter Tryz.func47, Tryz.ntmps47
  go_wp2_with (go_at_call 70; refine C.mono ?_; rintro e w' ⟨rfl, rfl⟩)
  refine L.mono ?_; rintro e w1 ⟨rfl, hk⟩
  have HK := Lib.hid hk
  clear hk
  go_wp2_with fail
  go_ret2
  exact ⟨rfl, HK.out⟩
set_option maxRecDepth 100000 in
set_option maxHeartbeats 6400000 in
theorem r_walk_ok (rb vb : Nat) (fr : Nat) (s : List UInt8) (t : Int) (w : World) (h : RMemO w rb vb s t) (hs : s.length = fr * 256) (r a acc n : Int) (ha : u64 a) (hi : i64 r) (hb : (decide (0 ≤ r) && decide (r < (fr : Int))) = true) (hacc : (acc = 1 ∧ n = 2) ∨ (acc = 2 ∧ n = 4) ∨ (acc = 3 ∧ n = 8)) (hx : leafR fr s r a = 0) (v z : Int)
    (hz : (bif mayB n (walkE fr s r a) && decide (walkE fr s r a / 1024 < fr) then 0 else 3) = z) (hv : (bif decide (z = 0) then walkE fr s r a / 1024 * 256 + a % 256 else 0) = v) :
    Calls Tryz.prog 47 #[.pointer (some ⟨rb, 0, none⟩), .int .i64 r, .int .u64 a, .int .i64 acc] w (RLeafP rb vb s v z w) := by
  have C := r_root rb vb s t w h r fr hs
  have L := r_leaf rb vb fr s t w h hs r a (leafV fr s r a) 0 ha hi rfl hx
  rw [hb] at C
  have hin := leaf_in hs hx
  have hev := leaf_even fr s r a
  have hlen : s.length ≤ 65536 := h.2.2.2
  have EE : RowKit.Hid (entS s (leafV fr s r a) = walkE fr s r a) := Lib.hid rfl
  have HW := Lib.hid (ent_word s (leafV fr s r a))
  change RowKit.Hid (W.word (walkE fr s r a)) at HW
  clear h hb hx
  generalize leafV fr s r a = P at *
  generalize walkE fr s r a = E at *
  obtain ⟨U, hU⟩ : ∃ U : Nat, P / 256 = (U : Int) := ⟨(P / 256).toNat, by omega⟩
  obtain ⟨k, hk⟩ : ∃ k : Nat, P % 256 / 8 = (k : Int) := ⟨(P % 256 / 8).toNat, by omega⟩
  have hP : (U : Int) * 256 + (k : Int) * 8 = P := by omega
  have hin2 : U * 256 + k * 8 + 8 ≤ s.length := by omega
  have hU2 : U < 256 := by omega
  have hk2 : k < 32 := by omega
  have CW : ∀ (w : World) (t : Int) (h : RMemO w rb vb s t), Calls Tryz.prog 72 #[.pointer (some ⟨rb, 0, none⟩), .int .u64 (U : Int), .int .i64 (k : Int)] w fun e w' => e = .returned (.int .u64 E) ∧ KeptR rb vb s w w' := fun w t h => r_word rb vb s t w h U k hU2 hk2 hin2 E (by rw [hP]; exact EE.out)
  have HZ := Lib.hid hz
  have HV := Lib.hid hv
  have HS := Lib.hid hs
  obtain ⟨P0, P1⟩ := hin
  obtain ⟨a0, a1⟩ := ha
  clear hz hv hP hin2 hs hev
  rcases hacc with ⟨rfl, rfl⟩ | ⟨rfl, rfl⟩ | ⟨rfl, rfl⟩
  · go_enter Tryz.func47, Tryz.ntmps47
    go_wp2_with (go_at_call 70; refine C.mono ?_; rintro e w' ⟨rfl, rfl⟩)
    refine L.mono ?_; rintro e w1 ⟨rfl, ⟨t1, hM1⟩, hK1⟩
    have HM1 := Lib.hid hM1
    have HK1 := Lib.hid hK1
    clear hM1 hK1 L
    go_wp2_with fail
    refine (CW _ _ HM1.out).mono ?_
    rintro e w2 ⟨rfl, ⟨t2, hM2⟩, hK2⟩
    have HM2 := Lib.hid hM2
    have HK2 := Lib.hid (HK1.out.trans hK2)
    clear hM2 hK2 HM1 HK1
    go_wp2_with fail
    have B0 := blk_new w2 (.cells #[.int .u64 2, .int .u64 4, .int .u64 8] 24)
    have hM3 : RMemO (w2.alloc (.cells #[.int .u64 2, .int .u64 4, .int .u64 8] 24)) rb vb s t2 := HM2.out.keep (S := fun _ => False) ((Ch.refl _ _).alloc _) (fun h => h) (fun h => h)
    have bn : (w2.alloc (.cells #[.int .u64 2, .int .u64 4, .int .u64 8] 24)).cell? ⟨w2.heap.size, 0, none⟩ = some (.int .u64 2) := blk_cell B0 0 rfl
    have m0 := blk_cell hM3.1 0 (v := .slice (some ⟨vb, 0, none⟩) s.length s.length) rfl
    have HM3 := Lib.hid hM3
    have HK3 := Lib.hid (HK2.out.alloc (.cells #[.int .u64 2, .int .u64 4, .int .u64 8] 24))
    clear hM3 B0 HM2 HK2 CW
    generalize w2.alloc (.cells #[.int .u64 2, .int .u64 4, .int .u64 8] 24) = w3 at *
    generalize w2.heap.size = B at *
    generalize s.length = N at *
    obtain ⟨T, hT⟩ : ∃ T : Nat, E / 1024 = (T : Int) := ⟨(E / 1024).toNat, by have := HW.out.1; omega⟩
    have e0 : 0 ≤ E := HW.out.1
    have e1 : E < 18446744073709551616 := HW.out.2
    have CF : ∀ w : World, Calls Tryz.prog 73 #[.int .u64 E] w fun e w' => e = .returned (.int .u64 (T : Int)) ∧ w' = w := fun w => by rw [← hT]; exact r_kframe E ⟨HW.out.1, by have := HW.out.2; omega⟩ w
    cases hm : mayB 2 E with
    | true =>
      obtain ⟨q1, q2, q3⟩ : E % 2 = 1 ∧ E / 16 % 2 = 1 ∧ E / 2 % 2 = 1 := by unfold mayB at hm; simp only [Bool.and_eq_true, decide_eq_true_eq] at hm; exact hm
      have hd : (N : Int) / 256 = (fr : Int) := by have := HS.out; omega
      have hfr : fr ≤ 256 := by have := HS.out; omega
      by_cases ql : T < fr
      · have qd : decide (fr ≤ T) = false := decide_eq_false (by omega)
        have hz : z = 0 := by rw [← HZ.out, hm, hT, decide_eq_true (show (T : Int) < fr by omega)]; rfl
        have hv : v = (T : Int) * 256 + a % 256 := by rw [← HV.out, hz, hT]; rfl
        have T0 : (0 : Int) ≤ T := by omega
        have T1 : (T : Int) < 256 := by omega
        subst hz; subst hv
        clear hm HZ HV
        go_quiet ((go_at_call 73; exact Calls.quiet_of_same (CF _)))
        go_wp2_with (go_at_call 73; refine (CF _).mono ?_; rintro e w' ⟨rfl, rfl⟩)
        go_ret2
        exact ⟨rfl, ⟨t2, HM3.out.keep (S := fun _ => False) ((Ch.refl _ _).drewN _) (fun h => h) (fun h => h)⟩, HK3.out.drewN _⟩
      · have qd : decide (fr ≤ T) = true := decide_eq_true (by omega)
        have hz : z = 3 := by rw [← HZ.out, hm, hT, decide_eq_false (show ¬ (T : Int) < fr by omega)]; rfl
        have hv : v = 0 := by rw [← HV.out, hz]; rfl
        subst hz; subst hv
        clear hm HZ HV
        go_quiet ((go_at_call 73; exact Calls.quiet_of_same (CF _)))
        go_wp2_with (go_at_call 73; refine (CF _).mono ?_; rintro e w' ⟨rfl, rfl⟩)
        go_ret2
        exact ⟨rfl, ⟨t2, HM3.out.keep (S := fun _ => False) ((Ch.refl _ _).drewN _) (fun h => h) (fun h => h)⟩, HK3.out.drewN _⟩
    | false =>
      have q : E % 2 = 0 ∨ (E % 2 = 1 ∧ E / 16 % 2 = 0) ∨ (E % 2 = 1 ∧ E / 16 % 2 = 1 ∧ E / 2 % 2 = 0) := by
        by_cases q1 : E % 2 = 1
        · by_cases q2 : E / 16 % 2 = 1
          · unfold mayB at hm
            rw [decide_eq_true q1, decide_eq_true q2, Bool.true_and, Bool.true_and] at hm
            have := of_decide_eq_false hm
            omega
          · omega
        · omega
      have hz : z = 3 := by rw [← HZ.out, hm]; rfl
      have hv : v = 0 := by rw [← HV.out, hz]; rfl
      subst hz; subst hv
      clear hm HZ HV
      rcases q with q1 | ⟨q1, q2⟩ | ⟨q1, q2, q3⟩
      · go_quiet ((go_at_call 73; exact Calls.quiet_of_same (CF _)))
        go_wp2_with (go_at_call 73; refine (CF _).mono ?_; rintro e w' ⟨rfl, rfl⟩)
        go_ret2
        exact ⟨rfl, ⟨t2, HM3.out.keep (S := fun _ => False) ((Ch.refl _ _).drewN _) (fun h => h) (fun h => h)⟩, HK3.out.drewN _⟩
      · go_quiet ((go_at_call 73; exact Calls.quiet_of_same (CF _)))
        go_wp2_with (go_at_call 73; refine (CF _).mono ?_; rintro e w' ⟨rfl, rfl⟩)
        go_ret2
        exact ⟨rfl, ⟨t2, HM3.out.keep (S := fun _ => False) ((Ch.refl _ _).drewN _) (fun h => h) (fun h => h)⟩, HK3.out.drewN _⟩
      · go_quiet ((go_at_call 73; exact Calls.quiet_of_same (CF _)))
        go_wp2_with (go_at_call 73; refine (CF _).mono ?_; rintro e w' ⟨rfl, rfl⟩)
        go_ret2
        exact ⟨rfl, ⟨t2, HM3.out.keep (S := fun _ => False) ((Ch.refl _ _).drewN _) (fun h => h) (fun h => h)⟩, HK3.out.drewN _⟩
  · go_enter Tryz.func47, Tryz.ntmps47
    go_wp2_with (go_at_call 70; refine C.mono ?_; rintro e w' ⟨rfl, rfl⟩)
    refine L.mono ?_; rintro e w1 ⟨rfl, ⟨t1, hM1⟩, hK1⟩
    have HM1 := Lib.hid hM1
    have HK1 := Lib.hid hK1
    clear hM1 hK1 L
    go_wp2_with fail
    refine (CW _ _ HM1.out).mono ?_
    rintro e w2 ⟨rfl, ⟨t2, hM2⟩, hK2⟩
    have HM2 := Lib.hid hM2
    have HK2 := Lib.hid (HK1.out.trans hK2)
    clear hM2 hK2 HM1 HK1
    go_wp2_with fail
    have B0 := blk_new w2 (.cells #[.int .u64 2, .int .u64 4, .int .u64 8] 24)
    have hM3 : RMemO (w2.alloc (.cells #[.int .u64 2, .int .u64 4, .int .u64 8] 24)) rb vb s t2 := HM2.out.keep (S := fun _ => False) ((Ch.refl _ _).alloc _) (fun h => h) (fun h => h)
    have bn : (w2.alloc (.cells #[.int .u64 2, .int .u64 4, .int .u64 8] 24)).cell? ⟨w2.heap.size, 1, none⟩ = some (.int .u64 4) := blk_cell B0 1 rfl
    have m0 := blk_cell hM3.1 0 (v := .slice (some ⟨vb, 0, none⟩) s.length s.length) rfl
    have HM3 := Lib.hid hM3
    have HK3 := Lib.hid (HK2.out.alloc (.cells #[.int .u64 2, .int .u64 4, .int .u64 8] 24))
    clear hM3 B0 HM2 HK2 CW
    generalize w2.alloc (.cells #[.int .u64 2, .int .u64 4, .int .u64 8] 24) = w3 at *
    generalize w2.heap.size = B at *
    generalize s.length = N at *
    obtain ⟨T, hT⟩ : ∃ T : Nat, E / 1024 = (T : Int) := ⟨(E / 1024).toNat, by have := HW.out.1; omega⟩
    have e0 : 0 ≤ E := HW.out.1
    have e1 : E < 18446744073709551616 := HW.out.2
    have CF : ∀ w : World, Calls Tryz.prog 73 #[.int .u64 E] w fun e w' => e = .returned (.int .u64 (T : Int)) ∧ w' = w := fun w => by rw [← hT]; exact r_kframe E ⟨HW.out.1, by have := HW.out.2; omega⟩ w
    cases hm : mayB 4 E with
    | true =>
      obtain ⟨q1, q2, q3⟩ : E % 2 = 1 ∧ E / 16 % 2 = 1 ∧ E / 4 % 2 = 1 := by unfold mayB at hm; simp only [Bool.and_eq_true, decide_eq_true_eq] at hm; exact hm
      have hd : (N : Int) / 256 = (fr : Int) := by have := HS.out; omega
      have hfr : fr ≤ 256 := by have := HS.out; omega
      by_cases ql : T < fr
      · have qd : decide (fr ≤ T) = false := decide_eq_false (by omega)
        have hz : z = 0 := by rw [← HZ.out, hm, hT, decide_eq_true (show (T : Int) < fr by omega)]; rfl
        have hv : v = (T : Int) * 256 + a % 256 := by rw [← HV.out, hz, hT]; rfl
        have T0 : (0 : Int) ≤ T := by omega
        have T1 : (T : Int) < 256 := by omega
        subst hz; subst hv
        clear hm HZ HV
        go_quiet ((go_at_call 73; exact Calls.quiet_of_same (CF _)))
        go_wp2_with (go_at_call 73; refine (CF _).mono ?_; rintro e w' ⟨rfl, rfl⟩)
        go_ret2
        exact ⟨rfl, ⟨t2, HM3.out.keep (S := fun _ => False) ((Ch.refl _ _).drewN _) (fun h => h) (fun h => h)⟩, HK3.out.drewN _⟩
      · have qd : decide (fr ≤ T) = true := decide_eq_true (by omega)
        have hz : z = 3 := by rw [← HZ.out, hm, hT, decide_eq_false (show ¬ (T : Int) < fr by omega)]; rfl
        have hv : v = 0 := by rw [← HV.out, hz]; rfl
        subst hz; subst hv
        clear hm HZ HV
        go_quiet ((go_at_call 73; exact Calls.quiet_of_same (CF _)))
        go_wp2_with (go_at_call 73; refine (CF _).mono ?_; rintro e w' ⟨rfl, rfl⟩)
        go_ret2
        exact ⟨rfl, ⟨t2, HM3.out.keep (S := fun _ => False) ((Ch.refl _ _).drewN _) (fun h => h) (fun h => h)⟩, HK3.out.drewN _⟩
    | false =>
      have q : E % 2 = 0 ∨ (E % 2 = 1 ∧ E / 16 % 2 = 0) ∨ (E % 2 = 1 ∧ E / 16 % 2 = 1 ∧ E / 4 % 2 = 0) := by
        by_cases q1 : E % 2 = 1
        · by_cases q2 : E / 16 % 2 = 1
          · unfold mayB at hm
            rw [decide_eq_true q1, decide_eq_true q2, Bool.true_and, Bool.true_and] at hm
            have := of_decide_eq_false hm
            omega
          · omega
        · omega
      have hz : z = 3 := by rw [← HZ.out, hm]; rfl
      have hv : v = 0 := by rw [← HV.out, hz]; rfl
      subst hz; subst hv
      clear hm HZ HV
      rcases q with q1 | ⟨q1, q2⟩ | ⟨q1, q2, q3⟩
      · go_quiet ((go_at_call 73; exact Calls.quiet_of_same (CF _)))
        go_wp2_with (go_at_call 73; refine (CF _).mono ?_; rintro e w' ⟨rfl, rfl⟩)
        go_ret2
        exact ⟨rfl, ⟨t2, HM3.out.keep (S := fun _ => False) ((Ch.refl _ _).drewN _) (fun h => h) (fun h => h)⟩, HK3.out.drewN _⟩
      · go_quiet ((go_at_call 73; exact Calls.quiet_of_same (CF _)))
        go_wp2_with (go_at_call 73; refine (CF _).mono ?_; rintro e w' ⟨rfl, rfl⟩)
        go_ret2
        exact ⟨rfl, ⟨t2, HM3.out.keep (S := fun _ => False) ((Ch.refl _ _).drewN _) (fun h => h) (fun h => h)⟩, HK3.out.drewN _⟩
      · go_quiet ((go_at_call 73; exact Calls.quiet_of_same (CF _)))
        go_wp2_with (go_at_call 73; refine (CF _).mono ?_; rintro e w' ⟨rfl, rfl⟩)
        go_ret2
        exact ⟨rfl, ⟨t2, HM3.out.keep (S := fun _ => False) ((Ch.refl _ _).drewN _) (fun h => h) (fun h => h)⟩, HK3.out.drewN _⟩
  · go_enter Tryz.func47, Tryz.ntmps47
    go_wp2_with (go_at_call 70; refine C.mono ?_; rintro e w' ⟨rfl, rfl⟩)
    refine L.mono ?_; rintro e w1 ⟨rfl, ⟨t1, hM1⟩, hK1⟩
    have HM1 := Lib.hid hM1
    have HK1 := Lib.hid hK1
    clear hM1 hK1 L
    go_wp2_with fail
    refine (CW _ _ HM1.out).mono ?_
    rintro e w2 ⟨rfl, ⟨t2, hM2⟩, hK2⟩
    have HM2 := Lib.hid hM2
    have HK2 := Lib.hid (HK1.out.trans hK2)
    clear hM2 hK2 HM1 HK1
    go_wp2_with fail
    have B0 := blk_new w2 (.cells #[.int .u64 2, .int .u64 4, .int .u64 8] 24)
    have hM3 : RMemO (w2.alloc (.cells #[.int .u64 2, .int .u64 4, .int .u64 8] 24)) rb vb s t2 := HM2.out.keep (S := fun _ => False) ((Ch.refl _ _).alloc _) (fun h => h) (fun h => h)
    have bn : (w2.alloc (.cells #[.int .u64 2, .int .u64 4, .int .u64 8] 24)).cell? ⟨w2.heap.size, 2, none⟩ = some (.int .u64 8) := blk_cell B0 2 rfl
    have m0 := blk_cell hM3.1 0 (v := .slice (some ⟨vb, 0, none⟩) s.length s.length) rfl
    have HM3 := Lib.hid hM3
    have HK3 := Lib.hid (HK2.out.alloc (.cells #[.int .u64 2, .int .u64 4, .int .u64 8] 24))
    clear hM3 B0 HM2 HK2 CW
    generalize w2.alloc (.cells #[.int .u64 2, .int .u64 4, .int .u64 8] 24) = w3 at *
    generalize w2.heap.size = B at *
    generalize s.length = N at *
    obtain ⟨T, hT⟩ : ∃ T : Nat, E / 1024 = (T : Int) := ⟨(E / 1024).toNat, by have := HW.out.1; omega⟩
    have e0 : 0 ≤ E := HW.out.1
    have e1 : E < 18446744073709551616 := HW.out.2
    have CF : ∀ w : World, Calls Tryz.prog 73 #[.int .u64 E] w fun e w' => e = .returned (.int .u64 (T : Int)) ∧ w' = w := fun w => by rw [← hT]; exact r_kframe E ⟨HW.out.1, by have := HW.out.2; omega⟩ w
    cases hm : mayB 8 E with
    | true =>
      obtain ⟨q1, q2, q3⟩ : E % 2 = 1 ∧ E / 16 % 2 = 1 ∧ E / 8 % 2 = 1 := by unfold mayB at hm; simp only [Bool.and_eq_true, decide_eq_true_eq] at hm; exact hm
      have hd : (N : Int) / 256 = (fr : Int) := by have := HS.out; omega
      have hfr : fr ≤ 256 := by have := HS.out; omega
      by_cases ql : T < fr
      · have qd : decide (fr ≤ T) = false := decide_eq_false (by omega)
        have hz : z = 0 := by rw [← HZ.out, hm, hT, decide_eq_true (show (T : Int) < fr by omega)]; rfl
        have hv : v = (T : Int) * 256 + a % 256 := by rw [← HV.out, hz, hT]; rfl
        have T0 : (0 : Int) ≤ T := by omega
        have T1 : (T : Int) < 256 := by omega
        subst hz; subst hv
        clear hm HZ HV
        go_quiet ((go_at_call 73; exact Calls.quiet_of_same (CF _)))
        go_wp2_with (go_at_call 73; refine (CF _).mono ?_; rintro e w' ⟨rfl, rfl⟩)
        go_ret2
        exact ⟨rfl, ⟨t2, HM3.out.keep (S := fun _ => False) ((Ch.refl _ _).drewN _) (fun h => h) (fun h => h)⟩, HK3.out.drewN _⟩
      · have qd : decide (fr ≤ T) = true := decide_eq_true (by omega)
        have hz : z = 3 := by rw [← HZ.out, hm, hT, decide_eq_false (show ¬ (T : Int) < fr by omega)]; rfl
        have hv : v = 0 := by rw [← HV.out, hz]; rfl
        subst hz; subst hv
        clear hm HZ HV
        go_quiet ((go_at_call 73; exact Calls.quiet_of_same (CF _)))
        go_wp2_with (go_at_call 73; refine (CF _).mono ?_; rintro e w' ⟨rfl, rfl⟩)
        go_ret2
        exact ⟨rfl, ⟨t2, HM3.out.keep (S := fun _ => False) ((Ch.refl _ _).drewN _) (fun h => h) (fun h => h)⟩, HK3.out.drewN _⟩
    | false =>
      have q : E % 2 = 0 ∨ (E % 2 = 1 ∧ E / 16 % 2 = 0) ∨ (E % 2 = 1 ∧ E / 16 % 2 = 1 ∧ E / 8 % 2 = 0) := by
        by_cases q1 : E % 2 = 1
        · by_cases q2 : E / 16 % 2 = 1
          · unfold mayB at hm
            rw [decide_eq_true q1, decide_eq_true q2, Bool.true_and, Bool.true_and] at hm
            have := of_decide_eq_false hm
            omega
          · omega
        · omega
      have hz : z = 3 := by rw [← HZ.out, hm]; rfl
      have hv : v = 0 := by rw [← HV.out, hz]; rfl
      subst hz; subst hv
      clear hm HZ HV
      rcases q with q1 | ⟨q1, q2⟩ | ⟨q1, q2, q3⟩
      · go_quiet ((go_at_call 73; exact Calls.quiet_of_same (CF _)))
        go_wp2_with (go_at_call 73; refine (CF _).mono ?_; rintro e w' ⟨rfl, rfl⟩)
        go_ret2
        exact ⟨rfl, ⟨t2, HM3.out.keep (S := fun _ => False) ((Ch.refl _ _).drewN _) (fun h => h) (fun h => h)⟩, HK3.out.drewN _⟩
      · go_quiet ((go_at_call 73; exact Calls.quiet_of_same (CF _)))
        go_wp2_with (go_at_call 73; refine (CF _).mono ?_; rintro e w' ⟨rfl, rfl⟩)
        go_ret2
        exact ⟨rfl, ⟨t2, HM3.out.keep (S := fun _ => False) ((Ch.refl _ _).drewN _) (fun h => h) (fun h => h)⟩, HK3.out.drewN _⟩
      · go_quiet ((go_at_call 73; exact Calls.quiet_of_same (CF _)))
        go_wp2_with (go_at_call 73; refine (CF _).mono ?_; rintro e w' ⟨rfl, rfl⟩)
        go_ret2
        exact ⟨rfl, ⟨t2, HM3.out.keep (S := fun _ => False) ((Ch.refl _ _).drewN _) (fun h => h) (fun h => h)⟩, HK3.out.drewN _⟩
theorem r_walk (rb vb : Nat) (fr : Nat) (s : List UInt8) (t : Int) (w : World) (h : RMemO w rb vb s t) (hs : s.length = fr * 256) (r a acc v x : Int) (ha : u64 a) (hr : i64 r) (hv : walkV fr s r a acc = v) (hx : walkR fr s r a acc = x) :
    Calls Tryz.prog 47 #[.pointer (some ⟨rb, 0, none⟩), .int .i64 r, .int .u64 a, .int .i64 acc] w (RLeafP rb vb s v x w) := by
  have hw0 : (decide (0 ≤ r) && decide (r < (fr : Int))) = false → leafR fr s r a = 1 := fun q => by unfold leafR; rw [q]; rfl
  by_cases hn : (decide (0 ≤ r) && decide (r < (fr : Int))) = false ∨ acc < 1 ∨ 3 < acc
  · have hx1 : x = 1 := by
      rw [← hx]
      unfold walkR
      rcases hn with q | q
      · rw [hw0 q]
        rcases needed_in acc with h | h | h | h <;> rw [h] <;> rfl
      · have hn : neededI acc = 0 := by unfold neededI; rw [if_neg (by omega), if_neg (by omega), if_neg (by omega)]
        rw [hn]; rfl
    have hv1 : v = 0 := by rw [← hv]; unfold walkV; rw [hx, hx1]; rfl
    subst hx1; subst hv1
    exact r_walk_acc rb vb fr s t w h hs r a acc hn
  · have hb : (decide (0 ≤ r) && decide (r < (fr : Int))) = true := by
      cases hc : (decide (0 ≤ r) && decide (r < (fr : Int))) with
      | true => rfl
      | false => exact absurd (.inl hc) hn
    have ha3 : 1 ≤ acc ∧ acc ≤ 3 := ⟨by have := fun q => hn (.inr (.inl q)); omega, by have := fun q => hn (.inr (.inr q)); omega⟩
    have hn2 : (acc = 1 ∧ neededI acc = 2) ∨ (acc = 2 ∧ neededI acc = 4) ∨ (acc = 3 ∧ neededI acc = 8) := by
      have : acc = 1 ∨ acc = 2 ∨ acc = 3 := by omega
      rcases this with rfl | rfl | rfl
      · exact .inl ⟨rfl, rfl⟩
      · exact .inr (.inl ⟨rfl, rfl⟩)
      · exact .inr (.inr ⟨rfl, rfl⟩)
    have hn0 : neededI acc ≠ 0 := by omega
    by_cases hl : leafR fr s r a = 0
    · refine r_walk_ok rb vb fr s t w h hs r a acc (neededI acc) ha hr hb hn2 hl v x ?_ ?_
      · rw [← hx]; unfold walkR; rw [decide_eq_false hn0, decide_eq_true hl]; rfl
      · rw [← hv]; unfold walkV; rw [hx]
    · have hx1 : leafR fr s r a = x := by rw [← hx]; unfold walkR; rw [decide_eq_false hn0, decide_eq_false hl]; rfl
      have hv1 : v = 0 := by rw [← hv]; unfold walkV; rw [hx, decide_eq_false (by rw [← hx1]; exact hl)]; rfl
      subst hv1
      exact r_walk_bad rb vb fr s t w h hs r a acc x ha hr hb ha3 hx1 (by rw [← hx1]; exact hl)
end Go.Proofs.YtngeabphjdfdgaaGreatDoor.P
namespace Go.Proofs.YtngeabphjdfdgaaGreatDoor.P
open Go.RowKit Go.MuLone
theorem o_rload {w0 w : World} {b fr : Nat} {s : List UInt8} {R : Asn} (h : Own w0 w (Star (rmA b fr s) R)) (hR : Stable R) (a n v r : Int) (ha : u64 a) (hv : loadV s a n = v) (hr : loadR s a n = r) :
    Calls Tryz.prog 50 #[.pointer (some ⟨b, 0, none⟩), .int .u64 a, .int .i64 n] w fun e w' => e = .returned (.tuple #[.int .u64 v, .int .i64 r]) ∧ Own w0 w' (Star (rmA b fr s) R) := by
  subst hv; subst hr
  refine h.call hR (fun F hF => ?_)
  obtain ⟨vb, t, hM, hl, hb, hv⟩ := hF
  refine (r_load b vb s t w hM a n ha.1 ha.2).mono ?_
  rintro e w' ⟨rfl, hM', hk⟩
  exact ⟨rfl, rm_out hM' hl (hk.mono (fun x hx => .inl hx)) hb hv⟩
theorem o_rwalk {w0 w : World} {b fr : Nat} {s : List UInt8} {R : Asn} (h : Own w0 w (Star (rmA b fr s) R)) (hR : Stable R) (r a acc v x : Int) (ha : u64 a) (hr : i64 r) (hv : walkV fr s r a acc = v) (hx : walkR fr s r a acc = x) :
    Calls Tryz.prog 47 #[.pointer (some ⟨b, 0, none⟩), .int .i64 r, .int .u64 a, .int .i64 acc] w fun e w' => e = .returned (.tuple #[.int .u64 v, .int .i64 x]) ∧ Own w0 w' (Star (rmA b fr s) R) := by
  refine h.call hR (fun F hF => ?_)
  obtain ⟨vb, t, hM, hl, hb, hvb⟩ := hF
  refine (r_walk b vb fr s t w hM hl r a acc v x ha hr hv hx).mono ?_
  rintro e w' ⟨rfl, ⟨t', hM'⟩, hk⟩
  exact ⟨rfl, rm_out hM' hl (hk.mono (fun x hx => .inl hx)) hb hvb⟩
end Go.Proofs.YtngeabphjdfdgaaGreatDoor.P
