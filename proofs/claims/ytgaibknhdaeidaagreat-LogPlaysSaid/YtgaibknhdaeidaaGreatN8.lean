/- Stage 7: the document's install. No condition. -/
import Derived.Test.YtgaibknhdaeidaaGreatN7
import Derived.Test.YtgaibknhdaeidaaGreatA18
import Derived.Test.YtgaibknhdaeidaaGreatI8
import Derived.StillTailTactics
set_option linter.unusedVariables false
set_option linter.unusedSimpArgs false
set_option maxRecDepth 100000
namespace Go.Proofs.YtgaibknhdaeidaaGreat.P
open Go.RowKit
def rowSA (o : Option Addr) (A : List ByteArray) : Asn := fun w F => RowS w o A ∧ ∀ b off, o = some ⟨b, off, none⟩ → F b
theorem stable_rowS (o : Option Addr) (A : List ByteArray) : Stable (rowSA o A) := by
  rintro w w' F G ⟨h1, h2⟩ hc hd
  refine ⟨fun j i hj => ?_, h2⟩
  obtain ⟨b, off, e, k⟩ := h1 j i hj
  exact ⟨b, off, e, hc.cell k (hd b (h2 b off e))⟩
variable {w0 w : World} {d : Nat} {z : DState} {R : Asn}
theorem q_wr {R : Asn} (h : Own w0 w (Star (rdk d z) R)) (hs : Stable R) (i : Int) (s : ByteArray) (hl : z.wait.length ≤ 4000000000000) :
    Calls Tryz.prog 60 #[.pointer (some ⟨d, 0, none⟩), .int .i64 i, .string s] w fun e w' => e = .returned (.int .i64 (stepD z (.wr i s)).1) ∧ Own w0 w' (Star (rdk d (stepD z (.wr i s)).2) R) := r_write h hs i s hl
theorem q_fl {R : Asn} (h : Own w0 w (Star (rdk d z) R)) (hs : Stable R) (hl : z.wait.length ≤ 4000000000000) :
    Calls Tryz.prog 61 #[.pointer (some ⟨d, 0, none⟩)] w fun e w' => e = .returned (.int .i64 (stepD z .fl).1) ∧ Own w0 w' (Star (rdk d (stepD z .fl).2) R) := r_flush h hs hl
/-- Flush, the head, Flush. -/
def tailQ (h : List Int) (z : DState) : Int × DState := thenE (stepD z .fl) (fun y => thenE (stepD y (.wr 1 (headF h))) (fun y => stepD y .fl))
theorem tail_ok {h : List Int} {z : DState} : exec (.fl :: pointOps h) z = tailQ h z := by
  show thenE (stepD z .fl) (exec (pointOps h)) = thenE (stepD z .fl) _
  refine congrArg (thenE _) (funext fun y => ?_)
  show thenE (stepD y _) (exec [.fl]) = _
  exact congrArg (thenE _) (funext fun y => exec_one .fl y)
set_option maxHeartbeats 3200000 in
theorem q_install (st : List (Int × ByteArray)) (o1 o2 : Option Addr) (c1 c2 : Nat) (h : Own w0 w (Star (rdk d z) (Star (rowIA o1 (st.map (·.1))) (Star (rowSA o2 (st.map (·.2))) R)))) (hs : Stable R) (hl : st.length ≤ 1000) (hb : ∀ x ∈ st, 0 ≤ x.1 ∧ x.1 < 65536) (hw : z.wait.length ≤ 3000000000000) :
    Calls Tryz.prog 33 #[.pointer (some ⟨d, 0, none⟩), .slice o1 st.length c1, .slice o2 st.length c2] w (EO w0 (fun z => Star (rdk d z) (Star (rowIA o1 (st.map (·.1))) (Star (rowSA o2 (st.map (·.2))) R))) (exec (installOps st) z)) := by
  have SR : Hid (Stable (Star (rowIA o1 (st.map (·.1))) (Star (rowSA o2 (st.map (·.2))) R))) := Lib.hid (stable_star (stable_rowI _ _) (stable_star (stable_rowS _ _) hs))
  have HW : Hid (∀ k, ((exec ((homeOps st).take k) z).2).wait.length ≤ 3000000000000 + 1000) := Lib.hid (fun k => by
    have := exec_wait ((homeOps st).take k) z
    rw [List.length_take, home_len] at this
    omega)
  have CW : Hid (∀ z' i s wr, z'.wait.length ≤ 4000000000000 → Own w0 wr (Star (rdk d z') (Star (rowIA o1 (st.map (·.1))) (Star (rowSA o2 (st.map (·.2))) R))) → Calls Tryz.prog 60 #[.pointer (some ⟨d, 0, none⟩), .int .i64 i, .string s] wr fun e w2 => e = .returned (.int .i64 (stepD z' (.wr i s)).1) ∧ Own w0 w2 (Star (rdk d (stepD z' (.wr i s)).2) (Star (rowIA o1 (st.map (·.1))) (Star (rowSA o2 (st.map (·.2))) R)))) :=
    Lib.hid (fun z' i s wr hw ho => q_wr ho SR.out i s hw)
  have CF : Hid (∀ z' wr, z'.wait.length ≤ 4000000000000 → Own w0 wr (Star (rdk d z') (Star (rowIA o1 (st.map (·.1))) (Star (rowSA o2 (st.map (·.2))) R))) → Calls Tryz.prog 61 #[.pointer (some ⟨d, 0, none⟩)] wr fun e w2 => e = .returned (.int .i64 (stepD z' .fl).1) ∧ Own w0 w2 (Star (rdk d (stepD z' .fl).2) (Star (rowIA o1 (st.map (·.1))) (Star (rowSA o2 (st.map (·.2))) R)))) :=
    Lib.hid (fun z' wr hw ho => q_fl ho SR.out hw)
  have CH : Hid (∀ wr, Calls Tryz.prog 59 #[.slice none 0 0] wr fun e w2 => e = .returned (.string (headF [])) ∧ Gr wr w2) := Lib.hid (fun wr => e_head wr none 0 [] (rowI_nil _ _) (by simp) (fun i hi => by cases hi))
  have HF : Hid (∀ k, (exec ((homeOps st).take k) z).1 = 0 → k = st.length → exec (installOps st) z = tailQ [] (exec ((homeOps st).take k) z).2) := Lib.hid (fun k h0 e => by
    have ht : (homeOps st).take k = homeOps st := List.take_of_length_le (by rw [home_len]; omega)
    rw [ht] at h0 ⊢
    unfold installOps
    rw [exec_append, decide_eq_true h0, cond_true, tail_ok])
  have HB := Lib.hid hb
  have H0 := Lib.hid h
  clear h hb
  obtain ⟨n, hn⟩ : ∃ n, n = st.length := ⟨_, rfl⟩
  have HN := Lib.hid hn
  rw [← hn] at hl ⊢
  clear hn
  go_enter Tryz.func33, Tryz.ntmps33
  go_wp2_with fail
  go_loopw [7] (fun v wr => ∃ k : Nat, k ≤ n ∧ v = .int .i64 k ∧ (exec ((homeOps st).take k) z).1 = 0 ∧ Own w0 wr (Star (rdk d (exec ((homeOps st).take k) z).2) (Star (rowIA o1 (st.map (·.1))) (Star (rowSA o2 (st.map (·.2))) R)))) (fun v _ => n - (intOf v).toNat)
  case atStart => exact ⟨0, Nat.zero_le _, rfl, rfl, H0.out⟩
  case round =>
    obtain ⟨k, hk, rfl, he, hh⟩ := hrel
    have HH := Lib.hid hh
    have HE := Lib.hid he
    by_cases hlt : k < n
    · have dl : decide (k < n) = true := decide_eq_true hlt
      have hx : st[k]? = some (st[k]'(by rw [← HN.out]; exact hlt)) := List.getElem?_eq_getElem _
      generalize st[k]'_ = x at *
      obtain ⟨b1, f1, rfl, ca1⟩ := hh.right.left.get.choose_spec.1 k x.1 (by rw [List.getElem?_map, hx]; rfl)
      obtain ⟨b2, f2, rfl, ca2⟩ := hh.right.right.left.get.choose_spec.1 k x.2 (by rw [List.getElem?_map, hx]; rfl)
      have hmem := List.mem_of_getElem? hx
      obtain ⟨x0, x1⟩ := HB.out x hmem
      have hop := home_at st k x hx
      have CW2 := Lib.hid (CW.out (exec ((homeOps st).take k) z).2 (32 + x.1) x.2 wr.drew (by have := HW.out k; omega) (hh.drew (stable_star (stable_rdk _ _) SR.out)))
      have HT := Lib.hid (exec_take_ok he hop)
      have HX := Lib.hid (fun hz => exec_stop he hop hz (.fl :: pointOps []))
      have w1 : IntKind.i64.wrap (32 + x.1) = 32 + x.1 := IntWalk.i64_in _ (by omega)
      have n5 : IntKind.i64.wrap ((k : Int) + 1) = (k : Int) + 1 := IntWalk.i64_in _ (by omega)
      clear hh he hx hop hmem
      obtain ⟨xi, xs⟩ := x
      dsimp only at *
      go_upto_region 4 with fail
      go_still_tail 10, (by kernel_rfl)
      generalize hq : stepD (exec ((homeOps st).take k) z).2 (.wr (32 + xi) xs) = q at *
      obtain ⟨q1, q2⟩ := q
      dsimp only at *
      by_cases hk0 : q1 = 0
      · subst hk0
        go_wp2_with (go_at_call 60; refine CW2.out.mono ?_; rintro e w6 ⟨rfl, h6⟩; have H6 := Lib.hid h6; clear h6)
        go_roundw
        case rel => exact ⟨k + 1, by omega, by go_num, by rw [HT.out], by rw [HT.out]; exact H6.out⟩
        case measure => simp [intOf]; omega
      · go_wp2_with (go_at_call 60; refine CW2.out.mono ?_; rintro e w6 ⟨rfl, h6⟩; have H6 := Lib.hid h6; clear h6)
        go_ret
        have HX2 : exec (installOps st) z = (q1, q2) := HX.out hk0
        rw [HX2]
        exact ⟨rfl, H6.out⟩
    · obtain rfl : k = n := by omega
      have dl : decide (k < k) = false := decide_eq_false (by omega)
      have HFF := Lib.hid (HF.out k HE.out HN.out)
      have W0 := HW.out k
      clear hh he CW HF
      generalize (exec ((homeOps st).take k) z).2 = z' at *
      have W1 := step_wait z' .fl
      have CF1 := Lib.hid (CF.out z' _ (by omega) HH.out)
      have e1 : tailQ [] z' = thenE (stepD z' .fl) (fun y => thenE (stepD y (.wr 1 (headF []))) (fun y => stepD y .fl)) := rfl
      rw [e1] at HFF
      generalize stepD z' .fl = q1 at *
      obtain ⟨a1, z1⟩ := q1
      dsimp only at *
      have W2 := step_wait z1 (.wr 1 (headF []))
      have CW2 : Hid (∀ wr, Own w0 wr (Star (rdk d z1) (Star (rowIA o1 (st.map (·.1))) (Star (rowSA o2 (st.map (·.2))) R))) → Calls Tryz.prog 60 #[.pointer (some ⟨d, 0, none⟩), .int .i64 1, .string (headF [])] wr fun e w2 => e = .returned (.int .i64 (stepD z1 (.wr 1 (headF []))).1) ∧ Own w0 w2 (Star (rdk d (stepD z1 (.wr 1 (headF []))).2) (Star (rowIA o1 (st.map (·.1))) (Star (rowSA o2 (st.map (·.2))) R)))) := Lib.hid (fun wr ho => q_wr ho SR.out 1 _ (by omega))
      have e2 : thenE (a1, z1) (fun y => thenE (stepD y (.wr 1 (headF []))) (fun y => stepD y .fl)) = bif decide (a1 = 0) then thenE (stepD z1 (.wr 1 (headF []))) (fun y => stepD y .fl) else (a1, z1) := rfl
      rw [e2] at HFF
      generalize stepD z1 (.wr 1 (headF [])) = q2 at *
      obtain ⟨a2, z2⟩ := q2
      dsimp only at *
      have CF3 : Hid (∀ wr, Own w0 wr (Star (rdk d z2) (Star (rowIA o1 (st.map (·.1))) (Star (rowSA o2 (st.map (·.2))) R))) → Calls Tryz.prog 61 #[.pointer (some ⟨d, 0, none⟩)] wr fun e w2 => e = .returned (.int .i64 (stepD z2 .fl).1) ∧ Own w0 w2 (Star (rdk d (stepD z2 .fl).2) (Star (rowIA o1 (st.map (·.1))) (Star (rowSA o2 (st.map (·.2))) R)))) := Lib.hid (fun wr ho => CF.out z2 wr (by omega) ho)
      have e3 : thenE (a2, z2) (fun y => stepD y .fl) = bif decide (a2 = 0) then stepD z2 .fl else (a2, z2) := rfl
      rw [e3] at HFF
      generalize stepD z2 .fl = q3 at *
      obtain ⟨a3, z3⟩ := q3
      dsimp only at *
      have HG : Hid (∀ w1 w2, Own w0 w1 (Star (rdk d z1) (Star (rowIA o1 (st.map (·.1))) (Star (rowSA o2 (st.map (·.2))) R))) → Gr w1 w2 → Own w0 w2 (Star (rdk d z1) (Star (rowIA o1 (st.map (·.1))) (Star (rowSA o2 (st.map (·.2))) R)))) := Lib.hid (fun w1 w2 ho g => ho.gr (stable_star (stable_rdk _ _) SR.out) g)
      clear W0 W1 W2 e1 e2 e3 CF HW hw
      generalize headF [] = hd0 at *
      by_cases k1 : a1 = 0
      · subst k1
        rw [decide_eq_true rfl, cond_true] at HFF
        by_cases k2 : a2 = 0
        · subst k2
          rw [decide_eq_true rfl, cond_true] at HFF
          go_upto_region 9 with (go_at_call 61; refine CF1.out.mono ?_; rintro e w1 ⟨rfl, h1⟩; have H1 := Lib.hid h1; clear h1)
          go_upto_region 11 with (first
            | (go_at_call 59; refine (CH.out _).mono ?_; rintro e w2 ⟨rfl, g2⟩; have H2 := Lib.hid (HG.out _ _ H1.out g2); clear g2)
            | (go_at_call 60; refine (CW2.out _ H2.out).mono ?_; rintro e w3 ⟨rfl, h3⟩; have H3 := Lib.hid h3; clear h3))
          go_wp2_with (go_at_call 61; refine (CF3.out _ H3.out).mono ?_; rintro e w4 ⟨rfl, h4⟩; have H4 := Lib.hid h4; clear h4)
          go_ret
          rw [HFF.out]
          exact ⟨rfl, H4.out⟩
        · rw [decide_eq_false k2, cond_false] at HFF
          go_upto_region 9 with (go_at_call 61; refine CF1.out.mono ?_; rintro e w1 ⟨rfl, h1⟩; have H1 := Lib.hid h1; clear h1)
          go_wp2_with (first
            | (go_at_call 59; refine (CH.out _).mono ?_; rintro e w2 ⟨rfl, g2⟩; have H2 := Lib.hid (HG.out _ _ H1.out g2); clear g2)
            | (go_at_call 60; refine (CW2.out _ H2.out).mono ?_; rintro e w3 ⟨rfl, h3⟩; have H3 := Lib.hid h3; clear h3))
          go_ret
          rw [HFF.out]
          exact ⟨rfl, H3.out⟩
      · rw [decide_eq_false k1, cond_false] at HFF
        go_wp2_with (go_at_call 61; refine CF1.out.mono ?_; rintro e w1 ⟨rfl, h1⟩; have H1 := Lib.hid h1; clear h1)
        go_ret
        rw [HFF.out]
        exact ⟨rfl, H1.out⟩
end Go.Proofs.YtgaibknhdaeidaaGreat.P
