/- Stage 7: a list of transactions that came in, opened; LogAgain. No condition. -/
import Derived.Test.YtgaibknhdaeidaaA37
set_option linter.unusedVariables false
set_option maxRecDepth 50000
namespace Go.Proofs.Ytgaibknhdaeidaa.P
open Go.RowKit
def TxAt (w : World) (bl off k : Nat) : Prop := ∃ (oI oS : Option Addr) (cI cS : Nat) (I : List Int) (S : List ByteArray), w.cell? ⟨bl, off + k * 2, none⟩ = some (.slice oI I.length cI) ∧ w.cell? ⟨bl, off + k * 2 + 1, none⟩ = some (.slice oS S.length cS) ∧ RowI w oI I ∧ RowS w oS S ∧ I.length ≤ 4000000000000000 ∧ S.length ≤ 4000000000000000 ∧ ∀ s ∈ S, s.size ≤ 9223372036854770000
section
open Go.ChangeShapes Go.WideShapes Go.Deep
variable {H : Type} {enc : TypeId × Value → H} {w : World} {base : Nat} {spare : Nat → Bool} {held : Bool}
theorem open_txs {v : Value} {d : DataW H} {ps : List MemPlace} (hv : ∃ (o : Option Addr) (l c : Nat), v = .slice o l c) (h : DataW.Trod enc Try.prog w base spare held 22 v d ps) (HD : ∀ n ∈ d.weights Try.prog 22, n ≤ 140737488351232) :
    ∃ (o : Option Addr) (len cap bl off : Nat), v = .slice o len cap ∧ len ≤ 4000000000000000 ∧ (0 < len → o = some ⟨bl, off, none⟩) ∧ ∀ k, k < len → TxAt w bl off k := by
  rcases open_structs_w Try.underlying22 Try.underlying26 (by kernel_rfl) (by kernel_rfl) (by decide) hv h with ⟨o, cap, rfl⟩ | ⟨bl, off, len, cap, rfl, h0, hl, hm, hb, ⟨N, hN, hNw⟩, hi⟩
  · exact ⟨o, 0, cap, 0, 0, rfl, by omega, fun h => absurd h (by omega), fun k h => absurd h (by omega)⟩
  · refine ⟨some ⟨bl, off, none⟩, len, cap, bl, off, rfl, ?_, fun _ => rfl, fun k hk => ?_⟩
    · have hby : Try.prog.bytesOf 26 = 48 := by kernel_rfl
      have := HD _ hNw
      rw [hby] at this
      omega
    · obtain ⟨u0, y0, n0, c0, t0, w0⟩ := hi k hk 0 _ rfl
      obtain ⟨u1, y1, n1, c1, t1, w1⟩ := hi k hk 1 _ rfl
      obtain ⟨oI, cI, I, rfl, a1, a2⟩ := open_ints_c t0 (fun q hq => HD q (w0 q hq))
      obtain ⟨oS, cS, S, rfl, b1, b2, b3⟩ := open_strs_c t1 (fun q hq => HD q (w1 q hq))
      exact ⟨oI, oS, cI, cS, I, S, c0, c1, a2, b2, a1, b1, b3⟩
end
theorem e_setsC {w0 w : World} {d l mb : Nat} {z : DState} (hc : Clean z 60) (h : Own w0 w (DL d z l mb [] false emp)) (oI oS : Option Addr) (cI cS : Nat) (I : List Int) (S : List ByteArray) (hI : RowI w0 oI I) (hS : RowS w0 oS S) (hlI : I.length ≤ 4000000000000000) (hlS : S.length ≤ 4000000000000000) (hss : ∀ s ∈ S, s.size ≤ 9223372036854770000) :
    Calls Try.prog 13 #[ptr l, .agg #[.slice oI I.length cI, .slice oS S.length cS]] w fun e w' => e = .returned (.tuple #[]) ∧ ∃ st, okSt 60 st ∧ Own w0 w' (DL d z l mb st false emp) := by
  refine (o_sets h stable_emp (by rw [hc.len]; exact ok_nil 60) oI oS cI cS I S hI hS hlI hlS hss).mono ?_
  rintro e w' ⟨rfl, k⟩
  rw [hc.len] at k
  exact ⟨rfl, _, ok_sets _ _ (ok_nil 60), k⟩
theorem e_same2 {w0 w : World} {d l mb l2 mb2 ga ca gb cb : Nat} {z : DState} {L : List ByteArray} (hl : L.length = 28) (h : Own w0 w (DL d z l mb [] false (Star (rowV (.slice (some ⟨gb, 0, none⟩) 28 cb) 28 L) (Star (lgA l2 d mb2 [] false) (Star (rowV (.slice (some ⟨ga, 0, none⟩) 28 ca) 28 L) emp))))) :
    Calls Try.prog 18 #[.slice (some ⟨gb, 0, none⟩) 28 cb, .slice (some ⟨ga, 0, none⟩) 28 ca] w fun e w' => e = .returned (.bool true) ∧ Gr w w' := by
  have hb : RowS w (some ⟨gb, 0, none⟩) L := rowS_own (c := cb) (by rw [hl]; exact h.right.right.row)
  have ha : RowS w (some ⟨ga, 0, none⟩) L := rowS_own (c := ca) (by rw [hl]; exact h.right.right.right.right.row)
  have := e_same w _ _ cb ca L L hb ha (by rw [hl]; omega)
  rw [hl] at this
  have e1 : sameB L L = true := decide_eq_true rfl
  rw [e1] at this
  exact this
set_option maxHeartbeats 6400000 in
theorem l_again7 (w : World) (o : Option Addr) (len cap bl off : Nat) (hlen : len ≤ 4000000000000000) (ho : 0 < len → o = some ⟨bl, off, none⟩) (hT : ∀ k, k < len → TxAt w bl off k) :
    Calls Try.prog 6 #[.slice o len cap] w fun e w' => e = .returned (.bool true) ∧ Gr w w' := by
  have CSH := Lib.hid (c_shown7 w)
  have CN : Hid (∀ w1, Gr w w1 → Calls Try.prog 11 #[.int .i64 60] w1 fun e w' => ∃ d, e = .returned (.tuple #[ptr d, .int .i64 0]) ∧ Own w w' (Star (dsk d zG) emp)) := Lib.hid (fun w1 g => o_new (Own.start g) stable_emp 60 (by omega) (by omega))
  have HT := Lib.hid hT
  have HO := Lib.hid ho
  clear hT ho
  have sE := stable_emp
  have cG : Clean zG 60 := clean_new 60 (by omega) (by omega)
  go_enter Try.func6, Try.ntmps6
  go_upto_region 3 with (first
    | (go_at_call 10; refine CSH.out.mono ?_; rintro e w1 ⟨rfl, h1⟩; have H1 := Lib.hid h1; clear h1)
    | (go_at_call 11; refine (CN.out _ H1.out).mono ?_; rintro e w2 ⟨d, rfl, h2⟩; have H2 := Lib.hid h2; clear h2))
  clear CSH CN
  go_upto_region 6 with (go_at_call 12; refine (o_open_ok H2.out sE (sz_new 60) (by show 0 ≤ _; omega) zG (ex_new 60 (by omega))).mono ?_; rintro e w3 ⟨l, mb, rfl, h3⟩; have H3 := Lib.hid h3; clear h3)
  go_wp2_with fail
  go_loopw [8] (fun v wr => ∃ (k : Nat) (z : DState), k ≤ len ∧ k ≤ 20 ∧ v = .int .i64 k ∧ Clean z 60 ∧ Own w wr (DL d z l mb [] false emp)) (fun v _ => len - (intOf v).toNat)
  case atStart => exact ⟨0, zG, Nat.zero_le _, by omega, rfl, cG, H3.out⟩
  case round =>
    obtain ⟨k, z, hk, hk20, rfl, hc, hh⟩ := hrel
    have HH := Lib.hid hh
    clear hh
    by_cases hlt : k < len ∧ k < 20
    · obtain ⟨l1, l2⟩ := hlt
      have dl : decide (k < len) = true := decide_eq_true l1
      have oe := HO.out (by omega)
      subst oe
      obtain ⟨oI, oS, cI, cS, I, S, q0, q1, hI, hS, hlI, hlS, hss⟩ := HT.out k l1
      have d0 := kcell HH.out.sub q0
      have d1 := kcell HH.out.sub q1
      have CE := Lib.hid (e_setsC hc HH.out oI oS cI cS I S hI hS hlI hlS hss)
      clear q0 q1 hI hS hss
      go_upto_region 10 with (go_at_call 13; refine CE.out.mono ?_; rintro e w6 ⟨rfl, st, hst, h6⟩; have H6 := Lib.hid h6; clear h6)
      go_wp2_with (go_at_call 14; refine (o_comm H6.out sE hc (by omega) (by omega) hst).mono ?_; rintro e w7 ⟨rfl, h7⟩; have H7 := Lib.hid h7; clear h7)
      go_roundw
      case rel => exact ⟨k + 1, commZ st z, by omega, by omega, by go_num, (comm_clean hc (by omega) hst).1, H7.out⟩
      case measure => simp [intOf]; omega
    · have hcase : (¬ k < len) ∨ (k < len ∧ ¬ k < 20) := by omega
      clear hlt
      rcases hcase with c1 | ⟨c1, c2⟩
      all_goals
        go_upto_region 14 with (go_at_call 15; refine (o_homes HH.out sE (by rw [hc.still]; simp) 28 hc.len).mono ?_; rintro e w8 ⟨ga, ca, rfl, h8⟩; have H8 := Lib.hid h8; clear h8)
        have sR : Stable (Star (lgA l d mb [] false) (Star (rowV (.slice (some ⟨ga, 0, none⟩) 28 ca) 28 (homeL false z [] 28)) emp)) := stable_star (stable_lg _ _ _ _ _) (stable_star (stable_row _ _ _ _ _) sE)
        go_upto_region 17 with (go_at_call 12; refine (o_open_ok H8.out sR hc.sz (by rw [hc.still]; simp) z (open_clean hc (by omega))).mono ?_; rintro e w9 ⟨m, mc, rfl, h9⟩; have H9 := Lib.hid h9; clear h9)
        go_upto_region 18 with (first
          | (go_at_call 15; refine (o_homes H9.out sR (by rw [hc.still]; simp) 28 hc.len).mono ?_; rintro e w10 ⟨gb, cb, rfl, h10⟩; have H10 := Lib.hid h10; clear h10)
          | (go_at_call 18; refine (e_same2 (homeL_len _ _ _ _) H10.out).mono ?_; rintro e w11 ⟨rfl, g11⟩; have H11 := Lib.hid (H10.out.gr (stable_dl _ _ _ _ _ _ (stable_star (stable_row _ _ _ _ _) sR)) g11); clear g11))
        have CW := Lib.hid (o_waiting H11.out)
        rw [hc.still] at CW
        go_wp2_with (first
          | (go_at_call 23; refine (o_staged H11.out).mono ?_; rintro e w12 ⟨rfl, rfl⟩)
          | (go_at_call 21; refine CW.out.mono ?_; rintro e w13 ⟨rfl, rfl⟩))
        go_ret
        exact ⟨rfl, H11.out.sub⟩
end Go.Proofs.Ytgaibknhdaeidaa.P
