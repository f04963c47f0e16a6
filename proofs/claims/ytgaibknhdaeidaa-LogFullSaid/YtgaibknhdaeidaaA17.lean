/- Stage 7: all that is staged, written home. No condition. -/
import Derived.Test.YtgaibknhdaeidaaA16
set_option linter.unusedVariables false
set_option maxRecDepth 50000
namespace Go.Proofs.Ytgaibknhdaeidaa.P
open Go.RowKit
set_option maxHeartbeats 1600000 in
theorem o_writeAll_home {w0 w : World} {d : Nat} {z : DState} {l mb : Nat} {st : List (Int × ByteArray)} {dead : Bool} {R : Asn} (o : Option Addr) (c : Nat) (h : Own w0 w (DL d z l mb st dead (Star (rowIA o (st.map (·.1))) R))) (hs : Stable R) (hl : st.length ≤ 30) (hb : ∀ x ∈ st, 0 ≤ x.1 ∧ x.1 < 65536) (hw : z.wait.length ≤ 3000000000000) :
    Calls Try.prog 55 #[.pointer (some ⟨l, 0, none⟩), .slice o st.length c, .func (.func 57) #[] #[]] w fun e w' => e = .returned (.int .i64 (exec (homeOps st ++ [.fl]) z).1) ∧ Own w0 w' (DL d (exec (homeOps st ++ [.fl]) z).2 l mb st dead (Star (rowIA o (st.map (·.1))) R)) := by
  have hs2 : Stable (Star (rowIA o (st.map (·.1))) R) := stable_star (stable_rowI _ _) hs
  have HW : Hid (∀ k, ((exec ((homeOps st).take k) z).2).wait.length ≤ 4000000000000 - 1) := Lib.hid (fun k => by
    have := exec_wait ((homeOps st).take k) z
    rw [List.length_take, home_len] at this
    omega)
  have CW : Hid (∀ k i s wr, Own w0 wr (DL d (exec ((homeOps st).take k) z).2 l mb st dead (Star (rowIA o (st.map (·.1))) R)) → Calls Try.prog 52 #[.pointer (some ⟨d, 0, none⟩), .int .i64 i, .string s] wr fun e w2 => e = .returned (.int .i64 (stepD (exec ((homeOps st).take k) z).2 (.wr i s)).1) ∧ Own w0 w2 (DL d (stepD (exec ((homeOps st).take k) z).2 (.wr i s)).2 l mb st dead (Star (rowIA o (st.map (·.1))) R))) :=
    Lib.hid (fun k i s wr ho => own_w ho hs2 i s (by have := HW.out k; omega))
  have HF : Hid (∀ k, (exec ((homeOps st).take k) z).1 = 0 → k = st.length → exec (homeOps st ++ [.fl]) z = stepD (exec ((homeOps st).take k) z).2 .fl) := Lib.hid (fun k h0 e => by
    have ht : (homeOps st).take k = homeOps st := List.take_of_length_le (by rw [home_len]; omega)
    rw [ht] at h0 ⊢
    rw [exec_append, decide_eq_true h0, cond_true, exec_one])
  have CF : Hid (∀ k wr, Own w0 wr (DL d (exec ((homeOps st).take k) z).2 l mb st dead (Star (rowIA o (st.map (·.1))) R)) → Calls Try.prog 53 #[.pointer (some ⟨d, 0, none⟩)] wr fun e w2 => e = .returned (.int .i64 (stepD (exec ((homeOps st).take k) z).2 .fl).1) ∧ Own w0 w2 (DL d (stepD (exec ((homeOps st).take k) z).2 .fl).2 l mb st dead (Star (rowIA o (st.map (·.1))) R))) :=
    Lib.hid (fun k wr ho => own_f ho hs2 (by have := HW.out k; omega))
  have HB := Lib.hid hb
  have H0 := Lib.hid h
  clear h hb
  obtain ⟨n, hn⟩ : ∃ n, n = st.length := ⟨_, rfl⟩
  have HN := Lib.hid hn
  rw [← hn] at hl ⊢
  clear hn
  go_enter Try.func55, Try.ntmps55
  go_wp2_with fail
  go_loopw [12] (fun v wr => ∃ k : Nat, k ≤ n ∧ v = .int .i64 k ∧ (exec ((homeOps st).take k) z).1 = 0 ∧ Own w0 wr (DL d (exec ((homeOps st).take k) z).2 l mb st dead (Star (rowIA o (st.map (·.1))) R))) (fun v _ => n - (intOf v).toNat)
  case atStart => exact ⟨0, Nat.zero_le _, rfl, rfl, H0.out⟩
  case round =>
    obtain ⟨k, hk, rfl, he, hh⟩ := hrel
    have HH := Lib.hid hh
    have HE := Lib.hid he
    have c0 := hh.ldisk
    have c1 := blk_cell hh.log.1 1 (v := .map (some mb)) rfl
    by_cases hlt : k < n
    · have dl : decide (k < n) = true := decide_eq_true hlt
      have hx : st[k]? = some (st[k]'(by rw [← HN.out]; exact hlt)) := List.getElem?_eq_getElem _
      generalize st[k]'_ = x at *
      obtain ⟨b1, o1, rfl, ca1⟩ := hh.right.right.left.get.choose_spec.1 k x.1 (by rw [List.getElem?_map, hx]; rfl)
      have hmem := List.mem_of_getElem? hx
      obtain ⟨x0, x1⟩ := HB.out x hmem
      have hlk := sec_look1 hh.log.2.1.drew (i := x.1) (wf_small x0 (by omega))
      rw [look_of_mem hh.log.2.2.1 hmem] at hlk
      replace hlk : (Instr.lookup 62 (.map (some mb)) (.int .i64 x.1) false).run Try.prog { heap := wr.heap, tape := wr.tape, drawn := wr.drawn + 1, os := wr.os, output := wr.output } = .ok (.agg #[.string x.2]) { heap := wr.heap, tape := wr.tape, drawn := wr.drawn + 1, os := wr.os, output := wr.output } := hlk
      have hop := home_at st k x hx
      have CW2 := Lib.hid (CW.out k (32 + x.1) x.2)
      have HT := Lib.hid (exec_take_ok he hop)
      have HX := Lib.hid (fun hz => exec_stop he hop hz [.fl])
      have HHd := Lib.hid (hh.drew (stable_dl _ _ _ _ _ _ hs2))
      clear hh he hx hop hmem
      obtain ⟨xi, xs⟩ := x
      dsimp only at *
      go_upto_region 4 with fail
      go_still_tail 15, (by kernel_rfl)
      still_call (k_home _ xi x0 (by omega) _)
      repeat still_step
      refine still_look rfl _ _ _ rfl _ _ _ rfl rfl hlk ?_
      have hfld := fld_sec xs
      repeat still_step
      refine wpStill_nil ?_
      clear hlk hfld c1 c0
      generalize hq : stepD (exec ((homeOps st).take k) z).2 (.wr (32 + xi) xs) = q at *
      obtain ⟨q1, q2⟩ := q
      dsimp only at *
      by_cases hk0 : q1 = 0
      · subst hk0
        go_wp2_with (go_at_call 52; refine (CW2.out _ HHd.out).mono ?_; rintro e w6 ⟨rfl, h6⟩; have H6 := Lib.hid h6; clear h6)
        go_roundw
        case rel => exact ⟨k + 1, by omega, by go_num, by rw [HT.out], by rw [HT.out]; exact H6.out⟩
        case measure => simp [intOf]; omega
      · go_wp2_with (go_at_call 52; refine (CW2.out _ HHd.out).mono ?_; rintro e w6 ⟨rfl, h6⟩; have H6 := Lib.hid h6; clear h6)
        go_ret
        rw [HX.out hk0]
        exact ⟨rfl, H6.out⟩
    · obtain rfl : k = n := by omega
      have HFF := Lib.hid (HF.out k HE.out HN.out)
      clear hh he c1
      go_wp2_with (go_at_call 53; refine (CF.out k _ HH.out).mono ?_; rintro e w6 ⟨rfl, h6⟩; have H6 := Lib.hid h6; clear h6)
      go_ret
      rw [HFF.out]
      exact ⟨rfl, H6.out⟩
end Go.Proofs.Ytgaibknhdaeidaa.P
