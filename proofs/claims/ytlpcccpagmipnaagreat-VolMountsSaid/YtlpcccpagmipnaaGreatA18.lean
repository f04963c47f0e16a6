/- Stage 7: all that is staged, written home. No condition. -/
import Derived.Test.YtlpcccpagmipnaaGreatA16
set_option linter.unusedVariables false
set_option maxRecDepth 50000
namespace Go.Proofs.YtlpcccpagmipnaaGreat.P
open Go.RowKit
set_option maxHeartbeats 1600000 in
theorem o_writeAll_home {w0 w : World} {d : Nat} {z : DState} {l mb : Nat} {st : List (Int × ByteArray)} {dead : Bool} {R : Asn} (o : Option Addr) (c : Nat) (h : Own w0 w (DL d z l mb st dead (Star (rowIA o (st.map (·.1))) R))) (hs : Stable R) (hl : st.length ≤ 30) (hb : ∀ x ∈ st, 0 ≤ x.1 ∧ x.1 < 65536) (hw : z.wait.length ≤ 3000000000000) :
    Calls Tryz.prog 88 #[.pointer (some ⟨l, 0, none⟩), .slice o st.length c, .func (.func 91) #[] #[]] w fun e w' => e = .returned (.int .i64 (exec (homeOps st ++ [.fl]) z).1) ∧ Own w0 w' (DL d (exec (homeOps st ++ [.fl]) z).2 l mb st dead (Star (rowIA o (st.map (·.1))) R)) := by
  have hs2 : Stable (Star (rowIA o (st.map (·.1))) R) := stable_star (stable_rowI _ _) hs
  have HW : Hid (∀ k, ((exec ((homeOps st).take k) z).2).wait.length ≤ 4000000000000 - 1) := Lib.hid (fun k => by
    have := exec_wait ((homeOps st).take k) z
    rw [List.length_take, home_len] at this
    omega)
  have CW : Hid (∀ k i s wr, Own w0 wr (DL d (exec ((homeOps st).take k) z).2 l mb st dead (Star (rowIA o (st.map (·.1))) R)) → Calls Tryz.prog 102 #[.pointer (some ⟨d, 0, none⟩), .int .i64 i, .string s] wr fun e w2 => e = .returned (.int .i64 (stepD (exec ((homeOps st).take k) z).2 (.wr i s)).1) ∧ Own w0 w2 (DL d (stepD (exec ((homeOps st).take k) z).2 (.wr i s)).2 l mb st dead (Star (rowIA o (st.map (·.1))) R))) :=
    Lib.hid (fun k i s wr ho => own_w ho hs2 i s (by have := HW.out k; omega))
  have HF : Hid (∀ k, (exec ((homeOps st).take k) z).1 = 0 → k = st.length → exec (homeOps st ++ [.fl]) z = stepD (exec ((homeOps st).take k) z).2 .fl) := Lib.hid (fun k h0 e => by
    have ht : (homeOps st).take k = homeOps st := List.take_of_length_le (by rw [home_len]; omega)
    rw [ht] at h0 ⊢
    rw [exec_append, decide_eq_true h0, cond_true, exec_one])
  have CF : Hid (∀ k wr, Own w0 wr (DL d (exec ((homeOps st).take k) z).2 l mb st dead (Star (rowIA o (st.map (·.1))) R)) → Calls Tryz.prog 103 #[.pointer (some ⟨d, 0, none⟩)] wr fun e w2 => e = .returned (.int .i64 (stepD (exec ((homeOps st).take k) z).2 .fl).1) ∧ Own w0 w2 (DL d (stepD (exec ((homeOps st).take k) z).2 .fl).2 l mb st dead (Star (rowIA o (st.map (·.1))) R))) :=
    Lib.hid (fun k wr ho => own_f ho hs2 (by have := HW.out k; omega))
  have HB := Lib.hid hb
  have H0 := Lib.hid h
  clear h hb
  obtain ⟨n, hn⟩ : ∃ n, n = st.length := ⟨_, rfl⟩
  have HN := Lib.hid hn
  rw [← hn] at hl ⊢
  clear hn
  go_enter Tryz.func88, Tryz.ntmps88
  go_wp2_with fail
  go_loopw [12] (fun v wr => ∃ k : Nat, k ≤ n ∧ v = .int .i64 k ∧ (exec ((homeOps st).take k) z).1 = 0 ∧ Own w0 wr (DL d (exec ((homeOps st).take k) z).2 l mb st dead (Star (rowIA o (st.map (·.1))) R))) (fun v _ => n - (intOf v).toNat)
  case atStart => exact ⟨0, Nat.zero_le _, rfl, rfl, H0.out⟩
  case round =>
    obtain ⟨k, hk, rfl, he, hh⟩ := hrel
    have HH := Lib.hid hh
    have HE := Lib.hid he
    have c0 := hh.ldisk
    have c1 := blk_cell hh.log.1 1 (v := .map (some mb)) rfl
    by_cases hlt : k < n
    · have dl : decide (k < n) = true := decide_eq_true hlt
      have hx : st[k]? = some (st[k]'(by rw [← HN.out]; exact hlt)) := List.getElem?_eq_getElem _
      generalize st[k]'_ = x at *
      obtain ⟨b1, o1, rfl, ca1⟩ := hh.right.right.left.get.choose_spec.1 k x.1 (by rw [List.getElem?_map, hx]; rfl)
      have hmem := List.mem_of_getElem? hx
      obtain ⟨x0, x1⟩ := HB.out x hmem
      have hlk := sec_look1 hh.log.2.1.drew (i := x.1) (wf_small x0 (by omega))
      rw [look_of_mem hh.log.2.2.1 hmem] at hlk
      replace hlk : (Instr.lookup 90 (.map (some mb)) (.int .i64 x.1) false).run Tryz.prog { heap := wr.heap, tape := wr.tape, drawn := wr.drawn + 1, os := wr.os, output := wr.output } = .ok (.agg #[.string x.2]) { heap := wr.heap, tape := wr.tape, drawn := wr.drawn + 1, os := wr.os, output := wr.output } := hlk
      have hop := home_at st k x hx
      have CW2 := Lib.hid (CW.out k (32 + x.1) x.2)
      have HT := Lib.hid (exec_take_ok he hop)
      have HX := Lib.hid (fun hz => exec_stop he hop hz [.fl])
      have HHd := Lib.hid (hh.drew (stable_dl _ _ _ _ _ _ hs2))
      clear hh he hx hop hmem
      obtain ⟨xi, xs⟩ := x
      dsimp only at *
      go_upto_region 4 with fail
      go_still_tail 15, (by kernel_rfl)
      still_call (k_home _ xi x0 (by omega) _)
      repeat still_step
      refine still_look rfl _ _ _ rfl _ _ _ rfl rfl hlk ?_
      have hfld := fld_sec xs
      repeat still_step
      refine wpStill_nil ?_
      clear hlk hfld c1 c0
      generalize hq : stepD (exec ((homeOps st).take k) z).2 (.wr (32 + xi) xs) = q at *
      obtain ⟨q1, q2⟩ := q
      dsimp only at *
      by_cases hk0 : q1 = 0
      · subst hk0
        go_wp2_with (go_at_call 102; refine (CW2.out _ HHd.out).mono ?_; rintro e w6 ⟨rfl, h6⟩; have H6 := Lib.hid h6; clear h6)
        go_roundw
        case rel => exact ⟨k + 1, by omega, by go_num, by rw [HT.out], by rw [HT.out]; exact H6.out⟩
        case measure => simp [intOf]; omega
      · go_wp2_with (go_at_call 102; refine (CW2.out _ HHd.out).mono ?_; rintro e w6 ⟨rfl, h6⟩; have H6 := Lib.hid h6; clear h6)
        go_ret
        rw [HX.out hk0]
        exact ⟨rfl, H6.out⟩
    · obtain rfl : k = n := by omega
      have HFF := Lib.hid (HF.out k HE.out HN.out)
      clear hh he c1
      go_wp2_with (go_at_call 103; refine (CF.out k _ HH.out).mono ?_; rintro e w6 ⟨rfl, h6⟩; have H6 := Lib.hid h6; clear h6)
      go_ret
      rw [HFF.out]
      exact ⟨rfl, H6.out⟩
end Go.Proofs.YtlpcccpagmipnaaGreat.P
namespace Go.Proofs.YtlpcccpagmipnaaGreat.P
open Go.RowKit
def thenE (a : Int × DState) (f : DState → Int × DState) : Int × DState := bif decide (a.1 = 0) then f a.2 else a
theorem thenE_ok {a : Int × DState} {f : DState → Int × DState} (h : a.1 = 0) : thenE a f = f a.2 := by unfold thenE; rw [decide_eq_true h]; rfl
theorem thenE_no {a : Int × DState} {f : DState → Int × DState} (h : a.1 ≠ 0) : thenE a f = a := by unfold thenE; rw [decide_eq_false h]; rfl
theorem exec_then (a b : List DOp) (z : DState) : exec (a ++ b) z = thenE (exec a z) (exec b) := exec_append a b z
theorem commit_then (st : List (Int × ByteArray)) (z : DState) : exec (commitOps st) z = thenE (exec (holdOps 0 st ++ [.fl]) z) (fun z1 => thenE (exec (pointOps (st.map (·.1))) z1) (fun z2 => thenE (exec (homeOps st ++ [.fl]) z2) (exec (pointOps [])))) := by
  have e : commitOps st = (holdOps 0 st ++ [.fl]) ++ (pointOps (st.map (·.1)) ++ ((homeOps st ++ [.fl]) ++ pointOps [])) := by
    unfold commitOps installOps; simp
  rw [e, exec_then]
  refine congrArg (thenE _) (funext fun z1 => ?_)
  rw [exec_then]
  refine congrArg (thenE _) (funext fun z2 => ?_)
  rw [exec_then]
def EO (w0 : World) (D : DState → Asn) (q : Int × DState) (e : Ending) (w' : World) : Prop := e = .returned (.int .i64 q.1) ∧ Own w0 w' (D q.2)
set_option maxHeartbeats 1600000 in
theorem o_acts {w0 w : World} {d : Nat} {z : DState} {l mb : Nat} {st : List (Int × ByteArray)} {dead : Bool} {R : Asn} (o : Option Addr) (c : Nat) (h : Own w0 w (DL d z l mb st dead (Star (rowIA o (st.map (·.1))) R))) (hs : Stable R) (hl : st.length ≤ 30) (hb : ∀ x ∈ st, 0 ≤ x.1 ∧ x.1 < 65536) (hw : z.wait.length ≤ 2000000000000) :
    Calls Tryz.prog 46 #[.pointer (some ⟨l, 0, none⟩), .slice o st.length c] w (EO w0 (fun z => DL d z l mb st dead (Star (rowIA o (st.map (·.1))) R)) (exec (commitOps st) z)) := by
  have hs2 : Stable (Star (rowIA o (st.map (·.1))) R) := stable_star (stable_rowI _ _) hs
  rw [commit_then]
  have hkb : ∀ i ∈ st.map (·.1), 0 ≤ i ∧ i < 65536 := fun i hi => by
    obtain ⟨x, hx, rfl⟩ := List.mem_map.1 hi
    exact hb x hx
  have b1 := exec_wait (holdOps 0 st ++ [.fl]) z
  rw [List.length_append, hold_len] at b1
  have C1 := Lib.hid (o_writeAll_hold o c h hs hl hb (by omega))
  generalize exec (holdOps 0 st ++ [.fl]) z = q1 at *
  obtain ⟨a1, z1⟩ := q1
  dsimp only [List.length_cons, List.length_nil] at b1
  have b2 := exec_wait (pointOps (st.map (·.1))) z1
  have C2 : Hid (∀ w1, Own w0 w1 (DL d z1 l mb st dead (Star (rowIA o (st.map (·.1))) R)) → Calls Tryz.prog 90 #[.pointer (some ⟨l, 0, none⟩), .slice o st.length c] w1 (EO w0 (fun z => DL d z l mb st dead (Star (rowIA o (st.map (·.1))) R)) (exec (pointOps (st.map (·.1))) z1))) :=
    Lib.hid (fun w1 h1 => by
      have := o_point h1 hs2 o c (st.map (·.1)) h1.right.right.left.get.choose_spec.1 (by rw [List.length_map]; exact hl) hkb (by omega)
      rw [List.length_map] at this
      exact this)
  have e2 : thenE (a1, z1) (fun z1 => thenE (exec (pointOps (st.map (·.1))) z1) (fun z2 => thenE (exec (homeOps st ++ [.fl]) z2) (exec (pointOps [])))) = bif decide (a1 = 0) then thenE (exec (pointOps (st.map (·.1))) z1) (fun z2 => thenE (exec (homeOps st ++ [.fl]) z2) (exec (pointOps []))) else (a1, z1) := rfl
  rw [e2]
  generalize exec (pointOps (st.map (·.1))) z1 = q2 at *
  obtain ⟨a2, z2⟩ := q2
  have p2 : (pointOps (st.map (·.1))).length = 2 := rfl
  rw [p2] at b2
  dsimp only at b2
  have b3 := exec_wait (homeOps st ++ [.fl]) z2
  rw [List.length_append, home_len] at b3
  have C3 : Hid (∀ w1, Own w0 w1 (DL d z2 l mb st dead (Star (rowIA o (st.map (·.1))) R)) → Calls Tryz.prog 88 #[.pointer (some ⟨l, 0, none⟩), .slice o st.length c, .func (.func 91) #[] #[]] w1 (EO w0 (fun z => DL d z l mb st dead (Star (rowIA o (st.map (·.1))) R)) (exec (homeOps st ++ [.fl]) z2))) :=
    Lib.hid (fun w1 h1 => o_writeAll_home o c h1 hs hl hb (by omega))
  have e3 : thenE (a2, z2) (fun z2 => thenE (exec (homeOps st ++ [.fl]) z2) (exec (pointOps []))) = bif decide (a2 = 0) then thenE (exec (homeOps st ++ [.fl]) z2) (exec (pointOps [])) else (a2, z2) := rfl
  rw [e3]
  generalize exec (homeOps st ++ [.fl]) z2 = q3 at *
  obtain ⟨a3, z3⟩ := q3
  dsimp only [List.length_cons, List.length_nil] at b3
  have C4 : Hid (∀ w1, Own w0 w1 (DL d z3 l mb st dead (Star (rowIA o (st.map (·.1))) R)) → Calls Tryz.prog 90 #[.pointer (some ⟨l, 0, none⟩), .slice none 0 0] w1 (EO w0 (fun z => DL d z l mb st dead (Star (rowIA o (st.map (·.1))) R)) (exec (pointOps []) z3))) :=
    Lib.hid (fun w1 h1 => o_point h1 hs2 none 0 [] (rowI_nil _ _) (by simp) (fun i hi => by cases hi) (by omega))
  have e4 : thenE (a3, z3) (exec (pointOps [])) = bif decide (a3 = 0) then exec (pointOps []) z3 else (a3, z3) := rfl
  rw [e4]
  generalize exec (pointOps []) z3 = q4 at *
  clear b1 b2 b3 h hb hkb hs hs2 e2 e3 e4 p2
  have hl2 : st.length ≤ 30 := hl
  generalize st.length = n at *
  by_cases k1 : a1 = 0
  · subst k1
    rw [decide_eq_true rfl, cond_true]
    by_cases k2 : a2 = 0
    · subst k2
      rw [decide_eq_true rfl, cond_true]
      by_cases k3 : a3 = 0
      · subst k3
        rw [decide_eq_true rfl, cond_true]
        go_enter Tryz.func46, Tryz.ntmps46
        go_upto_region 4 with (go_at_call 88; refine C1.out.mono ?_; rintro e w1 ⟨rfl, h1⟩; have H1 := Lib.hid h1; clear h1)
        go_upto_region 7 with (go_at_call 90; refine (C2.out _ H1.out).mono ?_; rintro e w1 ⟨rfl, h1⟩; have H2 := Lib.hid h1; clear h1)
        go_upto_region 10 with (go_at_call 88; refine (C3.out _ H2.out).mono ?_; rintro e w1 ⟨rfl, h1⟩; have H3 := Lib.hid h1; clear h1)
        go_wp2_with (go_at_call 90; refine (C4.out _ H3.out).mono ?_; rintro e w1 ⟨rfl, h1⟩; have H4 := Lib.hid h1; clear h1)
        go_ret
        exact ⟨rfl, H4.out⟩
      · rw [decide_eq_false k3, cond_false]
        go_enter Tryz.func46, Tryz.ntmps46
        go_upto_region 4 with (go_at_call 88; refine C1.out.mono ?_; rintro e w1 ⟨rfl, h1⟩; have H1 := Lib.hid h1; clear h1)
        go_upto_region 7 with (go_at_call 90; refine (C2.out _ H1.out).mono ?_; rintro e w1 ⟨rfl, h1⟩; have H2 := Lib.hid h1; clear h1)
        go_wp2_with (go_at_call 88; refine (C3.out _ H2.out).mono ?_; rintro e w1 ⟨rfl, h1⟩; have H3 := Lib.hid h1; clear h1)
        go_ret
        exact ⟨rfl, H3.out⟩
    · rw [decide_eq_false k2, cond_false]
      go_enter Tryz.func46, Tryz.ntmps46
      go_upto_region 4 with (go_at_call 88; refine C1.out.mono ?_; rintro e w1 ⟨rfl, h1⟩; have H1 := Lib.hid h1; clear h1)
      go_wp2_with (go_at_call 90; refine (C2.out _ H1.out).mono ?_; rintro e w1 ⟨rfl, h1⟩; have H2 := Lib.hid h1; clear h1)
      go_ret
      exact ⟨rfl, H2.out⟩
  · rw [decide_eq_false k1, cond_false]
    go_enter Tryz.func46, Tryz.ntmps46
    go_wp2_with (go_at_call 88; refine C1.out.mono ?_; rintro e w1 ⟨rfl, h1⟩; have H1 := Lib.hid h1; clear h1)
    go_ret
    exact ⟨rfl, H1.out⟩
end Go.Proofs.YtlpcccpagmipnaaGreat.P
