/- Stage 7: the head made safe. No condition. -/
import Derived.Test.YtlpcccpagmipnaaGreatA14
import Derived.Deep.RegionHeld3
import Derived.StillTailTactics
set_option linter.unusedVariables false
set_option maxRecDepth 50000
namespace Go.Proofs.YtlpcccpagmipnaaGreat.P
open Go.RowKit
theorem exec_one (o : DOp) (z : DState) : exec [o] z = stepD z o := by
  by_cases h : (stepD z o).1 = 0
  · rw [exec_ok h]; show ((0 : Int), (stepD z o).2) = _; rw [← h]
  · rw [exec_no h]
theorem own_w {w0 w : World} {d : Nat} {z : DState} {l mb : Nat} {st : List (Int × ByteArray)} {dead : Bool} {R : Asn} (h : Own w0 w (DL d z l mb st dead R)) (hs : Stable R) (i : Int) (s : ByteArray) (hl : z.wait.length ≤ 4000000000000) :
    Calls Tryz.prog 102 #[.pointer (some ⟨d, 0, none⟩), .int .i64 i, .string s] w fun e w' => e = .returned (.int .i64 (stepD z (.wr i s)).1) ∧ Own w0 w' (DL d (stepD z (.wr i s)).2 l mb st dead R) :=
  o_write h (stable_star (stable_lg _ _ _ _ _) hs) i s hl
theorem own_f {w0 w : World} {d : Nat} {z : DState} {l mb : Nat} {st : List (Int × ByteArray)} {dead : Bool} {R : Asn} (h : Own w0 w (DL d z l mb st dead R)) (hs : Stable R) (hl : z.wait.length ≤ 4000000000000) :
    Calls Tryz.prog 103 #[.pointer (some ⟨d, 0, none⟩)] w fun e w' => e = .returned (.int .i64 (stepD z .fl).1) ∧ Own w0 w' (DL d (stepD z .fl).2 l mb st dead R) :=
  o_flush h (stable_star (stable_lg _ _ _ _ _) hs) hl
theorem Own.ldisk {w0 w : World} {d : Nat} {z : DState} {l mb : Nat} {st : List (Int × ByteArray)} {dead : Bool} {R : Asn} (h : Own w0 w (DL d z l mb st dead R)) : w.cell? ⟨l, 0, none⟩ = some (.pointer (some ⟨d, 0, none⟩)) := blk_cell h.log.1 0 rfl
theorem step_wait (z : DState) (o : DOp) : (stepD z o).2.wait.length ≤ z.wait.length + 1 := by
  cases o with
  | wr i s => exact write_wait z i s
  | fl =>
    show (flushZ z).wait.length ≤ _
    unfold flushZ
    cases z.off with
    | true => show z.wait.length ≤ _; omega
    | false =>
      cases actB z with
      | true => show 0 ≤ _; omega
      | false =>
        show (actZ z).wait.length ≤ _
        unfold actZ
        cases z.counted with
        | false => show z.wait.length ≤ _; omega
        | true => cases decide (z.acts = 0) <;> (show z.wait.length ≤ _; omega)
set_option maxHeartbeats 1600000 in
theorem o_point {w0 w : World} {d : Nat} {z : DState} {l mb : Nat} {st : List (Int × ByteArray)} {dead : Bool} {R : Asn} (h : Own w0 w (DL d z l mb st dead R)) (hs : Stable R) (o : Option Addr) (c : Nat) (A : List Int) (hA : RowI w o A) (hl : A.length ≤ 30) (hb : ∀ i ∈ A, 0 ≤ i ∧ i < 65536) (hw : z.wait.length ≤ 3000000000000) :
    Calls Tryz.prog 90 #[.pointer (some ⟨l, 0, none⟩), .slice o A.length c] w fun e w' => e = .returned (.int .i64 (exec (pointOps A) z).1) ∧ Own w0 w' (DL d (exec (pointOps A) z).2 l mb st dead R) := by
  have hst : ∀ z, Stable (DL d z l mb st dead R) := fun z => stable_dl _ _ _ _ _ _ hs
  have CH : Hid (∀ w', RowI w' o A → Own w0 w' (DL d z l mb st dead R) → Calls Tryz.prog 101 #[.slice o A.length c] w' fun e w2 => e = .returned (.string (headF A)) ∧ Own w0 w2 (DL d z l mb st dead R)) :=
    Lib.hid (fun w' hr ho => (c_head w' o c A hr hl hb).mono fun e w2 k => ⟨k.1, ho.gr (hst z) k.2⟩)
  have CW : Hid (∀ w', Own w0 w' (DL d z l mb st dead R) → Calls Tryz.prog 102 #[.pointer (some ⟨d, 0, none⟩), .int .i64 1, .string (headF A)] w' fun e w2 => e = .returned (.int .i64 (stepD z (.wr 1 (headF A))).1) ∧ Own w0 w2 (DL d (stepD z (.wr 1 (headF A))).2 l mb st dead R)) :=
    Lib.hid (fun w' ho => own_w ho hs 1 (headF A) (by omega))
  have hw1 := step_wait z (.wr 1 (headF A))
  have hw2 : (stepD z (.wr 1 (headF A))).2.wait.length ≤ 4000000000000 := by omega
  have hE : exec (pointOps A) z = bif decide ((stepD z (.wr 1 (headF A))).1 = 0) then stepD (stepD z (.wr 1 (headF A))).2 .fl else stepD z (.wr 1 (headF A)) := by
    by_cases k : (stepD z (.wr 1 (headF A))).1 = 0
    · rw [decide_eq_true k, cond_true, ← exec_one .fl, ← exec_ok k]; rfl
    · rw [decide_eq_false k, cond_false, ← exec_no (l := [.fl]) k]; rfl
  rw [hE]
  have hO : Own w0 w (DL d z l mb st dead R) := h
  have hOd : Own w0 w.drew (DL d z l mb st dead R) := h.drew (hst z)
  have hR : RowI w o A := hA
  have hRd : RowI w.drew o A := hA.gr (Gr.drewN (Gr.refl _) 1)
  have hc := h.ldisk
  clear hE hw1 h hA
  generalize hq : stepD z (.wr 1 (headF A)) = q at *
  clear hq
  obtain ⟨q1, q2⟩ := q
  dsimp only at *
  have CF : Hid (∀ w', Own w0 w' (DL d q2 l mb st dead R) → Calls Tryz.prog 103 #[.pointer (some ⟨d, 0, none⟩)] w' fun e w2 => e = .returned (.int .i64 (stepD q2 .fl).1) ∧ Own w0 w2 (DL d (stepD q2 .fl).2 l mb st dead R)) :=
    Lib.hid (fun w' ho => own_f ho hs hw2)
  generalize headF A = hd at *
  generalize A.length = n at *
  go_enter Tryz.func90, Tryz.ntmps90
  go_upto_region 1 with fail
  go_cut [5] (fun v wx => v = .int .i64 q1 ∧ Own w0 wx (DL d q2 l mb st dead R))
  case first =>
    go_region_held3 (fun w' => w'.cell? ⟨l, 0, none⟩ = some (.pointer (some ⟨d, 0, none⟩)))
      (first | (with_reducible assumption) | (with_reducible exact cell_drew6 (by assumption)))
      (first
        | (go_at_call 101; refine (CH.out _ (by assumption) (by assumption)).mono ?_; rintro e w5 ⟨rfl, hq5⟩; have hc5 := hq5.ldisk)
        | (go_at_call 102; refine (CW.out _ (by assumption)).mono ?_; rintro e w6 ⟨rfl, hq6⟩; have hc6 := hq6.ldisk))
    all_goals
      go_wp2_with fail
      go_meet
      first | exact ⟨rfl, by assumption⟩ | skip
  case rest =>
    obtain ⟨rfl, h5⟩ := hcut
    have H5 := Lib.hid h5
    have c5 := h5.ldisk
    clear h5 hO hOd hc
    by_cases hk : q1 = 0
    · subst hk
      go_wp2_with (go_at_call 103; refine (CF.out _ H5.out).mono ?_; rintro e w6 ⟨rfl, h6⟩)
      go_ret
      exact ⟨rfl, h6⟩
    · go_wp2_with fail
      go_ret
      rw [decide_eq_false hk, cond_false]
      exact ⟨rfl, H5.out⟩
end Go.Proofs.YtlpcccpagmipnaaGreat.P
namespace Go.Proofs.YtlpcccpagmipnaaGreat.P
open Go.RowKit
/-- A row of numbers as an object. -/
def rowIA (o : Option Addr) (A : List Int) : Asn := fun w F => RowI w o A ∧ ∀ b off, o = some ⟨b, off, none⟩ → F b
theorem stable_rowI (o : Option Addr) (A : List Int) : Stable (rowIA o A) := by
  rintro w w' F G ⟨h1, h2⟩ hc hd
  refine ⟨fun j i hj => ?_, h2⟩
  obtain ⟨b, off, e, k⟩ := h1 j i hj
  exact ⟨b, off, e, hc.cell k (hd b (h2 b off e))⟩
theorem exec_take_ok {l : List DOp} {z : DState} {k : Nat} {o : DOp} (h0 : (exec (l.take k) z).1 = 0) (ho : l[k]? = some o) : exec (l.take (k + 1)) z = stepD (exec (l.take k) z).2 o := by
  obtain ⟨hk, e⟩ := List.getElem?_eq_some_iff.1 ho
  rw [List.take_succ_eq_append_getElem hk, exec_append, decide_eq_true h0, cond_true, e, exec_one]
theorem exec_stop {l : List DOp} {z : DState} {k : Nat} {o : DOp} (h0 : (exec (l.take k) z).1 = 0) (ho : l[k]? = some o) (hn : (stepD (exec (l.take k) z).2 o).1 ≠ 0) (t : List DOp) : exec (l ++ t) z = stepD (exec (l.take k) z).2 o := by
  obtain ⟨hk, e⟩ := List.getElem?_eq_some_iff.1 ho
  have e1 : l ++ t = l.take k ++ (o :: (l.drop (k + 1) ++ t)) := by
    conv => lhs; rw [← List.take_append_drop k l]
    rw [List.drop_eq_getElem_cons hk, e, List.append_assoc]; rfl
  rw [e1, exec_append, decide_eq_true h0, cond_true, exec_no hn]
theorem exec_wait : ∀ (l : List DOp) (z : DState), (exec l z).2.wait.length ≤ z.wait.length + l.length
  | [], z => by show z.wait.length ≤ _; omega
  | o :: l, z => by
    have h1 := step_wait z o
    by_cases h : (stepD z o).1 = 0
    · rw [exec_ok h]
      have := exec_wait l (stepD z o).2
      rw [List.length_cons]; omega
    · rw [exec_no h, List.length_cons]; omega
theorem hold_at : ∀ (st : List (Int × ByteArray)) (k0 k : Nat) (x : Int × ByteArray), st[k]? = some x → (holdOps k0 st)[k]? = some (.wr ((2 + (k0 + k) : Nat) : Int) x.2)
  | y :: st, k0, 0, x, h => by simp at h; subst h; rfl
  | y :: st, k0, k + 1, x, h => by
    have := hold_at st (k0 + 1) k x (by simpa using h)
    rw [show k0 + (k + 1) = k0 + 1 + k by omega, ← this]; rfl
theorem hold_at2 (st : List (Int × ByteArray)) (k : Nat) (x : Int × ByteArray) (h : st[k]? = some x) : (holdOps 0 st)[k]? = some (.wr (2 + (k : Int)) x.2) := by
  have := hold_at st 0 k x h
  rw [show ((2 + (0 + k) : Nat) : Int) = 2 + (k : Int) by omega] at this
  exact this
theorem home_at : ∀ (st : List (Int × ByteArray)) (k : Nat) (x : Int × ByteArray), st[k]? = some x → (homeOps st)[k]? = some (.wr (32 + x.1) x.2)
  | y :: st, 0, x, h => by simp at h; subst h; rfl
  | y :: st, k + 1, x, h => by
    rw [← home_at st k x (by simpa using h)]; rfl
theorem hold_len : ∀ (st : List (Int × ByteArray)) (k0 : Nat), (holdOps k0 st).length = st.length
  | [], _ => rfl
  | y :: st, k0 => by show (holdOps (k0 + 1) st).length + 1 = _; rw [hold_len st (k0 + 1)]; rfl
theorem home_len : ∀ (st : List (Int × ByteArray)), (homeOps st).length = st.length
  | [] => rfl
  | y :: st => by show (homeOps st).length + 1 = _; rw [home_len st]; rfl
theorem still_look {ops : Array Oper} {w : World} {Q : Act → Prop} {a : Act} {o : Oper} {rest : List Oper} (hg : o.guard = none) (t : TypeId) (m x : Operand) (hop : o.op = Op.lookup t m x false) (mv xv v : Value) (hm : a.eval m = mv) (hx : a.eval x = xv)
    (hrun : (Instr.lookup t mv xv false).run Tryz.prog w = .ok v w) (h : wpStill Tryz.prog ops w Q rest (a.put o.dst v)) : wpStill Tryz.prog ops w Q (o :: rest) a := by
  refine wpStill_step (fun K hK => ?_)
  rw [if_pos (by simp [Region.wanted, hg])]
  unfold Oper.still
  have e : (execOp a.eval o).run Tryz.prog w = .ok (.value v) w := by
    simp [execOp, hop, hm, hx, hrun, Result.andThen]
  rw [e]
  exact ⟨rfl, hK _ h⟩
theorem fld_sec (s : ByteArray) (w : World) : (Instr.field 99 (.agg #[.string s]) 0).run Tryz.prog w = .ok (.string s) w := by
  have := run_underlying (w := w) Tryz.underlying99
  simp [Instr.field, this, part, asAgg, Tryz.isAgg9, Tryz.sizeOf9]
theorem k_hold (k i : Int) (h0 : 0 ≤ k) (h1 : k ≤ 1000) (w : World) : Calls Tryz.prog 89 #[.int .i64 k, .int .i64 i] w fun e w' => e = .returned (.int .i64 (2 + k)) ∧ w' = w := by
  go_enter Tryz.func89, Tryz.ntmps89
  go_wp2
  go_ret
  exact ⟨rfl, rfl⟩
theorem k_home (k i : Int) (h0 : 0 ≤ i) (h1 : i ≤ 100000) (w : World) : Calls Tryz.prog 91 #[.int .i64 k, .int .i64 i] w fun e w' => e = .returned (.int .i64 (32 + i)) ∧ w' = w := by
  go_enter Tryz.func91, Tryz.ntmps91
  go_wp2
  go_ret
  exact ⟨rfl, rfl⟩
set_option maxHeartbeats 1600000 in
theorem o_writeAll_hold {w0 w : World} {d : Nat} {z : DState} {l mb : Nat} {st : List (Int × ByteArray)} {dead : Bool} {R : Asn} (o : Option Addr) (c : Nat) (h : Own w0 w (DL d z l mb st dead (Star (rowIA o (st.map (·.1))) R))) (hs : Stable R) (hl : st.length ≤ 30) (hb : ∀ x ∈ st, 0 ≤ x.1 ∧ x.1 < 65536) (hw : z.wait.length ≤ 3000000000000) :
    Calls Tryz.prog 88 #[.pointer (some ⟨l, 0, none⟩), .slice o st.length c, .func (.func 89) #[] #[]] w fun e w' => e = .returned (.int .i64 (exec (holdOps 0 st ++ [.fl]) z).1) ∧ Own w0 w' (DL d (exec (holdOps 0 st ++ [.fl]) z).2 l mb st dead (Star (rowIA o (st.map (·.1))) R)) := by
  have hs2 : Stable (Star (rowIA o (st.map (·.1))) R) := stable_star (stable_rowI _ _) hs
  have HW : Hid (∀ k, ((exec ((holdOps 0 st).take k) z).2).wait.length ≤ 4000000000000 - 1) := Lib.hid (fun k => by
    have := exec_wait ((holdOps 0 st).take k) z
    rw [List.length_take, hold_len] at this
    omega)
  have CW : Hid (∀ k i s wr, Own w0 wr (DL d (exec ((holdOps 0 st).take k) z).2 l mb st dead (Star (rowIA o (st.map (·.1))) R)) → Calls Tryz.prog 102 #[.pointer (some ⟨d, 0, none⟩), .int .i64 i, .string s] wr fun e w2 => e = .returned (.int .i64 (stepD (exec ((holdOps 0 st).take k) z).2 (.wr i s)).1) ∧ Own w0 w2 (DL d (stepD (exec ((holdOps 0 st).take k) z).2 (.wr i s)).2 l mb st dead (Star (rowIA o (st.map (·.1))) R))) :=
    Lib.hid (fun k i s wr ho => own_w ho hs2 i s (by have := HW.out k; omega))
  have HF : Hid (∀ k, (exec ((holdOps 0 st).take k) z).1 = 0 → k = st.length → exec (holdOps 0 st ++ [.fl]) z = stepD (exec ((holdOps 0 st).take k) z).2 .fl) := Lib.hid (fun k h0 e => by
    have ht : (holdOps 0 st).take k = holdOps 0 st := List.take_of_length_le (by rw [hold_len]; omega)
    rw [ht] at h0 ⊢
    rw [exec_append, decide_eq_true h0, cond_true, exec_one])
  have CF : Hid (∀ k wr, Own w0 wr (DL d (exec ((holdOps 0 st).take k) z).2 l mb st dead (Star (rowIA o (st.map (·.1))) R)) → Calls Tryz.prog 103 #[.pointer (some ⟨d, 0, none⟩)] wr fun e w2 => e = .returned (.int .i64 (stepD (exec ((holdOps 0 st).take k) z).2 .fl).1) ∧ Own w0 w2 (DL d (stepD (exec ((holdOps 0 st).take k) z).2 .fl).2 l mb st dead (Star (rowIA o (st.map (·.1))) R))) :=
    Lib.hid (fun k wr ho => own_f ho hs2 (by have := HW.out k; omega))
  have HB := Lib.hid hb
  have H0 := Lib.hid h
  clear h hb
  obtain ⟨n, hn⟩ : ∃ n, n = st.length := ⟨_, rfl⟩
  have HN := Lib.hid hn
  rw [← hn] at hl ⊢
  clear hn
  go_enter Tryz.func88, Tryz.ntmps88
  go_wp2_with fail
  go_loopw [12] (fun v wr => ∃ k : Nat, k ≤ n ∧ v = .int .i64 k ∧ (exec ((holdOps 0 st).take k) z).1 = 0 ∧ Own w0 wr (DL d (exec ((holdOps 0 st).take k) z).2 l mb st dead (Star (rowIA o (st.map (·.1))) R))) (fun v _ => n - (intOf v).toNat)
  case atStart => exact ⟨0, Nat.zero_le _, rfl, rfl, H0.out⟩
  case round =>
    obtain ⟨k, hk, rfl, he, hh⟩ := hrel
    have HH := Lib.hid hh
    have HE := Lib.hid he
    have c0 := hh.ldisk
    have c1 := blk_cell hh.log.1 1 (v := .map (some mb)) rfl
    by_cases hlt : k < n
    · have dl : decide (k < n) = true := decide_eq_true hlt
      have hx : st[k]? = some (st[k]'(by rw [← HN.out]; exact hlt)) := List.getElem?_eq_getElem _
      generalize st[k]'_ = x at *
      obtain ⟨b1, o1, rfl, ca1⟩ := hh.right.right.left.get.choose_spec.1 k x.1 (by rw [List.getElem?_map, hx]; rfl)
      have hmem := List.mem_of_getElem? hx
      obtain ⟨x0, x1⟩ := HB.out x hmem
      have hlk := sec_look1 hh.log.2.1.drew (i := x.1) (wf_small x0 (by omega))
      rw [look_of_mem hh.log.2.2.1 hmem] at hlk
      replace hlk : (Instr.lookup 90 (.map (some mb)) (.int .i64 x.1) false).run Tryz.prog { heap := wr.heap, tape := wr.tape, drawn := wr.drawn + 1, os := wr.os, output := wr.output } = .ok (.agg #[.string x.2]) { heap := wr.heap, tape := wr.tape, drawn := wr.drawn + 1, os := wr.os, output := wr.output } := hlk
      have hop := hold_at2 st k x hx
      have CW2 := Lib.hid (CW.out k (2 + (k : Int)) x.2)
      have HT := Lib.hid (exec_take_ok he hop)
      have HX := Lib.hid (fun hz => exec_stop he hop hz [.fl])
      have HHd := Lib.hid (hh.drew (stable_dl _ _ _ _ _ _ hs2))
      clear hh he hx hop hmem
      obtain ⟨xi, xs⟩ := x
      dsimp only at *
      go_upto_region 4 with fail
      go_still_tail 15, (by kernel_rfl)
      still_call (k_hold (k : Int) _ (by omega) (by omega) _)
      repeat still_step
      refine still_look rfl _ _ _ rfl _ _ _ rfl rfl hlk ?_
      have hfld := fld_sec xs
      repeat still_step
      refine wpStill_nil ?_
      clear hlk hfld c1 c0
      generalize hq : stepD (exec ((holdOps 0 st).take k) z).2 (.wr (2 + (k : Int)) xs) = q at *
      obtain ⟨q1, q2⟩ := q
      dsimp only at *
      by_cases hk0 : q1 = 0
      · subst hk0
        go_wp2_with (go_at_call 102; refine (CW2.out _ HHd.out).mono ?_; rintro e w6 ⟨rfl, h6⟩; have H6 := Lib.hid h6; clear h6)
        go_roundw
        case rel => exact ⟨k + 1, by omega, by go_num, by rw [HT.out], by rw [HT.out]; exact H6.out⟩
        case measure => simp [intOf]; omega
      · go_wp2_with (go_at_call 102; refine (CW2.out _ HHd.out).mono ?_; rintro e w6 ⟨rfl, h6⟩; have H6 := Lib.hid h6; clear h6)
        go_ret
        rw [HX.out hk0]
        exact ⟨rfl, H6.out⟩
    · obtain rfl : k = n := by omega
      have HFF := Lib.hid (HF.out k HE.out HN.out)
      clear hh he c1
      go_wp2_with (go_at_call 103; refine (CF.out k _ HH.out).mono ?_; rintro e w6 ⟨rfl, h6⟩; have H6 := Lib.hid h6; clear h6)
      go_ret
      rw [HFF.out]
      exact ⟨rfl, H6.out⟩
end Go.Proofs.YtlpcccpagmipnaaGreat.P
