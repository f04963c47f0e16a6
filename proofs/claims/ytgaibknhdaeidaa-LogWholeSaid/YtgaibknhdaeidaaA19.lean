/- Stage 7: all that is staged, written. No condition. -/
import Derived.Test.YtgaibknhdaeidaaA15
set_option linter.unusedVariables false
set_option maxRecDepth 50000
namespace Go.Proofs.Ytgaibknhdaeidaa.P
open Go.RowKit
/-- A row of numbers as an object. -/
def rowIA (o : Option Addr) (A : List Int) : Asn := fun w F => RowI w o A ∧ ∀ b off, o = some ⟨b, off, none⟩ → F b
theorem stable_rowI (o : Option Addr) (A : List Int) : Stable (rowIA o A) := by
  rintro w w' F G ⟨h1, h2⟩ hc hd
  refine ⟨fun j i hj => ?_, h2⟩
  obtain ⟨b, off, e, k⟩ := h1 j i hj
  exact ⟨b, off, e, hc.cell k (hd b (h2 b off e))⟩
theorem exec_take_ok {l : List DOp} {z : DState} {k : Nat} {o : DOp} (h0 : (exec (l.take k) z).1 = 0) (ho : l[k]? = some o) : exec (l.take (k + 1)) z = stepD (exec (l.take k) z).2 o := by
  obtain ⟨hk, e⟩ := List.getElem?_eq_some_iff.1 ho
  rw [List.take_succ_eq_append_getElem hk, exec_append, decide_eq_true h0, cond_true, e, exec_one]
theorem exec_stop {l : List DOp} {z : DState} {k : Nat} {o : DOp} (h0 : (exec (l.take k) z).1 = 0) (ho : l[k]? = some o) (hn : (stepD (exec (l.take k) z).2 o).1 ≠ 0) (t : List DOp) : exec (l ++ t) z = stepD (exec (l.take k) z).2 o := by
  obtain ⟨hk, e⟩ := List.getElem?_eq_some_iff.1 ho
  have e1 : l ++ t = l.take k ++ (o :: (l.drop (k + 1) ++ t)) := by
    conv => lhs; rw [← List.take_append_drop k l]
    rw [List.drop_eq_getElem_cons hk, e, List.append_assoc]; rfl
  rw [e1, exec_append, decide_eq_true h0, cond_true, exec_no hn]
theorem exec_wait : ∀ (l : List DOp) (z : DState), (exec l z).2.wait.length ≤ z.wait.length + l.length
  | [], z => by show z.wait.length ≤ _; omega
  | o :: l, z => by
    have h1 := step_wait z o
    by_cases h : (stepD z o).1 = 0
    · rw [exec_ok h]
      have := exec_wait l (stepD z o).2
      rw [List.length_cons]; omega
    · rw [exec_no h, List.length_cons]; omega
theorem hold_at : ∀ (st : List (Int × ByteArray)) (k0 k : Nat) (x : Int × ByteArray), st[k]? = some x → (holdOps k0 st)[k]? = some (.wr ((2 + (k0 + k) : Nat) : Int) x.2)
  | y :: st, k0, 0, x, h => by simp at h; subst h; rfl
  | y :: st, k0, k + 1, x, h => by
    have := hold_at st (k0 + 1) k x (by simpa using h)
    rw [show k0 + (k + 1) = k0 + 1 + k by omega, ← this]; rfl
theorem hold_at2 (st : List (Int × ByteArray)) (k : Nat) (x : Int × ByteArray) (h : st[k]? = some x) : (holdOps 0 st)[k]? = some (.wr (2 + (k : Int)) x.2) := by
  have := hold_at st 0 k x h
  rw [show ((2 + (0 + k) : Nat) : Int) = 2 + (k : Int) by omega] at this
  exact this
theorem home_at : ∀ (st : List (Int × ByteArray)) (k : Nat) (x : Int × ByteArray), st[k]? = some x → (homeOps st)[k]? = some (.wr (32 + x.1) x.2)
  | y :: st, 0, x, h => by simp at h; subst h; rfl
  | y :: st, k + 1, x, h => by
    rw [← home_at st k x (by simpa using h)]; rfl
theorem hold_len : ∀ (st : List (Int × ByteArray)) (k0 : Nat), (holdOps k0 st).length = st.length
  | [], _ => rfl
  | y :: st, k0 => by show (holdOps (k0 + 1) st).length + 1 = _; rw [hold_len st (k0 + 1)]; rfl
theorem home_len : ∀ (st : List (Int × ByteArray)), (homeOps st).length = st.length
  | [] => rfl
  | y :: st => by show (homeOps st).length + 1 = _; rw [home_len st]; rfl
theorem still_look {ops : Array Oper} {w : World} {Q : Act → Prop} {a : Act} {o : Oper} {rest : List Oper} (hg : o.guard = none) (t : TypeId) (m x : Operand) (hop : o.op = Op.lookup t m x false) (mv xv v : Value) (hm : a.eval m = mv) (hx : a.eval x = xv)
    (hrun : (Instr.lookup t mv xv false).run Try.prog w = .ok v w) (h : wpStill Try.prog ops w Q rest (a.put o.dst v)) : wpStill Try.prog ops w Q (o :: rest) a := by
  refine wpStill_step (fun K hK => ?_)
  rw [if_pos (by simp [Region.wanted, hg])]
  unfold Oper.still
  have e : (execOp a.eval o).run Try.prog w = .ok (.value v) w := by
    simp [execOp, hop, hm, hx, hrun, Result.andThen]
  rw [e]
  exact ⟨rfl, hK _ h⟩
theorem fld_sec (s : ByteArray) (w : World) : (Instr.field 73 (.agg #[.string s]) 0).run Try.prog w = .ok (.string s) w := by
  have := run_underlying (w := w) Try.underlying73
  simp [Instr.field, this, part, asAgg, Try.isAgg9, Try.sizeOf9]
theorem k_hold (k i : Int) (h0 : 0 ≤ k) (h1 : k ≤ 1000) (w : World) : Calls Try.prog 56 #[.int .i64 k, .int .i64 i] w fun e w' => e = .returned (.int .i64 (2 + k)) ∧ w' = w := by
  go_enter Try.func56, Try.ntmps56
  go_wp2
  go_ret
  exact ⟨rfl, rfl⟩
theorem k_home (k i : Int) (h0 : 0 ≤ i) (h1 : i ≤ 100000) (w : World) : Calls Try.prog 57 #[.int .i64 k, .int .i64 i] w fun e w' => e = .returned (.int .i64 (32 + i)) ∧ w' = w := by
  go_enter Try.func57, Try.ntmps57
  go_wp2
  go_ret
  exact ⟨rfl, rfl⟩
set_option maxHeartbeats 1600000 in
theorem o_writeAll_hold {w0 w : World} {d : Nat} {z : DState} {l mb : Nat} {st : List (Int × ByteArray)} {dead : Bool} {R : Asn} (o : Option Addr) (c : Nat) (h : Own w0 w (DL d z l mb st dead (Star (rowIA o (st.map (·.1))) R))) (hs : Stable R) (hl : st.length ≤ 30) (hb : ∀ x ∈ st, 0 ≤ x.1 ∧ x.1 < 65536) (hw : z.wait.length ≤ 3000000000000) :
    Calls Try.prog 55 #[.pointer (some ⟨l, 0, none⟩), .slice o st.length c, .func (.func 56) #[] #[]] w fun e w' => e = .returned (.int .i64 (exec (holdOps 0 st ++ [.fl]) z).1) ∧ Own w0 w' (DL d (exec (holdOps 0 st ++ [.fl]) z).2 l mb st dead (Star (rowIA o (st.map (·.1))) R)) := by
  have hs2 : Stable (Star (rowIA o (st.map (·.1))) R) := stable_star (stable_rowI _ _) hs
  have HW : Hid (∀ k, ((exec ((holdOps 0 st).take k) z).2).wait.length ≤ 4000000000000 - 1) := Lib.hid (fun k => by
    have := exec_wait ((holdOps 0 st).take k) z
    rw [List.length_take, hold_len] at this
    omega)
  have CW : Hid (∀ k i s wr, Own w0 wr (DL d (exec ((holdOps 0 st).take k) z).2 l mb st dead (Star (rowIA o (st.map (·.1))) R)) → Calls Try.prog 52 #[.pointer (some ⟨d, 0, none⟩), .int .i64 i, .string s] wr fun e w2 => e = .returned (.int .i64 (stepD (exec ((holdOps 0 st).take k) z).2 (.wr i s)).1) ∧ Own w0 w2 (DL d (stepD (exec ((holdOps 0 st).take k) z).2 (.wr i s)).2 l mb st dead (Star (rowIA o (st.map (·.1))) R))) :=
    Lib.hid (fun k i s wr ho => own_w ho hs2 i s (by have := HW.out k; omega))
  have HF : Hid (∀ k, (exec ((holdOps 0 st).take k) z).1 = 0 → k = st.length → exec (holdOps 0 st ++ [.fl]) z = stepD (exec ((holdOps 0 st).take k) z).2 .fl) := Lib.hid (fun k h0 e => by
    have ht : (holdOps 0 st).take k = holdOps 0 st := List.take_of_length_le (by rw [hold_len]; omega)
    rw [ht] at h0 ⊢
    rw [exec_append, decide_eq_true h0, cond_true, exec_one])
  have CF : Hid (∀ k wr, Own w0 wr (DL d (exec ((holdOps 0 st).take k) z).2 l mb st dead (Star (rowIA o (st.map (·.1))) R)) → Calls Try.prog 53 #[.pointer (some ⟨d, 0, none⟩)] wr fun e w2 => e = .returned (.int .i64 (stepD (exec ((holdOps 0 st).take k) z).2 .fl).1) ∧ Own w0 w2 (DL d (stepD (exec ((holdOps 0 st).take k) z).2 .fl).2 l mb st dead (Star (rowIA o (st.map (·.1))) R))) :=
    Lib.hid (fun k wr ho => own_f ho hs2 (by have := HW.out k; omega))
  have HB := Lib.hid hb
  have H0 := Lib.hid h
  clear h hb
  obtain ⟨n, hn⟩ : ∃ n, n = st.length := ⟨_, rfl⟩
  have HN := Lib.hid hn
  rw [← hn] at hl ⊢
  clear hn
  go_enter Try.func55, Try.ntmps55
  go_wp2_with fail
  go_loopw [12] (fun v wr => ∃ k : Nat, k ≤ n ∧ v = .int .i64 k ∧ (exec ((holdOps 0 st).take k) z).1 = 0 ∧ Own w0 wr (DL d (exec ((holdOps 0 st).take k) z).2 l mb st dead (Star (rowIA o (st.map (·.1))) R))) (fun v _ => n - (intOf v).toNat)
  case atStart => exact ⟨0, Nat.zero_le _, rfl, rfl, H0.out⟩
  case round =>
    obtain ⟨k, hk, rfl, he, hh⟩ := hrel
    have HH := Lib.hid hh
    have HE := Lib.hid he
    have c0 := hh.ldisk
    have c1 := blk_cell hh.log.1 1 (v := .map (some mb)) rfl
    by_cases hlt : k < n
    · have dl : decide (k < n) = true := decide_eq_true hlt
      have hx : st[k]? = some (st[k]'(by rw [← HN.out]; exact hlt)) := List.getElem?_eq_getElem _
      generalize st[k]'_ = x at *
      obtain ⟨b1, o1, rfl, ca1⟩ := hh.right.right.left.get.choose_spec.1 k x.1 (by rw [List.getElem?_map, hx]; rfl)
      have hmem := List.mem_of_getElem? hx
      obtain ⟨x0, x1⟩ := HB.out x hmem
      have hlk := sec_look1 hh.log.2.1.drew (i := x.1) (wf_small x0 (by omega))
      rw [look_of_mem hh.log.2.2.1 hmem] at hlk
      replace hlk : (Instr.lookup 62 (.map (some mb)) (.int .i64 x.1) false).run Try.prog { heap := wr.heap, tape := wr.tape, drawn := wr.drawn + 1, os := wr.os, output := wr.output } = .ok (.agg #[.string x.2]) { heap := wr.heap, tape := wr.tape, drawn := wr.drawn + 1, os := wr.os, output := wr.output } := hlk
      have hop := hold_at2 st k x hx
      have CW2 := Lib.hid (CW.out k (2 + (k : Int)) x.2)
      have HT := Lib.hid (exec_take_ok he hop)
      have HX := Lib.hid (fun hz => exec_stop he hop hz [.fl])
      have HHd := Lib.hid (hh.drew (stable_dl _ _ _ _ _ _ hs2))
      clear hh he hx hop hmem
      obtain ⟨xi, xs⟩ := x
      dsimp only at *
      go_upto_region 4 with fail
      go_still_tail 15, (by kernel_rfl)
      still_call (k_hold (k : Int) _ (by omega) (by omega) _)
      repeat still_step
      refine still_look rfl _ _ _ rfl _ _ _ rfl rfl hlk ?_
      have hfld := fld_sec xs
      repeat still_step
      refine wpStill_nil ?_
      clear hlk hfld c1 c0
      generalize hq : stepD (exec ((holdOps 0 st).take k) z).2 (.wr (2 + (k : Int)) xs) = q at *
      obtain ⟨q1, q2⟩ := q
      dsimp only at *
      by_cases hk0 : q1 = 0
      · subst hk0
        go_wp2_with (go_at_call 52; refine (CW2.out _ HHd.out).mono ?_; rintro e w6 ⟨rfl, h6⟩; have H6 := Lib.hid h6; clear h6)
        go_roundw
        case rel => exact ⟨k + 1, by omega, by go_num, by rw [HT.out], by rw [HT.out]; exact H6.out⟩
        case measure => simp [intOf]; omega
      · go_wp2_with (go_at_call 52; refine (CW2.out _ HHd.out).mono ?_; rintro e w6 ⟨rfl, h6⟩; have H6 := Lib.hid h6; clear h6)
        go_ret
        rw [HX.out hk0]
        exact ⟨rfl, H6.out⟩
    · obtain rfl : k = n := by omega
      have HFF := Lib.hid (HF.out k HE.out HN.out)
      clear hh he c1
      go_wp2_with (go_at_call 53; refine (CF.out k _ HH.out).mono ?_; rintro e w6 ⟨rfl, h6⟩; have H6 := Lib.hid h6; clear h6)
      go_ret
      rw [HFF.out]
      exact ⟨rfl, H6.out⟩
end Go.Proofs.Ytgaibknhdaeidaa.P
namespace Go.Proofs.Ytgaibknhdaeidaa.P
open Go.RowKit
set_option maxHeartbeats 1600000 in
theorem o_writeAll_home {w0 w : World} {d : Nat} {z : DState} {l mb : Nat} {st : List (Int × ByteArray)} {dead : Bool} {R : Asn} (o : Option Addr) (c : Nat) (h : Own w0 w (DL d z l mb st dead (Star (rowIA o (st.map (·.1))) R))) (hs : Stable R) (hl : st.length ≤ 30) (hb : ∀ x ∈ st, 0 ≤ x.1 ∧ x.1 < 65536) (hw : z.wait.length ≤ 3000000000000) :
    Calls Try.prog 55 #[.pointer (some ⟨l, 0, none⟩), .slice o st.length c, .func (.func 57) #[] #[]] w fun e w' => e = .returned (.int .i64 (exec (homeOps st ++ [.fl]) z).1) ∧ Own w0 w' (DL d (exec (homeOps st ++ [.fl]) z).2 l mb st dead (Star (rowIA o (st.map (·.1))) R)) := by
  have hs2 : Stable (Star (rowIA o (st.map (·.1))) R) := stable_star (stable_rowI _ _) hs
  have HW : Hid (∀ k, ((exec ((homeOps st).take k) z).2).wait.length ≤ 4000000000000 - 1) := Lib.hid (fun k => by
    have := exec_wait ((homeOps st).take k) z
    rw [List.length_take, home_len] at this
    omega)
  have CW : Hid (∀ k i s wr, Own w0 wr (DL d (exec ((homeOps st).take k) z).2 l mb st dead (Star (rowIA o (st.map (·.1))) R)) → Calls Try.prog 52 #[.pointer (some ⟨d, 0, none⟩), .int .i64 i, .string s] wr fun e w2 => e = .returned (.int .i64 (stepD (exec ((homeOps st).take k) z).2 (.wr i s)).1) ∧ Own w0 w2 (DL d (stepD (exec ((homeOps st).take k) z).2 (.wr i s)).2 l mb st dead (Star (rowIA o (st.map (·.1))) R))) :=
    Lib.hid (fun k i s wr ho => own_w ho hs2 i s (by have := HW.out k; omega))
  have HF : Hid (∀ k, (exec ((homeOps st).take k) z).1 = 0 → k = st.length → exec (homeOps st ++ [.fl]) z = stepD (exec ((homeOps st).take k) z).2 .fl) := Lib.hid (fun k h0 e => by
    have ht : (homeOps st).take k = homeOps st := List.take_of_length_le (by rw [home_len]; omega)
    rw [ht] at h0 ⊢
    rw [exec_append, decide_eq_true h0, cond_true, exec_one])
  have CF : Hid (∀ k wr, Own w0 wr (DL d (exec ((homeOps st).take k) z).2 l mb st dead (Star (rowIA o (st.map (·.1))) R)) → Calls Try.prog 53 #[.pointer (some ⟨d, 0, none⟩)] wr fun e w2 => e = .returned (.int .i64 (stepD (exec ((homeOps st).take k) z).2 .fl).1) ∧ Own w0 w2 (DL d (stepD (exec ((homeOps st).take k) z).2 .fl).2 l mb st dead (Star (rowIA o (st.map (·.1))) R))) :=
    Lib.hid (fun k wr ho => own_f ho hs2 (by have := HW.out k; omega))
  have HB := Lib.hid hb
  have H0 := Lib.hid h
  clear h hb
  obtain ⟨n, hn⟩ : ∃ n, n = st.length := ⟨_, rfl⟩
  have HN := Lib.hid hn
  rw [← hn] at hl ⊢
  clear hn
  go_enter Try.func55, Try.ntmps55
  go_wp2_with fail
  go_loopw [12] (fun v wr => ∃ k : Nat, k ≤ n ∧ v = .int .i64 k ∧ (exec ((homeOps st).take k) z).1 = 0 ∧ Own w0 wr (DL d (exec ((homeOps st).take k) z).2 l mb st dead (Star (rowIA o (st.map (·.1))) R))) (fun v _ => n - (intOf v).toNat)
  case atStart => exact ⟨0, Nat.zero_le _, rfl, rfl, H0.out⟩
  case round =>
    obtain ⟨k, hk, rfl, he, hh⟩ := hrel
    have HH := Lib.hid hh
    have HE := Lib.hid he
    have c0 := hh.ldisk
    have c1 := blk_cell hh.log.1 1 (v := .map (some mb)) rfl
    by_cases hlt : k < n
    · have dl : decide (k < n) = true := decide_eq_true hlt
      have hx : st[k]? = some (st[k]'(by rw [← HN.out]; exact hlt)) := List.getElem?_eq_getElem _
      generalize st[k]'_ = x at *
      obtain ⟨b1, o1, rfl, ca1⟩ := hh.right.right.left.get.choose_spec.1 k x.1 (by rw [List.getElem?_map, hx]; rfl)
      have hmem := List.mem_of_getElem? hx
      obtain ⟨x0, x1⟩ := HB.out x hmem
      have hlk := sec_look1 hh.log.2.1.drew (i := x.1) (wf_small x0 (by omega))
      rw [look_of_mem hh.log.2.2.1 hmem] at hlk
      replace hlk : (Instr.lookup 62 (.map (some mb)) (.int .i64 x.1) false).run Try.prog { heap := wr.heap, tape := wr.tape, drawn := wr.drawn + 1, os := wr.os, output := wr.output } = .ok (.agg #[.string x.2]) { heap := wr.heap, tape := wr.tape, drawn := wr.drawn + 1, os := wr.os, output := wr.output } := hlk
      have hop := home_at st k x hx
      have CW2 := Lib.hid (CW.out k (32 + x.1) x.2)
      have HT := Lib.hid (exec_take_ok he hop)
      have HX := Lib.hid (fun hz => exec_stop he hop hz [.fl])
      have HHd := Lib.hid (hh.drew (stable_dl _ _ _ _ _ _ hs2))
      clear hh he hx hop hmem
      obtain ⟨xi, xs⟩ := x
      dsimp only at *
      go_upto_region 4 with fail
      go_still_tail 15, (by kernel_rfl)
      still_call (k_home _ xi x0 (by omega) _)
      repeat still_step
      refine still_look rfl _ _ _ rfl _ _ _ rfl rfl hlk ?_
      have hfld := fld_sec xs
      repeat still_step
      refine wpStill_nil ?_
      clear hlk hfld c1 c0
      generalize hq : stepD (exec ((homeOps st).take k) z).2 (.wr (32 + xi) xs) = q at *
      obtain ⟨q1, q2⟩ := q
      dsimp only at *
      by_cases hk0 : q1 = 0
      · subst hk0
        go_wp2_with (go_at_call 52; refine (CW2.out _ HHd.out).mono ?_; rintro e w6 ⟨rfl, h6⟩; have H6 := Lib.hid h6; clear h6)
        go_roundw
        case rel => exact ⟨k + 1, by omega, by go_num, by rw [HT.out], by rw [HT.out]; exact H6.out⟩
        case measure => simp [intOf]; omega
      · go_wp2_with (go_at_call 52; refine (CW2.out _ HHd.out).mono ?_; rintro e w6 ⟨rfl, h6⟩; have H6 := Lib.hid h6; clear h6)
        go_ret
        rw [HX.out hk0]
        exact ⟨rfl, H6.out⟩
    · obtain rfl : k = n := by omega
      have HFF := Lib.hid (HF.out k HE.out HN.out)
      clear hh he c1
      go_wp2_with (go_at_call 53; refine (CF.out k _ HH.out).mono ?_; rintro e w6 ⟨rfl, h6⟩; have H6 := Lib.hid h6; clear h6)
      go_ret
      rw [HFF.out]
      exact ⟨rfl, H6.out⟩
end Go.Proofs.Ytgaibknhdaeidaa.P
namespace Go.Proofs.Ytgaibknhdaeidaa.P
open Go.RowKit
def thenE (a : Int × DState) (f : DState → Int × DState) : Int × DState := bif decide (a.1 = 0) then f a.2 else a
theorem thenE_ok {a : Int × DState} {f : DState → Int × DState} (h : a.1 = 0) : thenE a f = f a.2 := by unfold thenE; rw [decide_eq_true h]; rfl
theorem thenE_no {a : Int × DState} {f : DState → Int × DState} (h : a.1 ≠ 0) : thenE a f = a := by unfold thenE; rw [decide_eq_false h]; rfl
theorem exec_then (a b : List DOp) (z : DState) : exec (a ++ b) z = thenE (exec a z) (exec b) := exec_append a b z
theorem commit_then (st : List (Int × ByteArray)) (z : DState) : exec (commitOps st) z = thenE (exec (holdOps 0 st ++ [.fl]) z) (fun z1 => thenE (exec (pointOps (st.map (·.1))) z1) (fun z2 => thenE (exec (homeOps st ++ [.fl]) z2) (exec (pointOps [])))) := by
  have e : commitOps st = (holdOps 0 st ++ [.fl]) ++ (pointOps (st.map (·.1)) ++ ((homeOps st ++ [.fl]) ++ pointOps [])) := by
    unfold commitOps installOps; simp
  rw [e, exec_then]
  refine congrArg (thenE _) (funext fun z1 => ?_)
  rw [exec_then]
  refine congrArg (thenE _) (funext fun z2 => ?_)
  rw [exec_then]
def EO (w0 : World) (D : DState → Asn) (q : Int × DState) (e : Ending) (w' : World) : Prop := e = .returned (.int .i64 q.1) ∧ Own w0 w' (D q.2)
set_option maxHeartbeats 1600000 in
theorem o_acts {w0 w : World} {d : Nat} {z : DState} {l mb : Nat} {st : List (Int × ByteArray)} {dead : Bool} {R : Asn} (o : Option Addr) (c : Nat) (h : Own w0 w (DL d z l mb st dead (Star (rowIA o (st.map (·.1))) R))) (hs : Stable R) (hl : st.length ≤ 30) (hb : ∀ x ∈ st, 0 ≤ x.1 ∧ x.1 < 65536) (hw : z.wait.length ≤ 2000000000000) :
    Calls Try.prog 33 #[.pointer (some ⟨l, 0, none⟩), .slice o st.length c] w (EO w0 (fun z => DL d z l mb st dead (Star (rowIA o (st.map (·.1))) R)) (exec (commitOps st) z)) := by
  have hs2 : Stable (Star (rowIA o (st.map (·.1))) R) := stable_star (stable_rowI _ _) hs
  rw [commit_then]
  have hkb : ∀ i ∈ st.map (·.1), 0 ≤ i ∧ i < 65536 := fun i hi => by
    obtain ⟨x, hx, rfl⟩ := List.mem_map.1 hi
    exact hb x hx
  have b1 := exec_wait (holdOps 0 st ++ [.fl]) z
  rw [List.length_append, hold_len] at b1
  have C1 := Lib.hid (o_writeAll_hold o c h hs hl hb (by omega))
  generalize exec (holdOps 0 st ++ [.fl]) z = q1 at *
  obtain ⟨a1, z1⟩ := q1
  dsimp only [List.length_cons, List.length_nil] at b1
  have b2 := exec_wait (pointOps (st.map (·.1))) z1
  have C2 : Hid (∀ w1, Own w0 w1 (DL d z1 l mb st dead (Star (rowIA o (st.map (·.1))) R)) → Calls Try.prog 54 #[.pointer (some ⟨l, 0, none⟩), .slice o st.length c] w1 (EO w0 (fun z => DL d z l mb st dead (Star (rowIA o (st.map (·.1))) R)) (exec (pointOps (st.map (·.1))) z1))) :=
    Lib.hid (fun w1 h1 => by
      have := o_point h1 hs2 o c (st.map (·.1)) h1.right.right.left.get.choose_spec.1 (by rw [List.length_map]; exact hl) hkb (by omega)
      rw [List.length_map] at this
      exact this)
  have e2 : thenE (a1, z1) (fun z1 => thenE (exec (pointOps (st.map (·.1))) z1) (fun z2 => thenE (exec (homeOps st ++ [.fl]) z2) (exec (pointOps [])))) = bif decide (a1 = 0) then thenE (exec (pointOps (st.map (·.1))) z1) (fun z2 => thenE (exec (homeOps st ++ [.fl]) z2) (exec (pointOps []))) else (a1, z1) := rfl
  rw [e2]
  generalize exec (pointOps (st.map (·.1))) z1 = q2 at *
  obtain ⟨a2, z2⟩ := q2
  have p2 : (pointOps (st.map (·.1))).length = 2 := rfl
  rw [p2] at b2
  dsimp only at b2
  have b3 := exec_wait (homeOps st ++ [.fl]) z2
  rw [List.length_append, home_len] at b3
  have C3 : Hid (∀ w1, Own w0 w1 (DL d z2 l mb st dead (Star (rowIA o (st.map (·.1))) R)) → Calls Try.prog 55 #[.pointer (some ⟨l, 0, none⟩), .slice o st.length c, .func (.func 57) #[] #[]] w1 (EO w0 (fun z => DL d z l mb st dead (Star (rowIA o (st.map (·.1))) R)) (exec (homeOps st ++ [.fl]) z2))) :=
    Lib.hid (fun w1 h1 => o_writeAll_home o c h1 hs hl hb (by omega))
  have e3 : thenE (a2, z2) (fun z2 => thenE (exec (homeOps st ++ [.fl]) z2) (exec (pointOps []))) = bif decide (a2 = 0) then thenE (exec (homeOps st ++ [.fl]) z2) (exec (pointOps [])) else (a2, z2) := rfl
  rw [e3]
  generalize exec (homeOps st ++ [.fl]) z2 = q3 at *
  obtain ⟨a3, z3⟩ := q3
  dsimp only [List.length_cons, List.length_nil] at b3
  have C4 : Hid (∀ w1, Own w0 w1 (DL d z3 l mb st dead (Star (rowIA o (st.map (·.1))) R)) → Calls Try.prog 54 #[.pointer (some ⟨l, 0, none⟩), .slice none 0 0] w1 (EO w0 (fun z => DL d z l mb st dead (Star (rowIA o (st.map (·.1))) R)) (exec (pointOps []) z3))) :=
    Lib.hid (fun w1 h1 => o_point h1 hs2 none 0 [] (rowI_nil _ _) (by simp) (fun i hi => by cases hi) (by omega))
  have e4 : thenE (a3, z3) (exec (pointOps [])) = bif decide (a3 = 0) then exec (pointOps []) z3 else (a3, z3) := rfl
  rw [e4]
  generalize exec (pointOps []) z3 = q4 at *
  clear b1 b2 b3 h hb hkb hs hs2 e2 e3 e4 p2
  have hl2 : st.length ≤ 30 := hl
  generalize st.length = n at *
  by_cases k1 : a1 = 0
  · subst k1
    rw [decide_eq_true rfl, cond_true]
    by_cases k2 : a2 = 0
    · subst k2
      rw [decide_eq_true rfl, cond_true]
      by_cases k3 : a3 = 0
      · subst k3
        rw [decide_eq_true rfl, cond_true]
        go_enter Try.func33, Try.ntmps33
        go_upto_region 4 with (go_at_call 55; refine C1.out.mono ?_; rintro e w1 ⟨rfl, h1⟩; have H1 := Lib.hid h1; clear h1)
        go_upto_region 7 with (go_at_call 54; refine (C2.out _ H1.out).mono ?_; rintro e w1 ⟨rfl, h1⟩; have H2 := Lib.hid h1; clear h1)
        go_upto_region 10 with (go_at_call 55; refine (C3.out _ H2.out).mono ?_; rintro e w1 ⟨rfl, h1⟩; have H3 := Lib.hid h1; clear h1)
        go_wp2_with (go_at_call 54; refine (C4.out _ H3.out).mono ?_; rintro e w1 ⟨rfl, h1⟩; have H4 := Lib.hid h1; clear h1)
        go_ret
        exact ⟨rfl, H4.out⟩
      · rw [decide_eq_false k3, cond_false]
        go_enter Try.func33, Try.ntmps33
        go_upto_region 4 with (go_at_call 55; refine C1.out.mono ?_; rintro e w1 ⟨rfl, h1⟩; have H1 := Lib.hid h1; clear h1)
        go_upto_region 7 with (go_at_call 54; refine (C2.out _ H1.out).mono ?_; rintro e w1 ⟨rfl, h1⟩; have H2 := Lib.hid h1; clear h1)
        go_wp2_with (go_at_call 55; refine (C3.out _ H2.out).mono ?_; rintro e w1 ⟨rfl, h1⟩; have H3 := Lib.hid h1; clear h1)
        go_ret
        exact ⟨rfl, H3.out⟩
    · rw [decide_eq_false k2, cond_false]
      go_enter Try.func33, Try.ntmps33
      go_upto_region 4 with (go_at_call 55; refine C1.out.mono ?_; rintro e w1 ⟨rfl, h1⟩; have H1 := Lib.hid h1; clear h1)
      go_wp2_with (go_at_call 54; refine (C2.out _ H1.out).mono ?_; rintro e w1 ⟨rfl, h1⟩; have H2 := Lib.hid h1; clear h1)
      go_ret
      exact ⟨rfl, H2.out⟩
  · rw [decide_eq_false k1, cond_false]
    go_enter Try.func33, Try.ntmps33
    go_wp2_with (go_at_call 55; refine C1.out.mono ?_; rintro e w1 ⟨rfl, h1⟩; have H1 := Lib.hid h1; clear h1)
    go_ret
    exact ⟨rfl, H1.out⟩
end Go.Proofs.Ytgaibknhdaeidaa.P
namespace Go.Proofs.Ytgaibknhdaeidaa.P
open Go.RowKit
theorem c_keys (mb : Option Nat) (w : World) : Calls Try.prog 35 #[.map mb] w fun e w' => e = .returned (.func (.func 60) #[] #[.pointer (some ⟨w.heap.size, 0, none⟩)]) ∧ w' = w.alloc (.cells #[.map mb] 62) :=
  (callsIn_wide (n := 5)).1 (AnyZI.keys_in sg_keysA Fence.wide 5 trivial rfl mb w)
set_option maxHeartbeats 1000000 in
theorem c_sorted (w : World) (b nn : Nat) (D0 : DataW Nat) (hown : w.ownsMap Try.prog 3 secElem b nn D0) (hmax : Maps.size D0 ≤ 1000) :
    Calls Try.prog 34 #[.func (.func 60) #[] #[.pointer (some ⟨w.heap.size, 0, none⟩)]] (w.alloc (.cells #[.map (some b)] 62)) fun e w' => ∃ (v : Value) (ss : List Int), e = .returned v ∧ ss.Perm (intKeys D0) ∧
      w'.ownsRow (w.alloc (.cells #[.map (some b)] 62)).heap.size 3 1 v ss.length ((ss.mergeSort (fun x y => decide (x ≤ y))).map encZ) ∧ (v = .slice none 0 0 ↔ ss = []) ∧ Below (w.alloc (.cells #[.map (some b)] 62)).heap.size (w.alloc (.cells #[.map (some b)] 62)) w' := by
  have hseq : SeqGives Fence.wide 2 Try.prog 60 #[.pointer (some ⟨w.heap.size, 0, none⟩)] encZ (fun ss => ss.Perm (intKeys D0)) (Maps.size D0) (w.alloc (.cells #[.map (some b)] 62)) :=
    AnyZI.keys_gives (ρ := sg_keysA_ren) { sg_keysA with } Fence.wide _ trivial rfl (by omega) w.heap.size b nn D0 _ (by simp) (by simp) (hown.alloc _)
  have cS := AnyZI.sorted_in sg_sortedA Fence.wide 5 trivial trivial trivial trivial rfl (by omega) (sg_sortsA _) (enters_of Try.func59 (by kernel_rfl) rfl) 60 #[.pointer (some ⟨w.heap.size, 0, none⟩)] trivial (enters_of Try.func60 (by kernel_rfl) rfl) _ _ (by unfold maxLen; omega) (by omega) _ hseq
  exact (callsIn_wide (n := 5)).1 cS
/-- What Sorted hands to acts. -/
def KeysO (w0 : World) (D : Asn → Asn) (st : List (Int × ByteArray)) (R : Asn) (e : Ending) (w' : World) : Prop := ∃ o c, e = .returned (.slice o st.length c) ∧ Own w0 w' (D (Star (rowIA o (st.map (·.1))) R))
theorem o_keys {w0 w : World} {d : Nat} {z : DState} {l mb : Nat} {st : List (Int × ByteArray)} {dead : Bool} {R : Asn} (h : Own w0 w (DL d z l mb st dead R)) (hs : Stable R) (hl : st.length ≤ 1000) :
    Calls Try.prog 34 #[.func (.func 60) #[] #[.pointer (some ⟨w.heap.size, 0, none⟩)]] (w.alloc (.cells #[.map (some mb)] 62)) (KeysO w0 (DL d z l mb st dead) st R) := by
  have hst : Stable (DL d z l mb st dead R) := stable_dl _ _ _ _ _ _ hs
  obtain ⟨hb, hm, hri, hne⟩ := h.log
  refine (c_sorted w mb _ (mapD st) hm (by rw [mapD_size]; exact hl)).mono ?_
  rintro e w' ⟨v, ss, rfl, hp, hrow, _, hbl⟩
  rw [mapD_keys] at hp
  rw [sort_rising st hri ss hp] at hrow
  have hlen : ss.length = st.length := by rw [hp.length_eq, List.length_map]
  rw [hlen] at hrow
  obtain ⟨o, c, rfl⟩ := row_form hrow
  refine ⟨o, c, rfl, ?_⟩
  have h1 := h.gr hst ((Gr.refl _).alloc (Nat.le_refl _) (.cells #[.map (some mb)] 62))
  have hl2 : (st.map (·.1)).length = st.length := List.length_map _
  have h2 := h1.add hst hbl (A := rowIA o (st.map (·.1))) ⟨fun x => ∃ off, o = some ⟨x, off, none⟩, ⟨rowI_own (c := c) (by rw [hl2]; exact hrow), fun b off e => ⟨off, e⟩⟩, fun x hx => by
    obtain ⟨off, e⟩ := hx
    exact row_from hrow x off e⟩
  exact h2.rot3'
theorem own_drop {w0 w : World} {d : Nat} {z : DState} {l mb : Nat} {st : List (Int × ByteArray)} {dead : Bool} {X R : Asn} (h : Own w0 w (DL d z l mb st dead (Star X R))) : Own w0 w (DL d z l mb st dead R) := h.rot3.right
theorem own_dead {w0 w : World} {d : Nat} {z : DState} {l mb : Nat} {st : List (Int × ByteArray)} {dead : Bool} {R : Asn} (h : Own w0 w (DL d z l mb st dead R)) (hs : Stable R) (b : Bool) : Own w0 (w.setCell ⟨l, 2, none⟩ (.bool b)) (DL d z l mb st b R) := by
  refine (h.swap2.step (A' := lgA l d mb st b) (stable_star (stable_dsk _ _) hs) (fun F hF => ?_)).swap2
  obtain ⟨h1, h2, h3, h4, h5, h6⟩ := hF
  refine ⟨fun x => x = l ∨ x = mb, ⟨.inl rfl, .inr rfl, h3, h4, blk_set h5 2 _, h6.setCell (fun e => h3 e.symm) _⟩, fun x hx => ?_, Ch.setCell (Ch.refl _ _) (.inl h1) _⟩
  have hl := blk_lt h5
  have hm := h6.lt
  have hsz : (w.setCell ⟨l, 2, none⟩ (.bool b)).heap.size = w.heap.size := by simp [World.setCell]
  rcases hx with hx | hx
  · exact ⟨.inl (by rw [hx]; exact h1), by rw [hx, hsz]; exact hl⟩
  · exact ⟨.inl (by rw [hx]; exact h2), by rw [hx, hsz]; exact hm⟩
theorem o_commit_dead {w0 w : World} {d : Nat} {z : DState} {l mb : Nat} {st : List (Int × ByteArray)} {R : Asn} (h : Own w0 w (DL d z l mb st true R)) :
    Calls Try.prog 14 #[.pointer (some ⟨l, 0, none⟩)] w fun e w' => e = .returned (.int .i64 7) ∧ w' = w := by
  have c2 := blk_cell h.log.1 2 (v := .bool true) rfl
  clear h
  go_enter Try.func14, Try.ntmps14
  go_wp2
  go_ret
  exact ⟨rfl, rfl⟩
theorem o_commit_nil {w0 w : World} {d : Nat} {z : DState} {l mb : Nat} {R : Asn} (h : Own w0 w (DL d z l mb [] false R)) :
    Calls Try.prog 14 #[.pointer (some ⟨l, 0, none⟩)] w fun e w' => e = .returned (.int .i64 0) ∧ w' = w := by
  have c2 := blk_cell h.log.1 2 (v := .bool false) rfl
  have c1 := blk_cell h.log.1 1 (v := .map (some mb)) rfl
  have HM := Lib.hid h.log.2.1
  clear h
  go_enter Try.func14, Try.ntmps14
  go_wp2_with (at_len; refine wpList_len_own _ rfl _ 62 rfl 3 73 Try.underlying62 _ mb _ _ rfl HM.out ?_; rw [mapD_size])
  go_ret
  exact ⟨rfl, rfl⟩
set_option maxHeartbeats 1600000 in
theorem o_commit {w0 w : World} {d : Nat} {z : DState} {l mb : Nat} {st : List (Int × ByteArray)} {R : Asn} (h : Own w0 w (DL d z l mb st false R)) (hs : Stable R) (h0 : 0 < st.length) (hl : st.length ≤ 30) (hb : ∀ x ∈ st, 0 ≤ x.1 ∧ x.1 < 65536) (hw : z.wait.length ≤ 2000000000000) :
    Calls Try.prog 14 #[.pointer (some ⟨l, 0, none⟩)] w fun e w' => e = .returned (.int .i64 (exec (commitOps st) z).1) ∧ Own w0 w' (DL d (exec (commitOps st) z).2 l mb [] (!decide ((exec (commitOps st) z).1 = 0)) R) := by
  have c2 := blk_cell h.log.1 2 (v := .bool false) rfl
  have c1 := blk_cell h.log.1 1 (v := .map (some mb)) rfl
  have HM := Lib.hid h.log.2.1
  have CK := Lib.hid (c_keys (some mb) w)
  have CS := Lib.hid (o_keys h hs (by omega))
  have CA : Hid (∀ o c w1, Own w0 w1 (DL d z l mb st false (Star (rowIA o (st.map (·.1))) R)) → Calls Try.prog 33 #[.pointer (some ⟨l, 0, none⟩), .slice o st.length c] w1 fun e w2 => e = .returned (.int .i64 (exec (commitOps st) z).1) ∧ Own w0 w2 (DL d (exec (commitOps st) z).2 l mb st false R)) :=
    Lib.hid (fun o c w1 h1 => (o_acts o c h1 hs hl hb hw).mono (by
      rintro e w2 ⟨rfl, k⟩
      exact ⟨rfl, own_drop k⟩))
  have HS := Lib.hid hs
  clear h hb hw hs
  generalize exec (commitOps st) z = q at *
  obtain ⟨q1, q2⟩ := q
  dsimp only at *
  have hnz : ¬ (Maps.size (mapD st) : Int) = 0 := by rw [mapD_size]; omega
  go_enter Try.func14, Try.ntmps14
  go_upto_region 8 with (first
    | (at_len; refine wpList_len_own _ rfl _ 62 rfl 3 73 Try.underlying62 _ mb _ _ rfl HM.out ?_)
    | (go_at_call 35; refine CK.out.mono ?_; rintro e w1 ⟨rfl, rfl⟩)
    | (go_at_call 34; refine CS.out.mono ?_; rintro e w2 ⟨o, c, rfl, h2⟩; have H2 := Lib.hid h2; clear h2)
    | (go_at_call 33; refine (CA.out _ _ _ H2.out).mono ?_; rintro e w3 ⟨rfl, h3⟩; have H3 := Lib.hid h3; have b3 := Lib.hid h3.log.1; have d2 := blk_cell b3.out 2 rfl; have z2 := blk_frozen b3.out 2; clear h3))
  by_cases hq : q1 = 0
  · subst hq
    have H9 := Lib.hid (own_dead H3.out HS.out false)
    go_upto_region 9 with fail
    generalize (World.setCell _ ⟨l, 2, none⟩ _) = w9 at *
    have e1 := blk_cell H9.out.log.1 1 (v := .map (some mb)) rfl
    have HM9 := Lib.hid H9.out.log.2.1
    have HE9 : Hid (∀ w1, w1.ownsMap Try.prog 3 secElem mb 0 (mapD []) → w9.mapTurned w1 mb → Own w0 w1 (DL d q2 l mb [] false R)) :=
      Lib.hid (fun w1 ho ht => own_turned H9.out HS.out (ch_turned HM9.out ht) trivial ho)
    go_wp2_with (refine wpList_clear_own _ rfl _ 62 rfl 3 73 Try.underlying62 mb _ _ rfl HM9.out ?_; intro w1 ho1 ht1; have H10 := HE9.out _ ho1 ht1; clear ho1 ht1)
    go_ret
    exact ⟨rfl, H10⟩
  · have hq2 : (q1 != 0) = true := by simp [hq]
    have H9 := Lib.hid (own_dead H3.out HS.out true)
    go_upto_region 9 with fail
    generalize (World.setCell _ ⟨l, 2, none⟩ _) = w9 at *
    have e1 := blk_cell H9.out.log.1 1 (v := .map (some mb)) rfl
    have HM9 := Lib.hid H9.out.log.2.1
    have HE9 : Hid (∀ w1, w1.ownsMap Try.prog 3 secElem mb 0 (mapD []) → w9.mapTurned w1 mb → Own w0 w1 (DL d q2 l mb [] true R)) :=
      Lib.hid (fun w1 ho ht => own_turned H9.out HS.out (ch_turned HM9.out ht) trivial ho)
    go_wp2_with (refine wpList_clear_own _ rfl _ 62 rfl 3 73 Try.underlying62 mb _ _ rfl HM9.out ?_; intro w1 ho1 ht1; have H10 := HE9.out _ ho1 ht1; clear ho1 ht1)
    go_ret
    rw [decide_eq_false hq]
    exact ⟨rfl, H10⟩
end Go.Proofs.Ytgaibknhdaeidaa.P
