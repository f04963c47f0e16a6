/- Stage 2: the document's numerals. No condition. -/
import Derived.Test.YthcfobefpknjeaaDoorTL
import Derived.Deep.LoopGhost
import Derived.Deep.DeepCutAuto
set_option linter.unusedVariables false
set_option linter.unusedSimpArgs false
set_option maxRecDepth 100000
namespace Go.Proofs.YthcfobefpknjeaaDoor.P
open Go.RowKit
def allD (l : List UInt8) : Bool := l.all fun c => decide (48 ≤ c.toNat) && decide (c.toNat ≤ 57)
def numD (mi : Bool) (l : List UInt8) : Int := if l = [] ∨ 12 < l.length then -99 else bif allD l then (bif mi then -(digV l : Int) else (digV l : Int)) else -99
def numS (l : List UInt8) : Int := match l with
  | [] => -99
  | c :: r => if c = 45 then numD true r else numD false (c :: r)
def numlL (l : List UInt8) : Int := match l with
  | [] => -99
  | c :: r => if c = 120 then numS r else numS (c :: r)
theorem digV_app (l : List UInt8) (c : UInt8) : digV (l ++ [c]) = digV l * 10 + (c.toNat - 48) := by unfold digV; rw [List.foldl_append]; rfl
theorem idx_run (l : List UInt8) (j : Nat) (h : j < l.length) (w : World) : (Instr.index 9 (.string (bL l)) (.int .i64 (j : Int))).run Tryd.prog w = .ok (.int .u8 ((l[j]'h).toNat : Int)) w := by
  have hz : j < (bL l).size := by rw [bL_size]; exact h
  rw [run_index_string w _ _ _ _ Tryd.underlying9, dif_pos ⟨by omega, by omega⟩]
  have e : (bL l)[((j : Int)).toNat]'(by simpa using hz) = l[j]'h := by
    have := bL_at l j hz
    simpa using this
  rw [e]
theorem idx_run0 (c : UInt8) (r : List UInt8) (w : World) : (Instr.index 9 (.string (bL (c :: r))) (.int .i64 0)).run Tryd.prog w = .ok (.int .u8 (c.toNat : Int)) w := idx_run (c :: r) 0 (by simp) w
theorem drop1 (c : UInt8) (r : List UInt8) : (bL (c :: r)).extract 1 (bL (c :: r)).size = bL r := by rw [bL_size, bL_ext, List.take_length]; rfl
def l1 (l : List UInt8) : List UInt8 := match l with | [] => [] | c :: r => if c = 120 then r else c :: r
def mi1 (l : List UInt8) : Bool := match l with | [] => false | c :: r => decide (c = 45)
def l2 (l : List UInt8) : List UInt8 := match l with | [] => [] | c :: r => if c = 45 then r else c :: r
theorem c_nat {c d : UInt8} (h : c ≠ d) : ¬ (c.toNat : Int) = (d.toNat : Int) := fun e => h (UInt8.toNat_inj.1 (by omega))
theorem at0 (c : UInt8) (r : List UInt8) : ∀ h, (bL (c :: r))[0]'h = c := fun h => by rw [bL_at]; rfl
theorem atj (l : List UInt8) (j : Nat) (hj : j < l.length) : ∀ h, (bL l)[j]'h = l[j]'hj := fun h => by rw [bL_at]
theorem beq_c {c d : UInt8} (h : c ≠ d) : ((c.toNat : Int) == (d.toNat : Int)) = false := beq_eq_false_iff_ne.2 (c_nat h)
theorem digV_take (l : List UInt8) (j : Nat) (h : j < l.length) : digV (l.take (j + 1)) = digV (l.take j) * 10 + ((l[j]'h).toNat - 48) := by
  rw [← digV_app, List.take_succ_eq_append_getElem h]
theorem digV_lt : ∀ (l : List UInt8), (∀ c ∈ l, 48 ≤ c.toNat ∧ c.toNat ≤ 57) → digV l < 10 ^ l.length := by
  intro l
  have key : ∀ (l : List UInt8) (acc : Nat), (∀ c ∈ l, 48 ≤ c.toNat ∧ c.toNat ≤ 57) → l.foldl (fun a d => a * 10 + (d.toNat - 48)) acc < (acc + 1) * 10 ^ l.length := by
    intro l
    induction l with
    | nil => intro acc _; simp
    | cons c r ih =>
      intro acc h
      have hc := h c List.mem_cons_self
      have := ih (acc * 10 + (c.toNat - 48)) (fun x hx => h x (List.mem_cons_of_mem _ hx))
      rw [List.foldl_cons, List.length_cons, Nat.pow_succ]
      refine Nat.lt_of_lt_of_le this ?_
      have h2 : acc * 10 + (c.toNat - 48) + 1 ≤ (acc + 1) * 10 := by omega
      calc (acc * 10 + (c.toNat - 48) + 1) * 10 ^ r.length ≤ ((acc + 1) * 10) * 10 ^ r.length := Nat.mul_le_mul_right _ h2
        _ = (acc + 1) * (10 ^ r.length * 10) := by rw [Nat.mul_assoc, Nat.mul_comm 10]
  intro h
  have := key l 0 h
  unfold digV
  simpa using this
theorem allD_iff {l : List UInt8} : allD l = true ↔ ∀ c ∈ l, 48 ≤ c.toNat ∧ c.toNat ≤ 57 := by
  unfold allD
  rw [List.all_eq_true]
  constructor
  · intro h c hc
    have := h c hc
    rw [Bool.and_eq_true, decide_eq_true_eq, decide_eq_true_eq] at this
    exact this
  · intro h c hc
    rw [Bool.and_eq_true, decide_eq_true_eq, decide_eq_true_eq]
    exact h c hc
def b1 (l : List UInt8) : Bool := match l with | [] => false | c :: _ => decide (c = 120)
theorem l1_yes {l : List UInt8} (h : b1 l = true) : ∃ r, l = 120 :: r ∧ l1 l = r := by
  match l with
  | [] => cases h
  | c :: r =>
    have : c = 120 := of_decide_eq_true h
    subst this
    exact ⟨r, rfl, rfl⟩
theorem l1_no {l : List UInt8} (h : b1 l = false) : l1 l = l := by
  match l with
  | [] => rfl
  | c :: r =>
    have : ¬ c = 120 := of_decide_eq_false h
    show (if c = 120 then r else c :: r) = _
    rw [if_neg this]
theorem l2_yes {l : List UInt8} (h : mi1 l = true) : ∃ r, l = 45 :: r ∧ l2 l = r := by
  match l with
  | [] => cases h
  | c :: r =>
    have : c = 45 := of_decide_eq_true h
    subst this
    exact ⟨r, rfl, rfl⟩
theorem l2_no {l : List UInt8} (h : mi1 l = false) : l2 l = l := by
  match l with
  | [] => rfl
  | c :: r =>
    have : ¬ c = 45 := of_decide_eq_false h
    show (if c = 45 then r else c :: r) = _
    rw [if_neg this]
theorem beq_yes {c d : UInt8} : ((c.toNat : Int) == (d.toNat : Int)) = decide (c = d) := by
  by_cases h : c = d
  · rw [h, decide_eq_true rfl]; simp
  · rw [decide_eq_false h, beq_c h]
set_option maxHeartbeats 6400000 in
theorem r_numeral (l : List UInt8) (w : World) : Calls Tryd.prog 43 #[.string (bL l)] w fun e w' => e = .returned (.int .i64 (numD (mi1 (l1 l)) (l2 (l1 l)))) ∧ w' = w := by
  obtain ⟨R, hR⟩ : ∃ R, R = numD (mi1 (l1 l)) (l2 (l1 l)) := ⟨_, rfl⟩
  rw [← hR]
  have HR := Lib.hid hR
  clear hR
  go_enter Tryd.func43, Tryd.ntmps43
  go_upto_region 1 with fail
  go_cut [0, 13] from 6 (fun s0 s13 wx => s0 = .string (bL l) ∧ s13 = .bool (b1 l) ∧ wx = w)
  case first =>
    cases l with
    | nil =>
      have hz : (bL []).size = 0 := rfl
      go_wp2_with fail
      go_meet
      exact ⟨rfl, rfl, rfl⟩
    | cons c r =>
      have hz : (bL (c :: r)).size = r.length + 1 := by rw [bL_size]; rfl
      have h0 := at0 c r
      have hq : ((c.toNat : Int) == 120) = decide (c = 120) := beq_yes (d := 120)
      go_wp2_with fail
      all_goals
        go_meet
        exact ⟨rfl, rfl, rfl⟩
  case rest =>
    obtain ⟨rfl, rfl, rfl⟩ := hcut
    go_upto_if 13 with fail
    generalize hbv : b1 l = bv at *
    go_cut [0] from 6 (fun s0 wx => s0 = .string (bL (l1 l)) ∧ wx = wc)
    case first =>
      cases bv with
      | false =>
        have e := l1_no hbv
        go_wp2_with fail
        go_meet
        exact ⟨by rw [e], rfl⟩
      | true =>
        obtain ⟨r, rfl, e⟩ := l1_yes hbv
        have hd := drop1 120 r
        have hz : (bL (120 :: r)).size = r.length + 1 := by rw [bL_size]; rfl
        rw [hz] at hd
        go_wp2_with fail
        go_meet
        exact ⟨by rw [e], rfl⟩
    case rest =>
      obtain ⟨rfl, rfl⟩ := hcut
      clear hbv
      generalize l1 l = m at *
      go_upto_region 3 with fail
      go_cut [0, 3] from 6 (fun s0 s3 wx => s0 = .string (bL m) ∧ s3 = .bool (mi1 m) ∧ wx = wc)
      case first =>
        cases m with
        | nil =>
          have hz : (bL []).size = 0 := rfl
          go_wp2_with fail
          go_meet
          exact ⟨rfl, rfl, rfl⟩
        | cons c r =>
          have hz : (bL (c :: r)).size = r.length + 1 := by rw [bL_size]; rfl
          have h0 := at0 c r
          have hq : ((c.toNat : Int) == 45) = decide (c = 45) := beq_yes (d := 45)
          go_wp2_with fail
          all_goals
            go_meet
            exact ⟨rfl, rfl, rfl⟩
      case rest =>
        obtain ⟨rfl, rfl, rfl⟩ := hcut
        go_upto_if 24 with fail
        generalize hmv : mi1 m = mv at *
        go_cut [0] from 6 (fun s0 wx => s0 = .string (bL (l2 m)) ∧ wx = wc)
        case first =>
          cases mv with
          | false =>
            have e := l2_no hmv
            go_wp2_with fail
            go_meet
            exact ⟨by rw [e], rfl⟩
          | true =>
            obtain ⟨r, rfl, e⟩ := l2_yes hmv
            have hd := drop1 45 r
            have hz : (bL (45 :: r)).size = r.length + 1 := by rw [bL_size]; rfl
            rw [hz] at hd
            go_wp2_with fail
            go_meet
            exact ⟨by rw [e], rfl⟩
        case rest =>
          obtain ⟨rfl, rfl⟩ := hcut
          clear hmv
          generalize l2 m = q at *
          have hz : (bL q).size = q.length := bL_size q
          have AT := Lib.hid (fun j (hj : j < q.length) => atj q j hj)
          by_cases hq : q = [] ∨ 12 < q.length
          · have e : numD mv q = -99 := by unfold numD; rw [if_pos hq]
            rcases hq with rfl | hq
            · go_wp2_with fail
              go_ret
              exact ⟨by rw [HR.out, e]; rfl, rfl⟩
            · have h1 : ¬ q.length = 0 := by omega
              have h2 : ((q.length : Int) == 0) = false := beq_eq_false_iff_ne.2 (by omega)
              have h3 : (12 : Int) < (q.length : Int) := by omega
              go_wp2_with fail
              go_ret
              exact ⟨by rw [HR.out, e]; rfl, rfl⟩
          · have hlen : q.length ≤ 12 ∧ 1 ≤ q.length := by
              refine ⟨by omega, ?_⟩
              rcases Nat.eq_zero_or_pos q.length with h | h
              · exact absurd (.inl (List.length_eq_zero_iff.1 h)) hq
              · exact h
            have HQ := Lib.hid hq
            have h2 : ((q.length : Int) == 0) = false := beq_eq_false_iff_ne.2 (by omega)
            have h3 : ¬ (12 : Int) < (q.length : Int) := by omega
            clear hq
            go_wp2_with fail
            go_loopw [4, 5] (fun v i wr => ∃ j : Nat, j ≤ q.length ∧ allD (q.take j) = true ∧ v = .int .i64 (digV (q.take j) : Int) ∧ i = .int .i64 (j : Int) ∧ wr = wc) (fun _ i _ => q.length - (intOf i).toNat)
            case atStart => exact ⟨0, Nat.zero_le _, rfl, rfl, rfl, by first | rfl | trivial⟩
            case round =>
              obtain ⟨j, hj, ha, rfl, rfl, rfl⟩ := hrel
              have hb : digV (q.take j) < 1000000000000 := by
                refine Nat.lt_of_lt_of_le (digV_lt _ (allD_iff.1 ha)) ?_
                refine Nat.le_trans (Nat.pow_le_pow_right (by decide) (by rw [List.length_take]; omega : (q.take j).length ≤ 12)) (by decide)
              by_cases hlt : j < q.length
              · have dl : decide (j < q.length) = true := decide_eq_true hlt
                have hat := AT.out j hlt
                have hdv := digV_take q j hlt
                have htk : q.take (j + 1) = q.take j ++ [q[j]] := List.take_succ_eq_append_getElem hlt
                have hmem : q[j] ∈ q := List.getElem_mem hlt
                have HDV := Lib.hid hdv
                have HTK := Lib.hid htk
                have HME := Lib.hid hmem
                have HA := Lib.hid ha
                clear hdv htk hmem ha
                generalize q[j] = c at *
                by_cases hc : 48 ≤ c.toNat ∧ c.toNat ≤ 57
                · have c1 : ¬ (c.toNat : Int) < 48 := by omega
                  have c2 : ¬ (57 : Int) < (c.toNat : Int) := by omega
                  have c3 : (48 : Int) ≤ (c.toNat : Int) := by omega
                  have c4 : (c.toNat : Int) ≤ 57 := by omega
                  generalize digV (q.take j) = dv at *
                  go_wp2_with fail
                  go_roundw
                  case rel => exact ⟨j + 1, by omega, by rw [HTK.out]; unfold allD at *; rw [List.all_append, HA.out]; simp [hc], by rw [HDV.out]; exact congrArg (Value.int .i64) (by omega), by go_num, by first | rfl | trivial⟩
                  case measure => simp [intOf]; omega
                · have hbad : numD mv q = -99 := by
                    unfold numD
                    rw [if_neg HQ.out]
                    cases hall : allD q with
                    | false => rfl
                    | true => exact absurd (allD_iff.1 hall c HME.out) hc
                  by_cases h48 : c.toNat < 48
                  · have c1 : (c.toNat : Int) < 48 := by omega
                    go_wp2_with fail
                    go_ret
                    exact ⟨by rw [HR.out, hbad]; rfl, rfl⟩
                  · have c1 : ¬ (c.toNat : Int) < 48 := by omega
                    have c2 : (57 : Int) < (c.toNat : Int) := by omega
                    go_wp2_with fail
                    go_ret
                    exact ⟨by rw [HR.out, hbad]; rfl, rfl⟩
              · have dl : decide (j < q.length) = false := decide_eq_false hlt
                have ej : j = q.length := by omega
                have hall : allD q = true := by rw [ej, List.take_length] at ha; exact ha
                have hgood : numD mv q = (bif mv then -(digV q : Int) else (digV q : Int)) := by
                  unfold numD
                  rw [if_neg HQ.out, hall]; rfl
                rw [ej, List.take_length] at hb
                have HG := Lib.hid hgood
                rw [ej, List.take_length]
                clear hall hgood ha hlt hj
                generalize digV q = dv at *
                subst ej
                cases mv with
                | false =>
                  go_wp2_with fail
                  go_ret
                  exact ⟨by rw [HR.out, HG.out]; rfl, rfl⟩
                | true =>
                  go_wp2_with fail
                  go_ret
                  exact ⟨by rw [HR.out, HG.out]; rfl, rfl⟩
end Go.Proofs.YthcfobefpknjeaaDoor.P
