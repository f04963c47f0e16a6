/- Stage 7: a transaction's sectors staged. No condition. -/
import Derived.Test.YtgaibknhdaeidaaA23
import Derived.Test.YtgaibknhdaeidaaZ
import Derived.SliceStrings
import Derived.ChangeSlices
set_option linter.unusedVariables false
set_option maxRecDepth 50000
namespace Go.Proofs.Ytgaibknhdaeidaa.P
open Go.RowKit
/-- A slice whose elements are such texts. -/
def RowS (w : World) (o : Option Addr) (A : List ByteArray) : Prop := ∀ j s, A[j]? = some s → ∃ b off, o = some ⟨b, off, none⟩ ∧ w.cell? ⟨b, off + j, none⟩ = some (.string s)
theorem RowS.gr {w w' : World} {o : Option Addr} {A : List ByteArray} (h : RowS w o A) (g : Gr w w') : RowS w' o A := fun j s hj => by
  obtain ⟨b, off, e, hc⟩ := h j s hj
  exact ⟨b, off, e, kcell g hc⟩
def stepS (n : Nat) (st : List (Int × ByteArray)) (x : Int × ByteArray) : List (Int × ByteArray) := setSt (setR false n st x.1 (secF x.2)) st x.1 (secF x.2)
def setsF (n : Nat) (st P : List (Int × ByteArray)) : List (Int × ByteArray) := P.foldl (stepS n) st
theorem sets_take {n k : Nat} {st P : List (Int × ByteArray)} {x : Int × ByteArray} (h : P[k]? = some x) : setsF n st (P.take (k + 1)) = stepS n (setsF n st (P.take k)) x := by
  obtain ⟨hk, e⟩ := List.getElem?_eq_some_iff.1 h
  unfold setsF
  rw [List.take_succ_eq_append_getElem hk, List.foldl_append, e]; rfl
/-- What may be staged of a disk of n sectors. -/
def okSt (n : Nat) (st : List (Int × ByteArray)) : Prop := Rising st ∧ st.length ≤ 30 ∧ ∀ x ∈ st, 0 ≤ x.1 ∧ x.1 < (n : Int) - 32 ∧ x.2.size = 64
theorem ok_nil (n : Nat) : okSt n [] := ⟨trivial, by simp, fun x hx => by cases hx⟩
theorem ok_step {n : Nat} {st : List (Int × ByteArray)} (h : okSt n st) (x : Int × ByteArray) : okSt n (stepS n st x) := by
  obtain ⟨h1, h2, h3⟩ := h
  unfold stepS setSt
  by_cases hr : setR false n st x.1 (secF x.2) = 0
  · rw [decide_eq_true hr, cond_true]
    unfold setR at hr
    by_cases hf : refF false n x.1 = 0
    · obtain ⟨_, i0, i1⟩ := refF_ok hf
      rw [decide_eq_true hf, cond_true, decide_eq_true (secF_size _), cond_true] at hr
      refine ⟨rising_put _ _ _ h1, ?_, fun y hy => ?_⟩
      · rw [put_len _ _ _ h1]
        cases hl : (lookS x.1 st).isSome with
        | true => exact h2
        | false =>
          rw [hl, cond_false] at hr
          by_cases h30 : 30 ≤ st.length
          · rw [decide_eq_true h30] at hr; cases hr
          · show st.length + 1 ≤ 30; omega
      · rcases mem_putS hy with e | e
        · rw [e]; exact ⟨i0, i1, secF_size _⟩
        · exact h3 y e
    · rw [decide_eq_false hf, cond_false] at hr
      exact absurd hr hf
  · rw [decide_eq_false hr]
    exact ⟨h1, h2, h3⟩
theorem ok_sets {n : Nat} : ∀ (P st : List (Int × ByteArray)), okSt n st → okSt n (setsF n st P)
  | [], st, h => h
  | x :: P, st, h => ok_sets P (stepS n st x) (ok_step h x)
theorem zip_at {I : List Int} {S : List ByteArray} {k : Nat} (hi : k < I.length) (hs : k < S.length) : (I.zip S)[k]? = some (I[k], S[k]) := by
  rw [List.getElem?_eq_getElem (by rw [List.length_zip]; omega), List.getElem_zip]
set_option maxHeartbeats 3200000 in
theorem o_sets {w0 w : World} {d : Nat} {z : DState} {l mb : Nat} {st : List (Int × ByteArray)} {R : Asn} (h : Own w0 w (DL d z l mb st false R)) (hs : Stable R) (hst : okSt z.safe.length st) (oI oS : Option Addr) (cI cS : Nat) (I : List Int) (S : List ByteArray) (hI : RowI w0 oI I) (hS : RowS w0 oS S) (hlI : I.length ≤ 4000000000000000) (hlS : S.length ≤ 4000000000000000) (hss : ∀ s ∈ S, s.size ≤ 9223372036854770000) :
    Calls Try.prog 13 #[ptr l, .agg #[.slice oI I.length cI, .slice oS S.length cS]] w fun e w' => e = .returned (.tuple #[]) ∧ Own w0 w' (DL d z l mb (setsF z.safe.length st (I.zip S)) false R) := by
  have H0 : Own w0 (w.alloc (.cells #[.slice oI I.length cI, .slice oS S.length cS] 26)) (DL d z l mb st false (Star (blkA w.heap.size (.cells #[.slice oI I.length cI, .slice oS S.length cS] 26)) R)) := (h.alloc (stable_dl _ _ _ _ _ _ hs) _).rot3'
  have HI := Lib.hid hI
  have HS := Lib.hid hS
  have HSS := Lib.hid (fun k s (e : S[k]? = some s) => hss s (List.mem_of_getElem? e))
  have HZ : Hid (∀ k, k < I.length → k < S.length → ∃ i s, I[k]? = some i ∧ S[k]? = some s ∧ (I.zip S)[k]? = some (i, s)) :=
    Lib.hid (fun k hi hs => ⟨_, _, List.getElem?_eq_getElem hi, List.getElem?_eq_getElem hs, zip_at hi hs⟩)
  have HF : Hid (∀ k, (I.length ≤ k ∨ S.length ≤ k) → (I.zip S).take k = I.zip S) := Lib.hid (fun k hk => List.take_of_length_le (by rw [List.length_zip]; omega))
  have HOK : Hid (∀ k, okSt z.safe.length (setsF z.safe.length st ((I.zip S).take k))) := Lib.hid (fun k => ok_sets _ _ hst)
  have HR : Stable (Star (blkA w.heap.size (.cells #[.slice oI I.length cI, .slice oS S.length cS] 26)) R) := stable_star (stable_blk _ _) hs
  have HT : Hid (∀ k i s wr, (I.zip S)[k]? = some (i, s) → Own w0 wr (DL d z l mb (setsF z.safe.length st ((I.zip S).take k)) false (Star (blkA w.heap.size (.cells #[.slice oI I.length cI, .slice oS S.length cS] 26)) R)) → Calls Try.prog 24 #[ptr l, .int .i64 i, .string (secF s)] wr fun e w' => (∃ r, e = .returned (.int .i64 r)) ∧ Own w0 w' (DL d z l mb (setsF z.safe.length st ((I.zip S).take (k + 1))) false (Star (blkA w.heap.size (.cells #[.slice oI I.length cI, .slice oS S.length cS] 26)) R))) :=
    Lib.hid (fun k i s wr hk ho => (o_set ho HR i (secF s) (by have := (HOK.out k).2.1; omega)).mono (by
      rintro e w' ⟨rfl, q⟩
      refine ⟨⟨_, rfl⟩, ?_⟩
      rw [sets_take hk]; exact q))
  have HD := Lib.hid HR
  have HSt := Lib.hid hs
  clear h hI hS hss hst HR hs
  generalize z.safe.length = n at *
  go_enter Try.func13, Try.ntmps13
  go_upto_region 1 with fail
  generalize I.length = nI at *
  generalize S.length = nS at *
  generalize (w.alloc (.cells #[.slice oI nI cI, .slice oS nS cS] 26)) = w1 at *
  generalize w.heap.size = B at *
  have HH0 := Lib.hid H0
  clear H0
  go_wp2_with fail
  go_loopw [4] (fun v wr => ∃ k : Nat, k ≤ nI ∧ k ≤ nS ∧ v = .int .i64 k ∧ Own w0 wr (DL d z l mb (setsF n st ((I.zip S).take k)) false (Star (blkA B (.cells #[.slice oI nI cI, .slice oS nS cS] 26)) R))) (fun v _ => nI - (intOf v).toNat)
  case atStart => exact ⟨0, Nat.zero_le _, Nat.zero_le _, rfl, HH0.out⟩
  case round =>
    obtain ⟨k, hkI, hkS, rfl, hh⟩ := hrel
    have HH := Lib.hid hh
    have hblk := hh.right.right.blk
    have c0 := blk_cell hblk 0 (v := .slice oI nI cI) rfl
    have c1 := blk_cell hblk 1 (v := .slice oS nS cS) rfl
    clear hh hblk
    by_cases ltI : k < nI
    · have dlI : decide (k < nI) = true := decide_eq_true ltI
      by_cases ltS : k < nS
      · have dlS : decide (k < nS) = true := decide_eq_true ltS
        obtain ⟨i, s, hi, hsk, hz⟩ := HZ.out k ltI ltS
        obtain ⟨bI, fI, rfl, ci⟩ := HI.out k i hi
        obtain ⟨bS, fS, rfl, cs⟩ := HS.out k s hsk
        have hss := HSS.out k s hsk
        have CI := Lib.hid ci
        have CS := Lib.hid cs
        have HT2 := Lib.hid (fun w1 => HT.out k i s w1 hz)
        have di := kcell HH.out.sub ci
        have ds := kcell HH.out.sub cs
        clear ci cs hi hsk hz
        go_upto_region 4 with fail
        have hO := HH.out
        have hOd := HH.out.drew (stable_dl _ _ _ _ _ _ HD.out)
        go_region_held3 (fun w' => w'.cell? ⟨B, 0, none⟩ = some (.slice (some ⟨bI, fI, none⟩) nI cI) ∧ w'.cell? ⟨B, 1, none⟩ = some (.slice (some ⟨bS, fS, none⟩) nS cS) ∧ w'.cell? ⟨bI, fI + k, none⟩ = some (.int .i64 i) ∧ w'.cell? ⟨bS, fS + k, none⟩ = some (.string s))
          ((refine ⟨?_, ?_, ?_, ?_⟩ <;> first | (with_reducible assumption) | (with_reducible exact cell_drew6 (by assumption))))
          (first
            | (go_at_call 26; refine (c_sector _ hss _).mono ?_; rintro e w5 ⟨rfl, hq5⟩; have hO5 := Own.gr (by assumption) (stable_dl _ _ _ _ _ _ HD.out) hq5; have e0 := blk_cell hO5.right.right.blk 0 (v := .slice (some ⟨bI, fI, none⟩) nI cI) rfl; have e1 := blk_cell hO5.right.right.blk 1 (v := .slice (some ⟨bS, fS, none⟩) nS cS) rfl; have e2 := kcell hO5.sub CI.out; have e3 := kcell hO5.sub CS.out; clear hq5)
            | (go_at_call 24; refine (HT2.out _ (by assumption)).mono ?_; rintro e w6 ⟨⟨r6, rfl⟩, hq6⟩; have e0 := blk_cell hq6.right.right.blk 0 (v := .slice (some ⟨bI, fI, none⟩) nI cI) rfl; have e1 := blk_cell hq6.right.right.blk 1 (v := .slice (some ⟨bS, fS, none⟩) nS cS) rfl; have e2 := kcell hq6.sub CI.out; have e3 := kcell hq6.sub CS.out))
        all_goals
          go_wp2_with fail
          go_roundw
          case rel => exact ⟨k + 1, by omega, by omega, by go_num, by assumption⟩
          case measure => simp [intOf]; omega
      · have dlS : decide (k < nS) = false := decide_eq_false ltS
        have e := HF.out k (.inr (by omega))
        have H9 : Hid (Own w0 wr (DL d z l mb (setsF n st (I.zip S)) false R)) := Lib.hid (by rw [← e]; exact own_drop HH.out)
        go_wp2_with fail
        refine bodyPost_end (results_none rfl _ _ _) rfl ⟨rfl, H9.out⟩
    · have dlI : decide (k < nI) = false := decide_eq_false ltI
      have e := HF.out k (.inl (by omega))
      have H9 : Hid (Own w0 wr (DL d z l mb (setsF n st (I.zip S)) false R)) := Lib.hid (by rw [← e]; exact own_drop HH.out)
      go_wp2_with fail
      refine bodyPost_end (results_none rfl _ _ _) rfl ⟨rfl, H9.out⟩
end Go.Proofs.Ytgaibknhdaeidaa.P
namespace Go.Proofs.Ytgaibknhdaeidaa.P
open Go.RowKit
theorem act_pos {z : DState} (hc : z.counted = true) (ha : 0 < z.acts) : actB z = true ∧ actZ z = { z with acts := z.acts - 1 } := by
  have hn : ¬ z.acts = 0 := by omega
  unfold actB actZ
  rw [hc, decide_eq_false hn]
  exact ⟨rfl, rfl⟩
theorem act_zero {z : DState} (hc : z.counted = true) (ha : z.acts = 0) : actB z = false := by
  unfold actB
  rw [hc, decide_eq_true ha]; rfl
theorem step_act (z : DState) (ho : z.off = false) (hc : z.counted = true) (o : DOp) (hok : okOp z.safe.length o) :
    (0 < z.acts → (stepD z o).1 = 0 ∧ (stepD z o).2.off = false ∧ (stepD z o).2.counted = true ∧ (stepD z o).2.acts = z.acts - 1) ∧ (z.acts = 0 → (stepD z o).1 = 7) := by
  cases o with
  | fl =>
    refine ⟨fun h => ?_, fun h => ?_⟩
    · obtain ⟨h1, h2⟩ := act_pos hc h
      show flushR z = 0 ∧ (flushZ z).off = false ∧ (flushZ z).counted = true ∧ (flushZ z).acts = z.acts - 1
      unfold flushR flushZ
      rw [ho, h1, h2]
      exact ⟨rfl, ho, hc, rfl⟩
    · show flushR z = 7
      unfold flushR
      rw [ho, act_zero hc h]; rfl
  | wr i s =>
    have hh : hasB z i = true := by unfold hasB; rw [decide_eq_true hok.1.1, decide_eq_true hok.1.2]; rfl
    refine ⟨fun h => ?_, fun h => ?_⟩
    · obtain ⟨h1, h2⟩ := act_pos hc h
      show writeR z i s = 0 ∧ (writeZ z i s).off = false ∧ (writeZ z i s).counted = true ∧ (writeZ z i s).acts = z.acts - 1
      unfold writeR writeZ
      rw [ho, hh, decide_eq_true hok.2, h1, h2]
      exact ⟨rfl, ho, hc, rfl⟩
    · show writeR z i s = 7
      unfold writeR
      rw [ho, hh, decide_eq_true hok.2, act_zero hc h]; rfl
theorem exec_acts : ∀ (l : List DOp) (z : DState), z.off = false → z.counted = true → 0 ≤ z.acts → (∀ o ∈ l, okOp z.safe.length o) →
    ((l.length : Int) ≤ z.acts → (exec l z).1 = 0 ∧ (exec l z).2.off = false) ∧ (z.acts < l.length → (exec l z).1 = 7)
  | [], z, ho, _, ha, _ => ⟨fun _ => ⟨rfl, ho⟩, fun h => absurd h (by simp; omega)⟩
  | o :: l, z, ho, hc, ha, hok => by
    obtain ⟨h1, h2⟩ := step_act z ho hc o (hok o (List.mem_cons_self ..))
    by_cases h0 : z.acts = 0
    · have h7 := h2 h0
      refine ⟨fun h => absurd h (by rw [List.length_cons]; omega), fun _ => ?_⟩
      rw [exec_no (by rw [h7]; decide)]
      exact h7
    · obtain ⟨e0, e1, e2, e3⟩ := h1 (by omega)
      rw [exec_ok e0]
      have ih := exec_acts l (stepD z o).2 e1 e2 (by omega) (fun p hp => by rw [step_len]; exact hok p (List.mem_cons_of_mem _ hp))
      rw [e3] at ih
      rw [List.length_cons]
      exact ⟨fun h => ih.1 (by omega), fun h => ih.2 (by omega)⟩
theorem commit_len (st : List (Int × ByteArray)) : (commitOps st).length = 2 * st.length + 6 := by
  unfold commitOps installOps pointOps
  simp only [List.length_append, List.length_cons, List.length_nil, hold_len, home_len]
  omega
theorem hold_mem : ∀ (st : List (Int × ByteArray)) (k0 : Nat) (o : DOp), o ∈ holdOps k0 st → ∃ (k : Nat) (x : Int × ByteArray), x ∈ st ∧ k < st.length ∧ o = .wr ((2 + (k0 + k) : Nat) : Int) x.2
  | [], _, o, h => by cases h
  | y :: st, k0, o, h => by
    rcases List.mem_cons.1 h with e | e
    · exact ⟨0, y, List.mem_cons_self .., by simp, e⟩
    · obtain ⟨k, x, h1, h2, h3⟩ := hold_mem st (k0 + 1) o e
      exact ⟨k + 1, x, List.mem_cons_of_mem _ h1, by rw [List.length_cons]; omega, by rw [h3]; congr 1; omega⟩
theorem ok_commit {n : Nat} {st : List (Int × ByteArray)} (hn : 48 ≤ n) (h : okSt n st) : ∀ o ∈ commitOps st, okOp n o := by
  obtain ⟨h1, h2, h3⟩ := h
  have hp : ∀ hs : List Int, hs.length ≤ 31 → ∀ o ∈ pointOps hs, okOp n o := fun hs hl o ho => by
    rcases List.mem_cons.1 ho with e | e
    · rw [e]; exact ⟨⟨by omega, by omega⟩, headF_size hs hl⟩
    · rcases List.mem_cons.1 e with e | e
      · rw [e]; trivial
      · cases e
  intro o ho
  unfold commitOps at ho
  rcases List.mem_append.1 ho with ho | ho
  · obtain ⟨k, x, hx, hk, rfl⟩ := hold_mem st 0 o ho
    exact ⟨⟨by omega, by omega⟩, (h3 x hx).2.2⟩
  · rcases List.mem_cons.1 ho with ho | ho
    · rw [ho]; trivial
    · rcases List.mem_append.1 ho with ho | ho
      · exact hp _ (by rw [List.length_map]; omega) o ho
      · unfold installOps at ho
        rcases List.mem_append.1 ho with ho | ho
        · obtain ⟨y, hy, rfl⟩ := mem_home ho
          have := h3 y hy
          exact ⟨⟨by omega, by omega⟩, this.2.2⟩
        · rcases List.mem_cons.1 ho with ho | ho
          · rw [ho]; trivial
          · exact hp [] (by simp) o ho
end Go.Proofs.Ytgaibknhdaeidaa.P
namespace Go.Proofs.Ytgaibknhdaeidaa.P
open Go.RowKit
def zG : DState := newZ (List.replicate 60 z64)
theorem zG_len : zG.safe.length = 60 := List.length_replicate
def okA (m : Nat) (p : Int) : Bool := decide (m = 0) || decide (2 * (m : Int) + 6 ≤ p)
def CommA (w0 : World) (d l mb : Nat) (ok : Bool) (e : Ending) (w' : World) : Prop := e = .returned (.int .i64 (bif ok then 0 else 7)) ∧ ∃ z2 : DState, (ok = true → z2.off = false) ∧ z2.safe.length = 60 ∧ z2.wait.length ≤ 1000 ∧ Own w0 w' (DL d z2 l mb [] (!ok) emp)
theorem e_commA {w0 w : World} {d l mb : Nat} {st : List (Int × ByteArray)} (p : Int) (hp : 0 ≤ p) (hst : okSt 60 st) (h : Own w0 w (DL d (powZ zG p) l mb st false emp)) :
    Calls Try.prog 14 #[ptr l] w (CommA w0 d l mb (okA st.length p)) := by
  have hc : (powZ zG p).counted = true := decide_eq_true hp
  have ha : (powZ zG p).acts = p := by show max p 0 = p; omega
  have ho : (powZ zG p).off = false := rfl
  have hl : (powZ zG p).safe.length = 60 := zG_len
  have hw : (powZ zG p).wait.length = 0 := rfl
  generalize powZ zG p = z at *
  cases hs : st with
  | nil =>
    subst hs
    refine (o_commit_nil h).mono ?_
    rintro e w' ⟨rfl, rfl⟩
    exact ⟨rfl, z, fun _ => ho, hl, by omega, h⟩
  | cons x t =>
    rw [← hs]
    have hpos : 0 < st.length := by rw [hs]; simp
    refine (o_commit h stable_emp hpos hst.2.1 (fun y hy => by have := hst.2.2 y hy; omega) (by omega)).mono ?_
    rintro e w' ⟨rfl, k⟩
    have hx := exec_acts (commitOps st) z ho hc (by omega) (fun o hoo => by rw [hl]; exact ok_commit (by omega) hst o hoo)
    rw [ha, commit_len] at hx
    have hwt := exec_wait (commitOps st) z
    rw [commit_len] at hwt
    have hln := exec_len (commitOps st) z
    rw [hl] at hln
    have hm := hst.2.1
    by_cases hk : 2 * (st.length : Int) + 6 ≤ p
    · have e0 : okA st.length p = true := by unfold okA; rw [decide_eq_true hk, Bool.or_true]
      obtain ⟨h1, h2⟩ := hx.1 (by omega)
      rw [e0, h1]
      rw [h1] at k
      exact ⟨rfl, (exec (commitOps st) z).2, fun _ => h2, hln, by omega, k⟩
    · have e0 : okA st.length p = false := by unfold okA; rw [decide_eq_false hk, decide_eq_false (by omega)]; rfl
      have h1 := hx.2 (by omega)
      rw [e0, h1]
      rw [h1] at k
      exact ⟨rfl, (exec (commitOps st) z).2, (fun h => by cases h), hln, by omega, k⟩
theorem e_getA {w0 w : World} {d l mb : Nat} {z : DState} (ok : Bool) (h1 : ok = true → z.off = false) (hl : z.safe.length = 60) (hw : z.wait.length ≤ 1000) (h : Own w0 w (DL d z l mb [] (!ok) emp)) :
    Calls Try.prog 20 #[ptr l, .int .i64 0] w fun e w' => (∃ b, e = .returned (.tuple #[.string b, .int .i64 (bif ok then 0 else 7)])) ∧ Own w0 w' (DL d z l mb [] (!ok) emp) :=
  (o_get h stable_emp 0 (by omega)).mono (by
    rintro e w' ⟨rfl, q⟩
    have e1 : getR (!ok) z [] 0 = bif ok then 0 else 7 := by
      unfold getR
      rw [hl]
      cases ok with
      | false => rfl
      | true =>
        show readR z (32 + 0) = 0
        unfold readR hasB
        rw [h1 rfl, hl]; rfl
    rw [e1]
    exact ⟨⟨_, rfl⟩, q⟩)
theorem e_setA {w0 w : World} {d l mb : Nat} {z : DState} (ok : Bool) (hl : z.safe.length = 60) (s : ByteArray) (hs : s.size = 64) (h : Own w0 w (DL d z l mb [] (!ok) emp)) :
    Calls Try.prog 24 #[ptr l, .int .i64 0, .string s] w fun e w' => e = .returned (.int .i64 (bif ok then 0 else 7)) ∧ ∃ st, (ok = false → st.length = 0) ∧ Own w0 w' (DL d z l mb st (!ok) emp) :=
  (o_set h stable_emp 0 s (by simp)).mono (by
    rintro e w' ⟨rfl, q⟩
    have e1 : setR (!ok) z.safe.length [] 0 s = bif ok then 0 else 7 := by
      rw [hl]
      cases ok with
      | false => rfl
      | true => unfold setR; rw [decide_eq_true hs]; rfl
    rw [e1] at q ⊢
    exact ⟨rfl, _, fun h => by rw [h]; rfl, q⟩)
def sx : ByteArray := ⟨#[120]⟩
theorem s_x (w : World) : Calls Try.prog 26 #[.string ⟨#[120]⟩] w fun e w' => e = .returned (.string (secF sx)) ∧ Gr w w' := c_sector sx (by show 1 ≤ _; omega) w
set_option maxHeartbeats 6400000 in
theorem l_acts7 (w : World) (oI oS : Option Addr) (cI cS : Nat) (I : List Int) (S : List ByteArray) (hI : RowI w oI I) (hS : RowS w oS S) (hlI : I.length ≤ 4000000000000000) (hlS : S.length ≤ 4000000000000000) (hss : ∀ s ∈ S, s.size ≤ 9223372036854770000) (p : Int) (hp : i64 p) :
    Calls Try.prog 8 #[.agg #[.slice oI I.length cI, .slice oS S.length cS], .int .i64 p] w fun e w' => e = .returned (.bool true) ∧ Gr w w' := by
  have hst : okSt 60 (setsF 60 [] (I.zip S)) := ok_sets _ _ (ok_nil 60)
  obtain ⟨wA, hwA⟩ : ∃ wA, wA = w.alloc (.cells #[.slice oI I.length cI, .slice oS S.length cS] 26) := ⟨_, rfl⟩
  have gA : Gr w wA := by rw [hwA]; exact (Gr.refl w).alloc (Nat.le_refl _) _
  have hbA : wA.heap[w.heap.size]? = some (.cells #[.slice oI I.length cI, .slice oS S.length cS] 26) := by rw [hwA]; exact blk_new _ _
  have HBX : Hid (∀ w1, Gr wA w1 → w1.heap[w.heap.size]? = some (.cells #[.slice oI I.length cI, .slice oS S.length cS] 26)) := Lib.hid (fun w1 g => blk_gr g hbA)
  have CSH := Lib.hid (c_shown7 wA)
  have CN : Hid (∀ w1, Gr wA w1 → Calls Try.prog 11 #[.int .i64 60] w1 fun e w' => ∃ d, e = .returned (.tuple #[ptr d, .int .i64 0]) ∧ Own wA w' (Star (dsk d zG) emp)) := Lib.hid (fun w1 g => o_new (Own.start g) stable_emp 60 (by omega) (by omega))
  have CX : Hid (∀ d l mb w1, Own wA w1 (DL d zG l mb [] false emp) → Calls Try.prog 13 #[ptr l, .agg #[.slice oI I.length cI, .slice oS S.length cS]] w1 fun e w' => e = .returned (.tuple #[]) ∧ Own wA w' (DL d zG l mb (setsF 60 [] (I.zip S)) false emp)) :=
    Lib.hid (fun d l mb w1 h => by
      have := o_sets h stable_emp (by rw [zG_len]; exact ok_nil 60) oI oS cI cS I S (hI.gr gA) (hS.gr gA) hlI hlS hss
      rw [zG_len] at this
      exact this)
  have GA := Lib.hid gA
  have HST := Lib.hid hst
  clear hI hS hss hst hbA gA
  generalize setsF 60 [] (I.zip S) = st at *
  go_enter Try.func8, Try.ntmps8
  go_upto_region 1 with fail
  rw [← hwA]
  generalize w.heap.size = B0 at *
  clear hwA
  go_upto_region 3 with (first
    | (go_at_call 10; refine CSH.out.mono ?_; rintro e w1 ⟨rfl, h1⟩; have H1 := Lib.hid h1; clear h1)
    | (go_at_call 11; refine (CN.out _ H1.out).mono ?_; rintro e w2 ⟨d, rfl, h2⟩; have H2 := Lib.hid h2; clear h2))
  clear CSH CN
  go_upto_region 6 with (go_at_call 12; refine (o_open_ok H2.out stable_emp (sz_new 60) (by show 0 ≤ _; omega) zG (ex_new 60 (by omega))).mono ?_; rintro e w3 ⟨l, mb, rfl, h3⟩; have H3 := Lib.hid h3; clear h3)
  have hb3 := HBX.out w3 H3.out.sub
  have t0 := blk_cell hb3 0 (v := .slice oI I.length cI) rfl
  have t1 := blk_cell hb3 1 (v := .slice oS S.length cS) rfl
  clear hb3
  go_upto_region 7 with (go_at_call 13; refine (CX.out _ _ _ _ H3.out).mono ?_; rintro e w4 ⟨rfl, h4⟩; have H4 := Lib.hid h4; clear h4)
  clear t0 t1 CX
  go_upto_region 8 with (go_at_call 23; refine (o_staged H4.out).mono ?_; rintro e w5 ⟨rfl, rfl⟩)
  obtain ⟨hp0, hp1⟩ := hp
  by_cases hpr : 0 ≤ p ∧ p ≤ 200
  · obtain ⟨q0, q1⟩ := hpr
    have CC := Lib.hid (fun w1 (h : Own wA w1 (DL d (powZ zG p) l mb st false emp)) => e_commA p (by omega) HST.out h)
    go_upto_region 10 with fail
    go_upto_region 12 with (first
      | (go_at_call 16; refine (o_power H4.out (stable_star (stable_lg _ _ _ _ _) stable_emp) p (by omega)).mono ?_; rintro e w5 ⟨rfl, h5⟩; have H5 := Lib.hid h5; clear h5)
      | (go_at_call 14; refine (CC.out _ H5.out).mono ?_; rintro e w6 ⟨rfl, z2, k1, k2, k3, h6⟩; have H6 := Lib.hid h6; have K1 := Lib.hid k1; have K2 := Lib.hid k2; clear h6 k1 k2))
    clear CC
    have hm30 := HST.out.2.1
    generalize hok : okA st.length p = ok at *
    have HOKK := Lib.hid hok
    clear hok
    go_upto_region 13 with (go_at_call 20; refine (e_getA ok K1.out K2.out k3 H6.out).mono ?_; rintro e w7 ⟨⟨b7, rfl⟩, h7⟩; have H7 := Lib.hid h7; clear h7)
    go_upto_region 14 with (first
      | (go_at_call 26; refine (s_x _).mono ?_; rintro e w8 ⟨rfl, g8⟩; have H8 := Lib.hid (H7.out.gr (stable_dl _ _ _ _ _ _ stable_emp) g8); clear g8)
      | (go_at_call 24; refine (e_setA ok K2.out _ (secF_size _) H8.out).mono ?_; rintro e w9 ⟨rfl, st9, h9a, h9⟩; have H9 := Lib.hid h9; have H9A := Lib.hid h9a; clear h9 h9a))
    have HO := HOKK.out
    unfold okA at HO
    generalize st.length = m at *
    cases ok with
    | true =>
      rw [Bool.or_eq_true, decide_eq_true_eq, decide_eq_true_eq] at HO
      by_cases hm0 : m = 0
      · subst hm0
        clear HO
        go_wp2_with fail
        go_ret
        exact ⟨rfl, gtrans GA.out H9.out.sub⟩
      · have hq : 2 * (m : Int) + 6 ≤ p := by omega
        have hmb : ((m : Int) == 0) = false := by simp; omega
        clear HO
        go_wp2_with fail
        go_ret
        exact ⟨rfl, gtrans GA.out H9.out.sub⟩
    | false =>
      rw [Bool.or_eq_false_iff, decide_eq_false_iff_not, decide_eq_false_iff_not] at HO
      have hm0 : ¬ m = 0 := HO.1
      have hq : p < 2 * (m : Int) + 6 := by omega
      have hmb : ((m : Int) == 0) = false := by simp; omega
      have CT := o_staged H9.out
      rw [H9A.out rfl] at CT
      have CT2 := Lib.hid CT
      clear HO CT
      go_wp2_with (go_at_call 23; refine CT2.out.mono ?_; rintro e w10 ⟨rfl, rfl⟩)
      go_ret
      exact ⟨rfl, gtrans GA.out H9.out.sub⟩
  · have hpr2 : p < 0 ∨ (0 ≤ p ∧ 200 < p) := by omega
    clear hpr
    rcases hpr2 with hpr2 | ⟨q0, hpr2⟩
    all_goals
      have CC := Lib.hid (fun w1 (h : Own wA w1 (DL d (powZ zG 200) l mb st false emp)) => e_commA 200 (by omega) HST.out h)
      go_upto_region 10 with fail
      go_upto_region 12 with (first
        | (go_at_call 16; refine (o_power H4.out (stable_star (stable_lg _ _ _ _ _) stable_emp) 200 (by omega)).mono ?_; rintro e w5 ⟨rfl, h5⟩; have H5 := Lib.hid h5; clear h5)
        | (go_at_call 14; refine (CC.out _ H5.out).mono ?_; rintro e w6 ⟨rfl, z2, k1, k2, k3, h6⟩; have H6 := Lib.hid h6; have K1 := Lib.hid k1; have K2 := Lib.hid k2; clear h6 k1 k2))
      clear CC
      have hm30 := HST.out.2.1
      generalize hok : okA st.length 200 = ok at *
      have HOKK := Lib.hid hok
      clear hok
      go_upto_region 13 with (go_at_call 20; refine (e_getA ok K1.out K2.out k3 H6.out).mono ?_; rintro e w7 ⟨⟨b7, rfl⟩, h7⟩; have H7 := Lib.hid h7; clear h7)
      go_upto_region 14 with (first
        | (go_at_call 26; refine (s_x _).mono ?_; rintro e w8 ⟨rfl, g8⟩; have H8 := Lib.hid (H7.out.gr (stable_dl _ _ _ _ _ _ stable_emp) g8); clear g8)
        | (go_at_call 24; refine (e_setA ok K2.out _ (secF_size _) H8.out).mono ?_; rintro e w9 ⟨rfl, st9, h9a, h9⟩; have H9 := Lib.hid h9; have H9A := Lib.hid h9a; clear h9 h9a))
      have HO := HOKK.out
      unfold okA at HO
      generalize st.length = m at *
      cases ok with
      | true =>
        rw [Bool.or_eq_true, decide_eq_true_eq, decide_eq_true_eq] at HO
        by_cases hm0 : m = 0
        · subst hm0
          clear HO
          go_wp2_with fail
          go_ret
          exact ⟨rfl, gtrans GA.out H9.out.sub⟩
        · have hq : 2 * (m : Int) + 6 ≤ 200 := by omega
          have hmb : ((m : Int) == 0) = false := by simp; omega
          clear HO
          go_wp2_with fail
          go_ret
          exact ⟨rfl, gtrans GA.out H9.out.sub⟩
      | false =>
        rw [Bool.or_eq_false_iff, decide_eq_false_iff_not, decide_eq_false_iff_not] at HO
        exfalso
        omega
end Go.Proofs.Ytgaibknhdaeidaa.P
namespace Go.Proofs.Ytgaibknhdaeidaa.P
open Go.RowKit
section
open Go.ChangeShapes Go.WideShapes Go.Deep
variable {H : Type} {enc : TypeId × Value → H} {w : World} {base : Nat} {spare : Nat → Bool} {held : Bool}
theorem add_at (bl off j : Nat) : (Addr.add ⟨bl, off, none⟩ j) = ⟨bl, off + j, none⟩ := by
  unfold Addr.add; split
  · rename_i hz; rw [hz]; rfl
  · rfl
theorem open_ints_c {n : Nat} {x : Value} {y : DataW H × List MemPlace} (h : DataW.trod enc Try.prog w base spare held n 23 [x] = some y) (HD : ∀ k ∈ y.1.weights Try.prog 23, k ≤ 140737488351232) :
    ∃ (o : Option Addr) (c : Nat) (A : List Int), x = .slice o A.length c ∧ A.length ≤ 4000000000000000 ∧ RowI w o A := by
  rcases open_ints Try.underlying23 Try.underlying3 (by kernel_rfl) h with ⟨hcs, _⟩ | ⟨a, len, cap, zs, hcs, hb, hl, hm, hzs, hx, hcell, hsz⟩
  · injection hcs with hcs _
    exact ⟨none, 0, [], hcs, by simp, rowI_nil _ _⟩
  · injection hcs with hcs _
    have ed := congrArg Prod.fst hx
    dsimp only at ed
    have hle : len ≤ zs.length := by rw [hzs]; split <;> omega
    refine ⟨some a, cap, zs.take len, by rw [List.length_take, Nat.min_eq_left hle]; exact hcs, ?_, fun j i hj => ?_⟩
    · have hby : Try.prog.bytesOf 3 = 8 := by kernel_rfl
      have := HD ((List.length (lits (H := H) .i64 (zs.take len)) + List.length (lits (H := H) .i64 (zs.drop len))) * Try.prog.bytesOf 3) (by
        rw [ed]
        simp only [DataW.weights, Try.underlying23, List.mem_cons]
        exact .inl trivial)
      rw [hby] at this
      have h2 : (lits (H := H) .i64 (zs.take len)).length = (zs.take len).length := by simp [lits]
      rw [h2] at this
      omega
    · have hjl : j < (zs.take len).length := (List.getElem?_eq_some_iff.1 hj).1
      rw [List.length_take, Nat.min_eq_left hle] at hjl
      have h1 := hcell j (by omega)
      have h2 : zs.getD j 0 = i := by
        rw [List.getElem?_take_of_lt hjl] at hj
        rw [List.getD_eq_getElem?_getD, hj]; rfl
      rw [h2] at h1
      have hsp : a.spot = none := by simpa [Addr.add] using World.cell?_spot (hcell 0 (by omega))
      obtain ⟨bl, off, sp⟩ := a
      dsimp only at hsp
      subst hsp
      exact ⟨bl, off, rfl, by rw [← add_at]; exact h1⟩
theorem open_strs_c {n : Nat} {x : Value} {y : DataW H × List MemPlace} (h : DataW.trod enc Try.prog w base spare held n 24 [x] = some y) (HD : ∀ k ∈ y.1.weights Try.prog 24, k ≤ 140737488351232) :
    ∃ (o : Option Addr) (c : Nat) (A : List ByteArray), x = .slice o A.length c ∧ A.length ≤ 4000000000000000 ∧ RowS w o A ∧ ∀ s ∈ A, s.size ≤ 9223372036854770000 := by
  rcases open_strings Try.underlying24 Try.underlying9 (by kernel_rfl) h with ⟨hcs, _⟩ | ⟨a, len, cap, ss, hcs, hb, hl, hm, hss, hx, hcell, hsz⟩
  · injection hcs with hcs _
    exact ⟨none, 0, [], hcs, by simp, fun j s hj => by simp at hj, fun s hs => by cases hs⟩
  · injection hcs with hcs _
    have ed := congrArg Prod.fst hx
    dsimp only at ed
    have hle : len ≤ ss.length := by rw [hss]; split <;> omega
    refine ⟨some a, cap, ss.take len, by rw [List.length_take, Nat.min_eq_left hle]; exact hcs, ?_, fun j s hj => ?_, fun s hs => ?_⟩
    · have hby : Try.prog.bytesOf 9 = 16 := by kernel_rfl
      have := HD ((List.length (Go.ChangeShapes.strs (ss.take len) : List (DataW H)) + List.length (Go.ChangeShapes.strs (ss.drop len) : List (DataW H))) * Try.prog.bytesOf 9) (by
        rw [ed]
        simp only [DataW.weights, Try.underlying24, List.mem_cons]
        exact .inl trivial)
      rw [hby] at this
      have h2 : (Go.ChangeShapes.strs (ss.take len) : List (DataW H)).length = (ss.take len).length := by simp [Go.ChangeShapes.strs]
      rw [h2] at this
      omega
    · have hjl : j < (ss.take len).length := (List.getElem?_eq_some_iff.1 hj).1
      rw [List.length_take, Nat.min_eq_left hle] at hjl
      have h1 := hcell j (by omega)
      have h2 : ss.getD j ByteArray.empty = s := by
        rw [List.getElem?_take_of_lt hjl] at hj
        rw [List.getD_eq_getElem?_getD, hj]; rfl
      rw [h2] at h1
      have hsp : a.spot = none := by simpa [Addr.add] using World.cell?_spot (hcell 0 (by omega))
      obtain ⟨bl, off, sp⟩ := a
      dsimp only at hsp
      subst hsp
      exact ⟨bl, off, rfl, by rw [← add_at]; exact h1⟩
    · have := HD s.size (by
        rw [ed]
        simp only [DataW.weights, Try.underlying24, List.mem_cons, List.mem_append]
        refine .inr (.inl (weightsAll_mem (d := .lit (.string s.data.toList)) ?_ ?_))
        · show s.size ∈ [s.data.toList.length]
          rw [Array.length_toList]; exact List.mem_singleton.2 rfl
        · unfold Go.ChangeShapes.strs
          exact List.mem_map.2 ⟨s, hs, rfl⟩)
      omega
theorem open_tx {v : Value} {d : DataW H} {ps : List MemPlace} {r : Reach} {b0 : Nat} (hv : Value.okWide Try.prog w r b0 26 v) (h : DataW.Trod enc Try.prog w base spare held 26 v d ps) (HD : ∀ n ∈ d.weights Try.prog 26, n ≤ 140737488351232) :
    ∃ (oI oS : Option Addr) (cI cS : Nat) (I : List Int) (S : List ByteArray), v = .agg #[.slice oI I.length cI, .slice oS S.length cS] ∧ RowI w oI I ∧ RowS w oS S ∧ I.length ≤ 4000000000000000 ∧ S.length ≤ 4000000000000000 ∧ ∀ s ∈ S, s.size ≤ 9223372036854770000 := by
  obtain ⟨c, rfl, hsz⟩ := okWide_struct Try.underlying26 hv
  obtain ⟨fuel, hf⟩ := h
  obtain ⟨ys, n, _, hx, hl, hy, hg⟩ := DataW.trod_struct Try.underlying26 hf
  have e0 : Try.prog.cellsOf 26 = 2 := by kernel_rfl
  rw [e0] at hl
  have ed := congrArg Prod.fst hx
  dsimp only at ed
  obtain ⟨l⟩ := c
  match l, hl, ys, hy with
  | [x0, x1], _, [y0, y1], _ =>
    have h0 : DataW.trod enc Try.prog w base spare held n 23 (([x0, x1].drop 0).take (Try.prog.cellsOf 23)) = some y0 := hg 0 _ rfl
    rw [show Try.prog.cellsOf 23 = 1 by kernel_rfl] at h0
    change DataW.trod enc Try.prog w base spare held n 23 [x0] = some y0 at h0
    have h1 : DataW.trod enc Try.prog w base spare held n 24 (([x0, x1].drop 1).take (Try.prog.cellsOf 24)) = some y1 := hg 1 _ rfl
    rw [show Try.prog.cellsOf 24 = 1 by kernel_rfl] at h1
    change DataW.trod enc Try.prog w base spare held n 24 [x1] = some y1 at h1
    have hw : d.weights Try.prog 26 = y0.1.weights Try.prog 23 ++ (y1.1.weights Try.prog 24 ++ []) := by
      rw [ed]
      simp only [DataW.weights, Try.underlying26]
      rfl
    obtain ⟨oI, cI, I, rfl, a1, a2⟩ := open_ints_c h0 (fun k hk => HD k (by rw [hw]; exact List.mem_append.2 (.inl hk)))
    obtain ⟨oS, cS, S, rfl, b1, b2, b3⟩ := open_strs_c h1 (fun k hk => HD k (by rw [hw, List.append_nil]; exact List.mem_append.2 (.inr hk)))
    exact ⟨oI, oS, cI, cS, I, S, rfl, a2, b2, a1, b1, b3⟩
end
end Go.Proofs.Ytgaibknhdaeidaa.P
