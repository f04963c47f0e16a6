/- Stage 7: opening, reading first and then writing; sizes and waits over acts: plain facts. No condition. -/
import Derived.Test.YtgaibknhdaeidaaGreatA21
import Derived.Test.YtgaibknhdaeidaaGreatN10
set_option linter.unusedVariables false
set_option maxRecDepth 50000
set_option linter.unusedSimpArgs false
set_option maxRecDepth 100000
namespace Go.Proofs.YtgaibknhdaeidaaGreat.P
open Go.RowKit
theorem exec_cons (o : DOp) (l : List DOp) (z : DState) : exec (o :: l) z = thenE (stepD z o) (exec l) := rfl
theorem fold_far (q : Int) : ∀ (l : List (Int × ByteArray)) (s : ByteArray), (∀ x ∈ l, x.1 ≠ q) → l.foldl (stepR q) s = s
  | [], s, _ => rfl
  | x :: l, s, h => by
    rw [List.foldl_cons]
    have : stepR q s x = s := by unfold stepR; rw [decide_eq_false (h x (List.mem_cons_self ..))]; rfl
    rw [this]
    exact fold_far q l s (fun y hy => h y (List.mem_cons_of_mem _ hy))
/-- The sectors that a head names, with what is held for them. -/
def heldP : Nat → List Int → DState → List (Int × ByteArray)
  | _, [], _ => []
  | k, i :: l, z => (i, readB z (2 + (k : Int))) :: heldP (k + 1) l z
theorem held_fst : ∀ (hs : List Int) (k : Nat) (z : DState), (heldP k hs z).map (·.1) = hs
  | [], _, _ => rfl
  | i :: l, k, z => by show i :: (heldP (k + 1) l z).map (·.1) = _; rw [held_fst l]
theorem held_len (hs : List Int) (k : Nat) (z : DState) : (heldP k hs z).length = hs.length := by
  have := congrArg List.length (held_fst hs k z)
  rw [List.length_map] at this
  exact this
theorem held_at : ∀ (hs : List Int) (k : Nat) (z : DState) (j : Nat), j < hs.length → ((heldP k hs z).map (·.2))[j]? = some (readB z (2 + ((k + j : Nat) : Int)))
  | [], _, _, j, h => by simp at h
  | i :: l, k, z, 0, _ => rfl
  | i :: l, k, z, j + 1, h => by
    show ((heldP (k + 1) l z).map (·.2))[j]? = _
    rw [held_at l (k + 1) z j (by simpa using h), show k + 1 + j = k + (j + 1) by omega]
theorem read_low {z z' : DState} (hs : z'.safe = z.safe) (hw : z'.wait = z.wait ∨ ∃ x, 32 ≤ x.1 ∧ z'.wait = z.wait ++ [x]) (ho : z'.off = z.off) (q : Nat) (hq : q < 32) : readR z' (q : Int) = readR z q ∧ readB z' (q : Int) = readB z q := by
  have hh : hasB z' (q : Int) = hasB z q := by unfold hasB; rw [hs]
  have hS : readS z' q = readS z q := by
    unfold readS
    rw [hs]
    rcases hw with e | ⟨x, hx, e⟩
    · rw [e]
    · rw [e, List.foldl_append]
      show stepR q _ x = _
      unfold stepR
      rw [decide_eq_false (by omega)]; rfl
  unfold readR readB
  rw [ho, hh, Int.toNat_natCast, hS]
  exact ⟨rfl, rfl⟩
theorem held_same : ∀ (hs : List Int) (k : Nat) (z z' : DState), (∀ q : Nat, q < 32 → readB z' (q : Int) = readB z q) → k + hs.length ≤ 30 → heldP k hs z' = heldP k hs z
  | [], _, _, _, _, _ => rfl
  | i :: l, k, z, z', h, hk => by
    rw [List.length_cons] at hk
    have e := h (2 + k) (by omega)
    rw [show ((2 + k : Nat) : Int) = 2 + (k : Int) by omega] at e
    show (i, readB z' (2 + (k : Int))) :: heldP (k + 1) l z' = (i, readB z (2 + (k : Int))) :: heldP (k + 1) l z
    rw [e, held_same l (k + 1) z z' h (by omega)]
/-- Each read ahead of its write, or all reads ahead of all writes: the same. -/
theorem redo_held : ∀ (hs : List Int) (k : Nat) (z : DState), z.off = false → 48 ≤ z.safe.length → SZ z → k + hs.length ≤ 30 → (∀ i ∈ hs, 0 ≤ i ∧ 32 + i < z.safe.length) →
    redoL k hs z = exec (homeOps (heldP k hs z)) z
  | [], k, z, _, _, _, _, _ => rfl
  | i :: t, k, z, ho, hl, hz, hk, hx => by
    rw [List.length_cons] at hk
    have h0 := hx i (List.mem_cons_self ..)
    have hhas : hasB z (2 + (k : Int)) = true := by
      unfold hasB; rw [decide_eq_true (by omega : (0 : Int) ≤ 2 + (k : Int)), decide_eq_true (by omega : (2 + (k : Int)) < z.safe.length)]; rfl
    have hr : readR z (2 + (k : Int)) = 0 := by unfold readR; rw [ho, hhas]; rfl
    have h64 := read_size hz hr
    have hs := step_wr z ho (32 + i) (readB z (2 + (k : Int))) ⟨by omega, by omega⟩ h64
    show (bif decide (readR z (2 + (k : Int)) = 0) then thenE (stepD z (.wr (32 + i) (readB z (2 + (k : Int))))) (redoL (k + 1) t) else (readR z (2 + (k : Int)), z)) = exec (.wr (32 + i) (readB z (2 + (k : Int))) :: homeOps (heldP (k + 1) t z)) z
    rw [hr, decide_eq_true rfl, cond_true, exec_cons]
    rcases hs with ⟨s1, s2, s3, s4⟩ | ⟨s1, _, _⟩
    · rw [thenE_ok s1, thenE_ok s1]
      have hz2 : SZ (stepD z (.wr (32 + i) (readB z (2 + (k : Int))))).2 := ⟨by rw [s3]; exact hz.1, fun x hx => by
        rw [s4] at hx
        rcases List.mem_append.1 hx with e | e
        · exact hz.2 x e
        · rw [List.mem_singleton.1 e]; exact h64⟩
      rw [redo_held t (k + 1) _ s2 (by rw [s3]; exact hl) hz2 (by omega) (fun j hj => by rw [s3]; exact hx j (List.mem_cons_of_mem _ hj))]
      rw [held_same t (k + 1) z _ (fun q hq => (read_low s3 (.inr ⟨_, by show 32 ≤ 32 + i; omega, s4⟩) (by rw [s2, ho]) q hq).2) (by omega)]
    · rw [thenE_no (by rw [s1]; decide), thenE_no (by rw [s1]; decide)]
theorem redoF_held (hs : List Int) (z : DState) (h0 : 0 < hs.length) (ho : z.off = false) (hl : 48 ≤ z.safe.length) (hz : SZ z) (hk : hs.length ≤ 30) (hx : ∀ i ∈ hs, 0 ≤ i ∧ 32 + i < z.safe.length) : redoF hs z = exec (installOps (heldP 0 hs z)) z := by
  unfold redoF installOps
  rw [decide_eq_false (by omega), cond_false, exec_then, redo_held hs 0 z ho hl hz (by omega) hx]
  rfl
theorem read_on {z : DState} {i : Int} (h : readR z i = 0) : z.off = false := by
  unfold readR at h
  cases ho : z.off with
  | true => rw [ho] at h; cases h
  | false => rfl
/-! What stays over acts. -/
theorem sz_step (z : DState) (h : SZ z) (o : DOp) : SZ (stepD z o).2 := by
  have ha : SZ (actZ z) := by
    have ak := actZ_keeps z
    exact ⟨by rw [ak.2]; exact h.1, by rw [ak.1]; exact h.2⟩
  cases o with
  | wr i s =>
    show SZ (writeZ z i s)
    unfold writeZ
    cases z.off with
    | true => exact h
    | false =>
      cases hh : (hasB z i && decide (s.size = 64)) with
      | false => exact h
      | true =>
        cases actB z with
        | false => exact ha
        | true =>
          refine ⟨ha.1, fun x hx => ?_⟩
          rcases List.mem_append.1 hx with e | e
          · exact ha.2 x e
          · rw [List.mem_singleton.1 e]; exact of_decide_eq_true (Bool.and_eq_true_iff.1 hh).2
  | fl =>
    show SZ (flushZ z)
    unfold flushZ
    cases z.off with
    | true => exact h
    | false =>
      cases actB z with
      | false => exact ha
      | true => exact ⟨sz_set _ _ _ h.1 h.2 _, fun x hx => by cases hx⟩
theorem szx_exec : ∀ (l : List DOp) (z : DState), SZ z → SZ (exec l z).2
  | [], z, h => h
  | o :: l, z, h => by
    by_cases k : (stepD z o).1 = 0
    · rw [exec_ok k]; exact szx_exec l _ (sz_step z h o)
    · rw [exec_no k]; exact sz_step z h o
theorem wzx_exec : ∀ (l : List DOp) (z : DState), WZ z → WZ (exec l z).2
  | [], z, h => h
  | o :: l, z, h => by
    have h1 : WZ (stepD z o).2 := by
      cases o with
      | wr i s => exact wz_write z h i s
      | fl => exact wz_flush z h
    by_cases k : (stepD z o).1 = 0
    · rw [exec_ok k]; exact wzx_exec l _ h1
    · rw [exec_no k]; exact h1
theorem fl_empty (z : DState) (h : (stepD z .fl).1 = 0) : (stepD z .fl).2.wait = [] := by
  change flushR z = 0 at h
  show (flushZ z).wait = []
  unfold flushR at h
  unfold flushZ
  cases ho : z.off with
  | true => rw [ho] at h; cases h
  | false =>
    rw [ho] at h
    cases ha : actB z with
    | false => rw [ha] at h; cases h
    | true => rfl
theorem exec_end (l : List DOp) (z : DState) (h : (exec (l ++ [.fl]) z).1 = 0) : (exec (l ++ [.fl]) z).2.wait = [] := by
  rw [exec_then] at h ⊢
  by_cases k : (exec l z).1 = 0
  · rw [thenE_ok k, exec_one] at h ⊢
    exact fl_empty _ h
  · rw [thenE_no k] at h
    exact absurd h k
theorem install_shape (st : List (Int × ByteArray)) : installOps st = (homeOps st ++ [.fl, .wr 1 (headF [])]) ++ [.fl] := by
  unfold installOps pointOps; simp
theorem commit_shape (st : List (Int × ByteArray)) : commitOps st = (holdOps 0 st ++ (.fl :: (pointOps (st.map (·.1)) ++ (homeOps st ++ [.fl, .wr 1 (headF [])])))) ++ [.fl] := by
  unfold commitOps; rw [install_shape]; simp
theorem commit_num (st : List (Int × ByteArray)) : (commitOps st).length = 2 * st.length + 6 := by
  unfold commitOps installOps pointOps
  simp only [List.length_append, List.length_cons, List.length_nil, hold_len, home_len]
  omega
theorem install_num (st : List (Int × ByteArray)) : (installOps st).length = st.length + 3 := by
  unfold installOps pointOps
  simp only [List.length_append, List.length_cons, List.length_nil, home_len]
/-- What opening leaves. -/
theorem open_keeps (z : DState) (hz : SZ z) (hwz : WZ z) (h48 : 48 ≤ z.safe.length) (hw : z.wait = []) : SZ (openQ z).2 ∧ WZ (openQ z).2 ∧ (openQ z).2.safe.length = z.safe.length ∧ (openQ z).2.wait.length ≤ 100 ∧ ((openQ z).1 = 0 → (openQ z).2.wait = []) := by
  have h0 : SZ z ∧ WZ z ∧ z.safe.length = z.safe.length ∧ z.wait.length ≤ 100 ∧ ((0 : Int) = 0 → z.wait = []) := ⟨hz, hwz, rfl, by rw [hw]; show 0 ≤ _; omega, fun _ => hw⟩
  unfold openQ
  by_cases hr : readR z 1 = 0
  · rw [decide_eq_true hr, cond_true]
    cases hp : parseH (readB z 1) ((z.safe.length : Int) - 32) with
    | none => exact ⟨hz, hwz, rfl, by rw [hw]; show 0 ≤ _; omega, fun _ => hw⟩
    | some hs =>
      obtain ⟨hl, hb⟩ := parse_some hp
      show SZ (redoF hs z).2 ∧ WZ (redoF hs z).2 ∧ (redoF hs z).2.safe.length = z.safe.length ∧ (redoF hs z).2.wait.length ≤ 100 ∧ ((redoF hs z).1 = 0 → (redoF hs z).2.wait = [])
      by_cases h00 : 0 < hs.length
      · rw [redoF_held hs z h00 (read_on hr) h48 hz hl (fun i hi => by have := hb i hi; omega)]
        refine ⟨szx_exec _ _ hz, wzx_exec _ _ hwz, exec_len _ _, ?_, fun e => ?_⟩
        · have := exec_wait (installOps (heldP 0 hs z)) z
          rw [install_num, held_len, hw] at this
          have e0 : ([] : List (Int × ByteArray)).length = 0 := rfl
          omega
        · rw [install_shape] at e ⊢
          exact exec_end _ _ e
      · have e : redoF hs z = (0, z) := by unfold redoF; rw [decide_eq_true (by omega)]; rfl
        rw [e]; exact ⟨hz, hwz, rfl, by rw [hw]; show 0 ≤ _; omega, fun _ => hw⟩
  · rw [decide_eq_false hr, cond_false]
    exact ⟨hz, hwz, rfl, by rw [hw]; show 0 ≤ _; omega, fun e => absurd e hr⟩
theorem comm_keeps (st : List (Int × ByteArray)) (z : DState) (hz : SZ z) (hwz : WZ z) (hw : z.wait = []) (hl : st.length ≤ 30) : SZ (exec (commitOps st) z).2 ∧ WZ (exec (commitOps st) z).2 ∧ (exec (commitOps st) z).2.safe.length = z.safe.length ∧ (exec (commitOps st) z).2.wait.length ≤ 100 ∧ ((exec (commitOps st) z).1 = 0 → (exec (commitOps st) z).2.wait = []) := by
  refine ⟨szx_exec _ _ hz, wzx_exec _ _ hwz, exec_len _ _, ?_, fun e => ?_⟩
  · have := exec_wait (commitOps st) z
    rw [commit_num, hw] at this
    have e0 : ([] : List (Int × ByteArray)).length = 0 := rfl
    omega
  · rw [commit_shape] at e ⊢
    exact exec_end _ _ e
end Go.Proofs.YtgaibknhdaeidaaGreat.P
namespace Go.Proofs.YtgaibknhdaeidaaGreat.P
open Go.RowKit
variable {w0 w : World} {d l : Nat} {z : DState} {st : List (Int × ByteArray)} {dead : Bool} {R : Asn}
theorem Own.rsafe2 (h : Own w0 w (Star (rdk d z) R)) : WZ z ∧ ∃ sb sc, w.cell? ⟨d, 0, none⟩ = some (.slice (some ⟨sb, 0, none⟩) z.safe.length sc) := by
  obtain ⟨F, k1, sb, wb, ⟨sc, wo, wc, k2, _⟩, _⟩ := h.left.get
  exact ⟨k1, sb, sc, blk_cell k2 0 rfl⟩
theorem own_newrlog (h : Own w0 w (Star (rdk d z) R)) (hs : Stable R) : Own w0 (w.alloc (.cells #[.pointer (some ⟨d, 0, none⟩), .slice none 0 0, .bool false] 72)) (RDL d z w.heap.size [] false R) :=
  (h.add (stable_star (stable_rdk _ _) hs) ((Gr.refl _).alloc (Nat.le_refl _) _) (A := rlA w.heap.size d [] false) ⟨fun x => x = w.heap.size, ⟨rfl, trivial, .slice none 0 0, blk_new _ _, World.ownsRow_nil _ _ _ _, fun b hb => by cases hb⟩, fun x hx => by rw [hx]; simp⟩).swap2
def ROpenP (w0 : World) (d : Nat) (R : Asn) (q : Int × DState) (e : Ending) (w' : World) : Prop :=
  (q.1 = 0 → ∃ l, e = .returned (.tuple #[.pointer (some ⟨l, 0, none⟩), .int .i64 0]) ∧ Own w0 w' (RDL d q.2 l [] false R)) ∧ (q.1 ≠ 0 → e = .returned (.tuple #[.pointer none, .int .i64 q.1]) ∧ Own w0 w' (Star (rdk d q.2) R))
set_option maxHeartbeats 3200000 in
theorem q_open (h : Own w0 w (Star (rdk d z) R)) (hs : Stable R) (hz : SZ z) (hw : z.wait.length ≤ 2000000000000) :
    Calls Tryz.prog 7 #[.pointer (some ⟨d, 0, none⟩)] w (ROpenP w0 d R (openQ z)) := by
  have C1 := Lib.hid (r_read h 1 (by omega))
  obtain ⟨hwz, sb, sc, c0⟩ := h.rsafe2
  have hmost := hwz.2.1
  have hm48 := hwz.1
  have HS := Lib.hid hs
  unfold openQ
  by_cases hr : readR z 1 = 0
  · have hsz := read_size hz hr
    have HFH := Lib.hid (e_homes w (readB z 1) ((z.safe.length : Int) - 32) hsz (by omega) (by omega))
    have k1 : IntKind.i64.wrap ((z.safe.length : Int) - 32) = (z.safe.length : Int) - 32 := IntWalk.i64_in _ (by omega)
    rw [decide_eq_true hr, cond_true]
    rw [hr] at C1
    cases hp : parseH (readB z 1) ((z.safe.length : Int) - 32) with
    | none =>
      have HN : Hid (∀ w', Gr w w' → Own w0 w' (Star (rdk d z) R)) := Lib.hid (fun w' g => h.gr (stable_star (stable_rdk _ _) hs) g)
      have CF : Hid (Calls Tryz.prog 32 #[.string (readB z 1), .int .i64 ((z.safe.length : Int) - 32)] w fun e w2 => (∃ o n c, e = .returned (.tuple #[.slice o n c, .bool false])) ∧ Own w0 w2 (Star (rdk d z) R)) :=
        Lib.hid (HFH.out.mono (by
          rintro e w2 ⟨o, n, c, rfl, g, _⟩
          rw [hp]
          exact ⟨⟨o, n, c, rfl⟩, HN.out _ g⟩))
      clear hs hz hsz hp hr h HFH HN hwz
      generalize readB z 1 = s at *
      generalize z.safe.length = mm at *
      go_enter Tryz.func7, Tryz.ntmps7
      go_wp2_with (first
        | (go_at_call 31; refine C1.out.mono ?_; rintro e w1 ⟨rfl, hw1⟩; rw [hw1]; clear hw1 w1)
        | (go_at_call 32; refine CF.out.mono ?_; rintro e w2 ⟨⟨o, n, c, rfl⟩, h2⟩; have H2 := Lib.hid h2; clear h2))
      refine bodyPost_ret (results_tmp2 rfl _ _ _) rfl ⟨fun h => absurd h (show ¬ ((6 : Int) = 0) by omega), fun _ => ⟨rfl, H2.out⟩⟩
    | some hs' =>
      obtain ⟨hl, hb⟩ := parse_some hp
      have CF : Hid (Calls Tryz.prog 32 #[.string (readB z 1), .int .i64 ((z.safe.length : Int) - 32)] w fun e w2 => ∃ o c, e = .returned (.tuple #[.slice o hs'.length c, .bool true]) ∧ Own w0 w2 (Star (rdk d z) (Star (rowIA o hs') R))) :=
        Lib.hid (HFH.out.mono (by
          rintro e w2 ⟨o, n, c, rfl, g, hall⟩
          obtain ⟨rfl, hrow, hnew⟩ := hall hs' hp
          rw [hp]
          refine ⟨o, c, rfl, ?_⟩
          exact (h.add (stable_star (stable_rdk _ _) hs) g (A := rowIA o hs') ⟨fun x => ∃ off, o = some ⟨x, off, none⟩, ⟨hrow, fun b off e => ⟨off, e⟩⟩, fun x hx => by
            obtain ⟨off, e⟩ := hx
            exact hnew x off e⟩).swap2))
      show Calls _ _ _ _ (ROpenP w0 d R (redoF hs' z))
      have HFST := Lib.hid (held_fst hs' 0 z)
      have HLEN := Lib.hid (held_len hs' 0 z)
      have HAT := Lib.hid (held_at hs' 0 z)
      have HRED : Hid (0 < hs'.length → redoF hs' z = exec (installOps (heldP 0 hs' z)) z) := Lib.hid (fun h0 => redoF_held hs' z h0 (read_on hr) hm48 hz hl (fun i hi => by have := hb i hi; omega))
      have HRED0 : Hid (¬ 0 < hs'.length → redoF hs' z = (0, z)) := Lib.hid (fun h0 => by unfold redoF; rw [decide_eq_true (by omega)]; rfl)
      have HB : Hid (∀ x ∈ heldP 0 hs' z, 0 ≤ x.1 ∧ x.1 < 65536) := Lib.hid (fun x hx => by
        have hm : x.1 ∈ (heldP 0 hs' z).map (·.1) := List.mem_map.2 ⟨x, hx, rfl⟩
        rw [held_fst] at hm
        have := hb _ hm
        omega)
      clear hs hz hsz hp hr h HFH hb hwz
      generalize readB z 1 = s at *
      generalize heldP 0 hs' z = P at *
      obtain ⟨Si, Sh, Sa, Sb, Sc⟩ := info_parts strInfo
      obtain ⟨n, hn⟩ : ∃ n, hs'.length = n := ⟨_, rfl⟩
      rw [hn] at CF HLEN HAT hl HRED HRED0
      clear hn
      by_cases h0 : 0 < n
      · rw [HRED.out h0]
        have CI : Hid (∀ o c o2 c2 wr, Own w0 wr (Star (mkS o2 c2 n (P.map (·.2))) (Star (rdk d z) (Star (rowIA o hs') R))) → Calls Tryz.prog 33 #[.pointer (some ⟨d, 0, none⟩), .slice o n c, .slice o2 n c2] wr fun e w2 => e = .returned (.int .i64 (exec (installOps P) z).1) ∧ Own w0 w2 (Star (rdk d (exec (installOps P) z).2) R)) := Lib.hid (fun o c o2 c2 wr ho => by
          have h2 := mkS_row ho
          have h3 := h2.rot3'
          rw [← HFST.out] at h3
          have := q_install P o o2 c c2 h3 HS.out (by rw [HLEN.out]; omega) HB.out (by omega)
          rw [HLEN.out] at this
          refine this.mono ?_
          rintro e w2 ⟨e1, e2⟩
          exact ⟨e1, e2.drop2.drop2⟩)
        have CRD : Hid (∀ o o2 c2 A (k : Nat) wr, Own w0 wr (Star (mkS o2 c2 k A) (Star (rdk d z) (Star (rowIA o hs') R))) → Calls Tryz.prog 31 #[.pointer (some ⟨d, 0, none⟩), .int .i64 (2 + (k : Int))] wr fun e w2 => e = .returned (.tuple #[.string (readB z (2 + (k : Int))), .int .i64 (readR z (2 + (k : Int)))]) ∧ w2 = wr) := Lib.hid (fun o o2 c2 A k wr ho => r_read ho.swap2 _ (by omega))
        have SRR : Hid (∀ o, Stable (Star (rdk d z) (Star (rowIA o hs') R))) := Lib.hid (fun o => stable_star (stable_rdk _ _) (stable_star (stable_rowI _ _) HS.out))
        go_enter Tryz.func7, Tryz.ntmps7
        go_wp2_with (first
          | (go_at_call 31; refine C1.out.mono ?_; rintro e w1 ⟨rfl, hw1⟩; rw [hw1]; clear hw1 w1)
          | (go_at_call 32; refine CF.out.mono ?_; rintro e w2 ⟨o, c, rfl, h2⟩; have H2 := Lib.hid h2; clear h2))
        have H20 : Hid (Own w0 w2 (Star (mkS none 0 0 ((P.map (·.2)).take 0)) (Star (rdk d z) (Star (rowIA o hs') R)))) := Lib.hid (H2.out.add (SRR.out _) (Gr.refl _) ⟨fun _ => False, ⟨World.ownsRow_nil _ _ _ _, fun b hb => by cases hb⟩, fun x hx => hx.elim⟩)
        clear c0 k1 CF C1 H2
        go_loopw [8, 9] (fun v8 v9 wr => ∃ (k : Nat) (o2 : Option Addr) (c2 : Nat), k ≤ n ∧ v9 = .int .i64 k ∧ v8 = .slice o2 k c2 ∧ Own w0 wr (Star (mkS o2 c2 k ((P.map (·.2)).take k)) (Star (rdk d z) (Star (rowIA o hs') R)))) (fun _ v _ => n - (intOf v).toNat)
        case atStart => exact ⟨0, none, 0, Nat.zero_le _, rfl, rfl, H20.out⟩
        case round =>
          obtain ⟨k, o2, c2, hk, rfl, rfl, ho⟩ := hrel
          have HO := Lib.hid ho
          clear ho H20
          by_cases hlt : k < n
          · have dl : decide (k < n) = true := decide_eq_true hlt
            have n5 : IntKind.i64.wrap ((k : Int) + 1) = (k : Int) + 1 := IntWalk.i64_in _ (by omega)
            have n6 : IntKind.i64.wrap (2 + (k : Int)) = 2 + (k : Int) := IntWalk.i64_in _ (by omega)
            have TS : Hid ((P.map (·.2)).take (k + 1) = (P.map (·.2)).take k ++ [readB z (2 + (k : Int))]) := Lib.hid (by
              have := HAT.out k hlt
              rw [Nat.zero_add] at this
              exact take_of_some this)
            have CR := Lib.hid (CRD.out _ _ _ _ _ _ HO.out)
            generalize readB z (2 + (k : Int)) = xs at *
            generalize readR z (2 + (k : Int)) = xr at *
            have H5 := Lib.hid (HO.out.gr (stable_star (stable_row _ _ _ _ _) (SRR.out o)) ((Gr.refl _).alloc (Nat.le_refl _) (.cells #[.string xs] 9)))
            have HROW := Lib.hid H5.out.row
            go_wp2_with (first
              | (go_at_call 31; refine CR.out.mono ?_; rintro e w1 ⟨rfl, hw1⟩; rw [hw1]; clear hw1 w1)
              | (at_builtin; refine wpList_append_lies _ rfl _ _ _ rfl 0 9 Si (.string ⟨#[]⟩) 1 16 Tryz.underlying22 Sh Sa Sb Sc rfl (by omega) (.slice o2 k c2) k (strs ((P.map (·.2)).take k)) rfl HROW.out ⟨_, 0, none⟩ 1 1 [.string xs] rfl rfl (World.news_of_block (cs := #[.string xs]) (blk_new _ _)) (by simp [Value.oneCell']) (by omega) (by unfold maxLen; omega) (by omega) (by omega) (wr.heap.size + 1) (by simp) ?_; intro g2 cap2 w9 hown8 hgrow8 hat8 hlt8; have H9 := Lib.hid (H5.out.grown (g := g2) (SRR.out o) hown8 rfl hgrow8 (hat8.elim .inl (fun e => .inr (by simp; omega))) hlt8); clear hown8 hgrow8 hat8 hlt8 H5 HROW))
            go_roundw
            case rel =>
              refine ⟨k + 1, _, _, by omega, by go_num, rfl, ?_⟩
              have := H9.out
              rw [strs_put] at this
              rw [TS.out]
              exact this
            case measure => simp [intOf]; omega
          · obtain rfl : k = n := by omega
            have dl : decide (k < k) = false := decide_eq_false (by omega)
            have HO2 := HO.out
            rw [List.take_of_length_le (by rw [List.length_map, HLEN.out]; omega)] at HO2
            have CII := Lib.hid (fun c => CI.out o c o2 c2 wr HO2)
            clear HO2 CI
            generalize exec (installOps P) z = q at *
            obtain ⟨q1, q2⟩ := q
            dsimp only at CII
            by_cases k0 : q1 = 0
            · subst k0
              go_wp2_with (go_at_call 33; refine (CII.out _).mono ?_; rintro e w3 ⟨rfl, h3⟩; have H3 := Lib.hid h3; have HNL := Lib.hid (own_newrlog h3 HS.out); clear h3)
              refine bodyPost_ret (results_tmp2 rfl _ _ _) rfl ⟨fun _ => ⟨_, rfl, HNL.out⟩, fun h => absurd rfl h⟩
            · go_wp2_with (go_at_call 33; refine (CII.out _).mono ?_; rintro e w3 ⟨rfl, h3⟩; have H3 := Lib.hid h3; clear h3)
              refine bodyPost_ret (results_tmp2 rfl _ _ _) rfl ⟨fun h => absurd h k0, fun _ => ⟨rfl, H3.out⟩⟩
      · rw [HRED0.out h0]
        obtain rfl : n = 0 := by omega
        have h00 : ¬ (0 : Int) < ((0 : Nat) : Int) := by omega
        go_enter Tryz.func7, Tryz.ntmps7
        go_wp2_with (first
          | (go_at_call 31; refine C1.out.mono ?_; rintro e w1 ⟨rfl, hw1⟩; rw [hw1]; clear hw1 w1)
          | (go_at_call 32; refine CF.out.mono ?_; rintro e w2 ⟨o, c, rfl, h2⟩; have HNL := Lib.hid (own_newrlog h2.drop2 HS.out); clear h2))
        refine bodyPost_ret (results_tmp2 rfl _ _ _) rfl ⟨fun _ => ⟨_, rfl, HNL.out⟩, fun h => absurd rfl h⟩
  · have HH : Hid (Own w0 w (Star (rdk d z) R)) := Lib.hid h
    rw [decide_eq_false hr, cond_false]
    have hrb : (readR z 1 != 0) = true := by simpa using hr
    clear hs hz h hwz
    generalize readR z 1 = rr at *
    generalize readB z 1 = s at *
    go_enter Tryz.func7, Tryz.ntmps7
    go_wp2_with (go_at_call 31; refine C1.out.mono ?_; rintro e w1 ⟨rfl, hw1⟩; rw [hw1]; clear hw1 w1)
    refine bodyPost_ret (results_tmp2 rfl _ _ _) rfl ⟨fun h => absurd h hr, fun _ => ⟨rfl, HH.out⟩⟩
end Go.Proofs.YtgaibknhdaeidaaGreat.P
