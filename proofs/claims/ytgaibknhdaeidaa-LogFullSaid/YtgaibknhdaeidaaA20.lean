/- Stage 7: a commit made again. No condition. -/
import Derived.Test.YtgaibknhdaeidaaA19
set_option linter.unusedVariables false
set_option maxRecDepth 50000
namespace Go.Proofs.Ytgaibknhdaeidaa.P
open Go.RowKit
def redoL : Nat → List Int → DState → Int × DState
  | _, [], z => (0, z)
  | k, i :: l, z => bif decide (readR z (2 + (k : Int)) = 0) then thenE (stepD z (.wr (32 + i) (readB z (2 + (k : Int))))) (redoL (k + 1) l) else (readR z (2 + (k : Int)), z)
def redoF (hs : List Int) (z : DState) : Int × DState := bif decide (hs.length = 0) then (0, z) else thenE (redoL 0 hs z) (fun z => thenE (stepD z .fl) (exec (pointOps [])))
theorem own_r {w0 w : World} {d : Nat} {z : DState} {l mb : Nat} {st : List (Int × ByteArray)} {dead : Bool} {R : Asn} (h : Own w0 w (DL d z l mb st dead R)) (hs : Stable R) (i : Int) (hl : z.wait.length ≤ 4000000000000) :
    Calls Try.prog 30 #[.pointer (some ⟨d, 0, none⟩), .int .i64 i] w fun e w' => e = .returned (.tuple #[.string (readB z i), .int .i64 (readR z i)]) ∧ Own w0 w' (DL d z l mb st dead R) :=
  o_read h (stable_star (stable_lg _ _ _ _ _) hs) i hl
theorem redo_at {k : Nat} {i : Int} {hs : List Int} (h : hs[k]? = some i) : hs.drop k = i :: hs.drop (k + 1) := by
  obtain ⟨hk, e⟩ := List.getElem?_eq_some_iff.1 h
  rw [List.drop_eq_getElem_cons hk, e]
set_option maxHeartbeats 1600000 in
theorem o_redo {w0 w : World} {d : Nat} {z : DState} {l mb : Nat} {st : List (Int × ByteArray)} {dead : Bool} {R : Asn} (o : Option Addr) (c : Nat) (hs : List Int) (h : Own w0 w (DL d z l mb st dead (Star (rowIA o hs) R))) (hsR : Stable R) (hl : hs.length ≤ 30) (hb : ∀ i ∈ hs, 0 ≤ i ∧ i < 65536) (hw : z.wait.length ≤ 2000000000000) :
    Calls Try.prog 32 #[.pointer (some ⟨l, 0, none⟩), .slice o hs.length c] w (EO w0 (fun z => DL d z l mb st dead (Star (rowIA o hs) R)) (redoF hs z)) := by
  have hs2 : Stable (Star (rowIA o hs) R) := stable_star (stable_rowI _ _) hsR
  unfold redoF
  by_cases h0 : hs.length = 0
  · rw [decide_eq_true h0, cond_true, h0]
    have H := Lib.hid h
    clear h
    go_enter Try.func32, Try.ntmps32
    go_wp2
    go_ret
    exact ⟨rfl, H.out⟩
  · rw [decide_eq_false h0, cond_false]
    have CR : Hid (∀ z' i wr, z'.wait.length ≤ z.wait.length + 30 → Own w0 wr (DL d z' l mb st dead (Star (rowIA o hs) R)) → Calls Try.prog 30 #[.pointer (some ⟨d, 0, none⟩), .int .i64 i] wr fun e w2 => e = .returned (.tuple #[.string (readB z' i), .int .i64 (readR z' i)]) ∧ Own w0 w2 (DL d z' l mb st dead (Star (rowIA o hs) R))) :=
      Lib.hid (fun z' i wr hz ho => own_r ho hs2 i (by omega))
    have CW : Hid (∀ z' i s wr, z'.wait.length ≤ z.wait.length + 30 → Own w0 wr (DL d z' l mb st dead (Star (rowIA o hs) R)) → Calls Try.prog 52 #[.pointer (some ⟨d, 0, none⟩), .int .i64 i, .string s] wr fun e w2 => e = .returned (.int .i64 (stepD z' (.wr i s)).1) ∧ Own w0 w2 (DL d (stepD z' (.wr i s)).2 l mb st dead (Star (rowIA o hs) R))) :=
      Lib.hid (fun z' i s wr hz ho => own_w ho hs2 i s (by omega))
    have CF : Hid (∀ z' wr, z'.wait.length ≤ z.wait.length + 30 → Own w0 wr (DL d z' l mb st dead (Star (rowIA o hs) R)) → Calls Try.prog 53 #[.pointer (some ⟨d, 0, none⟩)] wr fun e w2 => e = .returned (.int .i64 (stepD z' .fl).1) ∧ Own w0 w2 (DL d (stepD z' .fl).2 l mb st dead (Star (rowIA o hs) R))) :=
      Lib.hid (fun z' wr hz ho => own_f ho hs2 (by omega))
    have CP : Hid (∀ z' wr, z'.wait.length ≤ z.wait.length + 31 → Own w0 wr (DL d z' l mb st dead (Star (rowIA o hs) R)) → Calls Try.prog 54 #[.pointer (some ⟨l, 0, none⟩), .slice none 0 0] wr (EO w0 (fun z => DL d z l mb st dead (Star (rowIA o hs) R)) (exec (pointOps []) z'))) :=
      Lib.hid (fun z' wr hz ho => o_point ho hs2 none 0 [] (rowI_nil _ _) (by simp) (fun i hi => by cases hi) (by omega))
    have HB := Lib.hid (fun k i (e : hs[k]? = some i) => hb i (List.mem_of_getElem? e))
    have HG : Hid (∀ k, k < hs.length → ∃ i, hs[k]? = some i) := Lib.hid (fun k h => ⟨_, List.getElem?_eq_getElem h⟩)
    have HD : Hid (hs.drop hs.length = []) := Lib.hid (List.drop_eq_nil_of_le (Nat.le_refl _))
    have H0 := Lib.hid h
    obtain ⟨q0, hq0⟩ : ∃ q, q = thenE (redoL 0 hs z) (fun z => thenE (stepD z .fl) (exec (pointOps []))) := ⟨_, rfl⟩
    rw [← hq0]
    have HQ := Lib.hid hq0
    clear h hb hq0
    generalize hn : hs.length = n at *
    clear hn
    have hn0 : ((n : Int) == 0) = false := by simp; omega
    go_enter Try.func32, Try.ntmps32
    go_wp2_with fail
    go_loopw [15] (fun v wr => ∃ (k : Nat) (z' : DState), k ≤ n ∧ v = .int .i64 k ∧ redoL 0 hs z = redoL k (hs.drop k) z' ∧ z'.wait.length ≤ z.wait.length + k ∧ Own w0 wr (DL d z' l mb st dead (Star (rowIA o hs) R))) (fun v _ => n - (intOf v).toNat)
    case atStart => exact ⟨0, z, Nat.zero_le _, rfl, rfl, by omega, H0.out⟩
    case round =>
      obtain ⟨k, z', hk, rfl, he, hzw, hh⟩ := hrel
      have HH := Lib.hid hh
      have c0 := hh.ldisk
      by_cases hlt : k < n
      · have dl : decide (k < n) = true := decide_eq_true hlt
        obtain ⟨i, hi⟩ := HG.out k hlt
        obtain ⟨b1, o1, rfl, ca1⟩ := hh.right.right.left.get.choose_spec.1 k i hi
        obtain ⟨i0, i1⟩ := HB.out k i hi
        rw [redo_at hi] at he
        have he2 : redoL 0 hs z = bif decide (readR z' (2 + (k : Int)) = 0) then thenE (stepD z' (.wr (32 + i) (readB z' (2 + (k : Int))))) (redoL (k + 1) (hs.drop (k + 1))) else (readR z' (2 + (k : Int)), z') := he
        have HE := Lib.hid he2
        have CR2 := Lib.hid (CR.out z' (2 + (k : Int)) wr (by omega) HH.out)
        have CW2 := Lib.hid (fun s w1 => CW.out z' (32 + i) s w1 (by omega))
        have HZW := step_wait z' (.wr (32 + i) (readB z' (2 + (k : Int))))
        clear hh he he2 hi
        generalize readB z' (2 + (k : Int)) = rb at *
        generalize readR z' (2 + (k : Int)) = rr at *
        by_cases hr : rr = 0
        · subst hr
          generalize hq : stepD z' (.wr (32 + i) rb) = q at *
          obtain ⟨q1, q2⟩ := q
          dsimp only at *
          have CW3 := Lib.hid (CW2.out rb)
          have HQ3 := Lib.hid hq
          clear hq
          by_cases hk0 : q1 = 0
          · subst hk0
            go_wp2_with (first
              | (go_at_call 30; refine CR2.out.mono ?_; rintro e w1 ⟨rfl, h1⟩; have H1 := Lib.hid h1; have c1 := h1.ldisk; clear h1)
              | (go_at_call 52; refine (CW3.out _ H1.out).mono ?_; rintro e w2 ⟨rfl, h2⟩; rw [HQ3.out] at h2; have H2 := Lib.hid h2; clear h2; rw [HQ3.out]))
            go_roundw
            case rel => exact ⟨k + 1, q2, by omega, by go_num, by rw [HE.out]; rfl, by omega, H2.out⟩
            case measure => simp [intOf]; omega
          · go_wp2_with (first
              | (go_at_call 30; refine CR2.out.mono ?_; rintro e w1 ⟨rfl, h1⟩; have H1 := Lib.hid h1; have c1 := h1.ldisk; clear h1)
              | (go_at_call 52; refine (CW3.out _ H1.out).mono ?_; rintro e w2 ⟨rfl, h2⟩; rw [HQ3.out] at h2; have H2 := Lib.hid h2; clear h2; rw [HQ3.out]))
            go_ret
            have e9 : q0 = (q1, q2) := by
              rw [HQ.out, HE.out]
              show thenE (thenE (q1, q2) _) _ = _
              rw [thenE_no (a := (q1, q2)) hk0, thenE_no (a := (q1, q2)) hk0]
            rw [e9]
            exact ⟨rfl, H2.out⟩
        · go_wp2_with (go_at_call 30; refine CR2.out.mono ?_; rintro e w1 ⟨rfl, h1⟩; have H1 := Lib.hid h1; have c1 := h1.ldisk; clear h1)
          go_ret
          have e9 : q0 = (rr, z') := by
            rw [HQ.out, HE.out, decide_eq_false hr, cond_false, thenE_no (a := (rr, z')) hr]
          rw [e9]
          exact ⟨rfl, H1.out⟩
      · obtain rfl : k = n := by omega
        rw [HD.out] at he
        have e9 : q0 = thenE (stepD z' .fl) (exec (pointOps [])) := by rw [HQ.out, he]; rfl
        have HE := Lib.hid e9
        have CF2 := Lib.hid (CF.out z' wr (by omega) HH.out)
        have HZW := step_wait z' .fl
        clear he e9 hh
        generalize hq : stepD z' .fl = q at *
        obtain ⟨q1, q2⟩ := q
        dsimp only at *
        have CP2 := Lib.hid (fun w1 => CP.out q2 w1 (by omega))
        by_cases hk0 : q1 = 0
        · subst hk0
          go_wp2_with (first
            | (go_at_call 53; refine CF2.out.mono ?_; rintro e w1 ⟨rfl, h1⟩; have H1 := Lib.hid h1; clear h1)
            | (go_at_call 54; refine (CP2.out _ H1.out).mono ?_; rintro e w2 ⟨rfl, h2⟩; have H2 := Lib.hid h2; clear h2))
          go_ret
          rw [HE.out]
          exact ⟨rfl, H2.out⟩
        · go_wp2_with (go_at_call 53; refine CF2.out.mono ?_; rintro e w1 ⟨rfl, h1⟩; have H1 := Lib.hid h1; clear h1)
          go_ret
          rw [HE.out, thenE_no (a := (q1, q2)) hk0]
          exact ⟨rfl, H1.out⟩
end Go.Proofs.Ytgaibknhdaeidaa.P
