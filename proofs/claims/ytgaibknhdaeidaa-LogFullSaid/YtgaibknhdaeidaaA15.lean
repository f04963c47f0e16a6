/- Stage 7: the head made safe. No condition. -/
import Derived.Test.YtgaibknhdaeidaaA14
import Derived.Deep.RegionHeld3
import Derived.StillTailTactics
set_option linter.unusedVariables false
set_option maxRecDepth 50000
namespace Go.Proofs.Ytgaibknhdaeidaa.P
open Go.RowKit
theorem exec_one (o : DOp) (z : DState) : exec [o] z = stepD z o := by
  by_cases h : (stepD z o).1 = 0
  · rw [exec_ok h]; show ((0 : Int), (stepD z o).2) = _; rw [← h]
  · rw [exec_no h]
theorem own_w {w0 w : World} {d : Nat} {z : DState} {l mb : Nat} {st : List (Int × ByteArray)} {dead : Bool} {R : Asn} (h : Own w0 w (DL d z l mb st dead R)) (hs : Stable R) (i : Int) (s : ByteArray) (hl : z.wait.length ≤ 4000000000000) :
    Calls Try.prog 52 #[.pointer (some ⟨d, 0, none⟩), .int .i64 i, .string s] w fun e w' => e = .returned (.int .i64 (stepD z (.wr i s)).1) ∧ Own w0 w' (DL d (stepD z (.wr i s)).2 l mb st dead R) :=
  o_write h (stable_star (stable_lg _ _ _ _ _) hs) i s hl
theorem own_f {w0 w : World} {d : Nat} {z : DState} {l mb : Nat} {st : List (Int × ByteArray)} {dead : Bool} {R : Asn} (h : Own w0 w (DL d z l mb st dead R)) (hs : Stable R) (hl : z.wait.length ≤ 4000000000000) :
    Calls Try.prog 53 #[.pointer (some ⟨d, 0, none⟩)] w fun e w' => e = .returned (.int .i64 (stepD z .fl).1) ∧ Own w0 w' (DL d (stepD z .fl).2 l mb st dead R) :=
  o_flush h (stable_star (stable_lg _ _ _ _ _) hs) hl
theorem Own.ldisk {w0 w : World} {d : Nat} {z : DState} {l mb : Nat} {st : List (Int × ByteArray)} {dead : Bool} {R : Asn} (h : Own w0 w (DL d z l mb st dead R)) : w.cell? ⟨l, 0, none⟩ = some (.pointer (some ⟨d, 0, none⟩)) := blk_cell h.log.1 0 rfl
theorem step_wait (z : DState) (o : DOp) : (stepD z o).2.wait.length ≤ z.wait.length + 1 := by
  cases o with
  | wr i s => exact write_wait z i s
  | fl =>
    show (flushZ z).wait.length ≤ _
    unfold flushZ
    cases z.off with
    | true => show z.wait.length ≤ _; omega
    | false =>
      cases actB z with
      | true => show 0 ≤ _; omega
      | false =>
        show (actZ z).wait.length ≤ _
        unfold actZ
        cases z.counted with
        | false => show z.wait.length ≤ _; omega
        | true => cases decide (z.acts = 0) <;> (show z.wait.length ≤ _; omega)
set_option maxHeartbeats 1600000 in
theorem o_point {w0 w : World} {d : Nat} {z : DState} {l mb : Nat} {st : List (Int × ByteArray)} {dead : Bool} {R : Asn} (h : Own w0 w (DL d z l mb st dead R)) (hs : Stable R) (o : Option Addr) (c : Nat) (A : List Int) (hA : RowI w o A) (hl : A.length ≤ 30) (hb : ∀ i ∈ A, 0 ≤ i ∧ i < 65536) (hw : z.wait.length ≤ 3000000000000) :
    Calls Try.prog 54 #[.pointer (some ⟨l, 0, none⟩), .slice o A.length c] w fun e w' => e = .returned (.int .i64 (exec (pointOps A) z).1) ∧ Own w0 w' (DL d (exec (pointOps A) z).2 l mb st dead R) := by
  have hst : ∀ z, Stable (DL d z l mb st dead R) := fun z => stable_dl _ _ _ _ _ _ hs
  have CH : Hid (∀ w', RowI w' o A → Own w0 w' (DL d z l mb st dead R) → Calls Try.prog 51 #[.slice o A.length c] w' fun e w2 => e = .returned (.string (headF A)) ∧ Own w0 w2 (DL d z l mb st dead R)) :=
    Lib.hid (fun w' hr ho => (c_head w' o c A hr hl hb).mono fun e w2 k => ⟨k.1, ho.gr (hst z) k.2⟩)
  have CW : Hid (∀ w', Own w0 w' (DL d z l mb st dead R) → Calls Try.prog 52 #[.pointer (some ⟨d, 0, none⟩), .int .i64 1, .string (headF A)] w' fun e w2 => e = .returned (.int .i64 (stepD z (.wr 1 (headF A))).1) ∧ Own w0 w2 (DL d (stepD z (.wr 1 (headF A))).2 l mb st dead R)) :=
    Lib.hid (fun w' ho => own_w ho hs 1 (headF A) (by omega))
  have hw1 := step_wait z (.wr 1 (headF A))
  have hw2 : (stepD z (.wr 1 (headF A))).2.wait.length ≤ 4000000000000 := by omega
  have hE : exec (pointOps A) z = bif decide ((stepD z (.wr 1 (headF A))).1 = 0) then stepD (stepD z (.wr 1 (headF A))).2 .fl else stepD z (.wr 1 (headF A)) := by
    by_cases k : (stepD z (.wr 1 (headF A))).1 = 0
    · rw [decide_eq_true k, cond_true, ← exec_one .fl, ← exec_ok k]; rfl
    · rw [decide_eq_false k, cond_false, ← exec_no (l := [.fl]) k]; rfl
  rw [hE]
  have hO : Own w0 w (DL d z l mb st dead R) := h
  have hOd : Own w0 w.drew (DL d z l mb st dead R) := h.drew (hst z)
  have hR : RowI w o A := hA
  have hRd : RowI w.drew o A := hA.gr (Gr.drewN (Gr.refl _) 1)
  have hc := h.ldisk
  clear hE hw1 h hA
  generalize hq : stepD z (.wr 1 (headF A)) = q at *
  clear hq
  obtain ⟨q1, q2⟩ := q
  dsimp only at *
  have CF : Hid (∀ w', Own w0 w' (DL d q2 l mb st dead R) → Calls Try.prog 53 #[.pointer (some ⟨d, 0, none⟩)] w' fun e w2 => e = .returned (.int .i64 (stepD q2 .fl).1) ∧ Own w0 w2 (DL d (stepD q2 .fl).2 l mb st dead R)) :=
    Lib.hid (fun w' ho => own_f ho hs hw2)
  generalize headF A = hd at *
  generalize A.length = n at *
  go_enter Try.func54, Try.ntmps54
  go_upto_region 1 with fail
  go_cut [5] (fun v wx => v = .int .i64 q1 ∧ Own w0 wx (DL d q2 l mb st dead R))
  case first =>
    go_region_held3 (fun w' => w'.cell? ⟨l, 0, none⟩ = some (.pointer (some ⟨d, 0, none⟩)))
      (first | (with_reducible assumption) | (with_reducible exact cell_drew6 (by assumption)))
      (first
        | (go_at_call 51; refine (CH.out _ (by assumption) (by assumption)).mono ?_; rintro e w5 ⟨rfl, hq5⟩; have hc5 := hq5.ldisk)
        | (go_at_call 52; refine (CW.out _ (by assumption)).mono ?_; rintro e w6 ⟨rfl, hq6⟩; have hc6 := hq6.ldisk))
    all_goals
      go_wp2_with fail
      go_meet
      first | exact ⟨rfl, by assumption⟩ | skip
  case rest =>
    obtain ⟨rfl, h5⟩ := hcut
    have H5 := Lib.hid h5
    have c5 := h5.ldisk
    clear h5 hO hOd hc
    by_cases hk : q1 = 0
    · subst hk
      go_wp2_with (go_at_call 53; refine (CF.out _ H5.out).mono ?_; rintro e w6 ⟨rfl, h6⟩)
      go_ret
      exact ⟨rfl, h6⟩
    · go_wp2_with fail
      go_ret
      rw [decide_eq_false hk, cond_false]
      exact ⟨rfl, H5.out⟩
end Go.Proofs.Ytgaibknhdaeidaa.P
