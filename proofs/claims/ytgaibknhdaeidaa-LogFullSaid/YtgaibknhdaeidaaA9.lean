/- Stage 7: Get, Set, Abort. No condition. -/
import Derived.Test.YtgaibknhdaeidaaA8
set_option linter.unusedVariables false
set_option maxRecDepth 50000
namespace Go.Proofs.Ytgaibknhdaeidaa.P
open Go.RowKit
theorem wf_small {i : Int} (h0 : 0 ≤ i) (h1 : i < 9223372036854775808) : (Lit.int .i64 i).wf = true := by
  simp [Lit.wf, IntKind.min, IntKind.max, IntKind.signed, IntKind.bits]; omega
def getB (dead : Bool) (z : DState) (st : List (Int × ByteArray)) (i : Int) : ByteArray := bif decide (refF dead z.safe.length i = 0) then (bif (lookS i st).isSome then (lookS i st).getD ⟨#[]⟩ else readB z (32 + i)) else ⟨#[]⟩
def getR (dead : Bool) (z : DState) (st : List (Int × ByteArray)) (i : Int) : Int := bif decide (refF dead z.safe.length i = 0) then (bif (lookS i st).isSome then 0 else readR z (32 + i)) else refF dead z.safe.length i
def setR (dead : Bool) (n : Nat) (st : List (Int × ByteArray)) (i : Int) (s : ByteArray) : Int :=
  bif decide (refF dead n i = 0) then (bif decide (s.size = 64) then (bif (lookS i st).isSome then 0 else bif decide (30 ≤ st.length) then 4 else 0) else 1) else refF dead n i
theorem refF_ok {dead : Bool} {n : Nat} {i : Int} (h : refF dead n i = 0) : dead = false ∧ 0 ≤ i ∧ i < (n : Int) - 32 := by
  unfold refF at h
  cases dead with
  | true => cases h
  | false =>
    rw [cond_false] at h
    by_cases h0 : 0 ≤ i
    · by_cases h1 : i < (n : Int) - 32
      · exact ⟨rfl, h0, h1⟩
      · rw [decide_eq_false h1, Bool.and_false, cond_false] at h; cases h
    · rw [decide_eq_false h0, Bool.false_and, cond_false] at h; cases h
set_option maxHeartbeats 1000000 in
theorem o_get {w0 w : World} {d : Nat} {z : DState} {l mb : Nat} {st : List (Int × ByteArray)} {dead : Bool} {R : Asn} (h : Own w0 w (DL d z l mb st dead R)) (hs : Stable R) (i : Int) (hl : z.wait.length ≤ 4000000000000) :
    Calls Try.prog 20 #[.pointer (some ⟨l, 0, none⟩), .int .i64 i] w fun e w' => e = .returned (.tuple #[.string (getB dead z st i), .int .i64 (getR dead z st i)]) ∧ Own w0 w' (DL d z l mb st dead R) := by
  have HR := o_refuses h i
  have hst : Stable (DL d z l mb st dead R) := stable_dl _ _ _ _ _ _ hs
  unfold getB getR
  by_cases hr : refF dead z.safe.length i = 0
  · obtain ⟨hd, i0, i1⟩ := refF_ok hr
    have hz := own_wz h
    have hz2 := hz.2.1
    have HX : Hid (∀ w', Gr w w' → Calls Try.prog 30 #[.pointer (some ⟨d, 0, none⟩), .int .i64 (32 + i)] w' fun e w'' => e = .returned (.tuple #[.string (readB z (32 + i)), .int .i64 (readR z (32 + i))]) ∧ Own w0 w'' (DL d z l mb st dead R)) :=
      Lib.hid (fun w' g => o_read (h.gr hst g) (stable_star (stable_lg _ _ _ _ _) hs) (32 + i) hl)
    have HO : Hid (∀ w', Gr w w' → Own w0 w' (DL d z l mb st dead R)) := Lib.hid (fun w' g => h.gr hst g)
    rw [hr] at HR ⊢
    rw [decide_eq_true rfl, cond_true, cond_true]
    obtain ⟨hb, hm, hri, hne⟩ := h.log
    have c0 := blk_cell hb 0 (v := .pointer (some ⟨d, 0, none⟩)) rfl
    have c1 := blk_cell hb 1 (v := .map (some mb)) rfl
    have c0a : ∀ o, (w.alloc o).cell? ⟨l, 0, none⟩ = some (.pointer (some ⟨d, 0, none⟩)) := fun o => blk_cell (blk_alloc o hb) 0 rfl
    have HM := Lib.hid hm
    have hw := wf_small i0 (by omega)
    clear h hb hm hz hst hs
    cases hlk : (lookS i st).isSome with
    | true =>
      rw [cond_true, cond_true]
      go_enter Try.func20, Try.ntmps20
      go_wp2_with (first
        | (go_at_call 39; refine HR.mono ?_; rintro e w' ⟨rfl, rfl⟩)
        | (refine wpList_lookup_sec rfl _ _ rfl mb _ st rfl HM.out i rfl hw ?_; rw [hlk]))
      refine bodyPost_ret (results_tmp2 rfl _ _ _) rfl ⟨rfl, HO.out _ ?_⟩
      go_grown
    | false =>
      rw [cond_false, cond_false]
      go_enter Try.func20, Try.ntmps20
      go_wp2_with (first
        | (go_at_call 39; refine HR.mono ?_; rintro e w' ⟨rfl, rfl⟩)
        | (refine wpList_lookup_sec rfl _ _ rfl mb _ st rfl HM.out i rfl hw ?_; rw [hlk])
        | (go_at_call 30; refine (HX.out _ ((Gr.refl _).alloc (Nat.le_refl _) _)).mono ?_; rintro e w' ⟨rfl, hO⟩))
      refine bodyPost_ret (results_tmp2 rfl _ _ _) rfl ⟨rfl, hO⟩
  · have HO : Hid (Own w0 w (DL d z l mb st dead R)) := Lib.hid h
    rw [decide_eq_false hr, cond_false, cond_false]
    clear h hst hs
    generalize refF dead z.safe.length i = r at *
    go_enter Try.func20, Try.ntmps20
    go_wp2_with (go_at_call 39; refine HR.mono ?_; rintro e w' ⟨rfl, rfl⟩)
    refine bodyPost_ret (results_tmp2 rfl _ _ _) rfl ⟨rfl, HO.out⟩
end Go.Proofs.Ytgaibknhdaeidaa.P
