/- Stage 10: Take of none, New, nil. No condition. -/
import Derived.Test.YtbcnibnkojnpiaaF2
set_option linter.unusedVariables false
namespace Go.Proofs.Ytbcnibnkojnpiaa.P
open Go.RowKit Go.MuLone Go.Maps
theorem key_small (j : Nat) (hj : j < 256) : keyOf Try.prog 3 (.int .i64 (j : Int)) = some (.int .i64 j) :=
  keyOf_int_mk Try.underlying3 (q := .i64) (a := (j : Int)) (by
    show (decide (-9223372036854775808 ≤ (j : Int)) && decide ((j : Int) ≤ 9223372036854775807)) = true
    rw [decide_eq_true (by omega), decide_eq_true (by omega)]; rfl)
set_option maxRecDepth 100000 in
theorem c_take_no (pb mb b : Nat) (y : Option Nat) (fr first : Nat) (D : DataW Unit) (s : List UInt8) (t : Int) (w : World) (h : PoolO w pb mb b y fr first D s t) (h4 : ∀ j : Nat, first ≤ j → j < fr → hasI D j = false) :
    Calls Try.prog 22 #[.pointer (some ⟨pb, 0, none⟩)] w (PoolP pb mb b y fr first D s t (.tuple #[.int .i64 0, .int .i64 4]) w) := by
  have hfr : fr ≤ 256 := h.2.2.2.2.1.2.2.1
  have h1 : first ≤ fr := h.2.2.2.1
  have law := int_keyed (P := Try.prog) Try.underlying3
  have H := Lib.hid h
  have HN := Lib.hid h4
  have c1 := blk_cell h.1 1 (v := .int .i64 first) rfl
  clear h h4
  go_enter Try.func22, Try.ntmps22
  go_wp2
  go_step3
  go_wp2
  go_step3
  go_wp2
  go_loopw [4] (fun v4 wr => ∃ j : Nat, first ≤ j ∧ j ≤ fr ∧ v4 = .int .i64 j ∧ Gr w wr) (fun v4 _ => fr - (intOf v4).toNat)
  case atStart => exact ⟨first, Nat.le_refl _, h1, rfl, Gr.refl _⟩
  case round =>
    clear c1
    obtain ⟨j, hj1, hj2, rfl, g⟩ := hrel
    have HR := Lib.hid (H.out.keepG g)
    have G := Lib.hid g
    clear g
    have c0 := blk_cell HR.out.1 0 (v := .pointer (some ⟨b, 0, none⟩)) rfl
    have c2 := blk_cell HR.out.1 2 (v := .map (some mb)) rfl
    have hown := HR.out.2.1
    by_cases hlt : j < fr
    · have dl : decide ((j : Int) < (fr : Int)) = true := decide_eq_true (by omega)
      have hkey := key_small j (by omega)
      have hh : Maps.has D (.int .i64 (j : Int)) = false := HN.out j hj1 hlt
      go_wp2_with (first
        | (go_at_call 53; refine (c_frames b y fr s t _ HR.out.2.2.2.2.1).mono ?_; rintro e w' ⟨rfl, hw'⟩; have hq := hw'.symm; subst hq)
        | (at_lookup; refine wpList_lookup_own_unit _ rfl _ _ 53 rfl 3 87 law Try.underlying53 (Try.zeroValue87 _) mb (Maps.size D) D rfl hown _ _ rfl hkey ?_))
      go_roundw
      case rel => exact ⟨j + 1, by omega, by omega, by go_num, G.out.alloc G.out.size _⟩
      case measure => simp [intOf]; omega
    · obtain rfl : j = fr := by omega
      have dl : decide ((j : Int) < (j : Int)) = false := decide_eq_false (by omega)
      go_wp2_with (go_at_call 53; refine (c_frames b y j s t _ HR.out.2.2.2.2.1).mono ?_; rintro e w' ⟨rfl, hw'⟩; have hq := hw'.symm; subst hq)
      try rw [Exit.noGoto_ret]
      go_ret2
      exact ⟨rfl, y, HR.out, .of_gr G.out⟩
theorem n_take (w : World) : Calls Try.prog 22 #[.pointer none] w fun e w' => e = .returned (.tuple #[.int .i64 0, .int .i64 1]) ∧ w' = w := by
  go_enter Try.func22, Try.ntmps22
  go_wp2
  go_step3
  go_wp2
  try rw [Exit.noGoto_ret]
  go_ret2
  exact ⟨rfl, rfl⟩
theorem n_taken (w : World) (k : Int) : Calls Try.prog 23 #[.pointer none, .int .i64 k] w fun e w' => e = .returned (.bool false) ∧ w' = w := by
  go_enter Try.func23, Try.ntmps23
  go_wp2
  go_ret
  exact ⟨rfl, rfl⟩
theorem n_left (w : World) : Calls Try.prog 8 #[.pointer none] w fun e w' => e = .returned (.int .i64 0) ∧ w' = w := by
  go_enter Try.func8, Try.ntmps8
  go_wp2
  go_ret
  exact ⟨rfl, rfl⟩
theorem n_pmem (w : World) : Calls Try.prog 25 #[.pointer none] w fun e w' => e = .returned (.pointer none) ∧ w' = w := by
  go_enter Try.func25, Try.ntmps25
  go_wp2
  go_ret
  exact ⟨rfl, rfl⟩
theorem n_give (w : World) (k : Int) : Calls Try.prog 40 #[.pointer none, .int .i64 k] w fun e w' => e = .returned (.int .i64 1) ∧ w' = w := by
  go_enter Try.func40, Try.ntmps40
  go_wp2_with (go_at_call 23; refine (n_taken w k).mono ?_; rintro e w' ⟨rfl, rfl⟩)
  go_ret
  exact ⟨rfl, rfl⟩
end Go.Proofs.Ytbcnibnkojnpiaa.P
