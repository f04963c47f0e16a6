/- Stage 15: the walk of LockTurns. No condition. -/
import Derived.Test.YtjjjokhbkkifjaaL4
import Derived.Deep.DeepCutAuto
import Derived.Deep.CutBlock
set_option linter.unusedVariables false
namespace Go.Proofs.Ytjjjokhbkkifjaa.P
open Go.RowKit Go.MuLone Go.Maps
theorem wf_mk {a : Int} (h1 : 0 ≤ a) (h2 : a ≤ 18446744073709551615) : (Lit.int .u64 a).wf = true := by
  show (decide (0 ≤ a) && decide (a ≤ 18446744073709551615)) = true
  rw [decide_eq_true h1, decide_eq_true h2]; rfl
def Dn : Nat → DataW Unit
  | 0 => .map []
  | k + 1 => (Dn k).put (.int .u64 k) u0
theorem key_u64 (t : Int) : WideAt.IsKeyLit (.int .u64 t) := by trivial
theorem dn_map : ∀ k, Maps.IsMap (Dn k)
  | 0 => Maps.isMap_empty
  | k + 1 => (dn_map k).put _ _
theorem has_put (D : DataW Unit) (hD : Maps.IsMap D) (a t : Int) : Maps.has (D.put (.int .u64 a) u0) (.int .u64 t) = (decide (t = a) || Maps.has D (.int .u64 t)) := by
  by_cases h : t = a
  · subst h; rw [Maps.has_put_same hD (key_u64 _)]; simp
  · rw [Maps.has_put_other (by simpa using h)]; simp [h]
theorem dn_has : ∀ (k : Nat) (t : Int), Maps.has (Dn k) (.int .u64 t) = decide (0 ≤ t ∧ t < k)
  | 0, t => by
    have : ¬ (0 ≤ t ∧ t < ((0 : Nat) : Int)) := by omega
    rw [decide_eq_false this]; rfl
  | k + 1, t => by
    rw [Dn, has_put _ (dn_map k), dn_has k t]
    by_cases h : t = k
    · subst h; simp; omega
    · by_cases h2 : 0 ≤ t ∧ t < k
      · have h3 : 0 ≤ t ∧ t < ((k + 1 : Nat) : Int) := by omega
        rw [decide_eq_true h2, decide_eq_true h3]; simp
      · have h3 : ¬ (0 ≤ t ∧ t < ((k + 1 : Nat) : Int)) := by omega
        rw [decide_eq_false h, decide_eq_false h2, decide_eq_false h3]; rfl
theorem t_has (k : Nat) (g : Int) (h : (k : Int) < g) : hasB (Dn k) 1 g k k = true := by
  unfold hasB; rw [dn_has]
  have : ¬ (0 ≤ (k : Int) ∧ (k : Int) < k) := by omega
  have h2 : (k : Int) < letF 1 g k := by unfold letF; split <;> omega
  rw [decide_eq_false this, decide_eq_true h2]; rfl
theorem t_next (k : Nat) (g : Int) : hasB (Dn k) 1 g k (k + 1) = false := by
  unfold hasB
  have h2 : ¬ (k : Int) + 1 < letF 1 g k := by unfold letF; split <;> omega
  rw [decide_eq_false h2]; simp
theorem t_gone (k : Nat) (g : Int) : hasB (Dn (k + 1)) 1 g (k + 1 : Nat) k = false := by
  unfold hasB; rw [dn_has]
  have : (0 ≤ (k : Int) ∧ (k : Int) < (k + 1 : Nat)) := by omega
  rw [decide_eq_true this]; rfl
set_option maxRecDepth 100000 in
set_option maxHeartbeats 3200000 in
theorem l_turns (n more : Int) (w : World) : Calls Try.prog 5 #[.int .i64 n, .int .i64 more] w fun e w' => e = .returned (.bool true) ∧ Gr w w' := by
  go_enter Try.func5, Try.ntmps5
  go_wp2_with fail
  refine (c_shown _).mono ?_; rintro e w1 ⟨rfl, g⟩
  have G := Lib.hid g; clear g
  go_wp2_with fail
  refine (lg_new w 1 (by decide) (by decide) _ G.out).mono ?_; rintro e w2 ⟨b, rfl, h⟩
  have H1 := Lib.hid h; clear h
  go_upto_region 5 with fail
  go_cut [32] (fun s32 wx => ∃ c : Bool, s32 = .bool c ∧ (c = false → 1 ≤ n ∧ n ≤ 200) ∧ wx = w2)
  case first =>
    by_cases h1 : n < 1
    · go_wp2_with fail
      go_meet
      exact ⟨true, rfl, by simp, rfl⟩
    · by_cases h2 : 200 < n
      · go_wp2_with fail
        go_meet
        exact ⟨true, rfl, by simp, rfl⟩
      · go_wp2_with fail
        go_meet
        exact ⟨false, rfl, fun _ => ⟨by omega, by omega⟩, rfl⟩
  case rest =>
  obtain ⟨c, rfl, hc, rfl⟩ := hcut
  go_upto_if 32 with fail
  go_cut [0] (fun s0 wx => ∃ N : Nat, 1 ≤ N ∧ N ≤ 200 ∧ s0 = .int .i64 N ∧ wx = wc)
  case first =>
    cases c with
    | true =>
      go_wp2_with fail
      go_meet
      exact ⟨9, by omega, by omega, rfl, rfl⟩
    | false =>
      obtain ⟨N, rfl⟩ : ∃ N : Nat, n = (N : Int) := ⟨n.toNat, by have := hc rfl; omega⟩
      have := hc rfl
      go_wp2_with fail
      go_meet
      exact ⟨N, by omega, by omega, rfl, rfl⟩
  case rest =>
    obtain ⟨N, hN1, hN2, rfl, rfl⟩ := hcut
    go_wp2_with fail
    go_loopw [8] (fun v8 wr => ∃ k : Nat, k ≤ N ∧ v8 = .int .i64 k ∧ LG w wr b (.map []) 0 1 k 0) (fun v8 _ => N - (intOf v8).toNat)
    case atStart => exact ⟨0, by omega, rfl, H1.out⟩
    case round =>
      obtain ⟨k, hk, rfl, hl⟩ := hrel
      have HL := Lib.hid hl
      clear hl
      by_cases hlt : k < N
      · go_wp2_with fail
        refine (lg_ask HL.out (by omega) (by omega)).mono ?_; rintro e w3 ⟨rfl, h⟩
        have H3 := Lib.hid h; clear h
        go_wp2_with fail
        go_roundw
        case rel => exact ⟨k + 1, by omega, by go_num, H3.out⟩
        case measure => simp [intOf]; omega
      · obtain rfl : k = N := by omega
        go_wp2_with fail
        go_loopw [9] (fun v9 wr => ∃ i : Nat, i ≤ k ∧ v9 = .int .i64 i ∧ ∃ g : Int, (k : Int) ≤ g ∧ g ≤ k + i ∧ LG w wr b (Dn i) i 1 g i) (fun v9 _ => k - (intOf v9).toNat)
        case atStart => exact ⟨0, by omega, rfl, k, by omega, by omega, HL.out⟩
        case round =>
          obtain ⟨i, hi, rfl, g, hg1, hg2, hl⟩ := hrel
          have HI := Lib.hid hl
          clear hl
          by_cases hlt : i < k
          · have hw1 : (Lit.int .u64 (i : Int)).wf = true := wf_mk (by omega) (by omega)
            have hw2 : (Lit.int .u64 ((i : Int) + 1)).wf = true := wf_mk (by omega) (by omega)
            have e1 : IntKind.u64.wrap (i : Int) = i := by rw [IntKind.wrap_u64]; omega
            have e2 : IntKind.u64.wrap ((i : Int) + 1) = i + 1 := by rw [IntKind.wrap_u64]; omega
            go_wp2_with fail
            refine (lg_has true HI.out hw1 (by omega) (by omega) (by decide) (by decide) (t_has i g (by omega))).mono ?_; rintro e w3 ⟨rfl, h⟩
            have H3 := Lib.hid h; clear h
            go_wp2_with fail
            refine (lg_has false H3.out hw2 (by omega) (by omega) (by decide) (by decide) (t_next i g)).mono ?_; rintro e w4 ⟨rfl, h⟩
            have H4 := Lib.hid h; clear h
            go_wp2_with fail
            refine (lg_pass_no H4.out hw2 (by omega) (by omega) (by decide) (by decide) (t_next i g)).mono ?_; rintro e w5 ⟨rfl, h⟩
            have H5 := Lib.hid h; clear h
            clear e1 e2
            go_upto_region 18 with fail
            go_cut [62] (fun s62 wx => ∃ c : Bool, s62 = .bool c ∧ wx = w5)
            case first =>
              have hi0 : (0 : Int) ≤ i := by omega
              have hi1 : (i : Int) ≤ 200 := by omega
              clear hw1 hw2 H3 H4 H5 HI hlt hg1 hg2 hi
              generalize (i : Int) = I at *
              by_cases hm : 0 ≤ more
              · go_wp2_with fail
                go_meet
                exact ⟨_, rfl, rfl⟩
              · have hm2 : more < 0 := by omega
                go_wp2_with fail
                go_meet
                exact ⟨_, rfl, rfl⟩
            case rest =>
            obtain ⟨c, rfl, rfl⟩ := hcut
            cases c with
            | true =>
              go_wp2_with fail
              refine (lg_ask H5.out (by omega) (by omega)).mono ?_; rintro e w6 ⟨rfl, h⟩
              have H6 := Lib.hid h; clear h
              go_wp2_with fail
              refine (lg_pass_yes H6.out hw1 (by omega) (by omega) (by decide) (by decide) (t_has i (g + 1) (by omega)) (by unfold maxLen; omega)).mono ?_; rintro e w7 ⟨rfl, h⟩
              have H7 : RowKit.Hid (LG w w7 b (Dn (i + 1)) (i + 1) 1 (g + 1) (i + 1 : Nat)) := h
              clear h
              go_wp2_with fail
              refine (lg_has false H7.out hw1 (by omega) (by omega) (by decide) (by decide) (t_gone i (g + 1))).mono ?_; rintro e w8 ⟨rfl, h⟩
              have H8 := Lib.hid h; clear h
              go_wp2_with fail
              go_roundw
              case rel => exact ⟨i + 1, by omega, by go_num, (g + 1), by omega, by omega, H8.out⟩
              case measure => simp [intOf]; omega
            | false =>
              go_wp2_with fail
              refine (lg_pass_yes H5.out hw1 (by omega) (by omega) (by decide) (by decide) (t_has i g (by omega)) (by unfold maxLen; omega)).mono ?_; rintro e w7 ⟨rfl, h⟩
              have H7 : RowKit.Hid (LG w w7 b (Dn (i + 1)) (i + 1) 1 g (i + 1 : Nat)) := h
              clear h
              go_wp2_with fail
              refine (lg_has false H7.out hw1 (by omega) (by omega) (by decide) (by decide) (t_gone i g)).mono ?_; rintro e w8 ⟨rfl, h⟩
              have H8 := Lib.hid h; clear h
              go_wp2_with fail
              go_roundw
              case rel => exact ⟨i + 1, by omega, by go_num, g, by omega, by omega, H8.out⟩
              case measure => simp [intOf]; omega
          · obtain rfl : i = k := by omega
            go_wp2_with fail
            have hlet : (i : Int) ≤ letF 1 g i := by unfold letF; split <;> omega
            have hlet2 : letF 1 g i ≤ 18446744073709551615 := by unfold letF; split <;> omega
            refine (lg_let HI.out (by omega) (by omega) (by decide) (by decide) _ rfl).mono ?_; rintro e w8 ⟨rfl, h⟩
            have H8 := Lib.hid h; clear h
            have e1 : IntKind.u64.wrap (i : Int) = i := by rw [IntKind.wrap_u64]; omega
            have hd : decide ((i : Int) ≤ letF 1 g i) = true := decide_eq_true hlet
            go_wp2_with fail
            go_ret
            exact ⟨rfl, H8.out.1⟩
end Go.Proofs.Ytjjjokhbkkifjaa.P
