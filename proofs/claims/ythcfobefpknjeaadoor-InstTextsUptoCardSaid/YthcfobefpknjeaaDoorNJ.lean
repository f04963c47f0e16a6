/- Stage 2: the instruction that has a name, whatever name. No condition. -/
import Derived.Test.YthcfobefpknjeaaDoorN6
import Derived.Test.YthcfobefpknjeaaDoorN3
import Derived.Deep.LoopGhost
set_option linter.unusedVariables false
set_option linter.unusedSimpArgs false
set_option maxRecDepth 100000
namespace Go.Proofs.YthcfobefpknjeaaDoor.P
open Go.RowKit
def namAt (name : ByteArray) (k : Nat) : Option Int :=
  if nmT k = name then some 0 else
  if fmT k = 65 then
    (if name = nmT k ++ endF 1 then some 1 else if name = nmT k ++ endF 2 then some 2 else if name = nmT k ++ endF 3 then some 3 else none)
  else none
theorem nam_none {name : ByteArray} {k : Nat} (h : namAt name k = none) : nmT k ≠ name ∧ (fmT k = 65 → ∀ m : Nat, 1 ≤ m → m < 4 → name ≠ nmT k ++ endF (m : Int)) := by
  unfold namAt at h
  by_cases h0 : nmT k = name
  · rw [if_pos h0] at h; cases h
  · rw [if_neg h0] at h
    refine ⟨h0, fun hf m m1 m2 => ?_⟩
    rw [if_pos hf] at h
    by_cases e1 : name = nmT k ++ endF 1
    · rw [if_pos e1] at h; cases h
    · rw [if_neg e1] at h
      by_cases e2 : name = nmT k ++ endF 2
      · rw [if_pos e2] at h; cases h
      · rw [if_neg e2] at h
        by_cases e3 : name = nmT k ++ endF 3
        · rw [if_pos e3] at h; cases h
        · have : m = 1 ∨ m = 2 ∨ m = 3 := by omega
          rcases this with rfl | rfl | rfl
          · exact e1
          · exact e2
          · exact e3
theorem nam_some {name : ByteArray} {k : Nat} {i : Int} (h : namAt name k = some i) : (i = 0 ∧ nmT k = name) ∨ (nmT k ≠ name ∧ fmT k = 65 ∧ ∃ n : Nat, i = (n : Int) ∧ 1 ≤ n ∧ n < 4 ∧ name = nmT k ++ endF i ∧ ∀ m : Nat, 1 ≤ m → m < n → name ≠ nmT k ++ endF (m : Int)) := by
  unfold namAt at h
  by_cases h0 : nmT k = name
  · rw [if_pos h0] at h; injection h with h; exact .inl ⟨h.symm, h0⟩
  · rw [if_neg h0] at h
    by_cases hf : fmT k = 65
    · rw [if_pos hf] at h
      refine .inr ⟨h0, hf, ?_⟩
      by_cases e1 : name = nmT k ++ endF 1
      · rw [if_pos e1] at h; injection h with h; subst h; exact ⟨1, rfl, by decide, by decide, e1, fun m a b => by omega⟩
      · rw [if_neg e1] at h
        by_cases e2 : name = nmT k ++ endF 2
        · rw [if_pos e2] at h; injection h with h; subst h; exact ⟨2, rfl, by decide, by decide, e2, fun m a b => by obtain rfl : m = 1 := (by omega); exact e1⟩
        · rw [if_neg e2] at h
          by_cases e3 : name = nmT k ++ endF 3
          · rw [if_pos e3] at h; injection h with h; subst h
            exact ⟨3, rfl, by decide, by decide, e3, fun m a b => by
              have : m = 1 ∨ m = 2 := by omega
              rcases this with rfl | rfl
              · exact e1
              · exact e2⟩
          · rw [if_neg e3] at h; cases h
    · rw [if_neg hf] at h; cases h
theorem pre_is (a b : ByteArray) : Lib.hasPrefix (a ++ b).data.toList a.data.toList = true := by
  simp [Lib.hasPrefix, ByteArray.data_append]
set_option maxHeartbeats 6400000 in
theorem c_named_to (name : ByteArray) (hl : name.size ≤ 100) (K : Nat) (h1 : 1 ≤ K) (h88 : K ≤ 88) (hno : ∀ j, 1 ≤ j → j < K → namAt name j = none) (i : Int) (V : Value) (hK : (K = 88 ∧ V = iv 0 0 0 0 0) ∨ (K < 88 ∧ namAt name K = some i ∧ V = iv (K : Int) 0 0 0 i)) (w : World) (hF : FT w) : Calls Tryd.prog 53 #[.string name] w fun e w' => e = .returned V ∧ Gr w w' := by
  have HFT := Lib.hid (fun w1 (g : Gr w w1) => FT.gr hF g)
  have hlf : 0 < w.heap.size := cell_lt (hF 0 (by omega))
  have CN := Lib.hid (fun (j : Nat) (hj : j < 88) (hj1 : 1 ≤ j) => c_name_in j hj hj1)
  have HNO := Lib.hid hno
  have HK := Lib.hid hK
  have hb := blk_new w (.cells #[.int .i64 0, .int .i64 0, .int .i64 0, .int .i64 0, .int .i64 0] 23)
  have gb : Gr w (w.alloc (.cells #[.int .i64 0, .int .i64 0, .int .i64 0, .int .i64 0, .int .i64 0] 23)) := (Gr.refl w).alloc (Nat.le_refl _) _
  clear hF hno hK
  go_enter Tryd.func53, Tryd.ntmps53
  go_wp2_with fail
  generalize w.alloc (.cells #[.int .i64 0, .int .i64 0, .int .i64 0, .int .i64 0, .int .i64 0] 23) = wA at *
  obtain ⟨B, hB⟩ : ∃ B, B = w.heap.size := ⟨_, rfl⟩
  rw [← hB] at hb ⊢
  have HB := Lib.hid hb
  have GB := Lib.hid gb
  have EB := Lib.hid hB
  have hlA : 0 < wA.heap.size := Nat.lt_of_lt_of_le hlf gb.size
  clear hb gb hB hlf
  go_loopg [3] 88 (fun g v wr => ∃ j : Nat, 1 ≤ j ∧ j ≤ K ∧ g = 89 - j ∧ v = .int .i64 (j : Int) ∧ wr = wA)
  case atStart => exact ⟨1, Nat.le_refl _, h1, rfl, rfl, rfl⟩
  case round =>
    obtain ⟨j, hj1, hj2, rfl, rfl, rfl⟩ := hrel
    by_cases h8 : j = 88
    · have eK : K = 88 := by omega
      have HK3 : Hid (V = iv 0 0 0 0 0) := Lib.hid (by rcases HK.out with h | h; exact h.2; omega)
      have e87 : decide ((j : Int) ≤ 87) = false := decide_eq_false (by omega)
      have n87 : ¬ (j : Int) ≤ 87 := by omega
      have d0 := blk_cell HB.out 0 (v := .int .i64 0) rfl
      have z0 := blk_frozen HB.out 0
      have d1 := blk_cell HB.out 1 (v := .int .i64 0) rfl
      have z1 := blk_frozen HB.out 1
      have d2 := blk_cell HB.out 2 (v := .int .i64 0) rfl
      have z2 := blk_frozen HB.out 2
      have d3 := blk_cell HB.out 3 (v := .int .i64 0) rfl
      have z3 := blk_frozen HB.out 3
      have d4 := blk_cell HB.out 4 (v := .int .i64 0) rfl
      have z4 := blk_frozen HB.out 4
      clear eK h8 HK
      go_wp2_with fail
      obtain ⟨hz, gz⟩ := set5 EB.out HB.out GB.out (.int .i64 0) (.int .i64 0) (.int .i64 0) (.int .i64 0) (.int .i64 0)
      refine bodyPost_ret (v := iv 0 0 0 0 0) ?_ rfl ⟨by rw [HK3.out], gz⟩
      have y0 := blk_cell hz 0 (v := .int .i64 0) rfl
      have y1 := blk_cell hz 1 (v := .int .i64 0) rfl
      have y2 := blk_cell hz 2 (v := .int .i64 0) rfl
      have y3 := blk_cell hz 3 (v := .int .i64 0) rfl
      have y4 := blk_cell hz 4 (v := .int .i64 0) rfl
      generalize (World.setCell _ ⟨B, 4, none⟩ _) = wz at *
      simp [results, Tryd.results53, go_sem, y0, y1, y2, y3, y4]
    · have e87 : (j : Int) ≤ 87 := by omega
      have hj88 : (j : Int) < 88 := by omega
      have CJ := Lib.hid (CN.out j (by omega) hj1 wr)
      have CP := Lib.hid (sh_strings_HasPrefix name (nmT j) wr)
      have hc := HFT.out _ GB.out j (by omega)
      have hsz := nm_size j (by omega)
      by_cases hlt : j < K
      · obtain ⟨p1, p2⟩ := nam_none (HNO.out j hj1 hlt)
        have en := tl_ne p1
        have P2 := Lib.hid p2
        clear p1 p2 h8
        by_cases hf : fmT j = 65
        · rw [hf] at hc
          have HF := Lib.hid hf
          clear hf
          generalize hpv : Lib.hasPrefix name.data.toList (nmT j).data.toList = pv at *
          have HPV := Lib.hid hpv
          clear hpv
          cases pv with
          | false =>
            go_wp2_with (first | (go_at_call 21; refine CJ.out.mono ?_; rintro e w1 ⟨rfl, hw1⟩; have hq := hw1.symm; subst hq) | (go_at_call 65; refine CP.out.mono ?_; rintro e w1 ⟨rfl, hw1⟩; have hq := hw1.symm; subst hq))
            go_roundg (89 - (j + 1))
            case measure => omega
            case rel => exact ⟨j + 1, by omega, by omega, rfl, by go_num, rfl⟩
          | true =>
            go_wp2_with (first | (go_at_call 21; refine CJ.out.mono ?_; rintro e w1 ⟨rfl, hw1⟩; have hq := hw1.symm; subst hq) | (go_at_call 65; refine CP.out.mono ?_; rintro e w1 ⟨rfl, hw1⟩; have hq := hw1.symm; subst hq))
            go_loopg [5] 4 (fun g v wl => ∃ m : Nat, 1 ≤ m ∧ m ≤ 4 ∧ g = 5 - m ∧ v = .int .i64 (m : Int) ∧ wl = wr)
            case atStart => exact ⟨1, Nat.le_refl _, by decide, rfl, rfl, rfl⟩
            case round =>
              obtain ⟨m, hm1, hm2, rfl, rfl, rfl⟩ := hrel
              by_cases hm4 : m < 4
              · have CE := Lib.hid (c_ending (m : Int) wr)
                have hes := end_size (m : Int)
                have e5 := tl_ne (P2.out HF.out m hm1 hm4)
                have em : (m : Int) < 4 := by omega
                go_wp2_with (go_at_call 38; refine CE.out.mono ?_; rintro e w1 ⟨rfl, hw1⟩; have hq := hw1.symm; subst hq)
                go_roundg (5 - (m + 1))
                case measure => omega
                case rel => exact ⟨m + 1, by omega, by omega, rfl, by go_num, rfl⟩
              · have em : ¬ (m : Int) < 4 := by omega
                go_wp2_with fail
                go_roundg (89 - (j + 1))
                case measure => omega
                case rel => exact ⟨j + 1, by omega, by omega, rfl, by go_num, rfl⟩
        · have ef : (fmT j == 65) = false := beq_eq_false_iff_ne.2 hf
          have ef2 : (fmT j != 65) = true := by rw [bne, ef]; rfl
          go_wp2_with (first | (go_at_call 21; refine CJ.out.mono ?_; rintro e w1 ⟨rfl, hw1⟩; have hq := hw1.symm; subst hq) | (go_at_call 65; refine CP.out.mono ?_; rintro e w1 ⟨rfl, hw1⟩; have hq := hw1.symm; subst hq))
          go_roundg (89 - (j + 1))
          case measure => omega
          case rel => exact ⟨j + 1, by omega, by omega, rfl, by go_num, rfl⟩
      · have ej : j = K := by omega
        subst ej
        have HK2 : Hid (namAt name j = some i) := Lib.hid (by rcases HK.out with h | h; exact absurd h.1 h8; exact h.2.1)
        have HK3 : Hid (V = iv (j : Int) 0 0 0 i) := Lib.hid (by rcases HK.out with h | h; exact absurd h.1 h8; exact h.2.2)
        have d0 := blk_cell HB.out 0 (v := .int .i64 0) rfl
        have z0 := blk_frozen HB.out 0
        have d1 := blk_cell HB.out 1 (v := .int .i64 0) rfl
        have z1 := blk_frozen HB.out 1
        have d2 := blk_cell HB.out 2 (v := .int .i64 0) rfl
        have z2 := blk_frozen HB.out 2
        have d3 := blk_cell HB.out 3 (v := .int .i64 0) rfl
        have z3 := blk_frozen HB.out 3
        have d4 := blk_cell HB.out 4 (v := .int .i64 0) rfl
        have z4 := blk_frozen HB.out 4
        clear h8 HK hlt hj2
        rcases nam_some HK2.out with ⟨ei, hn⟩ | ⟨hne, hf, n, ei, n1, n2, hn, hmin⟩
        · have EI := Lib.hid ei
          have en := tl_eq hn
          clear ei hn
          go_wp2_with (go_at_call 21; refine CJ.out.mono ?_; rintro e w1 ⟨rfl, hw1⟩; have hq := hw1.symm; subst hq)
          obtain ⟨hz, gz⟩ := set5 EB.out HB.out GB.out (.int .i64 (j : Int)) (.int .i64 0) (.int .i64 0) (.int .i64 0) (.int .i64 0)
          refine bodyPost_ret (v := iv (j : Int) 0 0 0 0) ?_ rfl ⟨by rw [HK3.out, EI.out], gz⟩
          have y0 := blk_cell hz 0 (v := .int .i64 (j : Int)) rfl
          have y1 := blk_cell hz 1 (v := .int .i64 0) rfl
          have y2 := blk_cell hz 2 (v := .int .i64 0) rfl
          have y3 := blk_cell hz 3 (v := .int .i64 0) rfl
          have y4 := blk_cell hz 4 (v := .int .i64 0) rfl
          generalize (World.setCell _ ⟨B, 4, none⟩ _) = wz at *
          simp [results, Tryd.results53, go_sem, y0, y1, y2, y3, y4]
        · rw [hf] at hc
          have en := tl_ne hne
          have HN := Lib.hid hn
          have HM := Lib.hid hmin
          have EI := Lib.hid ei
          have hpv : Lib.hasPrefix name.data.toList (nmT j).data.toList = true := by rw [hn]; exact pre_is _ _
          rw [hpv] at CP
          clear hf hne hn hmin ei hpv
          go_wp2_with (first | (go_at_call 21; refine CJ.out.mono ?_; rintro e w1 ⟨rfl, hw1⟩; have hq := hw1.symm; subst hq) | (go_at_call 65; refine CP.out.mono ?_; rintro e w1 ⟨rfl, hw1⟩; have hq := hw1.symm; subst hq))
          go_loopg [5] 4 (fun g v wl => ∃ m : Nat, 1 ≤ m ∧ m ≤ n ∧ g = 5 - m ∧ v = .int .i64 (m : Int) ∧ wl = wr)
          case atStart => exact ⟨1, Nat.le_refl _, n1, rfl, rfl, rfl⟩
          case round =>
            obtain ⟨m, hm1, hm2, rfl, rfl, rfl⟩ := hrel
            have CE := Lib.hid (c_ending (m : Int) wr)
            have hes := end_size (m : Int)
            have em : (m : Int) < 4 := by omega
            by_cases hmn : m < n
            · have e5 := tl_ne (HM.out m hm1 hmn)
              go_wp2_with (go_at_call 38; refine CE.out.mono ?_; rintro e w1 ⟨rfl, hw1⟩; have hq := hw1.symm; subst hq)
              go_roundg (5 - (m + 1))
              case measure => omega
              case rel => exact ⟨m + 1, by omega, by omega, rfl, by go_num, rfl⟩
            · have emn : m = n := by omega
              subst emn
              have e5 := tl_eq (HN.out.trans (by rw [EI.out] : nmT j ++ endF i = nmT j ++ endF (m : Int)))
              go_wp2_with (go_at_call 38; refine CE.out.mono ?_; rintro e w1 ⟨rfl, hw1⟩; have hq := hw1.symm; subst hq)
              obtain ⟨hz, gz⟩ := set5 EB.out HB.out GB.out (.int .i64 (j : Int)) (.int .i64 0) (.int .i64 0) (.int .i64 0) (.int .i64 (m : Int))
              refine bodyPost_ret (v := iv (j : Int) 0 0 0 (m : Int)) ?_ rfl ⟨by rw [HK3.out, EI.out], gz⟩
              have y0 := blk_cell hz 0 (v := .int .i64 (j : Int)) rfl
              have y1 := blk_cell hz 1 (v := .int .i64 0) rfl
              have y2 := blk_cell hz 2 (v := .int .i64 0) rfl
              have y3 := blk_cell hz 3 (v := .int .i64 0) rfl
              have y4 := blk_cell hz 4 (v := .int .i64 (m : Int)) rfl
              generalize (World.setCell _ ⟨B, 4, none⟩ _) = wz at *
              simp [results, Tryd.results53, go_sem, y0, y1, y2, y3, y4]
def namedF (name : ByteArray) : Value := match (List.range 88).find? (fun k => decide (1 ≤ k) && (namAt name k).isSome) with
  | none => iv 0 0 0 0 0
  | some k => iv (k : Int) 0 0 0 ((namAt name k).getD 0)
end Go.Proofs.YthcfobefpknjeaaDoor.P
