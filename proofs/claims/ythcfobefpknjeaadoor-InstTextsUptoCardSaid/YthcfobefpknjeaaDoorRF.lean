/- Stage 2: the document's Text, whatever instruction. No condition. -/
import Derived.Test.YthcfobefpknjeaaDoorR6
import Derived.Test.YthcfobefpknjeaaDoorRG
import Derived.Test.YthcfobefpknjeaaDoorRB
import Derived.Test.YthcfobefpknjeaaDoorRD
set_option linter.unusedVariables false
set_option linter.unusedSimpArgs false
set_option maxRecDepth 100000
namespace Go.Proofs.YthcfobefpknjeaaDoor.P
open Go.RowKit
theorem r_text_no (op rd a b i : Int) (hi : i64 i) (hm : mayF op rd a b i = false) (w : World) : Calls Tryd.prog 18 #[iv op rd a b i] w fun e w' => e = .returned (.tuple #[.string ⟨#[]⟩, .int .i64 2]) ∧ Gr w w' := by
  have gb : Gr w (w.alloc (.cells #[.int .i64 op, .int .i64 rd, .int .i64 a, .int .i64 b, .int .i64 i] 23)) := (Gr.refl w).alloc (Nat.le_refl _) _
  have CM : Hid (∀ w1, Calls Tryd.prog 12 #[iv op rd a b i] w1 fun e w' => e = .returned (.bool false) ∧ Gr w1 w') := Lib.hid (fun w1 => by have := r_may op rd a b i hi w1; rw [hm] at this; exact this)
  have GB := Lib.hid gb
  clear hm gb
  go_enter Tryd.func18, Tryd.ntmps18
  go_wp2_with (first
    | (go_at_call 12; refine (CM.out _).mono ?_; rintro e w2 ⟨rfl, g2⟩))
  go_ret2
  exact ⟨rfl, gtrans GB.out g2⟩
theorem ld_no2 : ∀ k : Nat, k < 88 → (fmT k = 72 ∨ fmT k = 86) → loadB k = false := by decide +kernel
theorem ld_4 : loadB 4 = true := by decide
theorem r_text (op rd a b i : Int) (hi : i64 i) (w : World) : Calls Tryd.prog 18 #[iv op rd a b i] w fun e w' => e = .returned (.tuple #[.string (textV op rd a b i), .int .i64 (encE op rd a b i)]) ∧ Gr w w' := by
  cases hm : mayF op rd a b i with
  | false =>
    unfold textV encE
    rw [hm]
    exact r_text_no op rd a b i hi hm w
  | true =>
    obtain ⟨k, p, q, r, rfl, rfl, rfl, rfl, hk, h1, hp, hq, hr⟩ := may_nat hm
    unfold textV encE
    rw [hm, cond_true, cond_true]
    simp only [Int.toNat_natCast]
    rcases fm_cases k hk h1 with hv | hv | hv | hv | hv | hv | hv | hv | hv | hv
    · exact r_text_85 k hk h1 hv p q r i hi hm hp hq hr w
    · exact r_text_74 k hk h1 hv p q r i hi hm hp hq hr w
    · cases hl : loadB k with
      | false => exact r_text_73n k hk h1 hv p q r i hi hm hp hq hr hl w
      | true =>
        by_cases h4 : k = 4
        · exact r_text_73z k hk h1 hv p q r i hi hm hp hq hr h4 w
        · exact r_text_73y k hk h1 hv p q r i hi hm hp hq hr hl h4 w
    · exact r_text_66 k hk h1 hv p q r i hi hm hp hq hr w
    · exact r_text_83 k hk h1 hv p q r i hi hm hp hq hr w
    · exact r_text_72n k hk h1 hv p q r i hi hm hp hq hr (ld_no2 k hk (.inl hv)) w
    · exact r_text_86n k hk h1 hv p q r i hi hm hp hq hr (ld_no2 k hk (.inr hv)) w
    · exact r_text_82 k hk h1 hv p q r i hi hm hp hq hr w
    · have hi4 : i = 0 ∨ i = 1 ∨ i = 2 ∨ i = 3 := by have := (may_fields k hk h1 _ _ _ _ hm).2.2.2.2.1 hv; omega
      cases hb : resB k with
      | false =>
        rcases hi4 with h | h | h | h
        · exact r_text_65n0 k hk h1 hv p q r i hi hm hp hq hr hb h w
        · exact r_text_65n1 k hk h1 hv p q r i hi hm hp hq hr hb h w
        · exact r_text_65n2 k hk h1 hv p q r i hi hm hp hq hr hb h w
        · exact r_text_65n3 k hk h1 hv p q r i hi hm hp hq hr hb h w
      | true =>
        rcases hi4 with h | h | h | h
        · exact r_text_65y0 k hk h1 hv p q r i hi hm hp hq hr hb h w
        · exact r_text_65y1 k hk h1 hv p q r i hi hm hp hq hr hb h w
        · exact r_text_65y2 k hk h1 hv p q r i hi hm hp hq hr hb h w
        · exact r_text_65y3 k hk h1 hv p q r i hi hm hp hq hr hb h w
    · exact r_text_78 k hk h1 hv p q r i hi hm hp hq hr w
end Go.Proofs.YthcfobefpknjeaaDoor.P
