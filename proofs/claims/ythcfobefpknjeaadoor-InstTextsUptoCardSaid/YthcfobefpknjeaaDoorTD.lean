/- Stage 2: every instruction's text. No condition. -/
import Derived.Test.YthcfobefpknjeaaDoorTC
import Derived.Test.YthcfobefpknjeaaDoorNF
import Derived.Test.YthcfobefpknjeaaDoorO1
import Derived.Lib.ItoaLen
import Derived.Lib.LaidTab
set_option linter.unusedVariables false
set_option linter.unusedSimpArgs false
set_option maxRecDepth 100000
namespace Go.Proofs.YthcfobefpknjeaaDoor.P
open Go.RowKit
def TBw (w : World) : Prop := Lib.TabIs Tryd.prog w "internal/strconv.uint64pow10" .u64 Lib.pow10Tab
theorem TBw.gr {w w' : World} (h : TBw w) (g : Gr w w') : TBw w' := by
  unfold TBw Lib.TabIs World.var? at *
  cases hg : Tryd.prog.globalNamed "internal/strconv.uint64pow10" with
  | none => rw [hg] at h; cases h
  | some n =>
    rw [hg] at h
    simp only [Option.bind_some] at h ⊢
    cases ho : w.heap[n]? with
    | none => rw [ho] at h; cases h
    | some o => rw [blk_gr g ho]; rw [ho] at h; exact h
theorem gPow : Tryd.prog.globalNamed "internal/strconv.uint64pow10" = some 1 := by kernel_rfl
theorem tb_of_laid {W : World} (h : laidMetH Tryd.prog laidL W) : TBw W := by
  rw [MakeChecks.laidMetH_plain _ _ _ (by kernel_rfl)] at h
  have h6 := h.tail.tail
  exact Lib.tabIs_of_head gPow (by kernel_rfl) Tryd.underlying109 Tryd.underlying78 (by kernel_rfl) (by kernel_rfl) h6
theorem gr_grow (w : World) (k : Nat) (os : Array Obj) : Gr w (Go.Sort.grow (w.drewN k) os) := ⟨rfl, rfl, rfl, by simp [Go.Sort.grow, World.drewN], fun j hj => by simp only [Go.Sort.grow, World.drewN]; rw [Array.getElem?_append_left hj]⟩
theorem c_fmt (i : Int) (hi : i64 i) (w : World) (hT : TBw w) : Calls Tryd.prog 35 #[.int .i64 i, .int .i64 10] w fun e w' => e = .returned (.string ⟨(Lib.itoa i).toArray⟩) ∧ Gr w w' :=
  (sh_strconv_FormatInt_10 i hi.1 hi.2 w hT).mono (by
    rintro e w' ⟨rfl, k, os, rfl⟩
    exact ⟨rfl, gr_grow w k os⟩)
def textB (k rd a b : Nat) (i : Int) : ByteArray := ⟨(textL k rd a b i).toArray⟩
theorem c_text_yes (k : Nat) (hk : k < 88) (h1 : 1 ≤ k) (rd a b : Nat) (i : Int) (hi : i64 i) (hm : mayF (k : Int) rd a b i = true) (hrd : rd < 32) (ha : a < 32) (hb : b < 32) (w : World) (hF : FT w) (hT : TBw w) :
    Calls Tryd.prog 17 #[iv (k : Int) rd a b i] w fun e w' => e = .returned (.tuple #[.string (textB k rd a b i), .int .i64 0]) ∧ Gr w w' := by
  have et : textF k rd a b i ⟨(Lib.itoa i).toArray⟩ = textB k rd a b i := ByteArray.ext (Array.ext' (text_list k hk h1 rd a b i (fun e => ((may_fields k hk h1 _ _ _ _ hm).2.2.2.2.1 e).1)))
  rw [← et]
  have hl : (⟨(Lib.itoa i).toArray⟩ : ByteArray).size ≤ 30 := Nat.le_trans (Lib.itoa_length_le i hi.1 hi.2) (by decide)
  have CF := fun w1 (g : Gr w w1) => c_fmt i hi w1 (hT.gr g)
  rcases fm_cases k hk h1 with hv | hv | hv | hv | hv | hv | hv | hv | hv | hv
  · exact c_text_85 k hk h1 hv rd a b i hi hm hrd ha hb _ hl w hF CF
  · exact c_text_74 k hk h1 hv rd a b i hi hm hrd ha hb _ hl w hF CF
  · exact c_text_73 k hk h1 hv rd a b i hi hm hrd ha hb _ hl w hF CF
  · exact c_text_66 k hk h1 hv rd a b i hi hm hrd ha hb _ hl w hF CF
  · exact c_text_83 k hk h1 hv rd a b i hi hm hrd ha hb _ hl w hF CF
  · exact c_text_72 k hk h1 hv rd a b i hi hm hrd ha hb _ hl w hF CF
  · exact c_text_86 k hk h1 hv rd a b i hi hm hrd ha hb _ hl w hF CF
  · exact c_text_82 k hk h1 hv rd a b i hi hm hrd ha hb _ hl w hF CF
  · exact c_text_65 k hk h1 hv rd a b i hi hm hrd ha hb _ hl w hF CF
  · exact c_text_78 k hk h1 hv rd a b i hi hm hrd ha hb _ hl w hF CF
theorem c_text_no (op rd a b i : Int) (hi : i64 i) (hm : mayF op rd a b i = false) (w : World) (hF : FT w) : Calls Tryd.prog 17 #[iv op rd a b i] w fun e w' => e = .returned (.tuple #[.string ⟨#[]⟩, .int .i64 2]) ∧ Gr w w' := by
  have gb : Gr w (w.alloc (.cells #[.int .i64 op, .int .i64 rd, .int .i64 a, .int .i64 b, .int .i64 i] 23)) := (Gr.refl w).alloc (Nat.le_refl _) _
  have CM : Hid (∀ w1, Gr w w1 → Calls Tryd.prog 11 #[iv op rd a b i] w1 fun e w' => e = .returned (.bool false) ∧ Gr w1 w') := Lib.hid (fun w1 g => by have := c_may op rd a b i hi w1 (hF.gr g); rw [hm] at this; exact this)
  have GB := Lib.hid gb
  clear hF hm gb
  go_enter Tryd.func17, Tryd.ntmps17
  go_wp2_with (first
    | (go_at_call 11; refine (CM.out _ GB.out).mono ?_; rintro e w2 ⟨rfl, g2⟩))
  go_ret2
  exact ⟨rfl, gtrans GB.out g2⟩
def textV (op rd a b i : Int) : ByteArray := bif mayF op rd a b i then textB op.toNat rd.toNat a.toNat b.toNat i else ⟨#[]⟩
theorem one_in2 {n : Int} {b : Bool} (h : oneB n b = true) : 0 ≤ n ∧ n < 32 := by
  unfold oneB at h
  rw [Bool.or_eq_true, Bool.and_eq_true, Bool.and_eq_true, decide_eq_true_eq, decide_eq_true_eq, decide_eq_true_eq] at h
  omega
theorem may_regs2 {f rd a b : Int} {q : Bool} (h : mayR f q rd a b = true) : (0 ≤ rd ∧ rd < 32) ∧ (0 ≤ a ∧ a < 32) ∧ (0 ≤ b ∧ b < 32) := by
  have key : ∀ p r s : Bool, fitsB rd a b p r s = true → (0 ≤ rd ∧ rd < 32) ∧ (0 ≤ a ∧ a < 32) ∧ (0 ≤ b ∧ b < 32) := fun p r s e => by
    obtain ⟨x, y, z⟩ := fits_yes e
    exact ⟨one_in2 x, one_in2 y, one_in2 z⟩
  unfold mayR at h
  repeat' split at h
  all_goals exact key _ _ _ h
/-- An instruction that may be, in naturals. -/
theorem may_nat {op rd a b i : Int} (h : mayF op rd a b i = true) : ∃ k p q r : Nat, op = (k : Int) ∧ rd = (p : Int) ∧ a = (q : Int) ∧ b = (r : Int) ∧ k < 88 ∧ 1 ≤ k ∧ p < 32 ∧ q < 32 ∧ r < 32 := by
  obtain ⟨k, rfl, hk, h1, hr, hj⟩ := may_op h
  obtain ⟨x, y, z⟩ := may_regs2 hr
  exact ⟨k, rd.toNat, a.toNat, b.toNat, rfl, by omega, by omega, by omega, hk, h1, by omega, by omega, by omega⟩
theorem c_text (op rd a b i : Int) (hi : i64 i) (w : World) (hF : FT w) (hT : TBw w) : Calls Tryd.prog 17 #[iv op rd a b i] w fun e w' => e = .returned (.tuple #[.string (textV op rd a b i), .int .i64 (encE op rd a b i)]) ∧ Gr w w' := by
  cases hm : mayF op rd a b i with
  | false =>
    unfold textV encE
    rw [hm]
    exact c_text_no op rd a b i hi hm w hF
  | true =>
    obtain ⟨k, p, q, r, rfl, rfl, rfl, rfl, hk, h1, hp, hq, hr⟩ := may_nat hm
    unfold textV encE
    rw [hm]
    exact c_text_yes k hk h1 p q r i hi hm hp hq hr w hF hT
end Go.Proofs.YthcfobefpknjeaaDoor.P
