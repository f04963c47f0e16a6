/- Stage 10: acts; FramesLeast. No condition. -/
import Derived.Test.YtklkgjaljfkjbaaF6
import Derived.Test.YtklkgjaljfkjbaaS
import Derived.Deep.DeepCutAuto
import Derived.Deep.LoopGhost
set_option linter.unusedVariables false
namespace Go.Proofs.Ytklkgjaljfkjbaa.P
open Go.RowKit Go.MuLone Go.Maps
structure FActV where
  kind : Int
  n : Int
  at_ : Int
def FActV.ok (x : FActV) : Prop := i64 x.kind ∧ i64 x.n ∧ u64 x.at_
/-- The acts lie there. -/
def FActs (w : World) (bl off len : Nat) (f : Nat → FActV) : Prop :=
  ∀ i, i < len → (f i).ok ∧ w.cell? ⟨bl, off + i * 3, none⟩ = some (.int .i64 (f i).kind) ∧ w.cell? ⟨bl, off + i * 3 + 1, none⟩ = some (.int .i64 (f i).n) ∧ w.cell? ⟨bl, off + i * 3 + 2, none⟩ = some (.int .u64 (f i).at_)
section
open Go.ChangeShapes Go.WideShapes Go.Deep
variable {H : Type} {enc : TypeId × Value → H} {w : World} {base : Nat} {spare : Nat → Bool} {held : Bool}
set_option maxRecDepth 100000 in
theorem Fopen_acts {v : Value} {d : DataW H} {ps : List MemPlace} (hv : ∃ (o : Option Addr) (l c : Nat), v = .slice o l c) (h : DataW.Trod enc Try.prog w base spare held 22 v d ps) :
    ∃ (o : Option Addr) (len cap bl off : Nat) (f : Nat → FActV), v = .slice o len cap ∧ len ≤ maxLen ∧ (0 < len → o = some ⟨bl, off, none⟩ ∧ bl < w.heap.size) ∧ FActs w bl off len f := by
  rcases open_structs_s Try.underlying22 Try.underlying38 (by kernel_rfl) (by kernel_rfl) (by decide) hv h with ⟨o, cap, rfl⟩ | ⟨bl, off, len, cap, rfl, hl0, hlc, hcap, hbl, hf⟩
  · exact ⟨o, 0, cap, 0, 0, fun _ => ⟨0, 0, 0⟩, rfl, by unfold maxLen; omega, fun h => absurd h (by omega), fun i hi => absurd hi (by omega)⟩
  · have hx : ∀ i, ∃ a : FActV, i < len → a.ok ∧ w.cell? ⟨bl, off + i * 3, none⟩ = some (.int .i64 a.kind) ∧ w.cell? ⟨bl, off + i * 3 + 1, none⟩ = some (.int .i64 a.n) ∧ w.cell? ⟨bl, off + i * 3 + 2, none⟩ = some (.int .u64 a.at_) := by
      intro i
      by_cases hi : i < len
      · obtain ⟨u0, y0, n0, c0, t0⟩ := hf i hi 0 _ rfl
        obtain ⟨u1, y1, n1, c1, t1⟩ := hf i hi 1 _ rfl
        obtain ⟨u2, y2, n2, c2, t2⟩ := hf i hi 2 _ rfl
        obtain ⟨x0, e0, _, k0⟩ := DataW.trod_int Try.underlying3 t0
        obtain ⟨x1, e1, _, k1⟩ := DataW.trod_int Try.underlying3 t1
        obtain ⟨x2, e2, _, k2⟩ := DataW.trod_int Try.underlying36 t2
        rw [List.singleton_inj] at e0 e1 e2
        subst e0; subst e1; subst e2
        exact ⟨⟨x0, x1, x2⟩, fun _ => ⟨⟨wf_i64 k0, wf_i64 k1, wf_u64 k2⟩, c0, c1, c2⟩⟩
      · exact ⟨⟨0, 0, 0⟩, fun h => absurd h hi⟩
    obtain ⟨f, hf'⟩ := Classical.axiomOfChoice hx
    exact ⟨some ⟨bl, off, none⟩, len, cap, bl, off, f, rfl, by omega, fun _ => ⟨rfl, hbl⟩, fun i hi => hf' i hi⟩
theorem Fopen_acts_c {u : Value} {y : DataW H × List MemPlace} {n : Nat} (h : DataW.trod enc Try.prog w base spare held n 22 [u] = some y) :
    ∃ (o : Option Addr) (len cap bl off : Nat) (f : Nat → FActV), u = .slice o len cap ∧ len ≤ maxLen ∧ (0 < len → o = some ⟨bl, off, none⟩ ∧ bl < w.heap.size) ∧ FActs w bl off len f := by
  obtain ⟨o, len, cap, rfl, ht⟩ := open_slice_c Try.underlying22 h
  exact Fopen_acts ⟨o, len, cap, rfl⟩ ht
end
theorem w64_in (n : Int) (h1 : -9223372036854775808 ≤ n) (h2 : n ≤ 9223372036854775807) : wrap64 n = n := by unfold wrap64; omega
theorem dw_sum (q z k first : Nat) (h : q + z = k - first) (hf : first ≤ k) (hk : k ≤ 64) : wrap64 ((q : Int) + (z : Int)) = (k : Int) - first ∧ wrap64 ((k : Int) - (first : Int)) = (k : Int) - first := by
  constructor
  · rw [w64_in _ (by omega) (by omega)]; omega
  · exact w64_in _ (by omega) (by omega)
/-- Of the n from a on, how many are not free. -/
def cntT (L : List Bool) (a : Nat) : Nat → Nat
  | 0 => 0
  | n + 1 => cntT L a n + (if isL L (a + n) = true then 0 else 1)
theorem cnt_both (L : List Bool) (a : Nat) : ∀ n, cntT L a n + cntL L a n = n
  | 0 => rfl
  | n + 1 => by
    have := cnt_both L a n
    rw [cntT, cntL]
    by_cases h : isL L (a + n) = true
    · rw [if_pos h, if_pos h]; omega
    · rw [if_neg h, if_neg h]; omega
theorem tkn_nat (L : List Bool) (first k : Nat) : tknB L first k = (decide (first ≤ k) && decide (k < L.length) && !isL L k) := by
  unfold tknB
  rw [Int.toNat_natCast]
  by_cases h1 : first ≤ k
  · rw [decide_eq_true h1, decide_eq_true (show (first : Int) ≤ k by omega)]
    by_cases h2 : k < L.length
    · rw [decide_eq_true h2, decide_eq_true (show (k : Int) < L.length by omega)]
    · rw [decide_eq_false h2, decide_eq_false (show ¬ (k : Int) < L.length by omega)]
  · rw [decide_eq_false h1, decide_eq_false (show ¬ (first : Int) ≤ k by omega)]; rfl
/-- How many of the first k are taken. -/
def manyL (L : List Bool) (first : Nat) : Nat → Nat
  | 0 => 0
  | k + 1 => manyL L first k + (if tknB L first k = true then 1 else 0)
theorem many_eq (L : List Bool) (first : Nat) : ∀ k, k ≤ L.length → manyL L first k = cntT L first (k - first)
  | 0, _ => by rw [Nat.zero_sub]; rfl
  | k + 1, h => by
    rw [manyL, many_eq L first k (by omega), tkn_nat]
    by_cases h1 : first ≤ k
    · rw [show k + 1 - first = (k - first) + 1 by omega, cntT, show first + (k - first) = k by omega, decide_eq_true h1, decide_eq_true (show k < L.length by omega)]
      cases isL L k <;> rfl
    · rw [decide_eq_false h1, show k + 1 - first = 0 by omega, show k - first = 0 by omega]; rfl
theorem many_le (L : List Bool) (first : Nat) : ∀ k, manyL L first k ≤ k
  | 0 => Nat.le_refl _
  | k + 1 => by have := many_le L first k; rw [manyL]; split <;> omega
theorem takeL_len (L : List Bool) (first : Nat) : (takeL L first).length = L.length := by unfold takeL; cases takeB L first <;> simp
theorem giveL_len (L : List Bool) (first : Nat) (k : Int) : (giveL L first k).length = L.length := by unfold giveL; cases tknB L first k <;> simp
theorem next_tkn (L : List Bool) (first j : Nat) (h1 : first ≤ j) (h2 : j < nextL L first (L.length - first)) (hf : first ≤ L.length) : tknB L first j = true := by
  have hle := nextL_le L (L.length - first) first
  rw [tkn_nat, decide_eq_true h1, decide_eq_true (by omega), nextL_not L _ first j h1 h2]; rfl
theorem next_not (L : List Bool) (first : Nat) (hf : first ≤ L.length) (h2 : nextL L first (L.length - first) < L.length) : tknB L first (nextL L first (L.length - first) : Nat) = false := by
  rw [tkn_nat, nextL_is L _ first (by omega)]; simp
set_option maxRecDepth 100000 in
set_option maxHeartbeats 3200000 in
theorem l_least (fr first : Nat) (h1 : 1 ≤ fr) (h2 : fr ≤ 64) (h3 : first ≤ fr) (w : World) (o : Option Addr) (len cap bl off : Nat) (f : Nat → FActV) (hlen : len ≤ 9223372036854775807) (ho : 0 < len → o = some ⟨bl, off, none⟩ ∧ bl < w.heap.size) (hl : FActs w bl off len f) :
    Calls Try.prog 6 #[.int .i64 fr, .int .i64 first, .slice o len cap] w fun e w' => e = .returned (.bool true) ∧ Gr w w' := by
  have HA := Lib.hid hl
  have HO := Lib.hid ho
  clear hl ho
  have e1 : decide ((fr : Int) < 1) = false := decide_eq_false (by omega)
  have e2 : decide (64 < (fr : Int)) = false := decide_eq_false (by omega)
  have e3 : decide ((first : Int) < 0) = false := decide_eq_false (by omega)
  have e4 : decide (fr < first) = false := decide_eq_false (by omega)
  go_enter Try.func6, Try.ntmps6
  go_wp2_with fail
  refine (c_shown10 _).mono ?_; rintro e w1 ⟨rfl, g⟩
  have G := Lib.hid g; clear g
  go_wp2_with fail
  refine (mem_new w w1 G.out fr h1 (by omega)).mono ?_; rintro e w2 ⟨b, rfl, h⟩
  have H1 := Lib.hid h
  clear h e1 e2 e3 e4
  go_wp2_with fail
  refine (ps_new w w2 b fr first _ 0 H1.out h3 _ rfl).mono ?_; rintro e w3 ⟨pb, rfl, h⟩
  have H2 := Lib.hid h
  clear h
  go_wp2_with fail
  go_loopg [12] len (fun g vi wr => ∃ (i : Nat) (L : List Bool), i ≤ len ∧ g = len - i ∧ vi = .int .i64 i ∧ L.length = fr ∧ PS w wr pb b first L)
  case atStart => exact ⟨0, _, Nat.zero_le _, rfl, rfl, fresh_len _ _, H2.out⟩
  case round =>
    clear H1 H2
    obtain ⟨i, L, hi, rfl, rfl, hL, hg⟩ := hrel
    have HG := Lib.hid hg
    have HL := Lib.hid hL
    have hB : takeB L first = decide (nextL L first (fr - first) < fr) := by unfold takeB; rw [hL]
    have hM1 := nextL_ge L (fr - first) first
    have hM2 := nextL_le L (fr - first) first
    have hT : ∀ j : Nat, first ≤ j → j < nextL L first (fr - first) → tknB L first j = true := fun j q1 q2 => next_tkn L first j q1 (by rw [hL]; exact q2) (by omega)
    have hF : nextL L first (fr - first) < fr → tknB L first (nextL L first (fr - first) : Nat) = false := fun q => by
      have := next_not L first (by omega) (by rw [hL]; exact q); rw [hL] at this; exact this
    have hN : takeB L first = true → takeN L first = (nextL L first (fr - first) : Nat) := fun q => by unfold takeN; rw [q, hL]; rfl
    clear hg hL
    generalize nextL L first (fr - first) = m at *
    have HT := Lib.hid (And.intro hT hF)
    clear hT hF
    by_cases hlt : i < len
    · obtain ⟨rfl, hbl⟩ := HO.out (by omega)
      obtain ⟨⟨_, hun, _⟩, a0', a1', _⟩ := HA.out i hlt
      have A0 := Lib.hid a0'
      have A1 := Lib.hid a1'
      have HUN := Lib.hid hun
      clear a0' a1' hun
      go_wp2_with fail
      go_loopg [13] (fr - first) (fun g v wl => ∃ j : Nat, first ≤ j ∧ j ≤ m ∧ g = fr - j ∧ v = .int .i64 j ∧ PS w wl pb b first L)
      case atStart => exact ⟨first, Nat.le_refl _, hM1, rfl, rfl, HG.out⟩
      case round =>
        obtain ⟨j, hj1, hj2, rfl, rfl, hq⟩ := hrel
        have HI := Lib.hid hq
        clear hq
        by_cases hjm : j < m
        · have dj : decide (j < fr) = true := decide_eq_true (by omega)
          go_wp2_with fail
          refine (ps_taken HI.out j ⟨by omega, by omega⟩ true (HT.out.1 j hj1 hjm)).mono ?_; rintro e w4 ⟨rfl, h⟩
          have H4 := Lib.hid h; clear h
          go_wp2_with fail
          go_roundg (fr - (j + 1))
          case measure => omega
          case rel => exact ⟨j + 1, by omega, by omega, rfl, by go_num, H4.out⟩
        · have hjm2 : j = m := by omega
          subst hjm2
          by_cases hjf : j < fr
          · have dj : decide (j < fr) = true := decide_eq_true hjf
            have htb : takeB L first = true := by rw [hB]; exact dj
            have HTN := Lib.hid (hN htb)
            have HTE := Lib.hid (show takeE L first = 0 by unfold takeE; rw [htb]; rfl)
            clear hB hN htb
            go_wp2_with fail
            refine (ps_taken HI.out j ⟨by omega, by omega⟩ false (HT.out.2 hjf)).mono ?_; rintro e w4 ⟨rfl, h⟩
            have HJ := Lib.hid h; clear h
            have HJG := Lib.hid (show Gr w w4 by obtain ⟨s, h⟩ := HJ.out; exact h.1)
            have a0 := A0.out
            have a1 := A1.out
            have c0 := kcell HJG.out a0
            have c1 := kcell HJG.out a1
            clear a0 a1
            by_cases hk1 : (f i).kind = 1
            · rw [hk1] at c0
              clear c1
              go_wp2_with fail
              refine (ps_take HJ.out (j : Int) 0 _ HTN.out HTE.out rfl).mono ?_; rintro e w5 ⟨rfl, h⟩
              have HQ := Lib.hid h; clear h
              have HQL := Lib.hid (show (takeL L first).length = fr from (takeL_len L first).trans HL.out)
              go_wp2_with fail
              go_loopg [16, 17] fr (fun g v16 v17 wm => ∃ k : Nat, k ≤ fr ∧ g = fr - k ∧ v17 = .int .i64 k ∧ v16 = .int .i64 (manyL (takeL L first) first k : Nat) ∧ PS w wm pb b first (takeL L first))
              case atStart => exact ⟨0, Nat.zero_le _, rfl, rfl, rfl, HQ.out⟩
              case round =>
                obtain ⟨k, hk, rfl, rfl, rfl, hq⟩ := hrel
                have HM := Lib.hid hq
                clear hq
                by_cases hkf : k < fr
                · have dk : decide (k < fr) = true := decide_eq_true hkf
                  cases hv : tknB (takeL L first) first k with
                  | true =>
                    have HV := Lib.hid hv; clear hv
                    go_wp2_with fail
                    refine (ps_taken HM.out k ⟨by omega, by omega⟩ true HV.out).mono ?_; rintro e w9 ⟨rfl, h⟩
                    have H9 := Lib.hid h; clear h
                    go_wp2_with fail
                    go_roundg (fr - (k + 1))
                    case measure => omega
                    case rel => exact ⟨k + 1, by omega, rfl, by go_num, by have hml := many_le (takeL L first) first k; rw [show manyL (takeL L first) first (k + 1) = manyL (takeL L first) first k + 1 from by rw [manyL, HV.out, if_pos rfl], w64_in _ (by omega) (by omega)]; exact congrArg (Value.int .i64) (Int.natCast_succ _).symm, H9.out⟩
                  | false =>
                    have HV := Lib.hid hv; clear hv
                    go_wp2_with fail
                    refine (ps_taken HM.out k ⟨by omega, by omega⟩ false HV.out).mono ?_; rintro e w9 ⟨rfl, h⟩
                    have H9 := Lib.hid h; clear h
                    go_wp2_with fail
                    go_roundg (fr - (k + 1))
                    case measure => omega
                    case rel => exact ⟨k + 1, by omega, rfl, by go_num, by rw [show manyL (takeL L first) first (k + 1) = manyL (takeL L first) first k from by rw [manyL, HV.out]; rfl], H9.out⟩
                · have hkk : k = fr := by omega
                  subst hkk
                  have dk : decide (k < k) = false := decide_eq_false (by omega)
                  have hsum := cnt_both (takeL L first) first (k - first)
                  have hmany := many_eq (takeL L first) first k (by rw [HQL.out]; exact Nat.le_refl _)
                  have hle := many_le (takeL L first) first k
                  rw [← hmany] at hsum
                  obtain ⟨z, hz⟩ : ∃ z : Nat, z = cntL (takeL L first) first ((takeL L first).length - first) := ⟨_, rfl⟩
                  rw [HQL.out] at hz
                  rw [← hz] at hsum
                  have HZ := Lib.hid hz
                  clear hz hmany
                  generalize manyL (takeL L first) first k = q at *
                  obtain ⟨dw1, dw2⟩ := dw_sum q z k first hsum h3 h2
                  clear hsum hle
                  go_wp2_with fail
                  refine (ps_left HM.out z (by rw [HZ.out, HQL.out])).mono ?_; rintro e w9 ⟨rfl, hw9⟩; have hq9 := hw9.symm; subst hq9
                  go_wp2_with fail
                  go_roundg (len - (i + 1))
                  case measure => omega
                  case rel => exact ⟨i + 1, takeL L first, by omega, rfl, by go_num, HQL.out, HM.out⟩
            · have d1 : ((f i).kind == 1) = false := by simpa using hk1
              by_cases hk2 : (f i).kind = 2
              · rw [hk2] at c0
                clear d1 hk1
                go_wp2_with fail
                refine (ps_give HJ.out (f i).n HUN.out _ _ rfl rfl).mono ?_; rintro e w5 ⟨rfl, h⟩
                have HQ := Lib.hid h; clear h
                have HQL := Lib.hid (show (giveL L first (f i).n).length = fr from (giveL_len L first _).trans HL.out)
                clear c0 c1
                go_wp2_with fail
                go_loopg [16, 17] fr (fun g v16 v17 wm => ∃ k : Nat, k ≤ fr ∧ g = fr - k ∧ v17 = .int .i64 k ∧ v16 = .int .i64 (manyL (giveL L first (f i).n) first k : Nat) ∧ PS w wm pb b first (giveL L first (f i).n))
                case atStart => exact ⟨0, Nat.zero_le _, rfl, rfl, rfl, HQ.out⟩
                case round =>
                  obtain ⟨k, hk, rfl, rfl, rfl, hq⟩ := hrel
                  have HM := Lib.hid hq
                  clear hq
                  by_cases hkf : k < fr
                  · have dk : decide (k < fr) = true := decide_eq_true hkf
                    cases hv : tknB (giveL L first (f i).n) first k with
                    | true =>
                      have HV := Lib.hid hv; clear hv
                      go_wp2_with fail
                      refine (ps_taken HM.out k ⟨by omega, by omega⟩ true HV.out).mono ?_; rintro e w9 ⟨rfl, h⟩
                      have H9 := Lib.hid h; clear h
                      go_wp2_with fail
                      go_roundg (fr - (k + 1))
                      case measure => omega
                      case rel => exact ⟨k + 1, by omega, rfl, by go_num, by have hml := many_le (giveL L first (f i).n) first k; rw [show manyL (giveL L first (f i).n) first (k + 1) = manyL (giveL L first (f i).n) first k + 1 from by rw [manyL, HV.out, if_pos rfl], w64_in _ (by omega) (by omega)]; exact congrArg (Value.int .i64) (Int.natCast_succ _).symm, H9.out⟩
                    | false =>
                      have HV := Lib.hid hv; clear hv
                      go_wp2_with fail
                      refine (ps_taken HM.out k ⟨by omega, by omega⟩ false HV.out).mono ?_; rintro e w9 ⟨rfl, h⟩
                      have H9 := Lib.hid h; clear h
                      go_wp2_with fail
                      go_roundg (fr - (k + 1))
                      case measure => omega
                      case rel => exact ⟨k + 1, by omega, rfl, by go_num, by rw [show manyL (giveL L first (f i).n) first (k + 1) = manyL (giveL L first (f i).n) first k from by rw [manyL, HV.out]; rfl], H9.out⟩
                  · have hkk : k = fr := by omega
                    subst hkk
                    have dk : decide (k < k) = false := decide_eq_false (by omega)
                    have hsum := cnt_both (giveL L first (f i).n) first (k - first)
                    have hmany := many_eq (giveL L first (f i).n) first k (by rw [HQL.out]; exact Nat.le_refl _)
                    have hle := many_le (giveL L first (f i).n) first k
                    rw [← hmany] at hsum
                    obtain ⟨z, hz⟩ : ∃ z : Nat, z = cntL (giveL L first (f i).n) first ((giveL L first (f i).n).length - first) := ⟨_, rfl⟩
                    rw [HQL.out] at hz
                    rw [← hz] at hsum
                    have HZ := Lib.hid hz
                    clear hz hmany
                    generalize manyL (giveL L first (f i).n) first k = q at *
                    obtain ⟨dw1, dw2⟩ := dw_sum q z k first hsum h3 h2
                    clear hsum hle
                    go_wp2_with fail
                    refine (ps_left HM.out z (by rw [HZ.out, HQL.out])).mono ?_; rintro e w9 ⟨rfl, hw9⟩; have hq9 := hw9.symm; subst hq9
                    go_wp2_with fail
                    go_roundg (len - (i + 1))
                    case measure => omega
                    case rel => exact ⟨i + 1, giveL L first (f i).n, by omega, rfl, by go_num, HQL.out, HM.out⟩
              · have d2 : ((f i).kind == 2) = false := by simpa using hk2
                clear hk1 hk2 c1
                have HQ := HJ
                have HQL := HL
                go_wp2_with fail
                go_loopg [16, 17] fr (fun g v16 v17 wm => ∃ k : Nat, k ≤ fr ∧ g = fr - k ∧ v17 = .int .i64 k ∧ v16 = .int .i64 (manyL L first k : Nat) ∧ PS w wm pb b first (L))
                case atStart => exact ⟨0, Nat.zero_le _, rfl, rfl, rfl, HQ.out⟩
                case round =>
                  obtain ⟨k, hk, rfl, rfl, rfl, hq⟩ := hrel
                  have HM := Lib.hid hq
                  clear hq
                  by_cases hkf : k < fr
                  · have dk : decide (k < fr) = true := decide_eq_true hkf
                    cases hv : tknB (L) first k with
                    | true =>
                      have HV := Lib.hid hv; clear hv
                      go_wp2_with fail
                      refine (ps_taken HM.out k ⟨by omega, by omega⟩ true HV.out).mono ?_; rintro e w9 ⟨rfl, h⟩
                      have H9 := Lib.hid h; clear h
                      go_wp2_with fail
                      go_roundg (fr - (k + 1))
                      case measure => omega
                      case rel => exact ⟨k + 1, by omega, rfl, by go_num, by have hml := many_le (L) first k; rw [show manyL (L) first (k + 1) = manyL (L) first k + 1 from by rw [manyL, HV.out, if_pos rfl], w64_in _ (by omega) (by omega)]; exact congrArg (Value.int .i64) (Int.natCast_succ _).symm, H9.out⟩
                    | false =>
                      have HV := Lib.hid hv; clear hv
                      go_wp2_with fail
                      refine (ps_taken HM.out k ⟨by omega, by omega⟩ false HV.out).mono ?_; rintro e w9 ⟨rfl, h⟩
                      have H9 := Lib.hid h; clear h
                      go_wp2_with fail
                      go_roundg (fr - (k + 1))
                      case measure => omega
                      case rel => exact ⟨k + 1, by omega, rfl, by go_num, by rw [show manyL (L) first (k + 1) = manyL (L) first k from by rw [manyL, HV.out]; rfl], H9.out⟩
                  · have hkk : k = fr := by omega
                    subst hkk
                    have dk : decide (k < k) = false := decide_eq_false (by omega)
                    have hsum := cnt_both (L) first (k - first)
                    have hmany := many_eq (L) first k (by rw [HQL.out]; exact Nat.le_refl _)
                    have hle := many_le (L) first k
                    rw [← hmany] at hsum
                    obtain ⟨z, hz⟩ : ∃ z : Nat, z = cntL (L) first ((L).length - first) := ⟨_, rfl⟩
                    rw [HQL.out] at hz
                    rw [← hz] at hsum
                    have HZ := Lib.hid hz
                    clear hz hmany
                    generalize manyL (L) first k = q at *
                    obtain ⟨dw1, dw2⟩ := dw_sum q z k first hsum h3 h2
                    clear hsum hle
                    go_wp2_with fail
                    refine (ps_left HM.out z (by rw [HZ.out, HQL.out])).mono ?_; rintro e w9 ⟨rfl, hw9⟩; have hq9 := hw9.symm; subst hq9
                    go_wp2_with fail
                    go_roundg (len - (i + 1))
                    case measure => omega
                    case rel => exact ⟨i + 1, L, by omega, rfl, by go_num, HQL.out, HM.out⟩
          · have dj : decide (j < fr) = false := decide_eq_false hjf
            have htb : takeB L first = false := by rw [hB]; exact dj
            have HTN := Lib.hid (show takeN L first = 0 by unfold takeN; rw [htb]; rfl)
            have HTE := Lib.hid (show takeE L first = 4 by unfold takeE; rw [htb]; rfl)
            clear hB hN htb
            have HJ := HI
            have HJG := Lib.hid (show Gr w _ by obtain ⟨s, h⟩ := HJ.out; exact h.1)
            have a0 := A0.out
            have a1 := A1.out
            have c0 := kcell HJG.out a0
            have c1 := kcell HJG.out a1
            clear a0 a1
            by_cases hk1 : (f i).kind = 1
            · rw [hk1] at c0
              clear c1
              go_wp2_with fail
              refine (ps_take HJ.out 0 4 _ HTN.out HTE.out rfl).mono ?_; rintro e w5 ⟨rfl, h⟩
              have HQ := Lib.hid h; clear h
              have HQL := Lib.hid (show (takeL L first).length = fr from (takeL_len L first).trans HL.out)
              go_wp2_with fail
              go_loopg [16, 17] fr (fun g v16 v17 wm => ∃ k : Nat, k ≤ fr ∧ g = fr - k ∧ v17 = .int .i64 k ∧ v16 = .int .i64 (manyL (takeL L first) first k : Nat) ∧ PS w wm pb b first (takeL L first))
              case atStart => exact ⟨0, Nat.zero_le _, rfl, rfl, rfl, HQ.out⟩
              case round =>
                obtain ⟨k, hk, rfl, rfl, rfl, hq⟩ := hrel
                have HM := Lib.hid hq
                clear hq
                by_cases hkf : k < fr
                · have dk : decide (k < fr) = true := decide_eq_true hkf
                  cases hv : tknB (takeL L first) first k with
                  | true =>
                    have HV := Lib.hid hv; clear hv
                    go_wp2_with fail
                    refine (ps_taken HM.out k ⟨by omega, by omega⟩ true HV.out).mono ?_; rintro e w9 ⟨rfl, h⟩
                    have H9 := Lib.hid h; clear h
                    go_wp2_with fail
                    go_roundg (fr - (k + 1))
                    case measure => omega
                    case rel => exact ⟨k + 1, by omega, rfl, by go_num, by have hml := many_le (takeL L first) first k; rw [show manyL (takeL L first) first (k + 1) = manyL (takeL L first) first k + 1 from by rw [manyL, HV.out, if_pos rfl], w64_in _ (by omega) (by omega)]; exact congrArg (Value.int .i64) (Int.natCast_succ _).symm, H9.out⟩
                  | false =>
                    have HV := Lib.hid hv; clear hv
                    go_wp2_with fail
                    refine (ps_taken HM.out k ⟨by omega, by omega⟩ false HV.out).mono ?_; rintro e w9 ⟨rfl, h⟩
                    have H9 := Lib.hid h; clear h
                    go_wp2_with fail
                    go_roundg (fr - (k + 1))
                    case measure => omega
                    case rel => exact ⟨k + 1, by omega, rfl, by go_num, by rw [show manyL (takeL L first) first (k + 1) = manyL (takeL L first) first k from by rw [manyL, HV.out]; rfl], H9.out⟩
                · have hkk : k = fr := by omega
                  subst hkk
                  have dk : decide (k < k) = false := decide_eq_false (by omega)
                  have hsum := cnt_both (takeL L first) first (k - first)
                  have hmany := many_eq (takeL L first) first k (by rw [HQL.out]; exact Nat.le_refl _)
                  have hle := many_le (takeL L first) first k
                  rw [← hmany] at hsum
                  obtain ⟨z, hz⟩ : ∃ z : Nat, z = cntL (takeL L first) first ((takeL L first).length - first) := ⟨_, rfl⟩
                  rw [HQL.out] at hz
                  rw [← hz] at hsum
                  have HZ := Lib.hid hz
                  clear hz hmany
                  generalize manyL (takeL L first) first k = q at *
                  obtain ⟨dw1, dw2⟩ := dw_sum q z k first hsum h3 h2
                  clear hsum hle
                  go_wp2_with fail
                  refine (ps_left HM.out z (by rw [HZ.out, HQL.out])).mono ?_; rintro e w9 ⟨rfl, hw9⟩; have hq9 := hw9.symm; subst hq9
                  go_wp2_with fail
                  go_roundg (len - (i + 1))
                  case measure => omega
                  case rel => exact ⟨i + 1, takeL L first, by omega, rfl, by go_num, HQL.out, HM.out⟩
            · have d1 : ((f i).kind == 1) = false := by simpa using hk1
              by_cases hk2 : (f i).kind = 2
              · rw [hk2] at c0
                clear d1 hk1
                go_wp2_with fail
                refine (ps_give HJ.out (f i).n HUN.out _ _ rfl rfl).mono ?_; rintro e w5 ⟨rfl, h⟩
                have HQ := Lib.hid h; clear h
                have HQL := Lib.hid (show (giveL L first (f i).n).length = fr from (giveL_len L first _).trans HL.out)
                clear c0 c1
                go_wp2_with fail
                go_loopg [16, 17] fr (fun g v16 v17 wm => ∃ k : Nat, k ≤ fr ∧ g = fr - k ∧ v17 = .int .i64 k ∧ v16 = .int .i64 (manyL (giveL L first (f i).n) first k : Nat) ∧ PS w wm pb b first (giveL L first (f i).n))
                case atStart => exact ⟨0, Nat.zero_le _, rfl, rfl, rfl, HQ.out⟩
                case round =>
                  obtain ⟨k, hk, rfl, rfl, rfl, hq⟩ := hrel
                  have HM := Lib.hid hq
                  clear hq
                  by_cases hkf : k < fr
                  · have dk : decide (k < fr) = true := decide_eq_true hkf
                    cases hv : tknB (giveL L first (f i).n) first k with
                    | true =>
                      have HV := Lib.hid hv; clear hv
                      go_wp2_with fail
                      refine (ps_taken HM.out k ⟨by omega, by omega⟩ true HV.out).mono ?_; rintro e w9 ⟨rfl, h⟩
                      have H9 := Lib.hid h; clear h
                      go_wp2_with fail
                      go_roundg (fr - (k + 1))
                      case measure => omega
                      case rel => exact ⟨k + 1, by omega, rfl, by go_num, by have hml := many_le (giveL L first (f i).n) first k; rw [show manyL (giveL L first (f i).n) first (k + 1) = manyL (giveL L first (f i).n) first k + 1 from by rw [manyL, HV.out, if_pos rfl], w64_in _ (by omega) (by omega)]; exact congrArg (Value.int .i64) (Int.natCast_succ _).symm, H9.out⟩
                    | false =>
                      have HV := Lib.hid hv; clear hv
                      go_wp2_with fail
                      refine (ps_taken HM.out k ⟨by omega, by omega⟩ false HV.out).mono ?_; rintro e w9 ⟨rfl, h⟩
                      have H9 := Lib.hid h; clear h
                      go_wp2_with fail
                      go_roundg (fr - (k + 1))
                      case measure => omega
                      case rel => exact ⟨k + 1, by omega, rfl, by go_num, by rw [show manyL (giveL L first (f i).n) first (k + 1) = manyL (giveL L first (f i).n) first k from by rw [manyL, HV.out]; rfl], H9.out⟩
                  · have hkk : k = fr := by omega
                    subst hkk
                    have dk : decide (k < k) = false := decide_eq_false (by omega)
                    have hsum := cnt_both (giveL L first (f i).n) first (k - first)
                    have hmany := many_eq (giveL L first (f i).n) first k (by rw [HQL.out]; exact Nat.le_refl _)
                    have hle := many_le (giveL L first (f i).n) first k
                    rw [← hmany] at hsum
                    obtain ⟨z, hz⟩ : ∃ z : Nat, z = cntL (giveL L first (f i).n) first ((giveL L first (f i).n).length - first) := ⟨_, rfl⟩
                    rw [HQL.out] at hz
                    rw [← hz] at hsum
                    have HZ := Lib.hid hz
                    clear hz hmany
                    generalize manyL (giveL L first (f i).n) first k = q at *
                    obtain ⟨dw1, dw2⟩ := dw_sum q z k first hsum h3 h2
                    clear hsum hle
                    go_wp2_with fail
                    refine (ps_left HM.out z (by rw [HZ.out, HQL.out])).mono ?_; rintro e w9 ⟨rfl, hw9⟩; have hq9 := hw9.symm; subst hq9
                    go_wp2_with fail
                    go_roundg (len - (i + 1))
                    case measure => omega
                    case rel => exact ⟨i + 1, giveL L first (f i).n, by omega, rfl, by go_num, HQL.out, HM.out⟩
              · have d2 : ((f i).kind == 2) = false := by simpa using hk2
                clear hk1 hk2 c1
                have HQ := HJ
                have HQL := HL
                go_wp2_with fail
                go_loopg [16, 17] fr (fun g v16 v17 wm => ∃ k : Nat, k ≤ fr ∧ g = fr - k ∧ v17 = .int .i64 k ∧ v16 = .int .i64 (manyL L first k : Nat) ∧ PS w wm pb b first (L))
                case atStart => exact ⟨0, Nat.zero_le _, rfl, rfl, rfl, HQ.out⟩
                case round =>
                  obtain ⟨k, hk, rfl, rfl, rfl, hq⟩ := hrel
                  have HM := Lib.hid hq
                  clear hq
                  by_cases hkf : k < fr
                  · have dk : decide (k < fr) = true := decide_eq_true hkf
                    cases hv : tknB (L) first k with
                    | true =>
                      have HV := Lib.hid hv; clear hv
                      go_wp2_with fail
                      refine (ps_taken HM.out k ⟨by omega, by omega⟩ true HV.out).mono ?_; rintro e w9 ⟨rfl, h⟩
                      have H9 := Lib.hid h; clear h
                      go_wp2_with fail
                      go_roundg (fr - (k + 1))
                      case measure => omega
                      case rel => exact ⟨k + 1, by omega, rfl, by go_num, by have hml := many_le (L) first k; rw [show manyL (L) first (k + 1) = manyL (L) first k + 1 from by rw [manyL, HV.out, if_pos rfl], w64_in _ (by omega) (by omega)]; exact congrArg (Value.int .i64) (Int.natCast_succ _).symm, H9.out⟩
                    | false =>
                      have HV := Lib.hid hv; clear hv
                      go_wp2_with fail
                      refine (ps_taken HM.out k ⟨by omega, by omega⟩ false HV.out).mono ?_; rintro e w9 ⟨rfl, h⟩
                      have H9 := Lib.hid h; clear h
                      go_wp2_with fail
                      go_roundg (fr - (k + 1))
                      case measure => omega
                      case rel => exact ⟨k + 1, by omega, rfl, by go_num, by rw [show manyL (L) first (k + 1) = manyL (L) first k from by rw [manyL, HV.out]; rfl], H9.out⟩
                  · have hkk : k = fr := by omega
                    subst hkk
                    have dk : decide (k < k) = false := decide_eq_false (by omega)
                    have hsum := cnt_both (L) first (k - first)
                    have hmany := many_eq (L) first k (by rw [HQL.out]; exact Nat.le_refl _)
                    have hle := many_le (L) first k
                    rw [← hmany] at hsum
                    obtain ⟨z, hz⟩ : ∃ z : Nat, z = cntL (L) first ((L).length - first) := ⟨_, rfl⟩
                    rw [HQL.out] at hz
                    rw [← hz] at hsum
                    have HZ := Lib.hid hz
                    clear hz hmany
                    generalize manyL (L) first k = q at *
                    obtain ⟨dw1, dw2⟩ := dw_sum q z k first hsum h3 h2
                    clear hsum hle
                    go_wp2_with fail
                    refine (ps_left HM.out z (by rw [HZ.out, HQL.out])).mono ?_; rintro e w9 ⟨rfl, hw9⟩; have hq9 := hw9.symm; subst hq9
                    go_wp2_with fail
                    go_roundg (len - (i + 1))
                    case measure => omega
                    case rel => exact ⟨i + 1, L, by omega, rfl, by go_num, HQL.out, HM.out⟩
    · have hil : i = len := by omega
      subst hil
      go_wp2_with fail
      go_ret
      obtain ⟨s, h⟩ := HG.out
      exact ⟨rfl, h.1⟩
set_option maxRecDepth 100000 in
theorem l_least_no (a0 a1 : Int) (v : Value) (w : World) (h : ¬ (1 ≤ a0 ∧ a0 ≤ 64 ∧ 0 ≤ a1 ∧ a1 ≤ a0)) :
    Calls Try.prog 6 #[.int .i64 a0, .int .i64 a1, v] w fun e w' => e = .returned (.bool true) ∧ Gr w w' := by
  have hc : a0 < 1 ∨ (1 ≤ a0 ∧ 64 < a0) ∨ (1 ≤ a0 ∧ a0 ≤ 64 ∧ a1 < 0) ∨ (1 ≤ a0 ∧ a0 ≤ 64 ∧ 0 ≤ a1 ∧ a0 < a1) := by omega
  clear h
  rcases hc with h1 | ⟨h1, h2⟩ | ⟨h1, h2, h3⟩ | ⟨h1, h2, h3, h4⟩
  all_goals
    (first | have q0 : decide (a0 < 1) = true := decide_eq_true (by omega) | have q0 : decide (a0 < 1) = false := decide_eq_false (by omega) | skip)
    (first | have q1 : decide (64 < a0) = true := decide_eq_true (by omega) | have q1 : decide (64 < a0) = false := decide_eq_false (by omega) | skip)
    (first | have q2 : decide (a1 < 0) = true := decide_eq_true (by omega) | have q2 : decide (a1 < 0) = false := decide_eq_false (by omega) | skip)
    (first | have q3 : decide (a0 < a1) = true := decide_eq_true (by omega) | have q3 : decide (a0 < a1) = false := decide_eq_false (by omega) | skip)
    go_enter Try.func6, Try.ntmps6
    go_wp2_with fail
    refine (c_shown10 _).mono ?_; rintro e w1 ⟨rfl, g⟩
    have G := Lib.hid g; clear g
    go_wp2_with fail
    go_ret
    exact ⟨rfl, G.out⟩
end Go.Proofs.Ytklkgjaljfkjbaa.P
