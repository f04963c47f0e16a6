/- Stage 5: a step, whatever is in memory; what stays of a hart. No condition. -/
import Derived.Test.YtngeabphjdfdgaaDoorHR
import Derived.Test.YtngeabphjdfdgaaDoorHS
import Derived.Test.YtngeabphjdfdgaaDoorHT
set_option linter.unusedVariables false
set_option linter.unusedSimpArgs false
set_option maxRecDepth 100000
namespace Go.Proofs.YtngeabphjdfdgaaDoor.P
open Go.RowKit Go.MuLone Go.Proofs.YtngeabphjdfdgaaDoor.W
theorem load4 (s : List UInt8) (a : Int) (ha : 0 ≤ a) : u32 (loadV s a 4) := by
  unfold loadV
  rw [if_pos (show sizedB 4 = true from rfl)]
  split
  · rename_i h
    have h' : a + 4 ≤ s.length := of_decide_eq_true h
    have hs : (subB s a.toNat (4 : Int).toNat).size = 4 := sub_size s a.toNat 4 (by omega)
    unfold ofF
    rw [hs]
    have hb := ofN_bd (subB s a.toNat (4 : Int).toNat) 4
    obtain ⟨h1, h2⟩ := hb
    have e : (2 : Int) ^ (8 * 4) = 4294967296 := by decide
    rw [e] at h2
    exact ⟨h1, h2⟩
  · exact ⟨by decide, by decide⟩
theorem o_step {w0 w : World} {b fr : Nat} {s : List UInt8} {R : Asn} (h : Own w0 w (Star (memA b fr s) R)) (hR : Stable R) (r : Int) (hr0 : 0 ≤ r) (hr1 : r < fr) (H : HS) (hH : H.ok) (hT : PT w0) (hF : FT w0) :
    Calls Tryd.prog 11 #[.pointer (some ⟨b, 0, none⟩), .int .i64 r, .agg (hC H)] w fun e w' => e = .returned (.tuple #[.agg (hC (stepF fr s r H).H), evV (stepF fr s r H).e, .int .i64 0]) ∧ Own w0 w' (Star (memA b fr (stepF fr s r H).s) R) := by
  have hp : 0 ≤ rchV fr s r H.pc 4 3 := (rch_u64 (s := s) (r := r) (n := 4) (acc := 3) (o_mlen h).2.2 hH.2.1).1.1
  unfold stepF
  cases hB : rchB fr s r H.pc 4 3 with
  | false =>
    rw [if_neg (by decide)]
    exact o_step_fetch h hR r hr0 hr1 H hH hT hF _ rfl hB
  | true =>
    rw [if_pos rfl]
    have hx4 := load4 s (rchV fr s r H.pc 4 3) hp
    obtain ⟨V, hV⟩ : ∃ V, rchV fr s r H.pc 4 3 = V := ⟨_, rfl⟩
    rw [hV] at hx4 ⊢
    obtain ⟨x, hx⟩ : ∃ x, loadV s V 4 = x := ⟨_, rfl⟩
    rw [hx] at hx4 ⊢
    by_cases hd : decE x = 0
    · rw [if_pos hd]
      obtain ⟨hi, h1, h2, h3, h4, h5⟩ := ins_of hx4 hd
      have hq := o_step_do h hR r hr0 hr1 H hH hT hF V hV hB x hx hx4 (insF x) ⟨h1, h2, h3, h4, h5⟩ 0 hi hd rfl _ rfl
      generalize doF fr s r (insF x).op (insF x).rd ((H.set 0 0).X (insF x).a) ((H.set 0 0).X (insF x).b) (w64 (insF x).i) H.pc { H.set 0 0 with pc := w64 (H.pc + 4) } = D at *
      by_cases hk : D.e.k = 0
      · rw [if_pos hk] at hq ⊢; exact hq
      · rw [if_neg hk] at hq ⊢; exact hq
    · rw [if_neg hd]
      have h0 : decK x = 0 := by unfold decE at hd; split at hd; · assumption
                                 · exact absurd rfl hd
      have hdv : decV x = iv 0 0 0 0 0 := by unfold decV; rw [if_pos h0]
      have hde : decE x = 2 := by unfold decE; rw [if_pos h0]
      exact o_step_bad h hR r hr0 hr1 H hH hT hF V hV hB x hx hx4 0 0 0 0 0 2 hdv hde rfl
end Go.Proofs.YtngeabphjdfdgaaDoor.P
