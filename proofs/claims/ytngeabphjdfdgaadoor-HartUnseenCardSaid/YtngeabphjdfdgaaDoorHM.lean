/- Stage 5: loads, stores and what is of form A, each as a whole. No condition. -/
import Derived.Test.YtngeabphjdfdgaaDoorHJ
import Derived.Test.YtngeabphjdfdgaaDoorHK
import Derived.Test.YtngeabphjdfdgaaDoorHL
set_option linter.unusedVariables false
set_option linter.unusedSimpArgs false
set_option maxRecDepth 100000
namespace Go.Proofs.YtngeabphjdfdgaaDoor.P
open Go.RowKit Go.MuLone Go.Proofs.YtngeabphjdfdgaaDoor.W
theorem word0 : word 0 := ⟨by decide, by decide⟩
theorem amo_word (op a b : Int) (ha : word a) (hb : word b) : word (amoV op a b) := by
  unfold amoV
  split
  · generalize amoW (op - 68) (amoT op a) (amoT op b) = z
    have e : lowF z 32 = z % 4294967296 := by unfold lowF; rw [if_neg (by decide), if_neg (by decide)]; rfl
    rw [e]
    exact ⟨by omega, by omega⟩
  · split
    · exact amoW_word _ _ _ ha hb
    · exact word0
theorem ne5 : ¬ (5 : Int) = 0 := by decide
theorem ne6 : ¬ (6 : Int) = 0 := by decide
theorem o_move {w0 w : World} {sb mb rb b fr : Nat} {r : Int} {s : List UInt8} {op : Int} {rd i1 i2 : Nat} {im : Int} {x y m : Int} {A : HS} {R : Asn} (h : Own w0 w (cxA sb mb rb b fr r s ⟨op, rd, i1, i2, im⟩ x y m A e0 R)) (hR : Stable R) (hr : i64 r) (hrd : rd < 32) (hy : word y) (hop : 11 ≤ op ∧ op ≤ 21) :
    Calls Tryd.prog 43 #[.pointer (some ⟨sb, 0, none⟩)] w fun e' w' => e' = .returned (.tuple #[]) ∧ DoneP w0 sb mb rb b fr r ⟨op, rd, i1, i2, im⟩ x y m R (moveF fr s r op rd (w64 (x + m)) y A) w' := by
  have hp : u64 (w64 (x + m)) := u_of_w (w64_word _)
  by_cases h18 : 18 ≤ op
  · unfold moveF
    rw [if_pos h18]
    refine o_move_st h hR hr hy _ _ rfl ?_
    have hx : op = 18 ∨ op = 19 ∨ op = 20 ∨ op = 21 := by omega
    rcases hx with rfl | rfl | rfl | rfl <;> decide
  · unfold moveF loadF
    rw [if_neg h18]
    have hx : op = 11 ∨ op = 12 ∨ op = 13 ∨ op = 14 ∨ op = 15 ∨ op = 16 ∨ op = 17 := by omega
    have hN : (op = 11 ∧ (2 : Int) ^ ((op - 11) % 4).toNat = 1) ∨ (op = 12 ∧ (2 : Int) ^ ((op - 11) % 4).toNat = 2) ∨ (op = 13 ∧ (2 : Int) ^ ((op - 11) % 4).toNat = 4) ∨ (op = 14 ∧ (2 : Int) ^ ((op - 11) % 4).toNat = 8) ∨ (op = 15 ∧ (2 : Int) ^ ((op - 11) % 4).toNat = 1) ∨ (op = 16 ∧ (2 : Int) ^ ((op - 11) % 4).toNat = 2) ∨ (op = 17 ∧ (2 : Int) ^ ((op - 11) % 4).toNat = 4) := by
      rcases hx with rfl | rfl | rfl | rfl | rfl | rfl | rfl <;> decide
    generalize (2 : Int) ^ ((op - 11) % 4).toNat = n at *
    have hn : n = 1 ∨ n = 2 ∨ n = 4 ∨ n = 8 := by omega
    cases hc : rchB fr s r (w64 (x + m)) n 1 with
    | true =>
      rw [if_pos rfl]
      refine (o_move_ld h hR hrd n _ _ _ e0 rfl (loadV_word s _ n) (fun w1 h1 => o_loadc_yes h1 hR hr _ n hp hn hc) hN).mono ?_
      rintro e w1 ⟨rfl, h1⟩
      exact ⟨rfl, _, h1, fun _ => rfl⟩
    | false =>
      rw [if_neg (by decide)]
      refine (o_move_ld h hR hrd n _ _ _ _ rfl word0 (fun w1 h1 => o_loadc_no h1 hR hr _ n hp hn hc) hN).mono ?_
      rintro e w1 ⟨rfl, h1⟩
      exact ⟨rfl, _, h1, fun h => absurd h ne5⟩
theorem o_lr2 {w0 w : World} {sb mb rb b fr : Nat} {r : Int} {s : List UInt8} {op : Int} {rd i1 i2 : Nat} {im : Int} {x y m : Int} {A : HS} {R : Asn} (h : Own w0 w (cxA sb mb rb b fr r s ⟨op, rd, i1, i2, im⟩ x y m A e0 R)) (hR : Stable R) (hr : i64 r) (hrd : rd < 32) (hx : u64 x) (n : Int) (hop : (op = 66 ∧ n = 4) ∨ (op = 77 ∧ n = 8)) :
    Calls Tryd.prog 45 #[.pointer (some ⟨sb, 0, none⟩), .pointer (some ⟨b, 0, none⟩), .int .i64 r] w fun e' w' => e' = .returned (.tuple #[]) ∧ DoneP w0 sb mb rb b fr r ⟨op, rd, i1, i2, im⟩ x y m R (lrF fr s r rd x n A) w' := by
  have hn : n = 1 ∨ n = 2 ∨ n = 4 ∨ n = 8 := by omega
  unfold lrF
  cases hc : rchB fr s r x n 1 with
  | true =>
    rw [if_pos rfl]
    refine (o_lr h hR hrd n _ _ e0 (loadV_word s _ n) (fun w1 h1 => o_loadc_yes h1 hR hr _ n hx hn hc) hop).mono ?_
    rintro e w1 ⟨rfl, h1⟩
    exact ⟨rfl, _, h1, fun _ => rfl⟩
  | false =>
    rw [if_neg (by decide)]
    refine (o_lr h hR hrd n _ _ _ word0 (fun w1 h1 => o_loadc_no h1 hR hr _ n hx hn hc) hop).mono ?_
    rintro e w1 ⟨rfl, h1⟩
    exact ⟨rfl, _, h1, fun h => absurd h ne5⟩
theorem o_am2 {w0 w : World} {sb mb rb b fr : Nat} {r : Int} {s : List UInt8} {op : Int} {rd i1 i2 : Nat} {im : Int} {x y m : Int} {A : HS} {R : Asn} (h : Own w0 w (cxA sb mb rb b fr r s ⟨op, rd, i1, i2, im⟩ x y m A e0 R)) (hR : Stable R) (hr : i64 r) (hrd : rd < 32) (hx : u64 x) (hy : word y) (n : Int) (hop : (68 ≤ op ∧ op ≤ 76 ∧ n = 4) ∨ (79 ≤ op ∧ op ≤ 87 ∧ n = 8)) :
    Calls Tryd.prog 45 #[.pointer (some ⟨sb, 0, none⟩), .pointer (some ⟨b, 0, none⟩), .int .i64 r] w fun e' w' => e' = .returned (.tuple #[]) ∧ DoneP w0 sb mb rb b fr r ⟨op, rd, i1, i2, im⟩ x y m R (amF fr s r op rd x n y A) w' := by
  have hn : n = 1 ∨ n = 2 ∨ n = 4 ∨ n = 8 := by omega
  unfold amF
  cases hc : rchB fr s r x n 1 with
  | true =>
    rw [if_pos rfl]
    cases hd : rchB fr s r x n 2 with
    | true =>
      rw [if_pos rfl]
      refine (o_am_ok h hR hrd n _ _ _ _ (loadV_word s _ n) hy (fun w1 h1 => o_loadc_yes h1 hR hr _ n hx hn hc) (fun w1 h1 => o_storec_yes h1 hR hr x n _ hx (amo_word _ _ _ (loadV_word s _ n) hy) hn hd) hop).mono ?_
      rintro e w1 ⟨rfl, h1⟩
      exact ⟨rfl, _, h1, fun _ => rfl⟩
    | false =>
      rw [if_neg (by decide)]
      refine (o_am_ok h hR hrd n _ _ _ _ (loadV_word s _ n) hy (fun w1 h1 => o_loadc_yes h1 hR hr _ n hx hn hc) (fun w1 h1 => o_storec_no h1 hR hr x n _ hx hn hd) hop).mono ?_
      rintro e w1 ⟨rfl, h1⟩
      exact ⟨rfl, _, h1, fun h => absurd h ne6⟩
  | false =>
    rw [if_neg (by decide)]
    refine (o_am_no h hR hrd n _ _ _ (show ¬ (5 : Int) = 0 from ne5) (fun w1 h1 => o_loadc_no h1 hR hr _ n hx hn hc) hop).mono ?_
    rintro e w1 ⟨rfl, h1⟩
    exact ⟨rfl, _, h1, fun h => absurd h ne6⟩
theorem upX_set (X : Nat → Int) (k : Nat) (u v : Int) : upX (upX X k u) k v = upX X k v := by
  funext j; unfold upX; split <;> rfl
theorem o_sc2 {w0 w : World} {sb mb rb b fr : Nat} {r : Int} {s : List UInt8} {op : Int} {rd i1 i2 : Nat} {im : Int} {x y m : Int} {A : HS} {R : Asn} (h : Own w0 w (cxA sb mb rb b fr r s ⟨op, rd, i1, i2, im⟩ x y m A e0 R)) (hR : Stable R) (hr : i64 r) (hrd : rd < 32) (hx : u64 x) (hy : word y) (n : Int) (hop : (op = 67 ∧ n = 4) ∨ (op = 78 ∧ n = 8)) :
    Calls Tryd.prog 45 #[.pointer (some ⟨sb, 0, none⟩), .pointer (some ⟨b, 0, none⟩), .int .i64 r] w fun e' w' => e' = .returned (.tuple #[]) ∧ DoneP w0 sb mb rb b fr r ⟨op, rd, i1, i2, im⟩ x y m R (scF fr s r rd x n y A) w' := by
  have hn : n = 1 ∨ n = 2 ∨ n = 4 ∨ n = 8 := by omega
  refine o_sc_at h hR hrd n _ ?_ hop
  unfold scF
  cases hc : rchB fr s r x n 2 with
  | true =>
    rw [if_pos rfl]
    cases hb : (A.hd && decide (A.at_ = rchV fr s r x n 2)) with
    | true =>
      rw [if_pos rfl]
      rw [Bool.and_eq_true] at hb
      refine (o_sc_hit h hR hrd hr n hx hn hc _ rfl hb _ _ (fun w1 h1 => o_storec_yes h1 hR hr x n _ hx hy hn hc)).mono ?_
      rintro e w1 ⟨rfl, h1⟩
      refine ⟨rfl, _, h1, fun _ => ?_⟩
      unfold HS.set
      rw [upX_set]
    | false =>
      rw [if_neg (by decide)]
      refine (o_sc_miss h hR hrd hr n hx hn hc _ rfl ?_).mono ?_
      · cases hh : A.hd with
        | false => exact .inl rfl
        | true => rw [hh, Bool.true_and] at hb; exact .inr ⟨rfl, hb⟩
      · rintro e w1 ⟨rfl, h1⟩
        exact ⟨rfl, _, h1, fun _ => rfl⟩
  | false =>
    rw [if_neg (by decide)]
    refine (o_sc_no h hR hrd hr n hx hn hc).mono ?_
    rintro e w1 ⟨rfl, h1⟩
    exact ⟨rfl, _, h1, fun h => absurd h ne6⟩
theorem o_atomic {w0 w : World} {sb mb rb b fr : Nat} {r : Int} {s : List UInt8} {op : Int} {rd i1 i2 : Nat} {im : Int} {x y m : Int} {A : HS} {R : Asn} (h : Own w0 w (cxA sb mb rb b fr r s ⟨op, rd, i1, i2, im⟩ x y m A e0 R)) (hR : Stable R) (hr : i64 r) (hrd : rd < 32) (hx : u64 x) (hy : word y) (hop : 66 ≤ op ∧ op ≤ 87) :
    Calls Tryd.prog 45 #[.pointer (some ⟨sb, 0, none⟩), .pointer (some ⟨b, 0, none⟩), .int .i64 r] w fun e' w' => e' = .returned (.tuple #[]) ∧ DoneP w0 sb mb rb b fr r ⟨op, rd, i1, i2, im⟩ x y m R (atomF fr s r op rd x y A) w' := by
  unfold atomF
  by_cases h1 : op = 66
  · rw [if_pos h1]; exact o_lr2 h hR hr hrd hx 4 (.inl ⟨h1, rfl⟩)
  by_cases h2 : op = 77
  · rw [if_neg h1, if_pos h2]; exact o_lr2 h hR hr hrd hx 8 (.inr ⟨h2, rfl⟩)
  by_cases h3 : op = 67
  · rw [if_neg h1, if_neg h2, if_pos h3]; exact o_sc2 h hR hr hrd hx hy 4 (.inl ⟨h3, rfl⟩)
  by_cases h4 : op = 78
  · rw [if_neg h1, if_neg h2, if_neg h3, if_pos h4]; exact o_sc2 h hR hr hrd hx hy 8 (.inr ⟨h4, rfl⟩)
  by_cases h5 : op ≤ 76
  · rw [if_neg h1, if_neg h2, if_neg h3, if_neg h4, if_pos h5]; exact o_am2 h hR hr hrd hx hy 4 (.inl ⟨by omega, h5, rfl⟩)
  · rw [if_neg h1, if_neg h2, if_neg h3, if_neg h4, if_neg h5]; exact o_am2 h hR hr hrd hx hy 8 (.inr ⟨by omega, by omega, rfl⟩)
end Go.Proofs.YtngeabphjdfdgaaDoor.P
