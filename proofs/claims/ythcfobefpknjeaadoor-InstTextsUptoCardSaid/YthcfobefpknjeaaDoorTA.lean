/- Stage 2: texts apart: plain facts on rows of bytes. No condition. -/
import Derived.Test.YthcfobefpknjeaaDoorN3
import Derived.Test.YthcfobefpknjeaaDoorB7
set_option linter.unusedVariables false
set_option linter.unusedSimpArgs false
set_option maxRecDepth 100000
namespace Go.Proofs.YthcfobefpknjeaaDoor.P
open Go.RowKit
theorem split_at {c : UInt8} : ∀ {l1 l2 r1 r2 : List UInt8}, c ∉ l1 → c ∉ l2 → l1 ++ c :: r1 = l2 ++ c :: r2 → l1 = l2 ∧ r1 = r2
  | [], [], _, _, _, _, h => by simpa using h
  | [], b :: l2, _, _, _, h2, h => by
    rw [List.nil_append, List.cons_append] at h
    injection h with h _
    exact absurd (h ▸ List.mem_cons_self) h2
  | a :: l1, [], _, _, h1, _, h => by
    rw [List.nil_append, List.cons_append] at h
    injection h with h _
    exact absurd (h ▸ List.mem_cons_self) h1
  | a :: l1, b :: l2, r1, r2, h1, h2, h => by
    rw [List.cons_append, List.cons_append] at h
    injection h with h3 h4
    obtain ⟨e1, e2⟩ := split_at (fun m => h1 (List.mem_cons_of_mem _ m)) (fun m => h2 (List.mem_cons_of_mem _ m)) h4
    exact ⟨by rw [h3, e1], e2⟩
theorem no_split {c : UInt8} {l1 l2 r2 : List UInt8} (h1 : c ∉ l1) (h : l1 = l2 ++ c :: r2) : False := h1 (by rw [h]; simp)
theorem dig_in (u : Nat) : ∀ d ∈ Lib.decDigits u, 48 ≤ d.toNat ∧ d.toNat ≤ 57 := by
  induction u using Nat.strongRecOn with
  | _ u ih =>
    intro d hd
    rw [Lib.decDigits] at hd
    split at hd
    · rw [List.mem_singleton] at hd
      subst hd
      rw [UInt8.toNat_ofNat', Nat.mod_eq_of_lt (by omega)]
      omega
    · rw [List.mem_append, List.mem_singleton] at hd
      rcases hd with hd | rfl
      · exact ih _ (by omega) d hd
      · rw [UInt8.toNat_ofNat', Nat.mod_eq_of_lt (by omega)]
        omega
def digV : List UInt8 → Nat := fun l => l.foldl (fun a d => a * 10 + (d.toNat - 48)) 0
theorem digV_dec (u : Nat) : digV (Lib.decDigits u) = u := by
  induction u using Nat.strongRecOn with
  | _ u ih =>
    rw [Lib.decDigits]
    split
    · show 0 * 10 + ((UInt8.ofNat (48 + u)).toNat - 48) = u
      rw [UInt8.toNat_ofNat', Nat.mod_eq_of_lt (by omega)]
      omega
    · unfold digV
      rw [List.foldl_append]
      have := ih (u / 10) (by omega)
      unfold digV at this
      rw [this]
      show u / 10 * 10 + ((UInt8.ofNat (48 + u % 10)).toNat - 48) = u
      rw [UInt8.toNat_ofNat', Nat.mod_eq_of_lt (by omega)]
      omega
theorem dec_inj {m n : Nat} (h : Lib.decDigits m = Lib.decDigits n) : m = n := by rw [← digV_dec m, ← digV_dec n, h]
theorem itoa_in (i : Int) : ∀ d ∈ Lib.itoa i, d.toNat = 45 ∨ (48 ≤ d.toNat ∧ d.toNat ≤ 57) := by
  intro d hd
  unfold Lib.itoa at hd
  split at hd
  · rw [List.mem_cons] at hd
    rcases hd with rfl | hd
    · exact .inl rfl
    · exact .inr (dig_in _ d hd)
  · exact .inr (dig_in _ d hd)
theorem dec_ne45 (u : Nat) (r : List UInt8) : Lib.decDigits u ≠ 45 :: r := by
  intro h
  have := dig_in u 45 (by rw [h]; exact List.mem_cons_self)
  have e : (45 : UInt8).toNat = 45 := rfl
  omega
theorem itoa_inj {i j : Int} (h : Lib.itoa i = Lib.itoa j) : i = j := by
  unfold Lib.itoa at h
  split at h <;> split at h
  · injection h with _ h
    have := dec_inj h
    omega
  · exact absurd h.symm (dec_ne45 _ _)
  · exact absurd h (dec_ne45 _ _)
  · have := dec_inj h
    omega
theorem not_dig {c : UInt8} (hc : c.toNat < 48 ∨ 57 < c.toNat) (u : Nat) : c ∉ Lib.decDigits u := fun h => by have := dig_in u c h; omega
theorem not_itoa {c : UInt8} (hc : c.toNat < 45 ∨ 57 < c.toNat) (i : Int) : c ∉ Lib.itoa i := fun h => by have := itoa_in i c h; omega
def D (n : Nat) : List UInt8 := 120 :: Lib.decDigits n
theorem not_D {c : UInt8} (hc : c.toNat < 48) (n : Nat) : c ∉ D n := by
  intro h
  unfold D at h
  rw [List.mem_cons] at h
  rcases h with rfl | h
  · exact absurd hc (by decide)
  · exact not_dig (.inl hc) n h
theorem D_inj {m n : Nat} (h : D m = D n) : m = n := by
  unfold D at h
  injection h with _ h
  exact dec_inj h
def nmE (k e : Nat) : List UInt8 := (nmT k).data.toList ++ (endF e).data.toList
def okE (k e : Nat) : Bool := decide (1 ≤ k) && (decide (e = 0) || decide (fmT k = 65))
theorem nmE_32 : ∀ k : Nat, k < 88 → ∀ e : Nat, e < 4 → (32 : UInt8) ∉ nmE k e := by decide +kernel
def encL : List UInt8 → Nat := fun l => l.foldl (fun a d => a * 256 + d.toNat) 0
def encs : List Nat := (List.range 352).map (fun n => if okE (n / 4) (n % 4) then encL (nmE (n / 4) (n % 4)) * 1000 else n * 1000 + 1)
theorem encs_apart : ((List.range 352).all (fun n => decide (encs.idxOf (encs.getD n 0) = n))) = true := by decide +kernel
theorem encs_at {n : Nat} (h : n < 352) : encs.getD n 0 = (if okE (n / 4) (n % 4) then encL (nmE (n / 4) (n % 4)) * 1000 else n * 1000 + 1) := by
  unfold encs
  rw [List.getD_eq_getElem?_getD, List.getElem?_map, List.getElem?_range h]
  rfl
theorem nmE_inj {k j e f : Nat} (hk : k < 88) (hj : j < 88) (he : e < 4) (hf : f < 4) (ok : okE k e = true) (oj : okE j f = true) (h : nmE k e = nmE j f) : k = j ∧ e = f := by
  have a := List.all_eq_true.1 encs_apart (k * 4 + e) (List.mem_range.2 (by omega))
  have b := List.all_eq_true.1 encs_apart (j * 4 + f) (List.mem_range.2 (by omega))
  rw [decide_eq_true_eq] at a b
  have e1 := encs_at (n := k * 4 + e) (by omega)
  have e2 := encs_at (n := j * 4 + f) (by omega)
  rw [show (k * 4 + e) / 4 = k by omega, show (k * 4 + e) % 4 = e by omega, if_pos ok] at e1
  rw [show (j * 4 + f) / 4 = j by omega, show (j * 4 + f) % 4 = f by omega, if_pos oj, ← h] at e2
  rw [e1] at a
  rw [e2] at b
  have : k * 4 + e = j * 4 + f := a.symm.trans b
  omega
end Go.Proofs.YthcfobefpknjeaaDoor.P
