/- Stage 2: words and their instructions: plain facts. No condition. -/
import Derived.Test.YtngeabphjdfdgaaDoorMJ
import Derived.Test.YtngeabphjdfdgaaDoorD2
set_option linter.unusedVariables false
set_option linter.unusedSimpArgs false
set_option maxRecDepth 100000
namespace Go.Proofs.YtngeabphjdfdgaaDoor.P
open Go.RowKit
theorem orI {x y : Int} (ws us vs : List Nat) (hu : okk ws us) (hv : okk ws vs) (hd : dj us vs) (hs : ws.sum = 64) (ex : x % 18446744073709551616 = ((pk ws us : Nat) : Int)) (ey : y % 18446744073709551616 = ((pk ws vs : Nat) : Int)) (hr : -9223372036854775808 ≤ x + y ∧ x + y ≤ 9223372036854775807) : bits .or .i64 x y = x + y := by
  have a := pk_lt ws us hu
  have b := pk_lt ws vs hv
  rw [hs] at a b
  show IntKind.i64.wrap ((BitVec.ofInt 64 x ||| BitVec.ofInt 64 y).toNat : Int) = _
  rw [BitVec.toNat_or, BitVec.toNat_ofInt, BitVec.toNat_ofInt]
  have e1 : (x % ((2 ^ 64 : Nat) : Int)).toNat = pk ws us := by
    rw [show ((2 ^ 64 : Nat) : Int) = 18446744073709551616 from rfl, ex]; exact Int.toNat_natCast _
  have e2 : (y % ((2 ^ 64 : Nat) : Int)).toNat = pk ws vs := by
    rw [show ((2 ^ 64 : Nat) : Int) = 18446744073709551616 from rfl, ey]; exact Int.toNat_natCast _
  rw [e1, e2, pk_or ws us vs hu hv hd, IntKind.wrap_i64]
  generalize pk ws us = p at *
  generalize pk ws vs = q at *
  omega
theorem and_parts (n u v x y : Nat) (hu : u < 2 ^ n) (hv : v < 2 ^ n) : (u + 2 ^ n * x) &&& (v + 2 ^ n * y) = (u &&& v) + 2 ^ n * (x &&& y) := by
  have huv : u &&& v < 2 ^ n := Nat.lt_of_le_of_lt Nat.and_le_left hu
  rw [Nat.add_comm u, Nat.add_comm v, Nat.add_comm (u &&& v), Nat.two_pow_add_eq_or_of_lt hu, Nat.two_pow_add_eq_or_of_lt hv, Nat.two_pow_add_eq_or_of_lt huv]
  apply Nat.eq_of_testBit_eq
  intro i
  simp only [Nat.testBit_or, Nat.testBit_and, Nat.testBit_two_pow_mul]
  by_cases h : i ≥ n
  · have h2 : 2 ^ n ≤ 2 ^ i := Nat.pow_le_pow_right (by decide) h
    rw [Nat.testBit_lt_two_pow (Nat.lt_of_lt_of_le hu h2), Nat.testBit_lt_two_pow (Nat.lt_of_lt_of_le hv h2)]
    simp [h]
  · simp [h]
/-- A mask's parts are nothing or all. -/
def mk : List Nat → List Bool → List Nat
  | n :: ws, b :: bs => (bif b then 2 ^ n - 1 else 0) :: mk ws bs
  | _, _ => []
def cut : List Nat → List Bool → List Nat
  | u :: us, b :: bs => (bif b then u else 0) :: cut us bs
  | _, _ => []
theorem pk_and : ∀ (ws us : List Nat) (bs : List Bool), okk ws us → bs.length = ws.length → pk ws us &&& pk ws (mk ws bs) = pk ws (cut us bs)
  | [], [], [], _, _ => rfl
  | n :: ws, u :: us, b :: bs, hu, hb => by
    have ih := pk_and ws us bs hu.2 (by simpa using hb)
    show (u + 2 ^ n * pk ws us) &&& ((bif b then 2 ^ n - 1 else 0) + 2 ^ n * pk ws (mk ws bs)) = (bif b then u else 0) + 2 ^ n * pk ws (cut us bs)
    have hp : 0 < 2 ^ n := Nat.two_pow_pos n
    rw [and_parts n u _ _ _ hu.1 (by cases b; exact hp; exact Nat.sub_lt hp Nat.one_pos), ih]
    cases b with
    | true => rw [cond_true, cond_true, Nat.and_two_pow_sub_one_eq_mod, Nat.mod_eq_of_lt hu.1]
    | false => rw [cond_false, cond_false, Nat.and_zero]
  | [], [], _ :: _, _, h => by simp at h
  | _ :: _, _ :: _, [], _, h => by simp at h
  | [], _ :: _, _, h, _ => h.elim
  | _ :: _, [], _, h, _ => h.elim
theorem andS (ws us : List Nat) (bs : List Bool) {x m : Int} (hu : okk ws us) (hb : bs.length = ws.length) (hs : ws.sum = 32) (ex : x = ((pk ws us : Nat) : Int)) (em : m = ((pk ws (mk ws bs) : Nat) : Int)) (hm : m < 4294967296) : bits .and .u32 x m = ((pk ws (cut us bs) : Nat) : Int) := by
  have a := pk_lt ws us hu
  rw [hs] at a
  rw [ex, em, u32_and_nat _ _ (by simpa using a) (by rw [em] at hm; omega), pk_and ws us bs hu hb]
def okM (f : Int) (q : Bool) (x : Int) : Int :=
  if f = 85 ∨ f = 74 then x % 128 else
  if f = 73 ∨ f = 66 ∨ f = 83 then x % 128 + x / 4096 % 8 * 4096 else
  if f = 72 then x % 128 + x / 4096 % 8 * 4096 + x / 67108864 * 67108864 else
  if f = 86 ∨ f = 82 then x % 128 + x / 4096 % 8 * 4096 + x / 33554432 * 33554432 else
  if f = 65 then x % 128 + x / 4096 % 8 * 4096 + x / 134217728 * 134217728 + (bif q then x / 1048576 % 32 * 1048576 else 0) else x
theorem mask_is : ∀ k : Nat, k < 88 → 1 ≤ k → maskT k = (if fmT k = 85 ∨ fmT k = 74 then 127 else if fmT k = 73 ∨ fmT k = 66 ∨ fmT k = 83 then 28799 else if fmT k = 72 then 4227887231 else if fmT k = 86 ∨ fmT k = 82 then 4261441663 else if fmT k = 65 then (bif resB k then 4193284223 else 4160778367) else 4294967295) := by decide +kernel
set_option maxHeartbeats 1600000 in
theorem mat_is (k : Nat) (hk : k < 88) (h1 : 1 ≤ k) (x : Int) (hx : u32 x) : bits .and .u32 x (maskT k) = okM (fmT k) (resB k) x := by
  rw [mask_is k hk h1]
  generalize resB k = q
  obtain ⟨x0, x1⟩ := hx
  obtain ⟨n, rfl⟩ : ∃ n : Nat, x = (n : Int) := ⟨x.toNat, by omega⟩
  have ok : okk [7, 5, 3, 5, 5, 1, 1, 5] [n % 128, n / 128 % 32, n / 4096 % 8, n / 32768 % 32, n / 1048576 % 32, n / 33554432 % 2, n / 67108864 % 2, n / 134217728] := by
    simp only [okk, Nat.reducePow, and_true]; omega
  have ex : (n : Int) = ((pk [7, 5, 3, 5, 5, 1, 1, 5] [n % 128, n / 128 % 32, n / 4096 % 8, n / 32768 % 32, n / 1048576 % 32, n / 33554432 % 2, n / 67108864 % 2, n / 134217728] : Nat) : Int) := by
    simp only [pk, Nat.reducePow]; omega
  have go := fun (bs : List Bool) (m : Int) hb em hm => andS (x := (n : Int)) (m := m) [7, 5, 3, 5, 5, 1, 1, 5] _ bs ok hb (by decide) ex em hm
  rcases fm_cases k hk h1 with hv | hv | hv | hv | hv | hv | hv | hv | hv | hv
  all_goals
    rw [hv]
    clear hv hk h1 ex
    unfold okM
    simp only [Int.reduceEq, or_false, false_or, or_true, true_or, if_false, if_true]
  · rw [go [true, false, false, false, false, false, false, false] 127 rfl rfl (by decide)]; simp only [pk, cut, cond_true, cond_false, Nat.reducePow]; omega
  · rw [go [true, false, false, false, false, false, false, false] 127 rfl rfl (by decide)]; simp only [pk, cut, cond_true, cond_false, Nat.reducePow]; omega
  · rw [go [true, false, true, false, false, false, false, false] 28799 rfl rfl (by decide)]; simp only [pk, cut, cond_true, cond_false, Nat.reducePow]; omega
  · rw [go [true, false, true, false, false, false, false, false] 28799 rfl rfl (by decide)]; simp only [pk, cut, cond_true, cond_false, Nat.reducePow]; omega
  · rw [go [true, false, true, false, false, false, false, false] 28799 rfl rfl (by decide)]; simp only [pk, cut, cond_true, cond_false, Nat.reducePow]; omega
  · rw [go [true, false, true, false, false, false, true, true] 4227887231 rfl rfl (by decide)]; simp only [pk, cut, cond_true, cond_false, Nat.reducePow]; omega
  · rw [go [true, false, true, false, false, true, true, true] 4261441663 rfl rfl (by decide)]; simp only [pk, cut, cond_true, cond_false, Nat.reducePow]; omega
  · rw [go [true, false, true, false, false, true, true, true] 4261441663 rfl rfl (by decide)]; simp only [pk, cut, cond_true, cond_false, Nat.reducePow]; omega
  · cases q with
    | true =>
      simp only [cond_true]
      rw [go [true, false, true, false, true, false, false, true] 4193284223 rfl rfl (by decide)]; simp only [pk, cut, cond_true, cond_false, Nat.reducePow]; omega
    | false =>
      simp only [cond_false]
      rw [go [true, false, true, false, false, false, false, true] 4160778367 rfl rfl (by decide)]; simp only [pk, cut, cond_true, cond_false, Nat.reducePow]; omega
  · rw [go [true, true, true, true, true, true, true, true] 4294967295 rfl rfl (by decide)]; simp only [pk, cut, cond_true, cond_false, Nat.reducePow]; omega
end Go.Proofs.YtngeabphjdfdgaaDoor.P
