/- Stage 2: the document's bits of a word, numbers with a sign. No condition. -/
import Derived.Test.YtngeabphjdfdgaaGreatDoorMB
import Derived.Test.YtngeabphjdfdgaaGreatDoorD5
set_option linter.unusedVariables false
set_option linter.unusedSimpArgs false
set_option maxRecDepth 100000
namespace Go.Proofs.YtngeabphjdfdgaaGreatDoor.P
open Go.RowKit
def atN (x : Int) (n m : Nat) : Int := x / 2 ^ n % 2 ^ m
theorem atN_in (x : Int) (n m : Nat) (h : m ≤ 32) : 0 ≤ atN x n m ∧ atN x n m < 4294967296 := by
  unfold atN
  have hp : (0 : Int) < 2 ^ m := Int.pow_pos (by decide)
  have h2 : ((2 ^ m : Nat) : Int) ≤ ((2 ^ 32 : Nat) : Int) := Int.ofNat_le.2 (Nat.pow_le_pow_right (by decide) h)
  have h3 : (2 : Int) ^ m ≤ 4294967296 := by simpa using h2
  exact ⟨Int.emod_nonneg _ (Int.ne_of_gt hp), Int.lt_of_lt_of_le (Int.emod_lt_of_pos _ hp) h3⟩
theorem atN_zero (x : Int) (n : Nat) : atN x n 0 = 0 := by unfold atN; simp [Int.emod_one]
theorem div_in (x : Int) (hx : u32 x) (n : Nat) : 0 ≤ x / 2 ^ n ∧ x / 2 ^ n < 4294967296 := by
  obtain ⟨h0, h1⟩ := hx
  obtain ⟨y, rfl⟩ : ∃ y : Nat, x = (y : Int) := ⟨x.toNat, by omega⟩
  rw [show ((2 : Int) ^ n) = ((2 ^ n : Nat) : Int) by simp, ← Int.natCast_ediv]
  have h2 : y / 2 ^ n ≤ y := Nat.div_le_self _ _
  generalize y / 2 ^ n = z at *
  omega
theorem atN_succ (x : Int) (n m : Nat) : atN x n (m + 1) = atN x (n + 1) m * 2 + x / 2 ^ n % 2 := by
  unfold atN
  rw [Int.pow_succ 2 n, ← Int.ediv_ediv_of_nonneg (by exact Int.pow_nonneg (by decide))]
  generalize x / 2 ^ n = y
  rw [Int.pow_succ]
  have hp : (0 : Int) < 2 ^ m := Int.pow_pos (by decide)
  generalize (2 : Int) ^ m = p at *
  have a := Int.mul_ediv_add_emod y 2
  have b := Int.mul_ediv_add_emod (y / 2) p
  have c := Int.emod_nonneg (y / 2) (Int.ne_of_gt hp)
  have d := Int.emod_lt_of_pos (y / 2) hp
  generalize y / 2 / p = q at *
  generalize y / 2 % p = r at *
  have hy : y = (r * 2 + y % 2) + (p * 2) * q := by
    have : (p * 2) * q = 2 * (p * q) := by rw [Int.mul_comm p 2, Int.mul_assoc]
    omega
  generalize y % 2 = s at *
  conv => lhs; rw [hy]
  rw [Int.add_mul_emod_self_left]
  apply Int.emod_eq_of_lt <;> omega
theorem and_one {y : Int} (h0 : 0 ≤ y) (h1 : y < 4294967296) : bits .and .u32 y 1 = y % 2 := by
  obtain ⟨n, rfl⟩ : ∃ n : Nat, y = (n : Int) := ⟨y.toNat, by omega⟩
  have := u32_and_nat n 1 (by omega) (by decide)
  rw [Nat.and_one_is_mod] at this
  rw [show ((n : Int) % 2) = ((n % 2 : Nat) : Int) by omega]
  exact this
set_option maxHeartbeats 1600000 in
theorem r_atN (x : Int) (hx : u32 x) (n m : Nat) (hs : n + m ≤ 32) (w : World) : Calls Tryz.prog 75 #[.int .u32 x, .int .i64 n, .int .i64 m] w fun e w' => e = .returned (.int .i64 (atN x n m)) ∧ w' = w := by
  have HX := Lib.hid hx
  obtain ⟨x0, x1⟩ := hx
  go_enter Tryz.func75, Tryz.ntmps75
  go_wp2_with fail
  go_loopw [7, 8] (fun v i wr => ∃ j : Nat, j ≤ m ∧ v = .int .i64 (atN x (n + j) (m - j)) ∧ i = .int .i64 ((j : Int) - 1) ∧ w = wr) (fun _ i _ => (intOf i + 1).toNat)
  case atStart => exact ⟨m, Nat.le_refl _, by rw [Nat.sub_self, atN_zero], by go_num, by first | rfl | trivial⟩
  case round =>
    obtain ⟨j, hj, rfl, rfl, rfl⟩ := hrel
    cases j with
    | zero =>
      have dl : decide ((0 : Int) ≤ ((0 : Nat) : Int) - 1) = false := by decide
      go_wp2_with fail
      go_ret
      exact ⟨rfl, rfl⟩
    | succ j =>
      have hV := atN_in x (n + (j + 1)) (m - (j + 1)) (by omega)
      have hY := div_in x HX.out (n + j)
      have ha := and_one hY.1 hY.2
      have e : atN x (n + j) (m - j) = atN x (n + (j + 1)) (m - (j + 1)) * 2 + x / 2 ^ (n + j) % 2 := by
        rw [show m - j = (m - (j + 1)) + 1 by omega, atN_succ]; rfl
      have hc : ((j + 1 : Nat) : Int) - 1 = (j : Int) := by omega
      rw [hc]
      go_wp2_with fail
      go_roundw
      case rel => exact ⟨j, by omega, by rw [e], by go_num, by first | rfl | trivial⟩
      case measure => simp [intOf]
theorem r_at (x n m : Int) (hx : u32 x) (hs : 0 ≤ n ∧ 0 ≤ m ∧ n + m ≤ 32) (w : World) : Calls Tryz.prog 75 #[.int .u32 x, .int .i64 n, .int .i64 m] w fun e w' => e = .returned (.int .i64 (atN x n.toNat m.toNat)) ∧ w' = w := by
  have := r_atN x hx n.toNat m.toNat (by omega) w
  rw [Int.toNat_of_nonneg hs.1, Int.toNat_of_nonneg hs.2.1] at this
  exact this
def sgN (v : Int) (n : Nat) : Int := bif decide (v < 2 ^ (n - 1)) then v else v - 2 ^ n
theorem r_signed (v n : Int) (hn : n = 12 ∨ n = 20) (hv : 0 ≤ v ∧ v < 4294967296) (w : World) : Calls Tryz.prog 76 #[.int .i64 v, .int .i64 n] w fun e w' => e = .returned (.int .i64 (sgN v n.toNat)) ∧ w' = w := by
  obtain ⟨v0, v1⟩ := hv
  rcases hn with rfl | rfl
  · by_cases h : v < 2048
    · have e : sgN v 12 = v := by unfold sgN; rw [decide_eq_true (by omega)]; rfl
      have d : decide ((2048 : Int) ≤ v) = false := decide_eq_false (by omega)
      rw [show (12 : Int).toNat = 12 from rfl, e]
      go_enter Tryz.func76, Tryz.ntmps76
      go_wp2
      all_goals
        go_ret
        exact ⟨rfl, rfl⟩
    · have e : sgN v 12 = v - 4096 := by unfold sgN; rw [decide_eq_false (by omega)]; rfl
      have d : decide ((2048 : Int) ≤ v) = true := decide_eq_true (by omega)
      rw [show (12 : Int).toNat = 12 from rfl, e]
      go_enter Tryz.func76, Tryz.ntmps76
      go_wp2
      all_goals
        go_ret
        exact ⟨ret_i (by omega), rfl⟩
  · by_cases h : v < 524288
    · have e : sgN v 20 = v := by unfold sgN; rw [decide_eq_true (by omega)]; rfl
      have d : decide ((524288 : Int) ≤ v) = false := decide_eq_false (by omega)
      rw [show (20 : Int).toNat = 20 from rfl, e]
      go_enter Tryz.func76, Tryz.ntmps76
      go_wp2
      all_goals
        go_ret
        exact ⟨rfl, rfl⟩
    · have e : sgN v 20 = v - 1048576 := by unfold sgN; rw [decide_eq_false (by omega)]; rfl
      have d : decide ((524288 : Int) ≤ v) = true := decide_eq_true (by omega)
      rw [show (20 : Int).toNat = 20 from rfl, e]
      go_enter Tryz.func76, Tryz.ntmps76
      go_wp2
      all_goals
        go_ret
        exact ⟨ret_i (by omega), rfl⟩
end Go.Proofs.YtngeabphjdfdgaaGreatDoor.P
namespace Go.Proofs.YtngeabphjdfdgaaGreatDoor.P
open Go.RowKit
theorem orI {x y : Int} (ws us vs : List Nat) (hu : okk ws us) (hv : okk ws vs) (hd : dj us vs) (hs : ws.sum = 64) (ex : x % 18446744073709551616 = ((pk ws us : Nat) : Int)) (ey : y % 18446744073709551616 = ((pk ws vs : Nat) : Int)) (hr : -9223372036854775808 ≤ x + y ∧ x + y ≤ 9223372036854775807) : bits .or .i64 x y = x + y := by
  have a := pk_lt ws us hu
  have b := pk_lt ws vs hv
  rw [hs] at a b
  show IntKind.i64.wrap ((BitVec.ofInt 64 x ||| BitVec.ofInt 64 y).toNat : Int) = _
  rw [BitVec.toNat_or, BitVec.toNat_ofInt, BitVec.toNat_ofInt]
  have e1 : (x % ((2 ^ 64 : Nat) : Int)).toNat = pk ws us := by
    rw [show ((2 ^ 64 : Nat) : Int) = 18446744073709551616 from rfl, ex]; exact Int.toNat_natCast _
  have e2 : (y % ((2 ^ 64 : Nat) : Int)).toNat = pk ws vs := by
    rw [show ((2 ^ 64 : Nat) : Int) = 18446744073709551616 from rfl, ey]; exact Int.toNat_natCast _
  rw [e1, e2, pk_or ws us vs hu hv hd, IntKind.wrap_i64]
  generalize pk ws us = p at *
  generalize pk ws vs = q at *
  omega
theorem and_parts (n u v x y : Nat) (hu : u < 2 ^ n) (hv : v < 2 ^ n) : (u + 2 ^ n * x) &&& (v + 2 ^ n * y) = (u &&& v) + 2 ^ n * (x &&& y) := by
  have huv : u &&& v < 2 ^ n := Nat.lt_of_le_of_lt Nat.and_le_left hu
  rw [Nat.add_comm u, Nat.add_comm v, Nat.add_comm (u &&& v), Nat.two_pow_add_eq_or_of_lt hu, Nat.two_pow_add_eq_or_of_lt hv, Nat.two_pow_add_eq_or_of_lt huv]
  apply Nat.eq_of_testBit_eq
  intro i
  simp only [Nat.testBit_or, Nat.testBit_and, Nat.testBit_two_pow_mul]
  by_cases h : i ≥ n
  · have h2 : 2 ^ n ≤ 2 ^ i := Nat.pow_le_pow_right (by decide) h
    rw [Nat.testBit_lt_two_pow (Nat.lt_of_lt_of_le hu h2), Nat.testBit_lt_two_pow (Nat.lt_of_lt_of_le hv h2)]
    simp [h]
  · simp [h]
/-- A mask's parts are nothing or all. -/
def mk : List Nat → List Bool → List Nat
  | n :: ws, b :: bs => (bif b then 2 ^ n - 1 else 0) :: mk ws bs
  | _, _ => []
def cut : List Nat → List Bool → List Nat
  | u :: us, b :: bs => (bif b then u else 0) :: cut us bs
  | _, _ => []
theorem pk_and : ∀ (ws us : List Nat) (bs : List Bool), okk ws us → bs.length = ws.length → pk ws us &&& pk ws (mk ws bs) = pk ws (cut us bs)
  | [], [], [], _, _ => rfl
  | n :: ws, u :: us, b :: bs, hu, hb => by
    have ih := pk_and ws us bs hu.2 (by simpa using hb)
    show (u + 2 ^ n * pk ws us) &&& ((bif b then 2 ^ n - 1 else 0) + 2 ^ n * pk ws (mk ws bs)) = (bif b then u else 0) + 2 ^ n * pk ws (cut us bs)
    have hp : 0 < 2 ^ n := Nat.two_pow_pos n
    rw [and_parts n u _ _ _ hu.1 (by cases b; exact hp; exact Nat.sub_lt hp Nat.one_pos), ih]
    cases b with
    | true => rw [cond_true, cond_true, Nat.and_two_pow_sub_one_eq_mod, Nat.mod_eq_of_lt hu.1]
    | false => rw [cond_false, cond_false, Nat.and_zero]
  | [], [], _ :: _, _, h => by simp at h
  | _ :: _, _ :: _, [], _, h => by simp at h
  | [], _ :: _, _, h, _ => h.elim
  | _ :: _, [], _, h, _ => h.elim
theorem andS (ws us : List Nat) (bs : List Bool) {x m : Int} (hu : okk ws us) (hb : bs.length = ws.length) (hs : ws.sum = 32) (ex : x = ((pk ws us : Nat) : Int)) (em : m = ((pk ws (mk ws bs) : Nat) : Int)) (hm : m < 4294967296) : bits .and .u32 x m = ((pk ws (cut us bs) : Nat) : Int) := by
  have a := pk_lt ws us hu
  rw [hs] at a
  rw [ex, em, u32_and_nat _ _ (by simpa using a) (by rw [em] at hm; omega), pk_and ws us bs hu hb]
def okM (f : Int) (q : Bool) (x : Int) : Int :=
  if f = 85 ∨ f = 74 then x % 128 else
  if f = 73 ∨ f = 66 ∨ f = 83 then x % 128 + x / 4096 % 8 * 4096 else
  if f = 72 then x % 128 + x / 4096 % 8 * 4096 + x / 67108864 * 67108864 else
  if f = 86 ∨ f = 82 then x % 128 + x / 4096 % 8 * 4096 + x / 33554432 * 33554432 else
  if f = 65 then x % 128 + x / 4096 % 8 * 4096 + x / 134217728 * 134217728 + (bif q then x / 1048576 % 32 * 1048576 else 0) else x
theorem mask_is : ∀ k : Nat, k < 88 → 1 ≤ k → maskT k = (if fmT k = 85 ∨ fmT k = 74 then 127 else if fmT k = 73 ∨ fmT k = 66 ∨ fmT k = 83 then 28799 else if fmT k = 72 then 4227887231 else if fmT k = 86 ∨ fmT k = 82 then 4261441663 else if fmT k = 65 then (bif resB k then 4193284223 else 4160778367) else 4294967295) := by decide +kernel
set_option maxHeartbeats 1600000 in
theorem mat_is (k : Nat) (hk : k < 88) (h1 : 1 ≤ k) (x : Int) (hx : u32 x) : bits .and .u32 x (maskT k) = okM (fmT k) (resB k) x := by
  rw [mask_is k hk h1]
  generalize resB k = q
  obtain ⟨x0, x1⟩ := hx
  obtain ⟨n, rfl⟩ : ∃ n : Nat, x = (n : Int) := ⟨x.toNat, by omega⟩
  have ok : okk [7, 5, 3, 5, 5, 1, 1, 5] [n % 128, n / 128 % 32, n / 4096 % 8, n / 32768 % 32, n / 1048576 % 32, n / 33554432 % 2, n / 67108864 % 2, n / 134217728] := by
    simp only [okk, Nat.reducePow, and_true]; omega
  have ex : (n : Int) = ((pk [7, 5, 3, 5, 5, 1, 1, 5] [n % 128, n / 128 % 32, n / 4096 % 8, n / 32768 % 32, n / 1048576 % 32, n / 33554432 % 2, n / 67108864 % 2, n / 134217728] : Nat) : Int) := by
    simp only [pk, Nat.reducePow]; omega
  have go := fun (bs : List Bool) (m : Int) hb em hm => andS (x := (n : Int)) (m := m) [7, 5, 3, 5, 5, 1, 1, 5] _ bs ok hb (by decide) ex em hm
  rcases fm_cases k hk h1 with hv | hv | hv | hv | hv | hv | hv | hv | hv | hv
  all_goals
    rw [hv]
    clear hv hk h1 ex
    unfold okM
    simp only [Int.reduceEq, or_false, false_or, or_true, true_or, if_false, if_true]
  · rw [go [true, false, false, false, false, false, false, false] 127 rfl rfl (by decide)]; simp only [pk, cut, cond_true, cond_false, Nat.reducePow]; omega
  · rw [go [true, false, false, false, false, false, false, false] 127 rfl rfl (by decide)]; simp only [pk, cut, cond_true, cond_false, Nat.reducePow]; omega
  · rw [go [true, false, true, false, false, false, false, false] 28799 rfl rfl (by decide)]; simp only [pk, cut, cond_true, cond_false, Nat.reducePow]; omega
  · rw [go [true, false, true, false, false, false, false, false] 28799 rfl rfl (by decide)]; simp only [pk, cut, cond_true, cond_false, Nat.reducePow]; omega
  · rw [go [true, false, true, false, false, false, false, false] 28799 rfl rfl (by decide)]; simp only [pk, cut, cond_true, cond_false, Nat.reducePow]; omega
  · rw [go [true, false, true, false, false, false, true, true] 4227887231 rfl rfl (by decide)]; simp only [pk, cut, cond_true, cond_false, Nat.reducePow]; omega
  · rw [go [true, false, true, false, false, true, true, true] 4261441663 rfl rfl (by decide)]; simp only [pk, cut, cond_true, cond_false, Nat.reducePow]; omega
  · rw [go [true, false, true, false, false, true, true, true] 4261441663 rfl rfl (by decide)]; simp only [pk, cut, cond_true, cond_false, Nat.reducePow]; omega
  · cases q with
    | true =>
      simp only [cond_true]
      rw [go [true, false, true, false, true, false, false, true] 4193284223 rfl rfl (by decide)]; simp only [pk, cut, cond_true, cond_false, Nat.reducePow]; omega
    | false =>
      simp only [cond_false]
      rw [go [true, false, true, false, false, false, false, true] 4160778367 rfl rfl (by decide)]; simp only [pk, cut, cond_true, cond_false, Nat.reducePow]; omega
  · rw [go [true, true, true, true, true, true, true, true] 4294967295 rfl rfl (by decide)]; simp only [pk, cut, cond_true, cond_false, Nat.reducePow]; omega
end Go.Proofs.YtngeabphjdfdgaaGreatDoor.P
namespace Go.Proofs.YtngeabphjdfdgaaGreatDoor.P
open Go.RowKit
def fitD (f x : Int) : Int := if f = 66 ∨ f = 83 ∨ f = 78 then 0 else x / 128 % 32
def fitA (f x : Int) : Int := if f = 85 ∨ f = 74 ∨ f = 78 then 0 else x / 32768 % 32
def fitB (f : Int) (q : Bool) (x : Int) : Int := if f = 66 ∨ f = 83 ∨ f = 82 then x / 1048576 % 32 else if f = 65 then (bif q then 0 else x / 1048576 % 32) else 0
def fitI (f x : Int) : Int :=
  if f = 85 then sgN (x / 4096 % 1048576) 20 * 4096 else
  if f = 74 then sgN (x / 2147483648 % 2 * 524288 + x / 4096 % 256 * 2048 + x / 1048576 % 2 * 1024 + x / 2097152 % 1024) 20 * 2 else
  if f = 73 then sgN (x / 1048576 % 4096) 12 else
  if f = 66 then sgN (x / 2147483648 % 2 * 2048 + x / 128 % 2 * 1024 + x / 33554432 % 64 * 16 + x / 256 % 16) 12 * 2 else
  if f = 83 then sgN (x / 33554432 % 128 * 32 + x / 128 % 32) 12 else
  if f = 72 then x / 1048576 % 64 else
  if f = 86 then x / 1048576 % 32 else
  if f = 65 then x / 33554432 % 4 else 0
theorem sg20 (v : Int) : (v < 524288 ∧ sgN v 20 = v) ∨ (524288 ≤ v ∧ sgN v 20 = v - 1048576) := by
  unfold sgN
  by_cases h : v < 524288
  · exact .inl ⟨h, by rw [decide_eq_true (by omega)]; rfl⟩
  · exact .inr ⟨by omega, by rw [decide_eq_false (by omega)]; rfl⟩
theorem sg12 (v : Int) : (v < 2048 ∧ sgN v 12 = v) ∨ (2048 ≤ v ∧ sgN v 12 = v - 4096) := by
  unfold sgN
  by_cases h : v < 2048
  · exact .inl ⟨h, by rw [decide_eq_true (by omega)]; rfl⟩
  · exact .inr ⟨by omega, by rw [decide_eq_false (by omega)]; rfl⟩
theorem fldR_85 (x : Int) (hx : u32 x) : fldR 85 x = fitI 85 x := by
  obtain ⟨x0, x1⟩ := hx
  unfold fldR fitI
  simp only [Int.reduceEq, if_false, if_true]
  obtain ⟨s, hs⟩ : ∃ s : Nat, x / 2147483648 % 2 = (s : Int) := ⟨(x / 2147483648 % 2).toNat, by omega⟩
  obtain ⟨p, hp⟩ : ∃ s : Nat, x / 4096 % 524288 = (s : Int) := ⟨(x / 4096 % 524288).toNat, by omega⟩
  rw [orI (x := (-(x / 2147483648 % 2) * 2147483648)) (y := (x / 4096 % 524288 * 4096)) [12, 19, 33] [0, 0, s * 8589934591] [0, p, 0] (by simp only [okk, Nat.reducePow, and_true]; omega) (by simp only [okk, Nat.reducePow, and_true]; omega) (by simp [dj]) (by decide) (by simp only [pk, Nat.reducePow]; omega) (by simp only [pk, Nat.reducePow]; omega) (by omega)]
  rcases sg20 (x / 4096 % 1048576) with ⟨g1, g2⟩ | ⟨g1, g2⟩ <;> rw [g2] <;> omega
theorem fldR_74 (x : Int) (hx : u32 x) : fldR 74 x = fitI 74 x := by
  obtain ⟨x0, x1⟩ := hx
  unfold fldR fitI
  simp only [Int.reduceEq, if_false, if_true]
  obtain ⟨s, hs⟩ : ∃ s : Nat, x / 2147483648 % 2 = (s : Int) := ⟨(x / 2147483648 % 2).toNat, by omega⟩
  obtain ⟨p, hp⟩ : ∃ s : Nat, x / 2097152 % 1024 = (s : Int) := ⟨(x / 2097152 % 1024).toNat, by omega⟩
  obtain ⟨q, hq⟩ : ∃ s : Nat, x / 1048576 % 2 = (s : Int) := ⟨(x / 1048576 % 2).toNat, by omega⟩
  obtain ⟨r, hr⟩ : ∃ s : Nat, x / 4096 % 256 = (s : Int) := ⟨(x / 4096 % 256).toNat, by omega⟩
  rw [orI (x := (-(x / 2147483648 % 2) * 1048576)) (y := (x / 2097152 % 1024 * 2)) [1, 10, 1, 8, 44] [0, 0, 0, 0, s * 17592186044415] [0, p, 0, 0, 0] (by simp only [okk, Nat.reducePow, and_true]; omega) (by simp only [okk, Nat.reducePow, and_true]; omega) (by simp [dj]) (by decide) (by simp only [pk, Nat.reducePow]; omega) (by simp only [pk, Nat.reducePow]; omega) (by omega)]
  rw [orI (x := ((-(x / 2147483648 % 2) * 1048576) + (x / 2097152 % 1024 * 2))) (y := (x / 1048576 % 2 * 2048)) [1, 10, 1, 8, 44] [0, p, 0, 0, s * 17592186044415] [0, 0, q, 0, 0] (by simp only [okk, Nat.reducePow, and_true]; omega) (by simp only [okk, Nat.reducePow, and_true]; omega) (by simp [dj]) (by decide) (by simp only [pk, Nat.reducePow]; omega) (by simp only [pk, Nat.reducePow]; omega) (by omega)]
  rw [orI (x := (((-(x / 2147483648 % 2) * 1048576) + (x / 2097152 % 1024 * 2)) + (x / 1048576 % 2 * 2048))) (y := (x / 4096 % 256 * 4096)) [1, 10, 1, 8, 44] [0, p, q, 0, s * 17592186044415] [0, 0, 0, r, 0] (by simp only [okk, Nat.reducePow, and_true]; omega) (by simp only [okk, Nat.reducePow, and_true]; omega) (by simp [dj]) (by decide) (by simp only [pk, Nat.reducePow]; omega) (by simp only [pk, Nat.reducePow]; omega) (by omega)]
  rcases sg20 (x / 2147483648 % 2 * 524288 + x / 4096 % 256 * 2048 + x / 1048576 % 2 * 1024 + x / 2097152 % 1024) with ⟨g1, g2⟩ | ⟨g1, g2⟩ <;> rw [g2] <;> omega
theorem fldR_73 (x : Int) (hx : u32 x) : fldR 73 x = fitI 73 x := by
  obtain ⟨x0, x1⟩ := hx
  unfold fldR fitI
  simp only [Int.reduceEq, if_false, if_true]
  obtain ⟨s, hs⟩ : ∃ s : Nat, x / 2147483648 % 2 = (s : Int) := ⟨(x / 2147483648 % 2).toNat, by omega⟩
  obtain ⟨p, hp⟩ : ∃ s : Nat, x / 1048576 % 2048 = (s : Int) := ⟨(x / 1048576 % 2048).toNat, by omega⟩
  rw [orI (x := (-(x / 2147483648 % 2) * 2048)) (y := (x / 1048576 % 2048)) [11, 53] [0, s * 9007199254740991] [p, 0] (by simp only [okk, Nat.reducePow, and_true]; omega) (by simp only [okk, Nat.reducePow, and_true]; omega) (by simp [dj]) (by decide) (by simp only [pk, Nat.reducePow]; omega) (by simp only [pk, Nat.reducePow]; omega) (by omega)]
  rcases sg12 (x / 1048576 % 4096) with ⟨g1, g2⟩ | ⟨g1, g2⟩ <;> rw [g2] <;> omega
theorem fldR_66 (x : Int) (hx : u32 x) : fldR 66 x = fitI 66 x := by
  obtain ⟨x0, x1⟩ := hx
  unfold fldR fitI
  simp only [Int.reduceEq, if_false, if_true]
  obtain ⟨s, hs⟩ : ∃ s : Nat, x / 2147483648 % 2 = (s : Int) := ⟨(x / 2147483648 % 2).toNat, by omega⟩
  obtain ⟨p, hp⟩ : ∃ s : Nat, x / 33554432 % 64 = (s : Int) := ⟨(x / 33554432 % 64).toNat, by omega⟩
  obtain ⟨q, hq⟩ : ∃ s : Nat, x / 256 % 16 = (s : Int) := ⟨(x / 256 % 16).toNat, by omega⟩
  obtain ⟨r, hr⟩ : ∃ s : Nat, x / 128 % 2 = (s : Int) := ⟨(x / 128 % 2).toNat, by omega⟩
  rw [orI (x := (-(x / 2147483648 % 2) * 4096)) (y := (x / 33554432 % 64 * 32)) [1, 4, 6, 1, 52] [0, 0, 0, 0, s * 4503599627370495] [0, 0, p, 0, 0] (by simp only [okk, Nat.reducePow, and_true]; omega) (by simp only [okk, Nat.reducePow, and_true]; omega) (by simp [dj]) (by decide) (by simp only [pk, Nat.reducePow]; omega) (by simp only [pk, Nat.reducePow]; omega) (by omega)]
  rw [orI (x := ((-(x / 2147483648 % 2) * 4096) + (x / 33554432 % 64 * 32))) (y := (x / 256 % 16 * 2)) [1, 4, 6, 1, 52] [0, 0, p, 0, s * 4503599627370495] [0, q, 0, 0, 0] (by simp only [okk, Nat.reducePow, and_true]; omega) (by simp only [okk, Nat.reducePow, and_true]; omega) (by simp [dj]) (by decide) (by simp only [pk, Nat.reducePow]; omega) (by simp only [pk, Nat.reducePow]; omega) (by omega)]
  rw [orI (x := (((-(x / 2147483648 % 2) * 4096) + (x / 33554432 % 64 * 32)) + (x / 256 % 16 * 2))) (y := (x / 128 % 2 * 2048)) [1, 4, 6, 1, 52] [0, q, p, 0, s * 4503599627370495] [0, 0, 0, r, 0] (by simp only [okk, Nat.reducePow, and_true]; omega) (by simp only [okk, Nat.reducePow, and_true]; omega) (by simp [dj]) (by decide) (by simp only [pk, Nat.reducePow]; omega) (by simp only [pk, Nat.reducePow]; omega) (by omega)]
  rcases sg12 (x / 2147483648 % 2 * 2048 + x / 128 % 2 * 1024 + x / 33554432 % 64 * 16 + x / 256 % 16) with ⟨g1, g2⟩ | ⟨g1, g2⟩ <;> rw [g2] <;> omega
theorem fldR_83 (x : Int) (hx : u32 x) : fldR 83 x = fitI 83 x := by
  obtain ⟨x0, x1⟩ := hx
  unfold fldR fitI
  simp only [Int.reduceEq, if_false, if_true]
  obtain ⟨s, hs⟩ : ∃ s : Nat, x / 2147483648 % 2 = (s : Int) := ⟨(x / 2147483648 % 2).toNat, by omega⟩
  obtain ⟨p, hp⟩ : ∃ s : Nat, x / 33554432 % 64 = (s : Int) := ⟨(x / 33554432 % 64).toNat, by omega⟩
  obtain ⟨q, hq⟩ : ∃ s : Nat, x / 128 % 32 = (s : Int) := ⟨(x / 128 % 32).toNat, by omega⟩
  rw [orI (x := (-(x / 2147483648 % 2) * 2048)) (y := (x / 33554432 % 64 * 32)) [5, 6, 53] [0, 0, s * 9007199254740991] [0, p, 0] (by simp only [okk, Nat.reducePow, and_true]; omega) (by simp only [okk, Nat.reducePow, and_true]; omega) (by simp [dj]) (by decide) (by simp only [pk, Nat.reducePow]; omega) (by simp only [pk, Nat.reducePow]; omega) (by omega)]
  rw [orI (x := ((-(x / 2147483648 % 2) * 2048) + (x / 33554432 % 64 * 32))) (y := (x / 128 % 32)) [5, 6, 53] [0, p, s * 9007199254740991] [q, 0, 0] (by simp only [okk, Nat.reducePow, and_true]; omega) (by simp only [okk, Nat.reducePow, and_true]; omega) (by simp [dj]) (by decide) (by simp only [pk, Nat.reducePow]; omega) (by simp only [pk, Nat.reducePow]; omega) (by omega)]
  have z0 : x / 2147483648 = x / 33554432 / 64 := by omega
  have z1 : x / 33554432 % 128 = x / 2147483648 % 2 * 64 + x / 33554432 % 64 := by rw [z0]; omega
  have hq2 : q < 32 := by omega
  have hp2 : p < 64 := by omega
  have hs2 : s < 2 := by omega
  rw [z1, hs, hp, hq]
  clear z1 z0 hs hp hq x0 x1
  rcases sg12 (((s : Int) * 64 + (p : Int)) * 32 + (q : Int)) with ⟨g1, g2⟩ | ⟨g1, g2⟩ <;> rw [g2] <;> omega
theorem jS (s c d e : Int) (h0 : 0 ≤ s ∧ s < 2) (h1 : 0 ≤ c ∧ c < 256) (h2 : 0 ≤ d ∧ d < 2) (h3 : 0 ≤ e ∧ e < 1024) : sgN (s * 524288 + c * 2048 + d * 1024 + e) 20 * 2 = c * 4096 + d * 2048 + e * 2 - s * 1048576 := by
  rcases sg20 (s * 524288 + c * 2048 + d * 1024 + e) with ⟨g1, g2⟩ | ⟨g1, g2⟩ <;> rw [g2] <;> omega
theorem jI (s c d e y : Int) (h0 : 0 ≤ s ∧ s < 2) (h1 : 0 ≤ c ∧ c < 256) (h2 : 0 ≤ d ∧ d < 2) (h3 : 0 ≤ e ∧ e < 1024) (hy : y = c * 4096 + d * 2048 + e * 2 - s * 1048576) : encI 74 (y % 4294967296) = s * 2147483648 + e * 2097152 + d * 1048576 + c * 4096 := by
  unfold encI
  simp only [Int.reduceEq, if_false, if_true]
  have hs : s = 0 ∨ s = 1 := by omega
  have a1 : y % 4294967296 / 1048576 % 2 = s := by rcases hs with rfl | rfl <;> omega
  have a2 : y % 4294967296 / 2 % 1024 = e := by omega
  have a3 : y % 4294967296 / 2048 % 2 = d := by omega
  have a4 : y % 4294967296 / 4096 % 256 = c := by omega
  rw [a1, a2, a3, a4]
theorem bS (s r p q : Int) (h0 : 0 ≤ s ∧ s < 2) (h1 : 0 ≤ r ∧ r < 2) (h2 : 0 ≤ p ∧ p < 64) (h3 : 0 ≤ q ∧ q < 16) : sgN (s * 2048 + r * 1024 + p * 16 + q) 12 * 2 = r * 2048 + p * 32 + q * 2 - s * 4096 := by
  rcases sg12 (s * 2048 + r * 1024 + p * 16 + q) with ⟨g1, g2⟩ | ⟨g1, g2⟩ <;> rw [g2] <;> omega
theorem bI (s r p q y : Int) (h0 : 0 ≤ s ∧ s < 2) (h1 : 0 ≤ r ∧ r < 2) (h2 : 0 ≤ p ∧ p < 64) (h3 : 0 ≤ q ∧ q < 16) (hy : y = r * 2048 + p * 32 + q * 2 - s * 4096) : encI 66 (y % 4294967296) = s * 2147483648 + p * 33554432 + q * 256 + r * 128 := by
  unfold encI
  simp only [Int.reduceEq, if_false, if_true]
  have hs : s = 0 ∨ s = 1 := by omega
  have a1 : y % 4294967296 / 4096 % 2 = s := by rcases hs with rfl | rfl <;> omega
  have a2 : y % 4294967296 / 32 % 64 = p := by omega
  have a3 : y % 4294967296 / 2 % 16 = q := by omega
  have a4 : y % 4294967296 / 2048 % 2 = r := by omega
  rw [a1, a2, a3, a4]
theorem sI (h l : Int) (h0 : 0 ≤ h ∧ h < 128) (h1 : 0 ≤ l ∧ l < 32) : encI 83 (sgN (h * 32 + l) 12 % 4294967296) = h * 33554432 + l * 128 := by
  unfold encI
  simp only [Int.reduceEq, if_false, if_true]
  rcases sg12 (h * 32 + l) with ⟨g1, g2⟩ | ⟨g1, g2⟩
  · rw [g2]
    have a1 : (h * 32 + l) % 4294967296 / 32 % 128 = h := by omega
    have a2 : (h * 32 + l) % 4294967296 % 32 = l := by omega
    rw [a1, a2]
  · rw [g2]
    have a1 : (h * 32 + l - 4096) % 4294967296 / 32 % 128 = h := by omega
    have a2 : (h * 32 + l - 4096) % 4294967296 % 32 = l := by omega
    rw [a1, a2]
theorem fldR_is (k : Nat) (hk : k < 88) (h1 : 1 ≤ k) (x : Int) (hx : u32 x) : fldR (fmT k) x = fitI (fmT k) x := by
  rcases fm_cases k hk h1 with hv | hv | hv | hv | hv | hv | hv | hv | hv | hv <;> rw [hv]
  · exact fldR_85 x hx
  · exact fldR_74 x hx
  · exact fldR_73 x hx
  · exact fldR_66 x hx
  · exact fldR_83 x hx
  all_goals rfl
theorem fitD_in (f x : Int) : 0 ≤ fitD f x ∧ fitD f x < 32 := by unfold fitD; split <;> omega
theorem fitA_in (f x : Int) : 0 ≤ fitA f x ∧ fitA f x < 32 := by unfold fitA; split <;> omega
theorem fitB_in (f : Int) (q : Bool) (x : Int) : 0 ≤ fitB f q x ∧ fitB f q x < 32 := by
  unfold fitB
  split
  · omega
  · split
    · cases q <;> simp only [cond_true, cond_false] <;> omega
    · omega
theorem fitI_in (k : Nat) (hk : k < 88) (h1 : 1 ≤ k) (x : Int) (hx : u32 x) : i64 (fitI (fmT k) x) := by
  obtain ⟨x0, x1⟩ := hx
  unfold i64
  rcases fm_cases k hk h1 with hv | hv | hv | hv | hv | hv | hv | hv | hv | hv
  all_goals
    rw [hv]
    unfold fitI
    simp only [Int.reduceEq, if_false, if_true]
  · rcases sg20 (x / 4096 % 1048576) with ⟨g1, g2⟩ | ⟨g1, g2⟩ <;> rw [g2] <;> omega
  · rcases sg20 (x / 2147483648 % 2 * 524288 + x / 4096 % 256 * 2048 + x / 1048576 % 2 * 1024 + x / 2097152 % 1024) with ⟨g1, g2⟩ | ⟨g1, g2⟩ <;> rw [g2] <;> omega
  · rcases sg12 (x / 1048576 % 4096) with ⟨g1, g2⟩ | ⟨g1, g2⟩ <;> rw [g2] <;> omega
  · rcases sg12 (x / 2147483648 % 2 * 2048 + x / 128 % 2 * 1024 + x / 33554432 % 64 * 16 + x / 256 % 16) with ⟨g1, g2⟩ | ⟨g1, g2⟩ <;> rw [g2] <;> omega
  · rcases sg12 (x / 33554432 % 128 * 32 + x / 128 % 32) with ⟨g1, g2⟩ | ⟨g1, g2⟩ <;> rw [g2] <;> omega
  all_goals omega
set_option maxHeartbeats 1600000 in
/-- What a word would be is an instruction. -/
theorem fit_may (k : Nat) (hk : k < 88) (h1 : 1 ≤ k) (x : Int) (hx : u32 x) : mayF (k : Int) (fitD (fmT k) x) (fitA (fmT k) x) (fitB (fmT k) (resB k) x) (fitI (fmT k) x) = true := by
  rw [may_in hk h1]
  generalize resB k = q
  obtain ⟨x0, x1⟩ := hx
  rcases fm_cases k hk h1 with hv | hv | hv | hv | hv | hv | hv | hv | hv | hv
  all_goals
    rw [hv]
    clear hv hk h1
    unfold fitI fitD fitA fitB
    simp only [mayR, mayI, fitsB, oneB, Int.reduceEq, or_false, false_or, or_true, true_or, if_false, if_true, Bool.and_eq_true, Bool.or_eq_true, decide_eq_true_eq, Bool.true_and, Bool.false_and, Bool.and_true, Bool.not_true, Bool.not_false, Bool.false_or, Bool.true_or, Bool.or_false, Bool.false_eq_true, or_false, false_and, true_and, and_true, reduceCtorEq]
  · rcases sg20 (x / 4096 % 1048576) with ⟨g1, g2⟩ | ⟨g1, g2⟩ <;> rw [g2] <;> omega
  · rcases sg20 (x / 2147483648 % 2 * 524288 + x / 4096 % 256 * 2048 + x / 1048576 % 2 * 1024 + x / 2097152 % 1024) with ⟨g1, g2⟩ | ⟨g1, g2⟩ <;> rw [g2] <;> omega
  · rcases sg12 (x / 1048576 % 4096) with ⟨g1, g2⟩ | ⟨g1, g2⟩ <;> rw [g2] <;> omega
  · rcases sg12 (x / 2147483648 % 2 * 2048 + x / 128 % 2 * 1024 + x / 33554432 % 64 * 16 + x / 256 % 16) with ⟨g1, g2⟩ | ⟨g1, g2⟩ <;> rw [g2] <;> omega
  · rcases sg12 (x / 33554432 % 128 * 32 + x / 128 % 32) with ⟨g1, g2⟩ | ⟨g1, g2⟩ <;> rw [g2] <;> omega
  · omega
  · omega
  · omega
  · cases q <;> simp only [cond_true, cond_false, Bool.not_true, Bool.not_false, Bool.false_eq_true, false_and, or_false, true_and, and_true] <;> omega
  all_goals decide
set_option maxHeartbeats 1600000 in
/-- A word is that of what it would be just where its fixed bits are the opcode's. -/
theorem fit_enc (k : Nat) (hk : k < 88) (h1 : 1 ≤ k) (x : Int) (hx : u32 x) : (encF k (fitD (fmT k) x) (fitA (fmT k) x) (fitB (fmT k) (resB k) x) (fitI (fmT k) x) == x) = matB x k := by
  unfold matB encF
  rw [mat_is k hk h1 x hx, Bool.eq_iff_iff, beq_iff_eq, beq_iff_eq]
  generalize resB k = q
  generalize fixT k = c
  obtain ⟨x0, x1⟩ := hx
  rcases fm_cases k hk h1 with hv | hv | hv | hv | hv | hv | hv | hv | hv | hv
  all_goals
    rw [hv]
    clear hv hk h1
    unfold fitI fitD fitA fitB okM
    simp only [Int.reduceEq, or_false, false_or, or_true, true_or, if_false, if_true]
  · unfold encI; simp only [Int.reduceEq, if_false, if_true]; rcases sg20 (x / 4096 % 1048576) with ⟨g1, g2⟩ | ⟨g1, g2⟩ <;> rw [g2] <;> omega
  · rw [jI (x / 2147483648 % 2) (x / 4096 % 256) (x / 1048576 % 2) (x / 2097152 % 1024) _ (by omega) (by omega) (by omega) (by omega) (jS _ _ _ _ (by omega) (by omega) (by omega) (by omega))]; omega
  · unfold encI; simp only [Int.reduceEq, if_false, if_true]; rcases sg12 (x / 1048576 % 4096) with ⟨g1, g2⟩ | ⟨g1, g2⟩ <;> rw [g2] <;> omega
  · rw [bI (x / 2147483648 % 2) (x / 128 % 2) (x / 33554432 % 64) (x / 256 % 16) _ (by omega) (by omega) (by omega) (by omega) (bS _ _ _ _ (by omega) (by omega) (by omega) (by omega))]; omega
  · rw [sI (x / 33554432 % 128) (x / 128 % 32) (by omega) (by omega)]; omega
  · unfold encI; simp only [Int.reduceEq, if_false, if_true]; omega
  · unfold encI; simp only [Int.reduceEq, if_false, if_true]; omega
  · unfold encI; simp only [Int.reduceEq, if_false, if_true]; omega
  · unfold encI; simp only [Int.reduceEq, if_false, if_true]; cases q <;> simp only [cond_true, cond_false] <;> omega
  · unfold encI; simp only [Int.reduceEq, if_false, if_true]; omega
end Go.Proofs.YtngeabphjdfdgaaGreatDoor.P
