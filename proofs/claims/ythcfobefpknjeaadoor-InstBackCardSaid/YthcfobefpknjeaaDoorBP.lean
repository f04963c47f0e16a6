/- Stage 2: fields put side by side: plain facts on words. No condition. -/
import Derived.Test.YthcfobefpknjeaaDoorB3
import Derived.Laws.BitsAllLaws
set_option linter.unusedVariables false
set_option linter.unusedSimpArgs false
namespace Go.Proofs.YthcfobefpknjeaaDoor.P
open Go.RowKit
def pk : List Nat → List Nat → Nat
  | [], _ => 0
  | _ :: _, [] => 0
  | n :: ws, v :: vs => v + 2 ^ n * pk ws vs
def okk : List Nat → List Nat → Prop
  | [], [] => True
  | [], _ :: _ => False
  | _ :: _, [] => False
  | n :: ws, v :: vs => v < 2 ^ n ∧ okk ws vs
def dj : List Nat → List Nat → Prop
  | [], _ => True
  | _ :: _, [] => True
  | u :: us, v :: vs => (u = 0 ∨ v = 0) ∧ dj us vs
theorem or_parts (n u v x y : Nat) (hu : u < 2 ^ n) (hv : v < 2 ^ n) (hd : u = 0 ∨ v = 0) (ih : x ||| y = x + y) : (u + 2 ^ n * x) ||| (v + 2 ^ n * y) = (u + 2 ^ n * x) + (v + 2 ^ n * y) := by
  rw [Nat.add_comm u, Nat.add_comm v, Nat.two_pow_add_eq_or_of_lt hu, Nat.two_pow_add_eq_or_of_lt hv]
  have e : (2 ^ n * x ||| u) ||| (2 ^ n * y ||| v) = (2 ^ n * x ||| 2 ^ n * y) ||| (u ||| v) := by
    apply Nat.eq_of_testBit_eq
    intro i
    simp only [Nat.testBit_or]
    cases (2 ^ n * x).testBit i <;> cases u.testBit i <;> cases (2 ^ n * y).testBit i <;> cases v.testBit i <;> rfl
  have e2 : 2 ^ n * x ||| 2 ^ n * y = 2 ^ n * (x ||| y) := by
    apply Nat.eq_of_testBit_eq
    intro i
    simp only [Nat.testBit_or, Nat.testBit_two_pow_mul]
    cases decide (i ≥ n) <;> simp
  have e3 : u ||| v = u + v := by
    rcases hd with h | h
    · rw [h, Nat.zero_or, Nat.zero_add]
    · rw [h, Nat.or_zero, Nat.add_zero]
  have hlt : u + v < 2 ^ n := by
    rcases hd with h | h
    · rw [h, Nat.zero_add]; exact hv
    · rw [h, Nat.add_zero]; exact hu
  rw [e, e2, e3, ih, ← Nat.two_pow_add_eq_or_of_lt hlt, Nat.mul_add]
  rw [← Nat.two_pow_add_eq_or_of_lt hu, ← Nat.two_pow_add_eq_or_of_lt hv]
  omega
theorem pk_or : ∀ (ws us vs : List Nat), okk ws us → okk ws vs → dj us vs → pk ws us ||| pk ws vs = pk ws us + pk ws vs
  | [], [], [], _, _, _ => rfl
  | n :: ws, u :: us, v :: vs, hu, hv, hd => or_parts n u v _ _ hu.1 hv.1 hd.1 (pk_or ws us vs hu.2 hv.2 hd.2)
  | [], _ :: _, _, h, _, _ => h.elim
  | [], [], _ :: _, _, h, _ => h.elim
  | _ :: _, [], _, h, _, _ => h.elim
  | _ :: _, _ :: _, [], _, h, _ => h.elim
theorem pk_lt : ∀ (ws us : List Nat), okk ws us → pk ws us < 2 ^ ws.sum
  | [], [], _ => by decide
  | n :: ws, u :: us, h => by
    have ih := pk_lt ws us h.2
    have h1 := h.1
    show u + 2 ^ n * pk ws us < 2 ^ (n + ws.sum)
    rw [Nat.pow_add]
    have : 2 ^ n * (pk ws us + 1) ≤ 2 ^ n * 2 ^ ws.sum := Nat.mul_le_mul_left _ ih
    rw [Nat.mul_add] at this
    omega
  | [], _ :: _, h => h.elim
  | _ :: _, [], h => h.elim
theorem orS (ws us vs : List Nat) {x y : Int} (hu : okk ws us) (hv : okk ws vs) (hd : dj us vs) (hs : ws.sum = 32) (ex : x = ((pk ws us : Nat) : Int)) (ey : y = ((pk ws vs : Nat) : Int)) : bits .or .u32 x y = x + y := by
  have a := pk_lt ws us hu
  have b := pk_lt ws vs hv
  rw [hs] at a b
  rw [ex, ey, u32_or_nat _ _ (by simpa using a) (by simpa using b), pk_or ws us vs hu hv hd]
  omega
theorem or0 {x : Int} (h0 : 0 ≤ x) (h1 : x < 4294967296) : bits .or .u32 x 0 = x := by
  obtain ⟨n, rfl⟩ : ∃ n : Nat, x = (n : Int) := ⟨x.toNat, by omega⟩
  have := u32_or_nat n 0 (by omega) (by decide)
  rw [Nat.or_zero] at this
  exact this
theorem or00 {x : Int} (h0 : 0 ≤ x) (h1 : x < 4294967296) : bits .or .u32 0 x = x := by
  obtain ⟨n, rfl⟩ : ∃ n : Nat, x = (n : Int) := ⟨x.toNat, by omega⟩
  have := u32_or_nat 0 n (by decide) (by omega)
  rw [Nat.zero_or] at this
  exact this
def encI (f y : Int) : Int :=
  if f = 85 then y / 4096 % 1048576 * 4096 else
  if f = 74 then y / 1048576 % 2 * 2147483648 + y / 2 % 1024 * 2097152 + y / 2048 % 2 * 1048576 + y / 4096 % 256 * 4096 else
  if f = 73 then y % 4096 * 1048576 else
  if f = 66 then y / 4096 % 2 * 2147483648 + y / 32 % 64 * 33554432 + y / 2 % 16 * 256 + y / 2048 % 2 * 128 else
  if f = 83 then y / 32 % 128 * 33554432 + y % 32 * 128 else
  if f = 72 then y * 1048576 else
  if f = 86 then y * 1048576 else
  if f = 65 then y * 33554432 else 0
def encF (k : Nat) (rd a b i : Int) : Int := fixT k + rd * 128 + a * 32768 + b * 1048576 + encI (fmT k) (i % 4294967296)
/-- What an opcode's fixed bits are made of. -/
theorem fix_u : ∀ k : Nat, k < 88 → (fmT k = 85 ∨ fmT k = 74) → fixT k < 128 := by decide +kernel
theorem fix_i : ∀ k : Nat, k < 88 → (fmT k = 73 ∨ fmT k = 66 ∨ fmT k = 83) → fixT k / 32768 = 0 ∧ fixT k % 4096 < 128 := by decide +kernel
theorem fix_h : ∀ k : Nat, k < 88 → fmT k = 72 → fixT k % 4096 < 128 ∧ fixT k / 32768 % 2048 = 0 := by decide +kernel
theorem fix_v : ∀ k : Nat, k < 88 → (fmT k = 86 ∨ fmT k = 82) → fixT k % 4096 < 128 ∧ fixT k / 32768 % 1024 = 0 := by decide +kernel
theorem fix_a : ∀ k : Nat, k < 88 → fmT k = 65 → fixT k % 4096 < 128 ∧ fixT k / 32768 % 4096 = 0 := by decide +kernel
set_option maxHeartbeats 800000 in
theorem enc_or_85 (k : Nat) (hk : k < 88) (hv : fmT k = 85) (rd i : Int) (hrd : 0 ≤ rd ∧ rd < 32) :
    bits BinOp.or IntKind.u32 (bits BinOp.or IntKind.u32 (fixT k) (bits BinOp.or IntKind.u32 (bits BinOp.or IntKind.u32 (rd * 128) 0) 0)) (i % 4294967296 / 4096 % 1048576 * 4096) = encF k rd 0 0 i := by
  have hp := fix_u k hk (.inl hv)
  have hx := fix_u32 k hk
  unfold encF encI
  rw [hv]
  simp only [Int.reduceEq, if_false, if_true]
  clear hv hk
  generalize fixT k = f at *
  obtain ⟨c, hc⟩ : ∃ n : Nat, f = (n : Int) := ⟨(f).toNat, by omega⟩
  obtain ⟨r, hr⟩ : ∃ n : Nat, rd = (n : Int) := ⟨(rd).toNat, by omega⟩
  obtain ⟨m, hm⟩ : ∃ n : Nat, i % 4294967296 / 4096 % 1048576 = (n : Int) := ⟨(i % 4294967296 / 4096 % 1048576).toNat, by omega⟩
  rw [or0 (x := rd * 128) (by omega) (by omega)]
  rw [or0 (x := rd * 128) (by omega) (by omega)]
  rw [orS [7, 5, 20] [c, 0, 0] [0, r, 0] (x := f) (y := rd * 128) (by simp only [okk, Nat.reducePow, and_true]; omega) (by simp only [okk, Nat.reducePow, and_true]; omega) (by simp [dj]) (by decide) (by simp only [pk, Nat.reducePow]; omega) (by simp only [pk, Nat.reducePow]; omega)]
  rw [orS [7, 5, 20] [c, r, 0] [0, 0, m] (x := f + rd * 128) (y := i % 4294967296 / 4096 % 1048576 * 4096) (by simp only [okk, Nat.reducePow, and_true]; omega) (by simp only [okk, Nat.reducePow, and_true]; omega) (by simp [dj]) (by decide) (by simp only [pk, Nat.reducePow]; omega) (by simp only [pk, Nat.reducePow]; omega)]
  omega
set_option maxHeartbeats 800000 in
theorem enc_or_74 (k : Nat) (hk : k < 88) (hv : fmT k = 74) (rd i : Int) (hrd : 0 ≤ rd ∧ rd < 32) :
    bits BinOp.or IntKind.u32 (bits BinOp.or IntKind.u32 (fixT k) (bits BinOp.or IntKind.u32 (bits BinOp.or IntKind.u32 (rd * 128) 0) 0)) (bits BinOp.or IntKind.u32 (bits BinOp.or IntKind.u32 (bits BinOp.or IntKind.u32 (i % 4294967296 / 1048576 % 2 * 2147483648) (i % 4294967296 / 2 % 1024 * 2097152)) (i % 4294967296 / 2048 % 2 * 1048576)) (i % 4294967296 / 4096 % 256 * 4096)) = encF k rd 0 0 i := by
  have hp := fix_u k hk (.inr hv)
  have hx := fix_u32 k hk
  unfold encF encI
  rw [hv]
  simp only [Int.reduceEq, if_false, if_true]
  clear hv hk
  generalize fixT k = f at *
  obtain ⟨c, hc⟩ : ∃ n : Nat, f = (n : Int) := ⟨(f).toNat, by omega⟩
  obtain ⟨r, hr⟩ : ∃ n : Nat, rd = (n : Int) := ⟨(rd).toNat, by omega⟩
  obtain ⟨m0, hm0⟩ : ∃ n : Nat, i % 4294967296 / 1048576 % 2 = (n : Int) := ⟨(i % 4294967296 / 1048576 % 2).toNat, by omega⟩
  obtain ⟨m1, hm1⟩ : ∃ n : Nat, i % 4294967296 / 2 % 1024 = (n : Int) := ⟨(i % 4294967296 / 2 % 1024).toNat, by omega⟩
  obtain ⟨m2, hm2⟩ : ∃ n : Nat, i % 4294967296 / 2048 % 2 = (n : Int) := ⟨(i % 4294967296 / 2048 % 2).toNat, by omega⟩
  obtain ⟨m3, hm3⟩ : ∃ n : Nat, i % 4294967296 / 4096 % 256 = (n : Int) := ⟨(i % 4294967296 / 4096 % 256).toNat, by omega⟩
  rw [or0 (x := rd * 128) (by omega) (by omega)]
  rw [or0 (x := rd * 128) (by omega) (by omega)]
  rw [orS [7, 5, 8, 1, 10, 1] [c, 0, 0, 0, 0, 0] [0, r, 0, 0, 0, 0] (x := f) (y := rd * 128) (by simp only [okk, Nat.reducePow, and_true]; omega) (by simp only [okk, Nat.reducePow, and_true]; omega) (by simp [dj]) (by decide) (by simp only [pk, Nat.reducePow]; omega) (by simp only [pk, Nat.reducePow]; omega)]
  rw [orS [7, 5, 8, 1, 10, 1] [0, 0, 0, 0, 0, m0] [0, 0, 0, 0, m1, 0] (x := i % 4294967296 / 1048576 % 2 * 2147483648) (y := i % 4294967296 / 2 % 1024 * 2097152) (by simp only [okk, Nat.reducePow, and_true]; omega) (by simp only [okk, Nat.reducePow, and_true]; omega) (by simp [dj]) (by decide) (by simp only [pk, Nat.reducePow]; omega) (by simp only [pk, Nat.reducePow]; omega)]
  rw [orS [7, 5, 8, 1, 10, 1] [0, 0, 0, 0, m1, m0] [0, 0, 0, m2, 0, 0] (x := i % 4294967296 / 1048576 % 2 * 2147483648 + i % 4294967296 / 2 % 1024 * 2097152) (y := i % 4294967296 / 2048 % 2 * 1048576) (by simp only [okk, Nat.reducePow, and_true]; omega) (by simp only [okk, Nat.reducePow, and_true]; omega) (by simp [dj]) (by decide) (by simp only [pk, Nat.reducePow]; omega) (by simp only [pk, Nat.reducePow]; omega)]
  rw [orS [7, 5, 8, 1, 10, 1] [0, 0, 0, m2, m1, m0] [0, 0, m3, 0, 0, 0] (x := i % 4294967296 / 1048576 % 2 * 2147483648 + i % 4294967296 / 2 % 1024 * 2097152 + i % 4294967296 / 2048 % 2 * 1048576) (y := i % 4294967296 / 4096 % 256 * 4096) (by simp only [okk, Nat.reducePow, and_true]; omega) (by simp only [okk, Nat.reducePow, and_true]; omega) (by simp [dj]) (by decide) (by simp only [pk, Nat.reducePow]; omega) (by simp only [pk, Nat.reducePow]; omega)]
  rw [orS [7, 5, 8, 1, 10, 1] [c, r, 0, 0, 0, 0] [0, 0, m3, m2, m1, m0] (x := f + rd * 128) (y := i % 4294967296 / 1048576 % 2 * 2147483648 + i % 4294967296 / 2 % 1024 * 2097152 + i % 4294967296 / 2048 % 2 * 1048576 + i % 4294967296 / 4096 % 256 * 4096) (by simp only [okk, Nat.reducePow, and_true]; omega) (by simp only [okk, Nat.reducePow, and_true]; omega) (by simp [dj]) (by decide) (by simp only [pk, Nat.reducePow]; omega) (by simp only [pk, Nat.reducePow]; omega)]
  omega
set_option maxHeartbeats 800000 in
theorem enc_or_73 (k : Nat) (hk : k < 88) (hv : fmT k = 73) (rd a i : Int) (hrd : 0 ≤ rd ∧ rd < 32) (ha : 0 ≤ a ∧ a < 32) :
    bits BinOp.or IntKind.u32 (bits BinOp.or IntKind.u32 (fixT k) (bits BinOp.or IntKind.u32 (bits BinOp.or IntKind.u32 (rd * 128) (a * 32768)) 0)) (i % 4096 * 1048576) = encF k rd a 0 i := by
  have hp := fix_i k hk (.inl hv)
  have hx := fix_u32 k hk
  unfold encF encI
  rw [hv]
  simp only [Int.reduceEq, if_false, if_true]
  clear hv hk
  generalize fixT k = f at *
  obtain ⟨c, hc⟩ : ∃ n : Nat, f % 4096 = (n : Int) := ⟨(f % 4096).toNat, by omega⟩
  obtain ⟨g, hg⟩ : ∃ n : Nat, f / 4096 % 8 = (n : Int) := ⟨(f / 4096 % 8).toNat, by omega⟩
  obtain ⟨r, hr⟩ : ∃ n : Nat, rd = (n : Int) := ⟨(rd).toNat, by omega⟩
  obtain ⟨u, hu⟩ : ∃ n : Nat, a = (n : Int) := ⟨(a).toNat, by omega⟩
  obtain ⟨m, hm⟩ : ∃ n : Nat, i % 4096 = (n : Int) := ⟨(i % 4096).toNat, by omega⟩
  rw [orS [7, 5, 3, 5, 12] [0, r, 0, 0, 0] [0, 0, 0, u, 0] (x := rd * 128) (y := a * 32768) (by simp only [okk, Nat.reducePow, and_true]; omega) (by simp only [okk, Nat.reducePow, and_true]; omega) (by simp [dj]) (by decide) (by simp only [pk, Nat.reducePow]; omega) (by simp only [pk, Nat.reducePow]; omega)]
  rw [or0 (x := rd * 128 + a * 32768) (by omega) (by omega)]
  rw [orS [7, 5, 3, 5, 12] [c, 0, g, 0, 0] [0, r, 0, u, 0] (x := f) (y := rd * 128 + a * 32768) (by simp only [okk, Nat.reducePow, and_true]; omega) (by simp only [okk, Nat.reducePow, and_true]; omega) (by simp [dj]) (by decide) (by simp only [pk, Nat.reducePow]; omega) (by simp only [pk, Nat.reducePow]; omega)]
  rw [orS [7, 5, 3, 5, 12] [c, r, g, u, 0] [0, 0, 0, 0, m] (x := f + (rd * 128 + a * 32768)) (y := i % 4096 * 1048576) (by simp only [okk, Nat.reducePow, and_true]; omega) (by simp only [okk, Nat.reducePow, and_true]; omega) (by simp [dj]) (by decide) (by simp only [pk, Nat.reducePow]; omega) (by simp only [pk, Nat.reducePow]; omega)]
  omega
set_option maxHeartbeats 800000 in
theorem enc_or_66 (k : Nat) (hk : k < 88) (hv : fmT k = 66) (a b i : Int) (ha : 0 ≤ a ∧ a < 32) (hb : 0 ≤ b ∧ b < 32) :
    bits BinOp.or IntKind.u32 (bits BinOp.or IntKind.u32 (fixT k) (bits BinOp.or IntKind.u32 (bits BinOp.or IntKind.u32 0 (a * 32768)) (b * 1048576))) (bits BinOp.or IntKind.u32 (bits BinOp.or IntKind.u32 (bits BinOp.or IntKind.u32 (i % 4294967296 / 4096 % 2 * 2147483648) (i % 4294967296 / 32 % 64 * 33554432)) (i % 4294967296 / 2 % 16 * 256)) (i % 4294967296 / 2048 % 2 * 128)) = encF k 0 a b i := by
  have hp := fix_i k hk (.inr (.inl hv))
  have hx := fix_u32 k hk
  unfold encF encI
  rw [hv]
  simp only [Int.reduceEq, if_false, if_true]
  clear hv hk
  generalize fixT k = f at *
  obtain ⟨c, hc⟩ : ∃ n : Nat, f % 4096 = (n : Int) := ⟨(f % 4096).toNat, by omega⟩
  obtain ⟨g, hg⟩ : ∃ n : Nat, f / 4096 % 8 = (n : Int) := ⟨(f / 4096 % 8).toNat, by omega⟩
  obtain ⟨u, hu⟩ : ∃ n : Nat, a = (n : Int) := ⟨(a).toNat, by omega⟩
  obtain ⟨v, hv2⟩ : ∃ n : Nat, b = (n : Int) := ⟨(b).toNat, by omega⟩
  obtain ⟨m0, hm0⟩ : ∃ n : Nat, i % 4294967296 / 4096 % 2 = (n : Int) := ⟨(i % 4294967296 / 4096 % 2).toNat, by omega⟩
  obtain ⟨m1, hm1⟩ : ∃ n : Nat, i % 4294967296 / 32 % 64 = (n : Int) := ⟨(i % 4294967296 / 32 % 64).toNat, by omega⟩
  obtain ⟨m2, hm2⟩ : ∃ n : Nat, i % 4294967296 / 2 % 16 = (n : Int) := ⟨(i % 4294967296 / 2 % 16).toNat, by omega⟩
  obtain ⟨m3, hm3⟩ : ∃ n : Nat, i % 4294967296 / 2048 % 2 = (n : Int) := ⟨(i % 4294967296 / 2048 % 2).toNat, by omega⟩
  rw [or00 (x := a * 32768) (by omega) (by omega)]
  rw [orS [7, 1, 4, 3, 5, 5, 6, 1] [0, 0, 0, 0, u, 0, 0, 0] [0, 0, 0, 0, 0, v, 0, 0] (x := a * 32768) (y := b * 1048576) (by simp only [okk, Nat.reducePow, and_true]; omega) (by simp only [okk, Nat.reducePow, and_true]; omega) (by simp [dj]) (by decide) (by simp only [pk, Nat.reducePow]; omega) (by simp only [pk, Nat.reducePow]; omega)]
  rw [orS [7, 1, 4, 3, 5, 5, 6, 1] [c, 0, 0, g, 0, 0, 0, 0] [0, 0, 0, 0, u, v, 0, 0] (x := f) (y := a * 32768 + b * 1048576) (by simp only [okk, Nat.reducePow, and_true]; omega) (by simp only [okk, Nat.reducePow, and_true]; omega) (by simp [dj]) (by decide) (by simp only [pk, Nat.reducePow]; omega) (by simp only [pk, Nat.reducePow]; omega)]
  rw [orS [7, 1, 4, 3, 5, 5, 6, 1] [0, 0, 0, 0, 0, 0, 0, m0] [0, 0, 0, 0, 0, 0, m1, 0] (x := i % 4294967296 / 4096 % 2 * 2147483648) (y := i % 4294967296 / 32 % 64 * 33554432) (by simp only [okk, Nat.reducePow, and_true]; omega) (by simp only [okk, Nat.reducePow, and_true]; omega) (by simp [dj]) (by decide) (by simp only [pk, Nat.reducePow]; omega) (by simp only [pk, Nat.reducePow]; omega)]
  rw [orS [7, 1, 4, 3, 5, 5, 6, 1] [0, 0, 0, 0, 0, 0, m1, m0] [0, 0, m2, 0, 0, 0, 0, 0] (x := i % 4294967296 / 4096 % 2 * 2147483648 + i % 4294967296 / 32 % 64 * 33554432) (y := i % 4294967296 / 2 % 16 * 256) (by simp only [okk, Nat.reducePow, and_true]; omega) (by simp only [okk, Nat.reducePow, and_true]; omega) (by simp [dj]) (by decide) (by simp only [pk, Nat.reducePow]; omega) (by simp only [pk, Nat.reducePow]; omega)]
  rw [orS [7, 1, 4, 3, 5, 5, 6, 1] [0, 0, m2, 0, 0, 0, m1, m0] [0, m3, 0, 0, 0, 0, 0, 0] (x := i % 4294967296 / 4096 % 2 * 2147483648 + i % 4294967296 / 32 % 64 * 33554432 + i % 4294967296 / 2 % 16 * 256) (y := i % 4294967296 / 2048 % 2 * 128) (by simp only [okk, Nat.reducePow, and_true]; omega) (by simp only [okk, Nat.reducePow, and_true]; omega) (by simp [dj]) (by decide) (by simp only [pk, Nat.reducePow]; omega) (by simp only [pk, Nat.reducePow]; omega)]
  rw [orS [7, 1, 4, 3, 5, 5, 6, 1] [c, 0, 0, g, u, v, 0, 0] [0, m3, m2, 0, 0, 0, m1, m0] (x := f + (a * 32768 + b * 1048576)) (y := i % 4294967296 / 4096 % 2 * 2147483648 + i % 4294967296 / 32 % 64 * 33554432 + i % 4294967296 / 2 % 16 * 256 + i % 4294967296 / 2048 % 2 * 128) (by simp only [okk, Nat.reducePow, and_true]; omega) (by simp only [okk, Nat.reducePow, and_true]; omega) (by simp [dj]) (by decide) (by simp only [pk, Nat.reducePow]; omega) (by simp only [pk, Nat.reducePow]; omega)]
  omega
set_option maxHeartbeats 800000 in
theorem enc_or_83 (k : Nat) (hk : k < 88) (hv : fmT k = 83) (a b i : Int) (ha : 0 ≤ a ∧ a < 32) (hb : 0 ≤ b ∧ b < 32) :
    bits BinOp.or IntKind.u32 (bits BinOp.or IntKind.u32 (fixT k) (bits BinOp.or IntKind.u32 (bits BinOp.or IntKind.u32 0 (a * 32768)) (b * 1048576))) (bits BinOp.or IntKind.u32 (i % 4294967296 / 32 % 128 * 33554432) (i % 32 * 128)) = encF k 0 a b i := by
  have hp := fix_i k hk (.inr (.inr hv))
  have hx := fix_u32 k hk
  unfold encF encI
  rw [hv]
  simp only [Int.reduceEq, if_false, if_true]
  clear hv hk
  generalize fixT k = f at *
  obtain ⟨c, hc⟩ : ∃ n : Nat, f % 4096 = (n : Int) := ⟨(f % 4096).toNat, by omega⟩
  obtain ⟨g, hg⟩ : ∃ n : Nat, f / 4096 % 8 = (n : Int) := ⟨(f / 4096 % 8).toNat, by omega⟩
  obtain ⟨u, hu⟩ : ∃ n : Nat, a = (n : Int) := ⟨(a).toNat, by omega⟩
  obtain ⟨v, hv2⟩ : ∃ n : Nat, b = (n : Int) := ⟨(b).toNat, by omega⟩
  obtain ⟨m0, hm0⟩ : ∃ n : Nat, i % 4294967296 / 32 % 128 = (n : Int) := ⟨(i % 4294967296 / 32 % 128).toNat, by omega⟩
  obtain ⟨m1, hm1⟩ : ∃ n : Nat, i % 32 = (n : Int) := ⟨(i % 32).toNat, by omega⟩
  rw [or00 (x := a * 32768) (by omega) (by omega)]
  rw [orS [7, 5, 3, 5, 5, 7] [0, 0, 0, u, 0, 0] [0, 0, 0, 0, v, 0] (x := a * 32768) (y := b * 1048576) (by simp only [okk, Nat.reducePow, and_true]; omega) (by simp only [okk, Nat.reducePow, and_true]; omega) (by simp [dj]) (by decide) (by simp only [pk, Nat.reducePow]; omega) (by simp only [pk, Nat.reducePow]; omega)]
  rw [orS [7, 5, 3, 5, 5, 7] [c, 0, g, 0, 0, 0] [0, 0, 0, u, v, 0] (x := f) (y := a * 32768 + b * 1048576) (by simp only [okk, Nat.reducePow, and_true]; omega) (by simp only [okk, Nat.reducePow, and_true]; omega) (by simp [dj]) (by decide) (by simp only [pk, Nat.reducePow]; omega) (by simp only [pk, Nat.reducePow]; omega)]
  rw [orS [7, 5, 3, 5, 5, 7] [0, 0, 0, 0, 0, m0] [0, m1, 0, 0, 0, 0] (x := i % 4294967296 / 32 % 128 * 33554432) (y := i % 32 * 128) (by simp only [okk, Nat.reducePow, and_true]; omega) (by simp only [okk, Nat.reducePow, and_true]; omega) (by simp [dj]) (by decide) (by simp only [pk, Nat.reducePow]; omega) (by simp only [pk, Nat.reducePow]; omega)]
  rw [orS [7, 5, 3, 5, 5, 7] [c, 0, g, u, v, 0] [0, m1, 0, 0, 0, m0] (x := f + (a * 32768 + b * 1048576)) (y := i % 4294967296 / 32 % 128 * 33554432 + i % 32 * 128) (by simp only [okk, Nat.reducePow, and_true]; omega) (by simp only [okk, Nat.reducePow, and_true]; omega) (by simp [dj]) (by decide) (by simp only [pk, Nat.reducePow]; omega) (by simp only [pk, Nat.reducePow]; omega)]
  omega
set_option maxHeartbeats 800000 in
theorem enc_or_72 (k : Nat) (hk : k < 88) (hv : fmT k = 72) (rd a i : Int) (hrd : 0 ≤ rd ∧ rd < 32) (ha : 0 ≤ a ∧ a < 32) (hi : 0 ≤ i ∧ i < 64) :
    bits BinOp.or IntKind.u32 (bits BinOp.or IntKind.u32 (fixT k) (bits BinOp.or IntKind.u32 (bits BinOp.or IntKind.u32 (rd * 128) (a * 32768)) 0)) (i % 4294967296 * 1048576 % 4294967296) = encF k rd a 0 i := by
  have hp := fix_h k hk hv
  have hx := fix_u32 k hk
  unfold encF encI
  rw [hv]
  simp only [Int.reduceEq, if_false, if_true]
  clear hv hk
  generalize fixT k = f at *
  rw [show i % 4294967296 * 1048576 % 4294967296 = i * 1048576 by omega]
  obtain ⟨c, hc⟩ : ∃ n : Nat, f % 4096 = (n : Int) := ⟨(f % 4096).toNat, by omega⟩
  obtain ⟨g, hg⟩ : ∃ n : Nat, f / 4096 % 8 = (n : Int) := ⟨(f / 4096 % 8).toNat, by omega⟩
  obtain ⟨s, hs⟩ : ∃ n : Nat, f / 67108864 = (n : Int) := ⟨(f / 67108864).toNat, by omega⟩
  obtain ⟨r, hr⟩ : ∃ n : Nat, rd = (n : Int) := ⟨(rd).toNat, by omega⟩
  obtain ⟨u, hu⟩ : ∃ n : Nat, a = (n : Int) := ⟨(a).toNat, by omega⟩
  obtain ⟨m, hm⟩ : ∃ n : Nat, i = (n : Int) := ⟨(i).toNat, by omega⟩
  rw [orS [7, 5, 3, 5, 6, 6] [0, r, 0, 0, 0, 0] [0, 0, 0, u, 0, 0] (x := rd * 128) (y := a * 32768) (by simp only [okk, Nat.reducePow, and_true]; omega) (by simp only [okk, Nat.reducePow, and_true]; omega) (by simp [dj]) (by decide) (by simp only [pk, Nat.reducePow]; omega) (by simp only [pk, Nat.reducePow]; omega)]
  rw [or0 (x := rd * 128 + a * 32768) (by omega) (by omega)]
  rw [orS [7, 5, 3, 5, 6, 6] [c, 0, g, 0, 0, s] [0, r, 0, u, 0, 0] (x := f) (y := rd * 128 + a * 32768) (by simp only [okk, Nat.reducePow, and_true]; omega) (by simp only [okk, Nat.reducePow, and_true]; omega) (by simp [dj]) (by decide) (by simp only [pk, Nat.reducePow]; omega) (by simp only [pk, Nat.reducePow]; omega)]
  rw [orS [7, 5, 3, 5, 6, 6] [c, r, g, u, 0, s] [0, 0, 0, 0, m, 0] (x := f + (rd * 128 + a * 32768)) (y := i * 1048576) (by simp only [okk, Nat.reducePow, and_true]; omega) (by simp only [okk, Nat.reducePow, and_true]; omega) (by simp [dj]) (by decide) (by simp only [pk, Nat.reducePow]; omega) (by simp only [pk, Nat.reducePow]; omega)]
  omega
set_option maxHeartbeats 800000 in
theorem enc_or_86 (k : Nat) (hk : k < 88) (hv : fmT k = 86) (rd a i : Int) (hrd : 0 ≤ rd ∧ rd < 32) (ha : 0 ≤ a ∧ a < 32) (hi : 0 ≤ i ∧ i < 32) :
    bits BinOp.or IntKind.u32 (bits BinOp.or IntKind.u32 (fixT k) (bits BinOp.or IntKind.u32 (bits BinOp.or IntKind.u32 (rd * 128) (a * 32768)) 0)) (i % 4294967296 * 1048576 % 4294967296) = encF k rd a 0 i := by
  have hp := fix_v k hk (.inl hv)
  have hx := fix_u32 k hk
  unfold encF encI
  rw [hv]
  simp only [Int.reduceEq, if_false, if_true]
  clear hv hk
  generalize fixT k = f at *
  rw [show i % 4294967296 * 1048576 % 4294967296 = i * 1048576 by omega]
  obtain ⟨c, hc⟩ : ∃ n : Nat, f % 4096 = (n : Int) := ⟨(f % 4096).toNat, by omega⟩
  obtain ⟨g, hg⟩ : ∃ n : Nat, f / 4096 % 8 = (n : Int) := ⟨(f / 4096 % 8).toNat, by omega⟩
  obtain ⟨s, hs⟩ : ∃ n : Nat, f / 33554432 = (n : Int) := ⟨(f / 33554432).toNat, by omega⟩
  obtain ⟨r, hr⟩ : ∃ n : Nat, rd = (n : Int) := ⟨(rd).toNat, by omega⟩
  obtain ⟨u, hu⟩ : ∃ n : Nat, a = (n : Int) := ⟨(a).toNat, by omega⟩
  obtain ⟨m, hm⟩ : ∃ n : Nat, i = (n : Int) := ⟨(i).toNat, by omega⟩
  rw [orS [7, 5, 3, 5, 5, 7] [0, r, 0, 0, 0, 0] [0, 0, 0, u, 0, 0] (x := rd * 128) (y := a * 32768) (by simp only [okk, Nat.reducePow, and_true]; omega) (by simp only [okk, Nat.reducePow, and_true]; omega) (by simp [dj]) (by decide) (by simp only [pk, Nat.reducePow]; omega) (by simp only [pk, Nat.reducePow]; omega)]
  rw [or0 (x := rd * 128 + a * 32768) (by omega) (by omega)]
  rw [orS [7, 5, 3, 5, 5, 7] [c, 0, g, 0, 0, s] [0, r, 0, u, 0, 0] (x := f) (y := rd * 128 + a * 32768) (by simp only [okk, Nat.reducePow, and_true]; omega) (by simp only [okk, Nat.reducePow, and_true]; omega) (by simp [dj]) (by decide) (by simp only [pk, Nat.reducePow]; omega) (by simp only [pk, Nat.reducePow]; omega)]
  rw [orS [7, 5, 3, 5, 5, 7] [c, r, g, u, 0, s] [0, 0, 0, 0, m, 0] (x := f + (rd * 128 + a * 32768)) (y := i * 1048576) (by simp only [okk, Nat.reducePow, and_true]; omega) (by simp only [okk, Nat.reducePow, and_true]; omega) (by simp [dj]) (by decide) (by simp only [pk, Nat.reducePow]; omega) (by simp only [pk, Nat.reducePow]; omega)]
  omega
set_option maxHeartbeats 800000 in
theorem enc_or_82 (k : Nat) (hk : k < 88) (hv : fmT k = 82) (rd a b i : Int) (hrd : 0 ≤ rd ∧ rd < 32) (ha : 0 ≤ a ∧ a < 32) (hb : 0 ≤ b ∧ b < 32) :
    bits BinOp.or IntKind.u32 (fixT k) (bits BinOp.or IntKind.u32 (bits BinOp.or IntKind.u32 (rd * 128) (a * 32768)) (b * 1048576)) = encF k rd a b i := by
  have hp := fix_v k hk (.inr hv)
  have hx := fix_u32 k hk
  unfold encF encI
  rw [hv]
  simp only [Int.reduceEq, if_false, if_true]
  clear hv hk
  generalize fixT k = f at *
  obtain ⟨c, hc⟩ : ∃ n : Nat, f % 4096 = (n : Int) := ⟨(f % 4096).toNat, by omega⟩
  obtain ⟨g, hg⟩ : ∃ n : Nat, f / 4096 % 8 = (n : Int) := ⟨(f / 4096 % 8).toNat, by omega⟩
  obtain ⟨s, hs⟩ : ∃ n : Nat, f / 33554432 = (n : Int) := ⟨(f / 33554432).toNat, by omega⟩
  obtain ⟨r, hr⟩ : ∃ n : Nat, rd = (n : Int) := ⟨(rd).toNat, by omega⟩
  obtain ⟨u, hu⟩ : ∃ n : Nat, a = (n : Int) := ⟨(a).toNat, by omega⟩
  obtain ⟨v, hv2⟩ : ∃ n : Nat, b = (n : Int) := ⟨(b).toNat, by omega⟩
  rw [orS [7, 5, 3, 5, 5, 7] [0, r, 0, 0, 0, 0] [0, 0, 0, u, 0, 0] (x := rd * 128) (y := a * 32768) (by simp only [okk, Nat.reducePow, and_true]; omega) (by simp only [okk, Nat.reducePow, and_true]; omega) (by simp [dj]) (by decide) (by simp only [pk, Nat.reducePow]; omega) (by simp only [pk, Nat.reducePow]; omega)]
  rw [orS [7, 5, 3, 5, 5, 7] [0, r, 0, u, 0, 0] [0, 0, 0, 0, v, 0] (x := rd * 128 + a * 32768) (y := b * 1048576) (by simp only [okk, Nat.reducePow, and_true]; omega) (by simp only [okk, Nat.reducePow, and_true]; omega) (by simp [dj]) (by decide) (by simp only [pk, Nat.reducePow]; omega) (by simp only [pk, Nat.reducePow]; omega)]
  rw [orS [7, 5, 3, 5, 5, 7] [c, 0, g, 0, 0, s] [0, r, 0, u, v, 0] (x := f) (y := rd * 128 + a * 32768 + b * 1048576) (by simp only [okk, Nat.reducePow, and_true]; omega) (by simp only [okk, Nat.reducePow, and_true]; omega) (by simp [dj]) (by decide) (by simp only [pk, Nat.reducePow]; omega) (by simp only [pk, Nat.reducePow]; omega)]
  omega
set_option maxHeartbeats 800000 in
theorem enc_or_65 (k : Nat) (hk : k < 88) (hv : fmT k = 65) (rd a b i : Int) (hrd : 0 ≤ rd ∧ rd < 32) (ha : 0 ≤ a ∧ a < 32) (hb : 0 ≤ b ∧ b < 32) (hi : 0 ≤ i ∧ i < 4) :
    bits BinOp.or IntKind.u32 (bits BinOp.or IntKind.u32 (fixT k) (bits BinOp.or IntKind.u32 (bits BinOp.or IntKind.u32 (rd * 128) (a * 32768)) (b * 1048576))) (i % 4294967296 * 33554432 % 4294967296) = encF k rd a b i := by
  have hp := fix_a k hk hv
  have hx := fix_u32 k hk
  unfold encF encI
  rw [hv]
  simp only [Int.reduceEq, if_false, if_true]
  clear hv hk
  generalize fixT k = f at *
  rw [show i % 4294967296 * 33554432 % 4294967296 = i * 33554432 by omega]
  obtain ⟨c, hc⟩ : ∃ n : Nat, f % 4096 = (n : Int) := ⟨(f % 4096).toNat, by omega⟩
  obtain ⟨g, hg⟩ : ∃ n : Nat, f / 4096 % 8 = (n : Int) := ⟨(f / 4096 % 8).toNat, by omega⟩
  obtain ⟨s, hs⟩ : ∃ n : Nat, f / 134217728 = (n : Int) := ⟨(f / 134217728).toNat, by omega⟩
  obtain ⟨r, hr⟩ : ∃ n : Nat, rd = (n : Int) := ⟨(rd).toNat, by omega⟩
  obtain ⟨u, hu⟩ : ∃ n : Nat, a = (n : Int) := ⟨(a).toNat, by omega⟩
  obtain ⟨v, hv2⟩ : ∃ n : Nat, b = (n : Int) := ⟨(b).toNat, by omega⟩
  obtain ⟨m, hm⟩ : ∃ n : Nat, i = (n : Int) := ⟨(i).toNat, by omega⟩
  rw [orS [7, 5, 3, 5, 5, 2, 5] [0, r, 0, 0, 0, 0, 0] [0, 0, 0, u, 0, 0, 0] (x := rd * 128) (y := a * 32768) (by simp only [okk, Nat.reducePow, and_true]; omega) (by simp only [okk, Nat.reducePow, and_true]; omega) (by simp [dj]) (by decide) (by simp only [pk, Nat.reducePow]; omega) (by simp only [pk, Nat.reducePow]; omega)]
  rw [orS [7, 5, 3, 5, 5, 2, 5] [0, r, 0, u, 0, 0, 0] [0, 0, 0, 0, v, 0, 0] (x := rd * 128 + a * 32768) (y := b * 1048576) (by simp only [okk, Nat.reducePow, and_true]; omega) (by simp only [okk, Nat.reducePow, and_true]; omega) (by simp [dj]) (by decide) (by simp only [pk, Nat.reducePow]; omega) (by simp only [pk, Nat.reducePow]; omega)]
  rw [orS [7, 5, 3, 5, 5, 2, 5] [c, 0, g, 0, 0, 0, s] [0, r, 0, u, v, 0, 0] (x := f) (y := rd * 128 + a * 32768 + b * 1048576) (by simp only [okk, Nat.reducePow, and_true]; omega) (by simp only [okk, Nat.reducePow, and_true]; omega) (by simp [dj]) (by decide) (by simp only [pk, Nat.reducePow]; omega) (by simp only [pk, Nat.reducePow]; omega)]
  rw [orS [7, 5, 3, 5, 5, 2, 5] [c, r, g, u, v, 0, s] [0, 0, 0, 0, 0, m, 0] (x := f + (rd * 128 + a * 32768 + b * 1048576)) (y := i * 33554432) (by simp only [okk, Nat.reducePow, and_true]; omega) (by simp only [okk, Nat.reducePow, and_true]; omega) (by simp [dj]) (by decide) (by simp only [pk, Nat.reducePow]; omega) (by simp only [pk, Nat.reducePow]; omega)]
  omega
theorem enc_or_78 (k : Nat) (hk : k < 88) (hv : fmT k = 78) (i : Int) : bits BinOp.or IntKind.u32 (fixT k) (bits BinOp.or IntKind.u32 (bits BinOp.or IntKind.u32 0 0) 0) = encF k 0 0 0 i := by
  have hx := fix_u32 k hk
  unfold encF encI
  rw [hv]
  simp only [Int.reduceEq, if_false]
  rw [or0 (x := 0) (by omega) (by omega), or0 (x := 0) (by omega) (by omega), or0 (x := fixT k) (by omega) (by omega)]
  omega
end Go.Proofs.YthcfobefpknjeaaDoor.P
