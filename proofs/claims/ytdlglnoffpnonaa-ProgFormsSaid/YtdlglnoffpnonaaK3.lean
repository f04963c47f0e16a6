/- Stage 4: the physical address of one. No condition. -/
import Derived.Test.YtdlglnoffpnonaaK2
set_option linter.unusedVariables false
namespace Go.Proofs.Ytdlglnoffpnonaa.P
open Go.RowKit Go.MuLone
theorem c_leaf (b : Nat) (y : Option Nat) (fr : Nat) (s : List UInt8) (t : Int) (w : World) (h : MemO w b y fr s t) (r a v x : Int) (ha : u64 a) (hr : i64 r) (hv : leafV fr s r a = v) (hx : leafR fr s r a = x) :
    Calls Try.prog 61 #[.pointer (some ⟨b, 0, none⟩), .int .i64 r, .int .u64 a] w (LeafP b y fr s v x w) := by
  by_cases hn : (r < 0 ∨ (fr : Int) ≤ r) ∨ 8388608 ≤ a
  · exact c_leaf_no b y fr s t w h r a v x ha hr hv hx hn
  · obtain ⟨n, rfl⟩ : ∃ n : Nat, r = (n : Int) := ⟨r.toNat, by omega⟩
    subst hv; subst hx
    exact c_leaf_yes b y fr s t w h n a ha (by omega) (by omega)
theorem leaf_in {fr : Nat} {s : List UInt8} {r a : Int} (hs : s.length = fr * 256) (h : leafR fr s r a = 0) : 0 ≤ leafV fr s r a ∧ leafV fr s r a + 8 ≤ s.length := by
  have hw := ent_word s (leafA s r a / 1024 * 256 + partI a 1 * 8)
  have hp := part_bd a 0
  have e : leafV fr s r a = leafC s r a / 1024 * 256 + partI a 0 * 8 := by unfold leafV; rw [h]; rfl
  have hc : ptB fr (leafC s r a) = true := by
    unfold leafR at h
    cases h1 : (decide (0 ≤ r) && decide (r < (fr : Int))) <;> cases h2 : decide (a < 8388608) <;> cases h3 : ptB fr (leafA s r a) <;> cases h4 : ptB fr (leafC s r a) <;> simp_all
  have := pt_lt hc
  change W.word (leafC s r a) at hw
  have := hw.1
  rw [e]
  omega
def mayB (n e : Int) : Bool := decide (e % 2 = 1) && (decide (e / 16 % 2 = 1) && decide (e / n % 2 = 1))
def walkE (fr : Nat) (s : List UInt8) (r a : Int) : Int := entS s (leafV fr s r a)
def walkR (fr : Nat) (s : List UInt8) (r a acc : Int) : Int :=
  bif decide (neededI acc = 0) then 1 else bif decide (leafR fr s r a = 0) then (bif mayB (neededI acc) (walkE fr s r a) && decide (walkE fr s r a / 1024 < fr) then 0 else 3) else leafR fr s r a
def walkV (fr : Nat) (s : List UInt8) (r a acc : Int) : Int := bif decide (walkR fr s r a acc = 0) then walkE fr s r a / 1024 * 256 + a % 256 else 0
theorem mask_low (e : Int) (m : Nat) (hm : m < 32) (he : W.word e) : bits .and .u64 e (m : Int) = (((e % 32).toNat &&& m : Nat) : Int) := by
  obtain ⟨x, rfl⟩ := Int.eq_ofNat_of_zero_le he.1
  have h1 := he.2
  rw [u64_and_nat x m (by omega) (by omega)]
  congr 1
  rw [show ((x : Int) % 32).toNat = x % 2 ^ 5 by omega, ← Nat.and_two_pow_sub_one_eq_mod, Nat.and_assoc]
  congr 1
  rw [Nat.and_comm, Nat.and_two_pow_sub_one_eq_mod]
  omega
theorem may19 : ∀ x : Fin 32, ((x.val &&& 19 = 19) ↔ (x.val % 2 = 1 ∧ x.val / 16 % 2 = 1 ∧ x.val / 2 % 2 = 1)) := by decide
theorem may21 : ∀ x : Fin 32, ((x.val &&& 21 = 21) ↔ (x.val % 2 = 1 ∧ x.val / 16 % 2 = 1 ∧ x.val / 4 % 2 = 1)) := by decide
theorem may25 : ∀ x : Fin 32, ((x.val &&& 25 = 25) ↔ (x.val % 2 = 1 ∧ x.val / 16 % 2 = 1 ∧ x.val / 8 % 2 = 1)) := by decide
/-- The bits that must be set for a kind of access. -/
theorem may_bits (n e : Int) (hn : n = 2 ∨ n = 4 ∨ n = 8) (he : W.word e) : decide (bits .and .u64 e (n + 17) = n + 17) = mayB n e := by
  obtain ⟨x, hx⟩ : ∃ x : Nat, e % 32 = (x : Int) := ⟨(e % 32).toNat, by omega⟩
  have hx2 : x < 32 := by omega
  have q19 := may19 ⟨x, hx2⟩
  have q21 := may21 ⟨x, hx2⟩
  have q25 := may25 ⟨x, hx2⟩
  dsimp only at q19 q21 q25
  unfold mayB
  have e1 : (e % 2 = 1) ↔ x % 2 = 1 := by omega
  have e2 : (e / 16 % 2 = 1) ↔ x / 16 % 2 = 1 := by omega
  rcases hn with rfl | rfl | rfl
  · have e3 : (e / 2 % 2 = 1) ↔ x / 2 % 2 = 1 := by omega
    rw [show (2 : Int) + 17 = ((19 : Nat) : Int) from rfl, mask_low e 19 (by decide) he, hx, Int.toNat_natCast, ← Bool.decide_and, ← Bool.decide_and]
    apply decide_eq_decide.2
    rw [e1, e2, e3, ← q19]; omega
  · have e3 : (e / 4 % 2 = 1) ↔ x / 4 % 2 = 1 := by omega
    rw [show (4 : Int) + 17 = ((21 : Nat) : Int) from rfl, mask_low e 21 (by decide) he, hx, Int.toNat_natCast, ← Bool.decide_and, ← Bool.decide_and]
    apply decide_eq_decide.2
    rw [e1, e2, e3, ← q21]; omega
  · have e3 : (e / 8 % 2 = 1) ↔ x / 8 % 2 = 1 := by omega
    rw [show (8 : Int) + 17 = ((25 : Nat) : Int) from rfl, mask_low e 25 (by decide) he, hx, Int.toNat_natCast, ← Bool.decide_and, ← Bool.decide_and]
    apply decide_eq_decide.2
    rw [e1, e2, e3, ← q25]; omega
set_option maxRecDepth 100000 in
theorem c_walk_acc (p : Value) (r a acc : Int) (h : neededI acc = 0) (w : World) : Calls Try.prog 50 #[p, .int .i64 r, .int .u64 a, .int .i64 acc] w fun e w' => e = .returned (.tuple #[.int .u64 0, .int .i64 1]) ∧ w' = w := by
  have C : ∀ w : World, Calls Try.prog 68 #[.int .i64 acc] w fun e w' => e = .returned (.int .u64 0) ∧ w' = w := fun w => by rw [← h]; exact c_needed acc w
  clear h
  go_enter Try.func50, Try.ntmps50
  go_wp2_with (go_at_call 68; refine (C _).mono ?_; rintro e w' ⟨rfl, rfl⟩)
  go_ret2
  exact ⟨rfl, rfl⟩
set_option maxRecDepth 100000 in
theorem c_walk_bad (b : Nat) (y : Option Nat) (fr : Nat) (s : List UInt8) (t : Int) (w : World) (h : MemO w b y fr s t) (r a acc n x : Int) (ha : u64 a) (hr : i64 r) (hn : n = 2 ∨ n = 4 ∨ n = 8) (hacc : neededI acc = n) (hx : leafR fr s r a = x) (hx0 : x ≠ 0) :
    Calls Try.prog 50 #[.pointer (some ⟨b, 0, none⟩), .int .i64 r, .int .u64 a, .int .i64 acc] w (LeafP b y fr s 0 x w) := by
  have C : ∀ w : World, Calls Try.prog 68 #[.int .i64 acc] w fun e w' => e = .returned (.int .u64 n) ∧ w' = w := fun w => by rw [← hacc]; exact c_needed acc w
  have d0 : (n == 0) = false := by rcases hn with rfl | rfl | rfl <;> rfl
  have d1 : (x == 0) = false := by simpa using hx0
  have hv : leafV fr s r a = 0 := by unfold leafV; rw [hx, decide_eq_false hx0]; rfl
  have L := c_leaf b y fr s t w h r a 0 x ha hr hv hx
  clear h hacc hx hx0 hv hn
  go_enter Try.func50, Try.ntmps50
  go_wp2_with (go_at_call 68; refine (C _).mono ?_; rintro e w' ⟨rfl, rfl⟩)
  refine L.mono ?_; rintro e w1 ⟨rfl, hk⟩
  have HK := Lib.hid hk
  clear hk
  go_wp2_with fail
  go_ret2
  exact ⟨rfl, HK.out⟩
set_option maxRecDepth 100000 in
set_option maxHeartbeats 1600000 in
theorem c_walk_ok (b : Nat) (y : Option Nat) (fr : Nat) (s : List UInt8) (t : Int) (w : World) (h : MemO w b y fr s t) (r a acc n : Int) (ha : u64 a) (hr : i64 r) (hn : n = 2 ∨ n = 4 ∨ n = 8) (hacc : neededI acc = n) (hx : leafR fr s r a = 0) (v z : Int)
    (hz : (bif mayB n (walkE fr s r a) && decide (walkE fr s r a / 1024 < fr) then 0 else 3) = z) (hv : (bif decide (z = 0) then walkE fr s r a / 1024 * 256 + a % 256 else 0) = v) :
    Calls Try.prog 50 #[.pointer (some ⟨b, 0, none⟩), .int .i64 r, .int .u64 a, .int .i64 acc] w (LeafP b y fr s v z w) := by
  have C : ∀ w : World, Calls Try.prog 68 #[.int .i64 acc] w fun e w' => e = .returned (.int .u64 n) ∧ w' = w := fun w => by rw [← hacc]; exact c_needed acc w
  have d0 : (n == 0) = false := by rcases hn with rfl | rfl | rfl <;> rfl
  have L := c_leaf b y fr s t w h r a (leafV fr s r a) 0 ha hr rfl hx
  have hin := leaf_in h.1 hx
  have hlen : s.length ≤ 65536 ∧ fr ≤ 256 := by have := h.1; have := h.2.2.1; omega
  have EE : RowKit.Hid (entS s (leafV fr s r a) = walkE fr s r a) := Lib.hid rfl
  have HW := Lib.hid (ent_word s (leafV fr s r a))
  change RowKit.Hid (W.word (walkE fr s r a)) at HW
  have hor : bits .or .u64 n 17 = n + 17 := by rcases hn with rfl | rfl | rfl <;> rfl
  have hmay := may_bits n (walkE fr s r a) hn HW.out
  have n0 : 2 ≤ n ∧ n ≤ 8 := by omega
  clear h hacc hx hn
  generalize leafV fr s r a = P at *
  generalize walkE fr s r a = E at *
  obtain ⟨n0, n1⟩ := n0
  obtain ⟨q, hq⟩ : ∃ q, q = bits .and .u64 E (n + 17) := ⟨_, rfl⟩
  have hand : bits .and .u64 E (n + 17) = q := hq.symm
  rw [← hq] at hmay
  clear hq
  have HIN := Lib.hid hin
  have HZ := Lib.hid hz
  have HV := Lib.hid hv
  have HMAY := Lib.hid hmay
  obtain ⟨p0, p1⟩ := hin
  obtain ⟨l0, l1⟩ := hlen
  obtain ⟨a0, a1⟩ := ha
  clear hz hv hmay
  go_enter Try.func50, Try.ntmps50
  go_wp2_with (go_at_call 68; refine (C _).mono ?_; rintro e w' ⟨rfl, rfl⟩)
  refine L.mono ?_; rintro e w1 ⟨rfl, y1, t1, hM1, hK1⟩
  have HM1 := Lib.hid hM1
  have HK1 := Lib.hid hK1
  clear hM1 hK1 L
  go_wp2_with fail
  refine (c_ent b y1 fr s t1 _ HM1.out P HIN.out.1 HIN.out.2 E EE.out).mono ?_
  rintro e w2 ⟨rfl, y2, t2, hM2, hK2⟩
  have HM2 := Lib.hid hM2
  have HK2 := Lib.hid (HK1.out.trans hK2)
  clear hM2 hK2 HM1 HK1
  cases hm : mayB n E with
  | false =>
    have hz : z = 3 := by rw [← HZ.out, hm]; rfl
    have hv : v = 0 := by rw [← HV.out, hz]; rfl
    have dq : decide (q = n + 17) = false := by have := HMAY.out; rw [hm] at this; exact this
    have dq2 : ¬ q = n + 17 := of_decide_eq_false dq
    subst hz; subst hv
    clear hm
    go_wp2_with fail
    go_ret2
    exact ⟨rfl, y2, t2, HM2.out, HK2.out⟩
  | true =>
    have dq : q = n + 17 := by have := HMAY.out; rw [hm] at this; exact of_decide_eq_true this
    subst dq
    have HZ2 : RowKit.Hid (z = bif decide (E / 1024 < fr) then 0 else 3) := Lib.hid (by rw [← HZ.out, hm]; rfl)
    clear hm
    by_cases hf : E / 1024 < fr
    · have hz : z = 0 := by rw [HZ2.out, decide_eq_true hf]; rfl
      have HF := Lib.hid (decide_eq_true hf)
      subst hz
      obtain ⟨T, hT⟩ : ∃ T : Nat, E / 1024 = (T : Int) := ⟨(E / 1024).toNat, by have := HW.out.1; omega⟩
      have CF : ∀ w : World, Calls Try.prog 70 #[.int .u64 E] w fun e w' => e = .returned (.int .u64 (T : Int)) ∧ w' = w := fun w => by rw [← hT]; exact c_kframe E ⟨HW.out.1, by have := HW.out.2; omega⟩ w
      have hv : v = (T : Int) * 256 + a % 256 := by rw [← HV.out, hT]; rfl
      rw [hT] at hf
      clear hT
      subst hv
      have t0 : (0 : Int) ≤ T := by omega
      have t1' : (T : Int) < 256 := by omega
      go_wp2_with (first
        | (go_at_call 69; refine (c_there b y2 fr s t2 _ HM2.out E HW.out).mono ?_; rintro e w' ⟨rfl, rfl⟩; rw [HF.out])
        | (go_at_call 70; refine (CF _).mono ?_; rintro e w' ⟨rfl, rfl⟩))
      go_ret2
      exact ⟨rfl, y2, t2, HM2.out, HK2.out⟩
    · have hz : z = 3 := by rw [HZ2.out, decide_eq_false hf]; rfl
      have HF := Lib.hid (decide_eq_false hf)
      have hv : v = 0 := by rw [← HV.out, hz]; rfl
      subst hz; subst hv
      clear hf
      go_wp2_with (go_at_call 69; refine (c_there b y2 fr s t2 _ HM2.out E HW.out).mono ?_; rintro e w' ⟨rfl, rfl⟩; rw [HF.out])
      go_ret2
      exact ⟨rfl, y2, t2, HM2.out, HK2.out⟩
theorem needed_in (acc : Int) : neededI acc = 0 ∨ neededI acc = 2 ∨ neededI acc = 4 ∨ neededI acc = 8 := by unfold neededI; split; exact .inr (.inl rfl); split; exact .inr (.inr (.inl rfl)); split; exact .inr (.inr (.inr rfl)); exact .inl rfl
theorem c_walk (b : Nat) (y : Option Nat) (fr : Nat) (s : List UInt8) (t : Int) (w : World) (h : MemO w b y fr s t) (r a acc v x : Int) (ha : u64 a) (hr : i64 r) (hv : walkV fr s r a acc = v) (hx : walkR fr s r a acc = x) :
    Calls Try.prog 50 #[.pointer (some ⟨b, 0, none⟩), .int .i64 r, .int .u64 a, .int .i64 acc] w (LeafP b y fr s v x w) := by
  rcases needed_in acc with hn | hn
  · have hx1 : x = 1 := by rw [← hx]; unfold walkR; rw [hn]; rfl
    have hv1 : v = 0 := by rw [← hv]; unfold walkV; rw [hx, hx1]; rfl
    subst hx1; subst hv1
    refine (c_walk_acc _ r a acc hn w).mono ?_
    rintro e w' ⟨rfl, rfl⟩
    exact ⟨rfl, KeptE.refl h⟩
  · have hn0 : neededI acc ≠ 0 := by omega
    by_cases hl : leafR fr s r a = 0
    · refine c_walk_ok b y fr s t w h r a acc (neededI acc) ha hr hn rfl hl v x ?_ ?_
      · rw [← hx]; unfold walkR; rw [decide_eq_false hn0, decide_eq_true hl]; rfl
      · rw [← hv]; unfold walkV; rw [hx]
    · have hx1 : leafR fr s r a = x := by rw [← hx]; unfold walkR; rw [decide_eq_false hn0, decide_eq_false hl]; rfl
      have hv1 : v = 0 := by rw [← hv]; unfold walkV; rw [hx, decide_eq_false (by rw [← hx1]; exact hl)]; rfl
      subst hv1
      exact c_walk_bad b y fr s t w h r a acc _ x ha hr hn rfl hx1 (by rw [← hx1]; exact hl)
end Go.Proofs.Ytdlglnoffpnonaa.P
