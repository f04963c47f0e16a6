/- Stage 3: what each call answers, for every input; a memory of the call's own. No condition. -/
import Derived.Test.YtbcnibnkojnpiaaGreatQ6
set_option linter.unusedVariables false
namespace Go.Proofs.YtbcnibnkojnpiaaGreat.P
open Go.RowKit Go.MuLone Go.Proofs.YtbcnibnkojnpiaaGreat.W
def inB (s : List UInt8) (a n : Int) : Bool := decide (a + n ≤ s.length)
def loadR (s : List UInt8) (a n : Int) : Int := if sizedB n = true then (if inB s a n = true then 0 else 3) else 1
def loadV (s : List UInt8) (a n : Int) : Int := if sizedB n = true then (if inB s a n = true then ofF (subB s a.toNat n.toNat) else 0) else 0
def loadT (s : List UInt8) (a n t : Int) : Int := if sizedB n = true then (if inB s a n = true then tick t else t) else t
def storeS (s : List UInt8) (a n v : Int) : List UInt8 := if sizedB n = true then (if inB s a n = true then putL s a.toNat (bytesF v n).data.toList else s) else s
def getR (s : List UInt8) (a n : Int) : Int := if n < 0 then 1 else if inB s a n = true then 0 else 3
def getV (s : List UInt8) (a n : Int) : ByteArray := if n < 0 then ⟨#[]⟩ else if inB s a n = true then subB s a.toNat n.toNat else ⟨#[]⟩
def putR (s : List UInt8) (a : Int) (x : ByteArray) : Int := if inB s a x.size = true then 0 else 3
def putS (s : List UInt8) (a : Int) (x : ByteArray) : List UInt8 := if inB s a x.size = true then putL s a.toNat x.data.toList else s
def frB (fr : Nat) (n : Int) : Bool := decide (0 ≤ n ∧ n < fr)
def clearR (fr : Nat) (n : Int) : Int := if frB fr n = true then 0 else 3
def clearS (fr : Nat) (s : List UInt8) (n : Int) : List UInt8 := if frB fr n = true then putL s (n.toNat * 256) (List.replicate 256 0) else s
def copyR (fr : Nat) (n k : Int) : Int := if frB fr n = true then (if frB fr k = true then 0 else 3) else 3
def copyS (fr : Nat) (s : List UInt8) (n k : Int) : List UInt8 := if frB fr n = true then (if frB fr k = true then putL s (n.toNat * 256) ((s.drop (k.toNat * 256)).take 256) else s) else s
theorem inB_t {s : List UInt8} {a n : Int} (h : a + n ≤ s.length) : inB s a n = true := decide_eq_true h
theorem inB_f {s : List UInt8} {a n : Int} (h : ¬ a + n ≤ s.length) : inB s a n = false := decide_eq_false h
theorem frB_t {fr : Nat} {n : Int} (h : 0 ≤ n ∧ n < fr) : frB fr n = true := decide_eq_true h
theorem frB_f {fr : Nat} {n : Int} (h : ¬ (0 ≤ n ∧ n < fr)) : frB fr n = false := decide_eq_false h
theorem c_load (b : Nat) (y : Option Nat) (fr : Nat) (s : List UInt8) (t : Int) (w : World) (h : MemO w b y fr s t) (a n : Int) (ha0 : 0 ≤ a) (ha1 : a ≤ 18446744073709551615) :
    Calls Tryz.prog 45 #[.pointer (some ⟨b, 0, none⟩), .int .u64 a, .int .i64 n] w (LoadP b y fr s (loadT s a n t) (loadV s a n) (loadR s a n) w) := by
  have hx : sizedB n = true ∨ sizedB n = false := by cases sizedB n <;> simp
  rcases hx with hx | hx
  · have hn := sized_nat hx
    obtain ⟨m, rfl⟩ : ∃ m : Nat, n = (m : Int) := ⟨n.toNat, by omega⟩
    by_cases hi : a + (m : Int) ≤ s.length
    · obtain ⟨k, rfl⟩ : ∃ k : Nat, a = (k : Int) := ⟨a.toNat, by omega⟩
      have e1 : loadT s k m t = tick t := by unfold loadT; rw [if_pos hx, if_pos (inB_t hi)]
      have e2 : loadV s k m = ofF (subB s k m) := by unfold loadV; rw [if_pos hx, if_pos (inB_t hi)]; simp
      have e3 : loadR s k m = 0 := by unfold loadR; rw [if_pos hx, if_pos (inB_t hi)]
      rw [e1, e2, e3]
      exact c_load_yes b y fr s t w h k m hx (by omega)
    · have e1 : loadT s a m t = t := by unfold loadT; rw [if_pos hx, if_neg (by rw [inB_f hi]; simp)]
      have e2 : loadV s a m = 0 := by unfold loadV; rw [if_pos hx, if_neg (by rw [inB_f hi]; simp)]
      have e3 : loadR s a m = 3 := by unfold loadR; rw [if_pos hx, if_neg (by rw [inB_f hi]; simp)]
      rw [e1, e2, e3]
      exact c_load_no b y fr s t w h a m ha0 ha1 hx hi
  · have e1 : loadT s a n t = t := by unfold loadT; rw [if_neg (by rw [hx]; simp)]
    have e2 : loadV s a n = 0 := by unfold loadV; rw [if_neg (by rw [hx]; simp)]
    have e3 : loadR s a n = 1 := by unfold loadR; rw [if_neg (by rw [hx]; simp)]
    rw [e1, e2, e3]
    refine (c_load_bad b a n hx w).mono ?_
    rintro e w' ⟨rfl, rfl⟩
    exact ⟨rfl, y, h, KeptM.refl _ _ _⟩
theorem c_store (b : Nat) (y : Option Nat) (fr : Nat) (s : List UInt8) (t : Int) (w : World) (h : MemO w b y fr s t) (a n v : Int) (ha0 : 0 ≤ a) (ha1 : a ≤ 18446744073709551615) (hv : W.word v) :
    Calls Tryz.prog 54 #[.pointer (some ⟨b, 0, none⟩), .int .u64 a, .int .i64 n, .int .u64 v] w (PutP b y fr (storeS s a n v) (loadT s a n t) (loadR s a n) w) := by
  have hx : sizedB n = true ∨ sizedB n = false := by cases sizedB n <;> simp
  rcases hx with hx | hx
  · have hn := sized_nat hx
    obtain ⟨m, rfl⟩ : ∃ m : Nat, n = (m : Int) := ⟨n.toNat, by omega⟩
    by_cases hi : a + (m : Int) ≤ s.length
    · obtain ⟨k, rfl⟩ : ∃ k : Nat, a = (k : Int) := ⟨a.toNat, by omega⟩
      have e1 : loadT s k m t = tick t := by unfold loadT; rw [if_pos hx, if_pos (inB_t hi)]
      have e2 : storeS s k m v = putL s k (bytesF v m).data.toList := by unfold storeS; rw [if_pos hx, if_pos (inB_t hi)]; simp
      have e3 : loadR s k m = 0 := by unfold loadR; rw [if_pos hx, if_pos (inB_t hi)]
      rw [e1, e2, e3]
      exact c_store_yes b y fr s t w h k m v hv hx (by omega)
    · have e1 : loadT s a m t = t := by unfold loadT; rw [if_pos hx, if_neg (by rw [inB_f hi]; simp)]
      have e2 : storeS s a m v = s := by unfold storeS; rw [if_pos hx, if_neg (by rw [inB_f hi]; simp)]
      have e3 : loadR s a m = 3 := by unfold loadR; rw [if_pos hx, if_neg (by rw [inB_f hi]; simp)]
      rw [e1, e2, e3]
      exact c_store_no b y fr s t w h a m v ha0 ha1 hx hi
  · have e1 : loadT s a n t = t := by unfold loadT; rw [if_neg (by rw [hx]; simp)]
    have e2 : storeS s a n v = s := by unfold storeS; rw [if_neg (by rw [hx]; simp)]
    have e3 : loadR s a n = 1 := by unfold loadR; rw [if_neg (by rw [hx]; simp)]
    rw [e1, e2, e3]
    refine (c_store_bad b a n v hx w).mono ?_
    rintro e w' ⟨rfl, rfl⟩
    exact ⟨rfl, y, h, KeptM.refl _ _ _⟩
theorem c_get (b : Nat) (y : Option Nat) (fr : Nat) (s : List UInt8) (t : Int) (w : World) (h : MemO w b y fr s t) (a n : Int) (ha0 : 0 ≤ a) (ha1 : a ≤ 18446744073709551615) (hn1 : n ≤ 9223372036854775807) :
    Calls Tryz.prog 13 #[.pointer (some ⟨b, 0, none⟩), .int .u64 a, .int .i64 n] w (GetP b y fr s t (.string (getV s a n)) (getR s a n) w) := by
  by_cases h0 : n < 0
  · have e1 : getV s a n = ⟨#[]⟩ := by unfold getV; rw [if_pos h0]
    have e2 : getR s a n = 1 := by unfold getR; rw [if_pos h0]
    rw [e1, e2]
    refine (c_get_neg (.int .i64 0) a n h0 b w).mono ?_
    rintro e w' ⟨rfl, rfl⟩
    exact ⟨rfl, y, h, KeptM.refl _ _ _⟩
  · obtain ⟨m, rfl⟩ : ∃ m : Nat, n = (m : Int) := ⟨n.toNat, by omega⟩
    by_cases hi : a + (m : Int) ≤ s.length
    · obtain ⟨k, rfl⟩ : ∃ k : Nat, a = (k : Int) := ⟨a.toNat, by omega⟩
      have e1 : getV s k m = subB s k m := by unfold getV; rw [if_neg h0, if_pos (inB_t hi)]; simp
      have e2 : getR s k m = 0 := by unfold getR; rw [if_neg h0, if_pos (inB_t hi)]
      rw [e1, e2]
      exact c_get_yes b y fr s t w h k m (by omega)
    · have e1 : getV s a m = ⟨#[]⟩ := by unfold getV; rw [if_neg h0, if_neg (by rw [inB_f hi]; simp)]
      have e2 : getR s a m = 3 := by unfold getR; rw [if_neg h0, if_neg (by rw [inB_f hi]; simp)]
      rw [e1, e2]
      exact c_get_no b y fr s t w h a m ha0 ha1 (by unfold maxLen; omega) hi
theorem c_put (b : Nat) (y : Option Nat) (fr : Nat) (s : List UInt8) (t : Int) (w : World) (h : MemO w b y fr s t) (a : Int) (x : ByteArray) (ha0 : 0 ≤ a) (ha1 : a ≤ 18446744073709551615) (hx : x.size ≤ maxLen) :
    Calls Tryz.prog 43 #[.pointer (some ⟨b, 0, none⟩), .int .u64 a, .string x] w (PutP b y fr (putS s a x) t (putR s a x) w) := by
  by_cases hi : a + (x.size : Int) ≤ s.length
  · obtain ⟨k, rfl⟩ : ∃ k : Nat, a = (k : Int) := ⟨a.toNat, by omega⟩
    have e1 : putS s k x = putL s k x.data.toList := by unfold putS; rw [if_pos (inB_t hi)]; simp
    have e2 : putR s k x = 0 := by unfold putR; rw [if_pos (inB_t hi)]
    rw [e1, e2]
    exact c_put_yes b y fr s t w h k x (by omega)
  · have e1 : putS s a x = s := by unfold putS; rw [if_neg (by rw [inB_f hi]; simp)]
    have e2 : putR s a x = 3 := by unfold putR; rw [if_neg (by rw [inB_f hi]; simp)]
    rw [e1, e2]
    exact c_put_no b y fr s t w h a x ha0 ha1 hx hi
theorem c_clear (b : Nat) (y : Option Nat) (fr : Nat) (s : List UInt8) (t : Int) (w : World) (h : MemO w b y fr s t) (n : Int) :
    Calls Tryz.prog 84 #[.pointer (some ⟨b, 0, none⟩), .int .i64 n] w (PutP b y fr (clearS fr s n) t (clearR fr n) w) := by
  by_cases hi : 0 ≤ n ∧ n < fr
  · obtain ⟨k, rfl⟩ : ∃ k : Nat, n = (k : Int) := ⟨n.toNat, by omega⟩
    have e1 : clearS fr s k = putL s (k * 256) (List.replicate 256 0) := by unfold clearS; rw [if_pos (frB_t hi), Int.toNat_natCast]
    have e2 : clearR fr k = 0 := by unfold clearR; rw [if_pos (frB_t hi)]
    rw [e1, e2]
    exact c_clear_yes b y fr s t w h k (by omega)
  · have e1 : clearS fr s n = s := by unfold clearS; rw [if_neg (by rw [frB_f hi]; simp)]
    have e2 : clearR fr n = 3 := by unfold clearR; rw [if_neg (by rw [frB_f hi]; simp)]
    rw [e1, e2]
    refine (c_clear_no b y fr s t w h n (by omega)).mono ?_
    rintro e w' ⟨rfl, rfl⟩
    exact ⟨rfl, y, h, KeptM.refl _ _ _⟩
theorem c_copy (b : Nat) (y : Option Nat) (fr : Nat) (s : List UInt8) (t : Int) (w : World) (h : MemO w b y fr s t) (n k : Int) :
    Calls Tryz.prog 61 #[.pointer (some ⟨b, 0, none⟩), .int .i64 n, .int .i64 k] w (PutP b y fr (copyS fr s n k) t (copyR fr n k) w) := by
  by_cases hi : 0 ≤ n ∧ n < fr
  · obtain ⟨p, rfl⟩ : ∃ k : Nat, n = (k : Int) := ⟨n.toNat, by omega⟩
    by_cases hj : 0 ≤ k ∧ k < fr
    · obtain ⟨q, rfl⟩ : ∃ q : Nat, k = (q : Int) := ⟨k.toNat, by omega⟩
      have e1 : copyS fr s p q = putL s (p * 256) ((s.drop (q * 256)).take 256) := by unfold copyS; rw [if_pos (frB_t hi), if_pos (frB_t hj), Int.toNat_natCast, Int.toNat_natCast]
      have e2 : copyR fr p q = 0 := by unfold copyR; rw [if_pos (frB_t hi), if_pos (frB_t hj)]
      rw [e1, e2]
      exact c_copy_yes b y fr s t w h p q (by omega) (by omega)
    · have e1 : copyS fr s p k = s := by unfold copyS; rw [if_pos (frB_t hi), if_neg (by rw [frB_f hj]; simp)]
      have e2 : copyR fr p k = 3 := by unfold copyR; rw [if_pos (frB_t hi), if_neg (by rw [frB_f hj]; simp)]
      rw [e1, e2]
      exact c_copy_no2 b y fr s t w h p k (by omega) (by omega)
  · have e1 : copyS fr s n k = s := by unfold copyS; rw [if_neg (by rw [frB_f hi]; simp)]
    have e2 : copyR fr n k = 3 := by unfold copyR; rw [if_neg (by rw [frB_f hi]; simp)]
    rw [e1, e2]
    exact c_copy_no1 b y fr s t w h n k (by omega)
/-- From w0 to w only new memory turned, and block b of it is a memory. -/
def MG (w0 w : World) (b fr : Nat) (s : List UInt8) (t : Int) : Prop := Gr w0 w ∧ w0.heap.size ≤ b ∧ ∃ y, (∀ x, y = some x → w0.heap.size ≤ x) ∧ MemO w b y fr s t
theorem MG.step {w0 w w' : World} {b : Nat} {y y' : Option Nat} (g : Gr w0 w) (hb : w0.heap.size ≤ b) (hm : ∀ x, y = some x → w0.heap.size ≤ x) (k : KeptM b y w w' y') : Gr w0 w' ∧ ∀ x, y' = some x → w0.heap.size ≤ x := by
  refine ⟨gr_ch g k.1 (fun x hx => ?_), fun x hx => ?_⟩
  · rcases hx with rfl | hx
    · exact hb
    · exact hm x hx
  · rcases k.2 with e | ⟨e, bm, e2, e3⟩
    · exact hm x (by rw [← e, hx])
    · rw [e2] at hx; injection hx with hx; have := g.size; omega
theorem MG.keep {w0 w w' : World} {b fr : Nat} {s : List UInt8} {t : Int} (h : MG w0 w b fr s t) (k : Gr w w') : MG w0 w' b fr s t := by
  obtain ⟨g0, hb, y, hy, hM⟩ := h
  exact ⟨gtrans g0 k, hb, y, hy, hM.keep (S := fun _ => False) (Ch.of_gr k) (fun h => h) (fun _ _ h => h)⟩
theorem MG.len {w0 w : World} {b fr : Nat} {s : List UInt8} {t : Int} (h : MG w0 w b fr s t) : s.length = fr * 256 ∧ fr ≤ 256 := by
  obtain ⟨g0, hb, y, hy, hM⟩ := h; exact ⟨hM.1, hM.2.2.1⟩
theorem mg_new (w0 : World) (fr : Nat) (h1 : 1 ≤ fr) (h2 : fr ≤ 256) (w : World) (g0 : Gr w0 w) : Calls Tryz.prog 18 #[.int .i64 fr] w fun e w' => ∃ b, e = .returned (.tuple #[.pointer (some ⟨b, 0, none⟩), .int .i64 0]) ∧ MG w0 w' b fr (List.replicate (fr * 256) 0) 0 := by
  refine (c_new fr h1 h2 w).mono ?_
  rintro e w' ⟨b, rfl, hM, hb, hg⟩
  exact ⟨b, rfl, gtrans g0 hg, by have := g0.size; omega, none, fun _ h => (by cases h), hM⟩
theorem mg_load {w0 w : World} {b fr : Nat} {s : List UInt8} {t : Int} (h : MG w0 w b fr s t) (a n : Int) (ha0 : 0 ≤ a) (ha1 : a ≤ 18446744073709551615) (v r t' : Int) (hv : loadV s a n = v) (hr : loadR s a n = r) (ht : loadT s a n t = t') :
    Calls Tryz.prog 45 #[.pointer (some ⟨b, 0, none⟩), .int .u64 a, .int .i64 n] w fun e w' => e = .returned (.tuple #[.int .u64 v, .int .i64 r]) ∧ MG w0 w' b fr s t' := by
  obtain ⟨g0, hb, y, hy, hM⟩ := h
  refine (c_load b y fr s t w hM a n ha0 ha1).mono ?_
  rintro e w' ⟨rfl, y', hM', hK⟩
  obtain ⟨k1, k2⟩ := MG.step g0 hb hy hK
  exact ⟨by rw [hv, hr], k1, hb, y', k2, by rw [← ht]; exact hM'⟩
theorem mg_store {w0 w : World} {b fr : Nat} {s : List UInt8} {t : Int} (h : MG w0 w b fr s t) (a n v : Int) (ha0 : 0 ≤ a) (ha1 : a ≤ 18446744073709551615) (hv : W.word v) (s' : List UInt8) (r t' : Int) (hs : storeS s a n v = s') (hr : loadR s a n = r) (ht : loadT s a n t = t') :
    Calls Tryz.prog 54 #[.pointer (some ⟨b, 0, none⟩), .int .u64 a, .int .i64 n, .int .u64 v] w fun e w' => e = .returned (.int .i64 r) ∧ MG w0 w' b fr s' t' := by
  obtain ⟨g0, hb, y, hy, hM⟩ := h
  refine (c_store b y fr s t w hM a n v ha0 ha1 hv).mono ?_
  rintro e w' ⟨rfl, y', hM', hK⟩
  obtain ⟨k1, k2⟩ := MG.step g0 hb hy hK
  exact ⟨by rw [hr], k1, hb, y', k2, by rw [← hs, ← ht]; exact hM'⟩
theorem mg_get {w0 w : World} {b fr : Nat} {s : List UInt8} {t : Int} (h : MG w0 w b fr s t) (a n : Int) (ha0 : 0 ≤ a) (ha1 : a ≤ 18446744073709551615) (hn1 : n ≤ 9223372036854775807) (v : ByteArray) (r : Int) (hv : getV s a n = v) (hr : getR s a n = r) :
    Calls Tryz.prog 13 #[.pointer (some ⟨b, 0, none⟩), .int .u64 a, .int .i64 n] w fun e w' => e = .returned (.tuple #[.string v, .int .i64 r]) ∧ MG w0 w' b fr s t := by
  obtain ⟨g0, hb, y, hy, hM⟩ := h
  refine (c_get b y fr s t w hM a n ha0 ha1 hn1).mono ?_
  rintro e w' ⟨rfl, y', hM', hK⟩
  obtain ⟨k1, k2⟩ := MG.step g0 hb hy hK
  exact ⟨by rw [hv, hr], k1, hb, y', k2, hM'⟩
theorem mg_put {w0 w : World} {b fr : Nat} {s : List UInt8} {t : Int} (h : MG w0 w b fr s t) (a : Int) (x : ByteArray) (ha0 : 0 ≤ a) (ha1 : a ≤ 18446744073709551615) (hx : x.size ≤ maxLen) :
    Calls Tryz.prog 43 #[.pointer (some ⟨b, 0, none⟩), .int .u64 a, .string x] w fun e w' => e = .returned (.int .i64 (putR s a x)) ∧ MG w0 w' b fr (putS s a x) t := by
  obtain ⟨g0, hb, y, hy, hM⟩ := h
  refine (c_put b y fr s t w hM a x ha0 ha1 hx).mono ?_
  rintro e w' ⟨rfl, y', hM', hK⟩
  obtain ⟨k1, k2⟩ := MG.step g0 hb hy hK
  exact ⟨rfl, k1, hb, y', k2, hM'⟩
theorem mg_clear {w0 w : World} {b fr : Nat} {s : List UInt8} {t : Int} (h : MG w0 w b fr s t) (n : Int) (s' : List UInt8) (r : Int) (hs : clearS fr s n = s') (hr : clearR fr n = r) :
    Calls Tryz.prog 84 #[.pointer (some ⟨b, 0, none⟩), .int .i64 n] w fun e w' => e = .returned (.int .i64 r) ∧ MG w0 w' b fr s' t := by
  obtain ⟨g0, hb, y, hy, hM⟩ := h
  refine (c_clear b y fr s t w hM n).mono ?_
  rintro e w' ⟨rfl, y', hM', hK⟩
  obtain ⟨k1, k2⟩ := MG.step g0 hb hy hK
  exact ⟨by rw [hr], k1, hb, y', k2, by rw [← hs]; exact hM'⟩
theorem mg_copy {w0 w : World} {b fr : Nat} {s : List UInt8} {t : Int} (h : MG w0 w b fr s t) (n k : Int) (s' : List UInt8) (r : Int) (hs : copyS fr s n k = s') (hr : copyR fr n k = r) :
    Calls Tryz.prog 61 #[.pointer (some ⟨b, 0, none⟩), .int .i64 n, .int .i64 k] w fun e w' => e = .returned (.int .i64 r) ∧ MG w0 w' b fr s' t := by
  obtain ⟨g0, hb, y, hy, hM⟩ := h
  refine (c_copy b y fr s t w hM n k).mono ?_
  rintro e w' ⟨rfl, y', hM', hK⟩
  obtain ⟨k1, k2⟩ := MG.step g0 hb hy hK
  exact ⟨by rw [hr], k1, hb, y', k2, by rw [← hs]; exact hM'⟩
def s0 : List UInt8 := List.replicate (2 * 256) 0
def s1 : List UInt8 := storeS s0 255 4 67305985
def s2 : List UInt8 := copyS 2 s1 1 0
theorem v1 : loadR s0 255 4 = 0 ∧ loadT s0 255 4 0 = 1 ∧ loadV s1 256 2 = 770 ∧ loadR s1 256 2 = 0 ∧ loadT s1 256 2 1 = 2 ∧ getV s1 255 4 = ⟨#[1, 2, 3, 4]⟩ ∧ getR s1 255 4 = 0 ∧ loadV s1 511 2 = 0 ∧ loadR s1 511 2 = 3 ∧ loadT s1 511 2 2 = 2 ∧ loadV s1 0 3 = 0 ∧ loadR s1 0 3 = 1 ∧ loadT s1 0 3 2 = 2 ∧ copyR 2 1 0 = 0 ∧ loadV s2 511 1 = 1 ∧ loadR s2 511 1 = 0 ∧ loadT s2 511 1 2 = 3 := by
  decide +kernel
end Go.Proofs.YtbcnibnkojnpiaaGreat.P
