/- Stage 10: a pool as a list of which frames are free. No condition. -/
import Derived.Test.YtbcnibnkojnpiaaF4
set_option linter.unusedVariables false
namespace Go.Proofs.Ytbcnibnkojnpiaa.P
open Go.RowKit Go.MuLone Go.Maps
def isL (L : List Bool) (k : Nat) : Bool := L.getD k false
/-- The least free one of the n from a on; or a + n. -/
def nextL (L : List Bool) (a : Nat) : Nat → Nat
  | 0 => a
  | n + 1 => if isL L a = true then a else nextL L (a + 1) n
theorem nextL_ge (L : List Bool) : ∀ n a, a ≤ nextL L a n
  | 0, a => Nat.le_refl _
  | n + 1, a => by unfold nextL; split; exact Nat.le_refl _; have := nextL_ge L n (a + 1); omega
theorem nextL_le (L : List Bool) : ∀ n a, nextL L a n ≤ a + n
  | 0, a => Nat.le_refl _
  | n + 1, a => by unfold nextL; split; omega; have := nextL_le L n (a + 1); omega
theorem nextL_is (L : List Bool) : ∀ n a, nextL L a n < a + n → isL L (nextL L a n) = true
  | 0, a, h => by unfold nextL at h; omega
  | n + 1, a, h => by
    unfold nextL at h ⊢
    split
    · assumption
    · rename_i e; rw [if_neg e] at h; exact nextL_is L n (a + 1) (by omega)
theorem nextL_not (L : List Bool) : ∀ n a j, a ≤ j → j < nextL L a n → isL L j = false
  | 0, a, j, h, k => by unfold nextL at k; omega
  | n + 1, a, j, h, k => by
    unfold nextL at k
    split at k
    · omega
    · rename_i e
      by_cases q : a = j
      · subst q; simpa using e
      · exact nextL_not L n (a + 1) j (by omega) k
def cntL (L : List Bool) (a : Nat) : Nat → Nat
  | 0 => 0
  | n + 1 => cntL L a n + (if isL L (a + n) = true then 1 else 0)
theorem cnt_eq (D : DataW Unit) (L : List Bool) (a : Nat) (h : ∀ k : Nat, hasI D k = isL L k) : ∀ n, cntD D a n = cntL L a n
  | 0 => rfl
  | n + 1 => by rw [cntD, cntL, cnt_eq D L a h n, h]
def takeB (L : List Bool) (first : Nat) : Bool := decide (nextL L first (L.length - first) < L.length)
def takeN (L : List Bool) (first : Nat) : Int := bif takeB L first then (nextL L first (L.length - first) : Nat) else 0
def takeE (L : List Bool) (first : Nat) : Int := bif takeB L first then 0 else 4
def takeL (L : List Bool) (first : Nat) : List Bool := bif takeB L first then L.set (nextL L first (L.length - first)) false else L
def takeS (L : List Bool) (first : Nat) (s : List UInt8) : List UInt8 := bif takeB L first then clearS L.length s (nextL L first (L.length - first) : Nat) else s
def tknB (L : List Bool) (first : Nat) (k : Int) : Bool := decide ((first : Int) ≤ k) && decide (k < L.length) && !isL L k.toNat
def giveE (L : List Bool) (first : Nat) (k : Int) : Int := bif tknB L first k then 0 else 1
def giveL (L : List Bool) (first : Nat) (k : Int) : List Bool := bif tknB L first k then L.set k.toNat true else L
def giveS (L : List Bool) (first : Nat) (k : Int) (s : List UInt8) : List UInt8 := bif tknB L first k then clearS L.length s k.toNat else s
/-- From w0 on only new memory turned; a pool at pb of the memory at b; which are free: L. -/
def PG (w0 w : World) (pb b first : Nat) (L : List Bool) (s : List UInt8) : Prop :=
  Gr w0 w ∧ ∃ mb y D t, w0.heap.size ≤ pb ∧ w0.heap.size ≤ mb ∧ w0.heap.size ≤ b ∧ (∀ x, y = some x → w0.heap.size ≤ x) ∧ PoolO w pb mb b y L.length first D s t ∧ ∀ k : Nat, hasI D k = isL L k
theorem PG.keep {w0 w w' : World} {pb b first : Nat} {L : List Bool} {s : List UInt8} (h : PG w0 w pb b first L s) (g : Gr w w') : PG w0 w' pb b first L s := by
  obtain ⟨g0, mb, y, D, t, a1, a2, a3, a4, a5, a6⟩ := h
  exact ⟨gr_ch g0 (Ch.of_gr (S := fun _ => False) g) (fun _ h => h.elim), mb, y, D, t, a1, a2, a3, a4, a5.keepG g, a6⟩
theorem PG.step {w0 w w' : World} {pb mb b first : Nat} {y y' : Option Nat} {L : List Bool} {D : DataW Unit} {s : List UInt8} {t : Int} (g : Gr w0 w) (a1 : w0.heap.size ≤ pb) (a2 : w0.heap.size ≤ mb) (a3 : w0.heap.size ≤ b) (a4 : ∀ x, y = some x → w0.heap.size ≤ x)
    (hk : KeptP pb mb b y w w' y') (hp : PoolO w' pb mb b y' L.length first D s t) (a6 : ∀ k : Nat, hasI D k = isL L k) : PG w0 w' pb b first L s := by
  refine ⟨gr_ch g hk.1 (fun x hx => ?_), mb, y', D, t, a1, a2, a3, fun x hx => ?_, hp, a6⟩
  · rcases hx with rfl | rfl | rfl | hx
    · exact a1
    · exact a2
    · exact a3
    · exact a4 x hx
  · rcases hk.2 with e | ⟨e, z, e2, e3⟩
    · exact a4 x (by rw [← e, hx])
    · rw [e2] at hx; injection hx with hx; have := g.size; omega
theorem isL_set (L : List Bool) (k j : Nat) (v : Bool) (hk : k < L.length) : isL (L.set k v) j = if j = k then v else isL L j := by
  unfold isL
  by_cases e : j = k
  · subst e; rw [if_pos rfl]; simp [List.getD, hk]
  · rw [if_neg e]; simp [List.getD, Ne.symm e]
theorem pg_taken (w0 w : World) (pb b first : Nat) (L : List Bool) (s : List UInt8) (h : PG w0 w pb b first L s) (k : Int) (hk : i64 k) :
    Calls Try.prog 23 #[.pointer (some ⟨pb, 0, none⟩), .int .i64 k] w fun e w' => e = .returned (.bool (tknB L first k)) ∧ PG w0 w' pb b first L s := by
  have h2 := h
  obtain ⟨g0, mb, y, D, t, a1, a2, a3, a4, a5, a6⟩ := h
  refine (c_taken pb mb b y L.length first D s t w a5 k hk).mono ?_
  rintro e w' ⟨rfl, g⟩
  refine ⟨?_, h2.keep g⟩
  unfold takenB tknB
  by_cases q : (first : Int) ≤ k
  · rw [show hasI D k = isL L k.toNat from by rw [← a6, Int.toNat_of_nonneg (by omega)]]
  · rw [decide_eq_false q]; rfl
theorem pg_left (w0 w : World) (pb b first : Nat) (L : List Bool) (s : List UInt8) (h : PG w0 w pb b first L s) :
    Calls Try.prog 8 #[.pointer (some ⟨pb, 0, none⟩)] w fun e w' => e = .returned (.int .i64 (cntL L first (L.length - first) : Nat)) ∧ w' = w := by
  obtain ⟨g0, mb, y, D, t, a1, a2, a3, a4, a5, a6⟩ := h
  refine (c_left pb mb b y L.length first D s t w a5).mono ?_
  rintro e w' ⟨rfl, rfl⟩
  exact ⟨by rw [a5.2.2.1.2.2, cnt_eq D L first a6], rfl⟩
theorem pg_mem (w0 w : World) (pb b first : Nat) (L : List Bool) (s : List UInt8) (h : PG w0 w pb b first L s) :
    Calls Try.prog 25 #[.pointer (some ⟨pb, 0, none⟩)] w fun e w' => e = .returned (.pointer (some ⟨b, 0, none⟩)) ∧ w' = w := by
  obtain ⟨g0, mb, y, D, t, a1, a2, a3, a4, a5, a6⟩ := h
  exact c_mem pb mb b y L.length first D s t w a5
theorem pg_take (w0 w : World) (pb b first : Nat) (L : List Bool) (s : List UInt8) (h : PG w0 w pb b first L s) :
    Calls Try.prog 22 #[.pointer (some ⟨pb, 0, none⟩)] w fun e w' => e = .returned (.tuple #[.int .i64 (takeN L first), .int .i64 (takeE L first)]) ∧ PG w0 w' pb b first (takeL L first) (takeS L first s) := by
  obtain ⟨g0, mb, y, D, t, a1, a2, a3, a4, a5, a6⟩ := h
  have hf := a5.2.2.2.1
  have hge := nextL_ge L (L.length - first) first
  have hle := nextL_le L (L.length - first) first
  have his := nextL_is L (L.length - first) first
  have hnot := nextL_not L (L.length - first) first
  unfold takeN takeE takeL takeS
  cases hb : takeB L first
  · have hq : ¬ nextL L first (L.length - first) < L.length := of_decide_eq_false hb
    refine (c_take_no pb mb b y L.length first D s t w a5 (fun j hj hj2 => by rw [a6]; exact hnot j hj (by omega))).mono ?_
    rintro e w' ⟨rfl, y', hp, hk⟩
    exact ⟨rfl, PG.step g0 a1 a2 a3 a4 hk hp a6⟩
  · have hq : nextL L first (L.length - first) < L.length := of_decide_eq_true hb
    refine (c_take_yes pb mb b y L.length first D s t w a5 _ hge hq (by rw [a6]; exact his (by omega)) (fun j hj hj2 => by rw [a6]; exact hnot j hj hj2)).mono ?_
    rintro e w' ⟨rfl, y', hp, hk⟩
    refine ⟨rfl, PG.step g0 a1 a2 a3 a4 hk (by rw [show (cond true (L.set (nextL L first (L.length - first)) false) L).length = L.length from List.length_set]; exact hp) (fun k => ?_)⟩
    show _ = isL (L.set _ _) k
    rw [hasI_del, a6, isL_set _ _ _ _ hq]
    by_cases e : k = nextL L first (L.length - first)
    · rw [if_pos e, decide_eq_true (by omega)]; rfl
    · rw [if_neg e, decide_eq_false (by omega)]; rfl
theorem pg_give (w0 w : World) (pb b first : Nat) (L : List Bool) (s : List UInt8) (h : PG w0 w pb b first L s) (k : Int) (hk : i64 k) :
    Calls Try.prog 40 #[.pointer (some ⟨pb, 0, none⟩), .int .i64 k] w fun e w' => e = .returned (.int .i64 (giveE L first k)) ∧ PG w0 w' pb b first (giveL L first k) (giveS L first k s) := by
  obtain ⟨g0, mb, y, D, t, a1, a2, a3, a4, a5, a6⟩ := h
  have ht : takenB D first L.length k = tknB L first k := by
    unfold takenB tknB
    by_cases q : (first : Int) ≤ k
    · rw [show hasI D k = isL L k.toNat from by rw [← a6, Int.toNat_of_nonneg (by omega)]]
    · rw [decide_eq_false q]; rfl
  unfold giveE giveL giveS
  cases hb : tknB L first k
  · refine (c_give_no pb mb b y L.length first D s t w a5 k hk (by rw [ht, hb])).mono ?_
    rintro e w' ⟨rfl, y', hp, hk⟩
    exact ⟨rfl, PG.step g0 a1 a2 a3 a4 hk hp a6⟩
  · have hb2 := hb
    unfold tknB at hb2
    simp only [Bool.and_eq_true, decide_eq_true_eq, Bool.not_eq_true'] at hb2
    obtain ⟨⟨b1, b2⟩, b3⟩ := hb2
    obtain ⟨n, rfl⟩ : ∃ n : Nat, k = (n : Int) := ⟨k.toNat, by omega⟩
    rw [Int.toNat_natCast] at b3 ⊢
    refine (c_give_yes pb mb b y L.length first D s t w a5 n (by omega) (by omega) (by rw [a6]; exact b3)).mono ?_
    rintro e w' ⟨rfl, y', hp, hk⟩
    refine ⟨rfl, PG.step g0 a1 a2 a3 a4 hk (by rw [show (cond true (L.set n true) L).length = L.length from List.length_set]; exact hp) (fun k => ?_)⟩
    show _ = isL (L.set _ _) k
    rw [hasI_put D a5.2.2.1.1.isMap, a6, isL_set _ _ _ _ (by omega)]
    by_cases e : k = n
    · rw [if_pos e, decide_eq_true (by omega)]; rfl
    · rw [if_neg e, decide_eq_false (by omega)]; rfl
end Go.Proofs.Ytbcnibnkojnpiaa.P
