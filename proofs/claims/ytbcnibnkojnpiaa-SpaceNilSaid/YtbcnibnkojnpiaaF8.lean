/- Stage 10: a pool beside other objects. No condition. -/
import Derived.Test.YtbcnibnkojnpiaaF6
set_option linter.unusedVariables false
namespace Go.Proofs.Ytbcnibnkojnpiaa.P
open Go.RowKit Go.MuLone Go.Maps
/-- From wE to w only blocks of S turned; a pool, in blocks of S or new ones. -/
def PZ (wE : World) (S : Nat → Prop) (w : World) (pb b first : Nat) (L : List Bool) (s : List UInt8) : Prop :=
  Ch S wE w ∧ ∃ mb y D t, S pb ∧ S mb ∧ S b ∧ (∀ x, y = some x → S x ∨ wE.heap.size ≤ x) ∧ PoolO w pb mb b y L.length first D s t ∧ ∀ k : Nat, hasI D k = isL L k
theorem PZ.keep {wE : World} {S : Nat → Prop} {w w' : World} {pb b first : Nat} {L : List Bool} {s : List UInt8} (h : PZ wE S w pb b first L s) (g : Gr w w') : PZ wE S w' pb b first L s := by
  obtain ⟨g0, mb, y, D, t, a1, a2, a3, a4, a5, a6⟩ := h
  exact ⟨g0.trans (Ch.of_gr g), mb, y, D, t, a1, a2, a3, a4, a5.keepG g, a6⟩
theorem PZ.step {wE : World} {S : Nat → Prop} {w w' : World} {pb mb b first : Nat} {y y' : Option Nat} {L : List Bool} {D : DataW Unit} {s : List UInt8} {t : Int} (g : Ch S wE w) (a1 : S pb) (a2 : S mb) (a3 : S b) (a4 : ∀ x, y = some x → S x ∨ wE.heap.size ≤ x)
    (hk : KeptP pb mb b y w w' y') (hp : PoolO w' pb mb b y' L.length first D s t) (a6 : ∀ k : Nat, hasI D k = isL L k) : PZ wE S w' pb b first L s := by
  refine ⟨g.trans2 hk.1 (fun x hx hlt => ?_), mb, y', D, t, a1, a2, a3, fun x hx => ?_, hp, a6⟩
  · rcases hx with rfl | rfl | rfl | hx
    · exact a1
    · exact a2
    · exact a3
    · rcases a4 x hx with e | e
      · exact e
      · omega
  · rcases hk.2 with e | ⟨e, z, e2, e3⟩
    · exact a4 x (by rw [← e, hx])
    · rw [e2] at hx; injection hx with hx; have := g.size; exact .inr (by omega)
/-- Its own blocks, from here on. -/
theorem PZ.base {wE : World} {S : Nat → Prop} {w : World} {pb b first : Nat} {L : List Bool} {s : List UInt8} (h : PZ wE S w pb b first L s) : ∃ S' : Nat → Prop, PZ w S' w pb b first L s ∧ ∀ x, S' x → x < w.heap.size ∧ (S x ∨ wE.heap.size ≤ x) := by
  obtain ⟨g0, mb, y, D, t, a1, a2, a3, a4, a5, a6⟩ := h
  have l1 : pb < w.heap.size := blk_lt a5.1
  have l2 : mb < w.heap.size := own_lt a5.2.1
  have l3 := a5.2.2.2.2.1.lt
  refine ⟨fun x => x = pb ∨ x = mb ∨ x = b ∨ y = some x, ⟨Ch.refl _ _, mb, y, D, t, .inl rfl, .inr (.inl rfl), .inr (.inr (.inl rfl)), fun x hx => .inl (.inr (.inr (.inr hx))), a5, a6⟩, fun x hx => ?_⟩
  rcases hx with rfl | rfl | rfl | hx
  · exact ⟨l1, .inl a1⟩
  · exact ⟨l2, .inl a2⟩
  · exact ⟨l3.1, .inl a3⟩
  · exact ⟨l3.2 x hx, a4 x hx⟩
/-- Something else turned. -/
theorem PZ.other {S T : Nat → Prop} {w w' : World} {pb b first : Nat} {L : List Bool} {s : List UInt8} (h : PZ w S w pb b first L s) (hc : Ch T w w') (hd : ∀ x, S x → ¬ T x) (hl : ∀ x, S x → x < w.heap.size) : ∃ S' : Nat → Prop, PZ w' S' w' pb b first L s ∧ ∀ x, S' x → S x := by
  obtain ⟨g0, mb, y, D, t, a1, a2, a3, a4, a5, a6⟩ := h
  have l3 := a5.2.2.2.2.1.lt
  have h4 : ∀ x, y = some x → S x := fun x hx => by
    rcases a4 x hx with e | e
    · exact e
    · have := l3.2 x hx; omega
  refine ⟨fun x => x = pb ∨ x = mb ∨ x = b ∨ y = some x, ⟨Ch.refl _ _, mb, y, D, t, .inl rfl, .inr (.inl rfl), .inr (.inr (.inl rfl)), fun x hx => .inl (.inr (.inr (.inr hx))), a5.keep hc (hd _ a1) (hd _ a2) (hd _ a3) (fun x hx => hd _ (h4 x hx)), a6⟩, fun x hx => ?_⟩
  rcases hx with rfl | rfl | rfl | hx
  · exact a1
  · exact a2
  · exact a3
  · exact h4 x hx
theorem pz_taken {wE : World} {S : Nat → Prop} {w : World} {pb b first : Nat} {L : List Bool} {s : List UInt8} (h : PZ wE S w pb b first L s) (k : Int) (hk : i64 k) :
    Calls Try.prog 23 #[.pointer (some ⟨pb, 0, none⟩), .int .i64 k] w fun e w' => e = .returned (.bool (tknB L first k)) ∧ PZ wE S w' pb b first L s := by
  have h2 := h
  obtain ⟨g0, mb, y, D, t, a1, a2, a3, a4, a5, a6⟩ := h
  refine (c_taken pb mb b y L.length first D s t w a5 k hk).mono ?_
  rintro e w' ⟨rfl, g⟩
  refine ⟨?_, h2.keep g⟩
  unfold takenB tknB
  by_cases q : (first : Int) ≤ k
  · rw [show hasI D k = isL L k.toNat from by rw [← a6, Int.toNat_of_nonneg (by omega)]]
  · rw [decide_eq_false q]; rfl
theorem pz_left {wE : World} {S : Nat → Prop} {w : World} {pb b first : Nat} {L : List Bool} {s : List UInt8} (h : PZ wE S w pb b first L s) :
    Calls Try.prog 8 #[.pointer (some ⟨pb, 0, none⟩)] w fun e w' => e = .returned (.int .i64 (cntL L first (L.length - first) : Nat)) ∧ w' = w := by
  obtain ⟨g0, mb, y, D, t, a1, a2, a3, a4, a5, a6⟩ := h
  refine (c_left pb mb b y L.length first D s t w a5).mono ?_
  rintro e w' ⟨rfl, rfl⟩
  exact ⟨by rw [a5.2.2.1.2.2, cnt_eq D L first a6], rfl⟩
theorem pz_mem {wE : World} {S : Nat → Prop} {w : World} {pb b first : Nat} {L : List Bool} {s : List UInt8} (h : PZ wE S w pb b first L s) :
    Calls Try.prog 25 #[.pointer (some ⟨pb, 0, none⟩)] w fun e w' => e = .returned (.pointer (some ⟨b, 0, none⟩)) ∧ w' = w := by
  obtain ⟨g0, mb, y, D, t, a1, a2, a3, a4, a5, a6⟩ := h
  exact c_mem pb mb b y L.length first D s t w a5
theorem pz_take {wE : World} {S : Nat → Prop} {w : World} {pb b first : Nat} {L : List Bool} {s : List UInt8} (h : PZ wE S w pb b first L s) :
    Calls Try.prog 22 #[.pointer (some ⟨pb, 0, none⟩)] w fun e w' => e = .returned (.tuple #[.int .i64 (takeN L first), .int .i64 (takeE L first)]) ∧ PZ wE S w' pb b first (takeL L first) (takeS L first s) := by
  obtain ⟨g0, mb, y, D, t, a1, a2, a3, a4, a5, a6⟩ := h
  have hf := a5.2.2.2.1
  have hge := nextL_ge L (L.length - first) first
  have hle := nextL_le L (L.length - first) first
  have his := nextL_is L (L.length - first) first
  have hnot := nextL_not L (L.length - first) first
  unfold takeN takeE takeL takeS
  cases hb : takeB L first
  · have hq : ¬ nextL L first (L.length - first) < L.length := of_decide_eq_false hb
    refine (c_take_no pb mb b y L.length first D s t w a5 (fun j hj hj2 => by rw [a6]; exact hnot j hj (by omega))).mono ?_
    rintro e w' ⟨rfl, y', hp, hk⟩
    exact ⟨rfl, PZ.step g0 a1 a2 a3 a4 hk hp a6⟩
  · have hq : nextL L first (L.length - first) < L.length := of_decide_eq_true hb
    refine (c_take_yes pb mb b y L.length first D s t w a5 _ hge hq (by rw [a6]; exact his (by omega)) (fun j hj hj2 => by rw [a6]; exact hnot j hj hj2)).mono ?_
    rintro e w' ⟨rfl, y', hp, hk⟩
    refine ⟨rfl, PZ.step g0 a1 a2 a3 a4 hk (by rw [show (cond true (L.set (nextL L first (L.length - first)) false) L).length = L.length from List.length_set]; exact hp) (fun k => ?_)⟩
    show _ = isL (L.set _ _) k
    rw [hasI_del, a6, isL_set _ _ _ _ hq]
    by_cases e : k = nextL L first (L.length - first)
    · rw [if_pos e, decide_eq_true (by omega)]; rfl
    · rw [if_neg e, decide_eq_false (by omega)]; rfl
theorem pz_give {wE : World} {S : Nat → Prop} {w : World} {pb b first : Nat} {L : List Bool} {s : List UInt8} (h : PZ wE S w pb b first L s) (k : Int) (hk : i64 k) :
    Calls Try.prog 40 #[.pointer (some ⟨pb, 0, none⟩), .int .i64 k] w fun e w' => e = .returned (.int .i64 (giveE L first k)) ∧ PZ wE S w' pb b first (giveL L first k) (giveS L first k s) := by
  obtain ⟨g0, mb, y, D, t, a1, a2, a3, a4, a5, a6⟩ := h
  have ht : takenB D first L.length k = tknB L first k := by
    unfold takenB tknB
    by_cases q : (first : Int) ≤ k
    · rw [show hasI D k = isL L k.toNat from by rw [← a6, Int.toNat_of_nonneg (by omega)]]
    · rw [decide_eq_false q]; rfl
  unfold giveE giveL giveS
  cases hb : tknB L first k
  · refine (c_give_no pb mb b y L.length first D s t w a5 k hk (by rw [ht, hb])).mono ?_
    rintro e w' ⟨rfl, y', hp, hk⟩
    exact ⟨rfl, PZ.step g0 a1 a2 a3 a4 hk hp a6⟩
  · have hb2 := hb
    unfold tknB at hb2
    simp only [Bool.and_eq_true, decide_eq_true_eq, Bool.not_eq_true'] at hb2
    obtain ⟨⟨b1, b2⟩, b3⟩ := hb2
    obtain ⟨n, rfl⟩ : ∃ n : Nat, k = (n : Int) := ⟨k.toNat, by omega⟩
    rw [Int.toNat_natCast] at b3 ⊢
    refine (c_give_yes pb mb b y L.length first D s t w a5 n (by omega) (by omega) (by rw [a6]; exact b3)).mono ?_
    rintro e w' ⟨rfl, y', hp, hk⟩
    refine ⟨rfl, PZ.step g0 a1 a2 a3 a4 hk (by rw [show (cond true (L.set n true) L).length = L.length from List.length_set]; exact hp) (fun k => ?_)⟩
    show _ = isL (L.set _ _) k
    rw [hasI_put D a5.2.2.1.1.isMap, a6, isL_set _ _ _ _ (by omega)]
    by_cases e : k = n
    · rw [if_pos e, decide_eq_true (by omega)]; rfl
    · rw [if_neg e, decide_eq_false (by omega)]; rfl
theorem PZ.mem {wE : World} {S : Nat → Prop} {w : World} {pb b first : Nat} {L : List Bool} {s : List UInt8} (h : PZ wE S w pb b first L s) : s.length = L.length * 256 ∧ L.length ≤ 256 := by
  obtain ⟨g0, mb, y, D, t, a1, a2, a3, a4, a5, a6⟩ := h
  have := a5.2.2.2.2.1
  exact ⟨this.1, this.2.2.1⟩
theorem pz_get {wE : World} {S : Nat → Prop} {w : World} {pb b first : Nat} {L : List Bool} {s : List UInt8} (h : PZ wE S w pb b first L s) (a n : Int) (ha0 : 0 ≤ a) (ha1 : a ≤ 18446744073709551615) (hn1 : n ≤ 9223372036854775807) :
    Calls Try.prog 46 #[.pointer (some ⟨b, 0, none⟩), .int .u64 a, .int .i64 n] w fun e w' => e = .returned (.tuple #[.string (getV s a n), .int .i64 (getR s a n)]) ∧ PZ wE S w' pb b first L s := by
  obtain ⟨g0, mb, y, D, t, a1, a2, a3, a4, a5, a6⟩ := h
  refine (c_get b y L.length s t w a5.2.2.2.2.1 a n ha0 ha1 hn1).mono ?_
  rintro e w' ⟨rfl, y', hM', hK⟩
  exact ⟨rfl, PZ.step g0 a1 a2 a3 a4 ⟨hK.1.mono (fun x hx => .inr (.inr hx)), hK.2⟩ (a5.memed hK hM') a6⟩
theorem pz_put {wE : World} {S : Nat → Prop} {w : World} {pb b first : Nat} {L : List Bool} {s : List UInt8} (h : PZ wE S w pb b first L s) (a : Int) (x : ByteArray) (ha0 : 0 ≤ a) (ha1 : a ≤ 18446744073709551615) (hx : x.size ≤ maxLen) :
    Calls Try.prog 51 #[.pointer (some ⟨b, 0, none⟩), .int .u64 a, .string x] w fun e w' => e = .returned (.int .i64 (putR s a x)) ∧ PZ wE S w' pb b first L (putS s a x) := by
  obtain ⟨g0, mb, y, D, t, a1, a2, a3, a4, a5, a6⟩ := h
  refine (c_put b y L.length s t w a5.2.2.2.2.1 a x ha0 ha1 hx).mono ?_
  rintro e w' ⟨rfl, y', hM', hK⟩
  exact ⟨rfl, PZ.step g0 a1 a2 a3 a4 ⟨hK.1.mono (fun x hx => .inr (.inr hx)), hK.2⟩ (a5.memed hK hM') a6⟩
theorem pz_of {w0 w : World} {pb b first : Nat} {L : List Bool} {s : List UInt8} (h : PG w0 w pb b first L s) : ∃ S : Nat → Prop, PZ w S w pb b first L s ∧ ∀ x, S x → x < w.heap.size ∧ w0.heap.size ≤ x := by
  obtain ⟨g0, mb, y, D, t, a1, a2, a3, a4, a5, a6⟩ := h
  have l1 : pb < w.heap.size := blk_lt a5.1
  have l2 : mb < w.heap.size := own_lt a5.2.1
  have l3 := a5.2.2.2.2.1.lt
  refine ⟨fun x => x = pb ∨ x = mb ∨ x = b ∨ y = some x, ⟨Ch.refl _ _, mb, y, D, t, .inl rfl, .inr (.inl rfl), .inr (.inr (.inl rfl)), fun x hx => .inl (.inr (.inr (.inr hx))), a5, a6⟩, fun x hx => ?_⟩
  rcases hx with rfl | rfl | rfl | hx
  · exact ⟨l1, a1⟩
  · exact ⟨l2, a2⟩
  · exact ⟨l3.1, a3⟩
  · exact ⟨l3.2 x hx, a4 x hx⟩
end Go.Proofs.Ytbcnibnkojnpiaa.P
