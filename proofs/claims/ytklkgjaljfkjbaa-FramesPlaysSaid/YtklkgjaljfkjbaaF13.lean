/- Stage 10: a pool beside the document's. No condition. -/
import Derived.Test.YtklkgjaljfkjbaaF12
set_option linter.unusedVariables false
namespace Go.Proofs.Ytklkgjaljfkjbaa.P
open Go.RowKit Go.MuLone Go.Maps
structure Six where
  pb : Nat
  b : Nat
  rp : Nat
  ib : Nat
  rb : Nat
  vb : Nat
/-- A pool and the document's, apart, of new memory. -/
def FP (w0 w : World) (z : Six) (first : Nat) (L : List Bool) (s : List UInt8) (H : List Bool) (s2 : List UInt8) : Prop :=
  Gr w0 w ∧ ∃ (S : Nat → Prop) (t : Int), PZ w S w z.pb z.b first L s ∧ (∀ x, S x → x < w.heap.size ∧ w0.heap.size ≤ x) ∧ RPO w z.rp z.ib z.rb z.vb first H s2 t ∧ (w0.heap.size ≤ z.rp ∧ w0.heap.size ≤ z.ib ∧ w0.heap.size ≤ z.rb ∧ w0.heap.size ≤ z.vb) ∧ (¬ S z.rp ∧ ¬ S z.ib ∧ ¬ S z.rb ∧ ¬ S z.vb)
theorem RPO.lt {w : World} {rp ib rb vb first : Nat} {H : List Bool} {s : List UInt8} {t : Int} (h : RPO w rp ib rb vb first H s t) : rp < w.heap.size ∧ ib < w.heap.size ∧ rb < w.heap.size ∧ vb < w.heap.size :=
  ⟨blk_lt h.1, blk_lt h.2.1, blk_lt h.2.2.1.1, blk_lt h.2.2.1.2.2.1⟩
theorem FP.out {w0 w : World} {z : Six} {first : Nat} {L : List Bool} {s : List UInt8} {H : List Bool} {s2 : List UInt8} (h : FP w0 w z first L s H s2) :
    ∃ S : Nat → Prop, PZ w S w z.pb z.b first L s ∧ ∀ w' L' s', PZ w S w' z.pb z.b first L' s' → FP w0 w' z first L' s' H s2 := by
  obtain ⟨g, S, t, hz, hS, hR, hge, n1, n2, n3, n4⟩ := h
  refine ⟨S, hz, fun w' L' s' k => ?_⟩
  have hc := k.1
  obtain ⟨S', kz, kS⟩ := k.base
  have hsz := g.size
  obtain ⟨l1, l2, l3, l4⟩ := hR.lt
  have hno : ∀ x, ¬ S x → x < w.heap.size → ¬ S' x := fun x hn hl hx => by
    rcases (kS x hx).2 with e | e
    · exact hn e
    · omega
  refine ⟨gr_ch g hc (fun x hx => (hS x hx).2), S', t, kz, fun x hx => ⟨(kS x hx).1, ?_⟩, hR.keep hc n1 n2 n3 n4, hge, hno _ n1 l1, hno _ n2 l2, hno _ n3 l3, hno _ n4 l4⟩
  rcases (kS x hx).2 with e | e
  · exact (hS x e).2
  · omega
theorem FP.ref {w0 w : World} {z : Six} {first : Nat} {L : List Bool} {s : List UInt8} {H : List Bool} {s2 : List UInt8} (h : FP w0 w z first L s H s2) :
    ∃ t, RPO w z.rp z.ib z.rb z.vb first H s2 t ∧ ∀ w' H' s', RPO w' z.rp z.ib z.rb z.vb first H' s' t → Ch (fun x => x = z.ib ∨ x = z.rb ∨ x = z.vb) w w' → FP w0 w' z first L s H' s' := by
  obtain ⟨g, S, t, hz, hS, hR, hge, n1, n2, n3, n4⟩ := h
  refine ⟨t, hR, fun w' H' s' k hc => ?_⟩
  obtain ⟨S', kz, kS⟩ := hz.other hc (fun x hx e => by rcases e with rfl | rfl | rfl; exact n2 hx; exact n3 hx; exact n4 hx) (fun x hx => (hS x hx).1)
  have hsz := hc.size
  refine ⟨gr_ch g hc (fun x hx => by rcases hx with rfl | rfl | rfl; exact hge.2.1; exact hge.2.2.1; exact hge.2.2.2), S', t, kz, fun x hx => ⟨by have := (hS x (kS x hx)).1; omega, (hS x (kS x hx)).2⟩, k, hge, fun h => n1 (kS _ h), fun h => n2 (kS _ h), fun h => n3 (kS _ h), fun h => n4 (kS _ h)⟩
theorem FP.gr {w0 w w' : World} {z : Six} {first : Nat} {L : List Bool} {s : List UInt8} {H : List Bool} {s2 : List UInt8} (h : FP w0 w z first L s H s2) (g : Gr w w') : FP w0 w' z first L s H s2 := by
  obtain ⟨S, hz, k⟩ := h.out
  exact k _ _ _ (hz.keep g)
theorem fp_take {w0 w : World} {z : Six} {first : Nat} {L : List Bool} {s : List UInt8} {H : List Bool} {s2 : List UInt8} (h : FP w0 w z first L s H s2)  :
    Calls Try.prog 13 #[.pointer (some ⟨z.pb, 0, none⟩)] w fun e w' => e = .returned (.tuple #[.int .i64 (takeN L first), .int .i64 (takeE L first)]) ∧ FP w0 w' z first (takeL L first) (takeS L first s) H s2 := by
  obtain ⟨S, hz, k⟩ := h.out
  exact (pz_take hz).mono fun x w' q => ⟨q.1, k _ _ _ q.2⟩
theorem fp_give {w0 w : World} {z : Six} {first : Nat} {L : List Bool} {s : List UInt8} {H : List Bool} {s2 : List UInt8} (h : FP w0 w z first L s H s2) (i : Int) (hi : i64 i) :
    Calls Try.prog 15 #[.pointer (some ⟨z.pb, 0, none⟩), .int .i64 i] w fun e w' => e = .returned (.int .i64 (giveE L first i)) ∧ FP w0 w' z first (giveL L first i) (giveS L first i s) H s2 := by
  obtain ⟨S, hz, k⟩ := h.out
  exact (pz_give hz i hi).mono fun x w' q => ⟨q.1, k _ _ _ q.2⟩
theorem fp_taken {w0 w : World} {z : Six} {first : Nat} {L : List Bool} {s : List UInt8} {H : List Bool} {s2 : List UInt8} (h : FP w0 w z first L s H s2) (i : Int) (hi : i64 i) :
    Calls Try.prog 21 #[.pointer (some ⟨z.pb, 0, none⟩), .int .i64 i] w fun e w' => e = .returned (.bool (tknB L first i)) ∧ FP w0 w' z first L s H s2 := by
  obtain ⟨S, hz, k⟩ := h.out
  exact (pz_taken hz i hi).mono fun x w' q => ⟨q.1, k _ _ _ q.2⟩
theorem fp_get {w0 w : World} {z : Six} {first : Nat} {L : List Bool} {s : List UInt8} {H : List Bool} {s2 : List UInt8} (h : FP w0 w z first L s H s2) (a n : Int) (ha0 : 0 ≤ a) (ha1 : a ≤ 18446744073709551615) (hn1 : n ≤ 9223372036854775807) :
    Calls Try.prog 23 #[.pointer (some ⟨z.b, 0, none⟩), .int .u64 a, .int .i64 n] w fun e w' => e = .returned (.tuple #[.string (getV s a n), .int .i64 (getR s a n)]) ∧ FP w0 w' z first L s H s2 := by
  obtain ⟨S, hz, k⟩ := h.out
  exact (pz_get hz a n ha0 ha1 hn1).mono fun x w' q => ⟨q.1, k _ _ _ q.2⟩
theorem fp_put {w0 w : World} {z : Six} {first : Nat} {L : List Bool} {s : List UInt8} {H : List Bool} {s2 : List UInt8} (h : FP w0 w z first L s H s2) (a : Int) (x : ByteArray) (ha0 : 0 ≤ a) (ha1 : a ≤ 18446744073709551615) (hx : x.size ≤ maxLen) :
    Calls Try.prog 17 #[.pointer (some ⟨z.b, 0, none⟩), .int .u64 a, .string x] w fun e w' => e = .returned (.int .i64 (putR s a x)) ∧ FP w0 w' z first L (putS s a x) H s2 := by
  obtain ⟨S, hz, k⟩ := h.out
  exact (pz_put hz a x ha0 ha1 hx).mono fun x w' q => ⟨q.1, k _ _ _ q.2⟩
theorem fp_left {w0 w : World} {z : Six} {first : Nat} {L : List Bool} {s : List UInt8} {H : List Bool} {s2 : List UInt8} (h : FP w0 w z first L s H s2) :
    Calls Try.prog 19 #[.pointer (some ⟨z.pb, 0, none⟩)] w fun e w' => e = .returned (.int .i64 (cntL L first (L.length - first) : Nat)) ∧ w' = w := by
  obtain ⟨S, hz, k⟩ := h.out
  exact pz_left hz
theorem fp_mem {w0 w : World} {z : Six} {first : Nat} {L : List Bool} {s : List UInt8} {H : List Bool} {s2 : List UInt8} (h : FP w0 w z first L s H s2) :
    Calls Try.prog 24 #[.pointer (some ⟨z.pb, 0, none⟩)] w fun e w' => e = .returned (.pointer (some ⟨z.b, 0, none⟩)) ∧ w' = w := by
  obtain ⟨S, hz, k⟩ := h.out
  exact pz_mem hz
theorem FP.mem {w0 w : World} {z : Six} {first : Nat} {L : List Bool} {s : List UInt8} {H : List Bool} {s2 : List UInt8} (h : FP w0 w z first L s H s2) : s.length = L.length * 256 ∧ L.length ≤ 256 := by
  obtain ⟨S, hz, k⟩ := h.out
  exact hz.mem
theorem fq_take {w0 w : World} {z : Six} {first : Nat} {L : List Bool} {s : List UInt8} {H : List Bool} {s2 : List UInt8} {L2 : List Bool} (h : FP w0 w z first L s H s2) (hr : Rel first L2 H) :
    Calls Try.prog 14 #[.pointer (some ⟨z.rp, 0, none⟩)] w fun e w' => e = .returned (.tuple #[.int .i64 (takeN L2 first), .int .i64 (takeE L2 first)]) ∧ FP w0 w' z first L s (takeH L2 H first) (takeS L2 first s2) := by
  obtain ⟨t, hR, k⟩ := h.ref
  exact (q_take _ _ _ _ _ L2 H s2 t w hR hr).mono fun x w' q => ⟨q.1, k _ _ _ q.2.1 q.2.2⟩
theorem fq_give {w0 w : World} {z : Six} {first : Nat} {L : List Bool} {s : List UInt8} {H : List Bool} {s2 : List UInt8} {L2 : List Bool} (h : FP w0 w z first L s H s2) (hr : Rel first L2 H) (i : Int) :
    Calls Try.prog 16 #[.pointer (some ⟨z.rp, 0, none⟩), .int .i64 i] w fun e w' => e = .returned (.int .i64 (giveE L2 first i)) ∧ FP w0 w' z first L s (giveH L2 H first i) (giveS L2 first i s2) := by
  obtain ⟨t, hR, k⟩ := h.ref
  exact (q_give _ _ _ _ _ L2 H s2 t w hR hr i).mono fun x w' q => ⟨q.1, k _ _ _ q.2.1 q.2.2⟩
theorem fq_taken {w0 w : World} {z : Six} {first : Nat} {L : List Bool} {s : List UInt8} {H : List Bool} {s2 : List UInt8} {L2 : List Bool} (h : FP w0 w z first L s H s2) (hr : Rel first L2 H) (i : Int) :
    Calls Try.prog 22 #[.pointer (some ⟨z.rp, 0, none⟩), .int .i64 i] w fun e w' => e = .returned (.bool (tknB L2 first i)) ∧ w' = w := by
  obtain ⟨t, hR, k⟩ := h.ref
  exact q_taken _ _ _ _ _ L2 H s2 t w hR hr i
theorem fq_left {w0 w : World} {z : Six} {first : Nat} {L : List Bool} {s : List UInt8} {H : List Bool} {s2 : List UInt8} {L2 : List Bool} (h : FP w0 w z first L s H s2) (hr : Rel first L2 H) :
    Calls Try.prog 20 #[.pointer (some ⟨z.rp, 0, none⟩)] w fun e w' => e = .returned (.int .i64 (cntL L2 first (L2.length - first) : Nat)) ∧ w' = w := by
  obtain ⟨t, hR, k⟩ := h.ref
  exact q_left _ _ _ _ _ L2 H s2 t w hR hr
theorem putS_len (s : List UInt8) (a : Int) (x : ByteArray) (ha : 0 ≤ a) : (putS s a x).length = s.length := by
  unfold putS; split
  · rename_i hh
    have hh2 : a + (x.size : Int) ≤ s.length := of_decide_eq_true hh
    refine putL_len _ _ _ ?_
    rw [show x.data.toList.length = x.size by simp]; omega
  · rfl
theorem fq_put {w0 w : World} {z : Six} {first : Nat} {L : List Bool} {s : List UInt8} {H : List Bool} {s2 : List UInt8} (h : FP w0 w z first L s H s2) (a : Int) (x : ByteArray) (ha0 : 0 ≤ a) (ha1 : a ≤ 18446744073709551615) (hx : x.size ≤ maxLen) :
    Calls Try.prog 18 #[.pointer (some ⟨z.rb, 0, none⟩), .int .u64 a, .string x] w fun e w' => e = .returned (.int .i64 (putR s2 a x)) ∧ FP w0 w' z first L s H (putS s2 a x) := by
  obtain ⟨t, hR, k⟩ := h.ref
  refine (r_put z.rb z.vb s2 t w hR.2.2.1 a x ha0 ha1 hx).mono ?_
  rintro e w' ⟨rfl, hM, hc⟩
  exact ⟨rfl, k _ _ _ (hR.copied hM (putS_len s2 a x ha0) hc) (hc.mono fun x hx => by rcases hx with e | e; exact .inr (.inl e); injection e with e; exact .inr (.inr e.symm))⟩
theorem FP.right {w0 w : World} {z : Six} {first : Nat} {L : List Bool} {s : List UInt8} {H : List Bool} {s2 : List UInt8} (h : FP w0 w z first L s H s2) : w.cell? ⟨z.rp, 0, none⟩ = some (.pointer (some ⟨z.rb, 0, none⟩)) ∧ w.cell? ⟨z.rb, 0, none⟩ = some (.slice (some ⟨z.vb, 0, none⟩) s2.length s2.length) ∧ (convert 53 9 (.slice (some ⟨z.vb, 0, none⟩) s2.length s2.length)).run Try.prog w = .ok (.string (subB s2 0 s2.length)) w := by
  obtain ⟨t, hR, k⟩ := h.ref
  have c0 := blk_cell hR.1 0 (v := .pointer (some ⟨z.rb, 0, none⟩)) rfl
  have c1 := blk_cell hR.2.2.1.1 0 (v := .slice (some ⟨z.vb, 0, none⟩) s2.length s2.length) rfl
  have e := conv_part z.vb s2 0 s2.length (by omega) w hR.2.2.1.2.2.1
  have e2 : partV z.vb s2.length 0 s2.length = .slice (some ⟨z.vb, 0, none⟩) s2.length s2.length := by unfold partV; split <;> rfl
  rw [e2] at e
  exact ⟨c0, c1, e⟩
theorem fp_new {w0 w w4 w5 : World} {pb b rp ib rb vb first fr : Nat} {s s2 : List UInt8} {t : Int} (h : PG w0 w pb b first (freshL fr first) s) (g1 : Gr w w4) (g2 : Gr w4 w5) (hR : RPO w5 rp ib rb vb first (List.replicate fr true) s2 t) (l1 : w.heap.size ≤ rp) (l2 : w.heap.size ≤ ib) (l3 : w.heap.size ≤ rb) (l4 : w.heap.size ≤ vb) :
    FP w0 w5 ⟨pb, b, rp, ib, rb, vb⟩ first (freshL fr first) s (List.replicate fr true) s2 := by
  obtain ⟨S, hz, hS⟩ := pz_of h
  have g := gtrans g1 g2
  obtain ⟨S', kz, kS⟩ := hz.other (T := fun _ => False) (Ch.of_gr g) (fun _ _ e => e) (fun x hx => (hS x hx).1)
  have hsz := g.size
  have h0 := h.1.size
  have hno : ∀ x, w.heap.size ≤ x → ¬ S' x := fun x hx hs => by have := (hS x (kS x hs)).1; omega
  exact ⟨gtrans h.1 g, S', t, kz, fun x hx => ⟨by have := (hS x (kS x hx)).1; omega, (hS x (kS x hx)).2⟩, hR, ⟨Nat.le_trans h0 l1, Nat.le_trans h0 l2, Nat.le_trans h0 l3, Nat.le_trans h0 l4⟩, hno _ l1, hno _ l2, hno _ l3, hno _ l4⟩
theorem rel_take {first : Nat} {L H : List Bool} (h : Rel first L H) : Rel first (takeL L first) (takeH L H first) := by
  unfold takeL takeH
  cases hb : takeB L first
  · exact h
  · exact h.set _ false (nextL_ge L _ first) (of_decide_eq_true hb)
theorem rel_give {first : Nat} {L H : List Bool} (h : Rel first L H) (k : Int) : Rel first (giveL L first k) (giveH L H first k) := by
  unfold giveL giveH
  cases hb : tknB L first k
  · exact h
  · unfold tknB at hb
    simp only [Bool.and_eq_true, decide_eq_true_eq] at hb
    exact h.set _ true (by omega) (by omega)
end Go.Proofs.Ytklkgjaljfkjbaa.P
