/- Stage 3: the memory and the document's side by side: each call. No condition. -/
import Derived.Test.YtbcnibnkojnpiaaGreatR3
import Derived.Test.YtbcnibnkojnpiaaGreatQ9
set_option linter.unusedVariables false
namespace Go.Proofs.YtbcnibnkojnpiaaGreat.P
open Go.RowKit Go.MuLone Go.Proofs.YtbcnibnkojnpiaaGreat.W
/-- From wE to w only blocks of S turned; a memory and the document's, apart, in blocks of S or new ones. -/
def PX (wE : World) (S : Nat → Prop) (w : World) (b rb vb fr : Nat) (s : List UInt8) (t : Int) (s' : List UInt8) (t' : Int) : Prop :=
  Ch S wE w ∧ S b ∧ S rb ∧ S vb ∧ ∃ y, (∀ x, y = some x → S x ∨ wE.heap.size ≤ x) ∧ Sep b y rb (some vb) ∧ MemO w b y fr s t ∧ RMemO w rb vb s' t'
theorem px_left {wE : World} {S : Nat → Prop} {w w' : World} {b rb vb fr : Nat} {s1 : List UInt8} {t1 : Int} {s' : List UInt8} {t' : Int} {y y' : Option Nat}
    (h : Ch S wE w) (hb : S b) (hr : S rb) (hv : S vb) (hy : ∀ x, y = some x → S x ∨ wE.heap.size ≤ x) (hs : Sep b y rb (some vb)) (hR : RMemO w rb vb s' t') (hM : MemO w' b y' fr s1 t1) (hk : KeptM b y w w' y') :
    PX wE S w' b rb vb fr s1 t1 s' t' := by
  have hlr : rb < w.heap.size := blk_lt hR.1
  have hlv : vb < w.heap.size := blk_lt hR.2.2.1
  have ho := hs.out
  refine ⟨h.trans2 hk.1 (fun x hx hlt => ?_), hb, hr, hv, y', fun x hx => ?_, hs.step hk hlr (fun x hx => by injection hx with hx; omega), hM, hR.keep hk.1 ho.1 (ho.2 vb rfl)⟩
  · rcases hx with rfl | hx
    · exact hb
    · rcases hy x hx with e | e
      · exact e
      · omega
  · rcases hk.2 with e | ⟨e, g, e2, e3⟩
    · exact hy x (by rw [← e, hx])
    · rw [e2] at hx; injection hx with hx; have := h.size; exact .inr (by omega)
theorem px_right {wE : World} {S : Nat → Prop} {w w' : World} {b rb vb fr : Nat} {s : List UInt8} {t : Int} {s1 : List UInt8} {t1 : Int} {y : Option Nat}
    (h : Ch S wE w) (hb : S b) (hr : S rb) (hv : S vb) (hy : ∀ x, y = some x → S x ∨ wE.heap.size ≤ x) (hs : Sep b y rb (some vb)) (hM : MemO w b y fr s t) (hR : RMemO w' rb vb s1 t1) (hk : Ch (fun x => x = rb ∨ some vb = some x) w w') :
    PX wE S w' b rb vb fr s t s1 t1 := by
  have ho := hs.symm.out
  refine ⟨h.trans2 hk (fun x hx hlt => ?_), hb, hr, hv, y, hy, hs, hM.keep hk ho.1 ho.2, hR⟩
  rcases hx with rfl | hx
  · exact hr
  · injection hx with hx; rw [← hx]; exact hv
theorem p_load {wE : World} {S : Nat → Prop} {w : World} {b rb vb fr : Nat} {s : List UInt8} {t : Int} {s' : List UInt8} {t' : Int} (h : PX wE S w b rb vb fr s t s' t') (a n : Int) (ha0 : 0 ≤ a) (ha1 : a ≤ 18446744073709551615) :
    Calls Tryz.prog 45 #[.pointer (some ⟨b, 0, none⟩), .int .u64 a, .int .i64 n] w fun e w' => e = .returned (.tuple #[.int .u64 (loadV s a n), .int .i64 (loadR s a n)]) ∧ PX wE S w' b rb vb fr (s) (loadT s a n t) s' t' := by
  obtain ⟨hc, hb, hr, hv, y, hy, hs, hM, hR⟩ := h
  refine (c_load b y fr s t w hM a n ha0 ha1).mono ?_
  rintro e w' ⟨rfl, y', hM', hK⟩
  exact ⟨rfl, px_left hc hb hr hv hy hs hR hM' hK⟩
theorem p_store {wE : World} {S : Nat → Prop} {w : World} {b rb vb fr : Nat} {s : List UInt8} {t : Int} {s' : List UInt8} {t' : Int} (h : PX wE S w b rb vb fr s t s' t') (a n v : Int) (ha0 : 0 ≤ a) (ha1 : a ≤ 18446744073709551615) (hvv : W.word v) :
    Calls Tryz.prog 54 #[.pointer (some ⟨b, 0, none⟩), .int .u64 a, .int .i64 n, .int .u64 v] w fun e w' => e = .returned (.int .i64 (loadR s a n)) ∧ PX wE S w' b rb vb fr (storeS s a n v) (loadT s a n t) s' t' := by
  obtain ⟨hc, hb, hr, hv, y, hy, hs, hM, hR⟩ := h
  refine (c_store b y fr s t w hM a n v ha0 ha1 hvv).mono ?_
  rintro e w' ⟨rfl, y', hM', hK⟩
  exact ⟨rfl, px_left hc hb hr hv hy hs hR hM' hK⟩
theorem p_get {wE : World} {S : Nat → Prop} {w : World} {b rb vb fr : Nat} {s : List UInt8} {t : Int} {s' : List UInt8} {t' : Int} (h : PX wE S w b rb vb fr s t s' t') (a n : Int) (ha0 : 0 ≤ a) (ha1 : a ≤ 18446744073709551615) (hn1 : n ≤ 9223372036854775807) :
    Calls Tryz.prog 13 #[.pointer (some ⟨b, 0, none⟩), .int .u64 a, .int .i64 n] w fun e w' => e = .returned (.tuple #[.string (getV s a n), .int .i64 (getR s a n)]) ∧ PX wE S w' b rb vb fr (s) (t) s' t' := by
  obtain ⟨hc, hb, hr, hv, y, hy, hs, hM, hR⟩ := h
  refine (c_get b y fr s t w hM a n ha0 ha1 hn1).mono ?_
  rintro e w' ⟨rfl, y', hM', hK⟩
  exact ⟨rfl, px_left hc hb hr hv hy hs hR hM' hK⟩
theorem p_put {wE : World} {S : Nat → Prop} {w : World} {b rb vb fr : Nat} {s : List UInt8} {t : Int} {s' : List UInt8} {t' : Int} (h : PX wE S w b rb vb fr s t s' t') (a : Int) (x : ByteArray) (ha0 : 0 ≤ a) (ha1 : a ≤ 18446744073709551615) (hx : x.size ≤ maxLen) :
    Calls Tryz.prog 43 #[.pointer (some ⟨b, 0, none⟩), .int .u64 a, .string x] w fun e w' => e = .returned (.int .i64 (putR s a x)) ∧ PX wE S w' b rb vb fr (putS s a x) (t) s' t' := by
  obtain ⟨hc, hb, hr, hv, y, hy, hs, hM, hR⟩ := h
  refine (c_put b y fr s t w hM a x ha0 ha1 hx).mono ?_
  rintro e w' ⟨rfl, y', hM', hK⟩
  exact ⟨rfl, px_left hc hb hr hv hy hs hR hM' hK⟩
theorem p_clear {wE : World} {S : Nat → Prop} {w : World} {b rb vb fr : Nat} {s : List UInt8} {t : Int} {s' : List UInt8} {t' : Int} (h : PX wE S w b rb vb fr s t s' t') (n : Int) :
    Calls Tryz.prog 84 #[.pointer (some ⟨b, 0, none⟩), .int .i64 n] w fun e w' => e = .returned (.int .i64 (clearR fr n)) ∧ PX wE S w' b rb vb fr (clearS fr s n) (t) s' t' := by
  obtain ⟨hc, hb, hr, hv, y, hy, hs, hM, hR⟩ := h
  refine (c_clear b y fr s t w hM n).mono ?_
  rintro e w' ⟨rfl, y', hM', hK⟩
  exact ⟨rfl, px_left hc hb hr hv hy hs hR hM' hK⟩
theorem p_copy {wE : World} {S : Nat → Prop} {w : World} {b rb vb fr : Nat} {s : List UInt8} {t : Int} {s' : List UInt8} {t' : Int} (h : PX wE S w b rb vb fr s t s' t') (n k : Int) :
    Calls Tryz.prog 61 #[.pointer (some ⟨b, 0, none⟩), .int .i64 n, .int .i64 k] w fun e w' => e = .returned (.int .i64 (copyR fr n k)) ∧ PX wE S w' b rb vb fr (copyS fr s n k) (t) s' t' := by
  obtain ⟨hc, hb, hr, hv, y, hy, hs, hM, hR⟩ := h
  refine (c_copy b y fr s t w hM n k).mono ?_
  rintro e w' ⟨rfl, y', hM', hK⟩
  exact ⟨rfl, px_left hc hb hr hv hy hs hR hM' hK⟩
theorem q_load {wE : World} {S : Nat → Prop} {w : World} {b rb vb fr : Nat} {s : List UInt8} {t : Int} {s' : List UInt8} {t' : Int} (h : PX wE S w b rb vb fr s t s' t') (a n : Int) (ha0 : 0 ≤ a) (ha1 : a ≤ 18446744073709551615) :
    Calls Tryz.prog 70 #[.pointer (some ⟨rb, 0, none⟩), .int .u64 a, .int .i64 n] w fun e w' => e = .returned (.tuple #[.int .u64 (loadV s' a n), .int .i64 (loadR s' a n)]) ∧ PX wE S w' b rb vb fr s t (s') (loadT s' a n t') := by
  obtain ⟨hc, hb, hr, hv, y, hy, hs, hM, hR⟩ := h
  refine (r_load rb vb s' t' w hR a n ha0 ha1).mono ?_
  rintro e w' ⟨rfl, hR', hK⟩
  exact ⟨rfl, px_right hc hb hr hv hy hs hM hR' (hK.mono (fun x hx => .inl hx))⟩
theorem q_store {wE : World} {S : Nat → Prop} {w : World} {b rb vb fr : Nat} {s : List UInt8} {t : Int} {s' : List UInt8} {t' : Int} (h : PX wE S w b rb vb fr s t s' t') (a n v : Int) (ha0 : 0 ≤ a) (ha1 : a ≤ 18446744073709551615) (hvv : W.word v) :
    Calls Tryz.prog 90 #[.pointer (some ⟨rb, 0, none⟩), .int .u64 a, .int .i64 n, .int .u64 v] w fun e w' => e = .returned (.int .i64 (loadR s' a n)) ∧ PX wE S w' b rb vb fr s t (storeS s' a n v) (loadT s' a n t') := by
  obtain ⟨hc, hb, hr, hv, y, hy, hs, hM, hR⟩ := h
  refine (r_store rb vb s' t' w hR a n v ha0 ha1 hvv).mono ?_
  rintro e w' ⟨rfl, hR', hK⟩
  exact ⟨rfl, px_right hc hb hr hv hy hs hM hR' hK⟩
theorem q_put {wE : World} {S : Nat → Prop} {w : World} {b rb vb fr : Nat} {s : List UInt8} {t : Int} {s' : List UInt8} {t' : Int} (h : PX wE S w b rb vb fr s t s' t') (a : Int) (x : ByteArray) (ha0 : 0 ≤ a) (ha1 : a ≤ 18446744073709551615) (hx : x.size ≤ maxLen) :
    Calls Tryz.prog 103 #[.pointer (some ⟨rb, 0, none⟩), .int .u64 a, .string x] w fun e w' => e = .returned (.int .i64 (putR s' a x)) ∧ PX wE S w' b rb vb fr s t (putS s' a x) (t') := by
  obtain ⟨hc, hb, hr, hv, y, hy, hs, hM, hR⟩ := h
  refine (r_put rb vb s' t' w hR a x ha0 ha1 hx).mono ?_
  rintro e w' ⟨rfl, hR', hK⟩
  exact ⟨rfl, px_right hc hb hr hv hy hs hM hR' hK⟩
theorem q_copy {wE : World} {S : Nat → Prop} {w : World} {b rb vb fr : Nat} {s : List UInt8} {t : Int} {s' : List UInt8} {t' : Int} (h : PX wE S w b rb vb fr s t s' t') (n k : Int) (hfr : s'.length = fr * 256) (hfr2 : fr ≤ 256) :
    Calls Tryz.prog 66 #[.pointer (some ⟨rb, 0, none⟩), .int .i64 n, .int .i64 k] w fun e w' => e = .returned (.int .i64 (rcopyR fr n k)) ∧ PX wE S w' b rb vb fr s t (rcopyS fr s' n k) (t') := by
  obtain ⟨hc, hb, hr, hv, y, hy, hs, hM, hR⟩ := h
  refine (r_copy rb vb fr s' t' w hR hfr hfr2 n k).mono ?_
  rintro e w' ⟨rfl, hR', hK⟩
  exact ⟨rfl, px_right hc hb hr hv hy hs hM hR' hK⟩
theorem p_frames {wE : World} {S : Nat → Prop} {w : World} {b rb vb fr : Nat} {s : List UInt8} {t : Int} {s' : List UInt8} {t' : Int} (h : PX wE S w b rb vb fr s t s' t') :
    Calls Tryz.prog 49 #[.pointer (some ⟨b, 0, none⟩)] w fun e w' => e = .returned (.int .i64 fr) ∧ w' = w := by
  obtain ⟨hc, hb, hr, hv, y, hy, hs, hM, hR⟩ := h
  exact c_frames b y fr s t w hM
theorem PX.len {wE : World} {S : Nat → Prop} {w : World} {b rb vb fr : Nat} {s : List UInt8} {t : Int} {s' : List UInt8} {t' : Int} (h : PX wE S w b rb vb fr s t s' t') : s.length = fr * 256 ∧ fr ≤ 256 := by
  obtain ⟨hc, hb, hr, hv, y, hy, hs, hM, hR⟩ := h
  exact ⟨hM.1, hM.2.2.1⟩
/-- A new block beside both, and its own set from there on. -/
theorem px_in {w0 : World} {S : Nat → Prop} {w : World} {b rb vb fr : Nat} {s : List UInt8} {t : Int} {s' : List UInt8} {t' : Int} (h : PX w0 S w b rb vb fr s t s' t') (o : Obj) :
    ∃ S' : Nat → Prop, PX (w.alloc o) S' (w.alloc o) b rb vb fr s t s' t' ∧ (∀ x, S' x → x < w.heap.size) ∧
      ∀ w' s1 t1 s2 t2, PX (w.alloc o) S' w' b rb vb fr s1 t1 s2 t2 → PX w0 S w' b rb vb fr s1 t1 s2 t2 := by
  obtain ⟨hc, hb, hr, hv, y, hy, hs, hM, hR⟩ := h
  have hlt := hM.lt
  have hlr : rb < w.heap.size := blk_lt hR.1
  have hlv : vb < w.heap.size := blk_lt hR.2.2.1
  have hal : Ch (fun _ => False) w (w.alloc o) := (Ch.refl _ _).alloc _
  refine ⟨fun x => x = b ∨ x = rb ∨ x = vb ∨ y = some x, ⟨Ch.refl _ _, .inl rfl, .inr (.inl rfl), .inr (.inr (.inl rfl)), y, fun x hx => .inl (.inr (.inr (.inr hx))), hs, hM.keep hal (fun h => h) (fun _ _ h => h), hR.keep hal (fun h => h) (fun h => h)⟩, fun x hx => ?_, fun w' s1 t1 s2 t2 h2 => ?_⟩
  · rcases hx with rfl | rfl | rfl | hx
    · exact hlt.1
    · exact hlr
    · exact hlv
    · exact hlt.2 x hx
  · obtain ⟨kc, kb, kr, kv, z, hz, ks, kM, kR⟩ := h2
    have hsz := hc.size
    have hsz2 : w.heap.size ≤ (w.alloc o).heap.size := hal.size
    refine ⟨(hc.alloc o).trans2 kc (fun x hx hlt2 => ?_), hb, hr, hv, z, fun x hx => ?_, ks, kM, kR⟩
    · rcases hx with rfl | rfl | rfl | hx
      · exact hb
      · exact hr
      · exact hv
      · rcases hy x hx with e | e
        · exact e
        · omega
    · rcases hz x hx with e | e
      · rcases e with rfl | rfl | rfl | hx
        · exact .inl hb
        · exact .inl hr
        · exact .inl hv
        · exact hy x hx
      · exact .inr (by omega)
theorem px_gr {wE : World} {S : Nat → Prop} {w w' : World} {b rb vb fr : Nat} {s : List UInt8} {t : Int} {s' : List UInt8} {t' : Int} (h : PX wE S w b rb vb fr s t s' t') (g : Gr w w') : PX wE S w' b rb vb fr s t s' t' := by
  obtain ⟨hc, hb, hr, hv, y, hy, hs, hM, hR⟩ := h
  have hg : Ch (fun _ => False) w w' := Ch.of_gr g
  exact ⟨hc.trans (Ch.of_gr g), hb, hr, hv, y, hy, hs, hM.keep hg (fun h => h) (fun _ _ h => h), hR.keep hg (fun h => h) (fun h => h)⟩
end Go.Proofs.YtbcnibnkojnpiaaGreat.P
