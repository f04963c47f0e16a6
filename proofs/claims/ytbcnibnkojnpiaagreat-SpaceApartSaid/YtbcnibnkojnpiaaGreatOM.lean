/- Stage 5: memories among the objects side by side. No condition. -/
import Derived.Test.YtbcnibnkojnpiaaGreatK3
import Derived.Test.YtbcnibnkojnpiaaGreatY
set_option linter.unusedVariables false
namespace Go.Proofs.YtbcnibnkojnpiaaGreat.P
open Go.RowKit Go.MuLone
/-- A memory, its blocks one's own. -/
def memA (b fr : Nat) (s : List UInt8) : Asn := fun w F => ∃ y t, MemO w b y fr s t ∧ F b ∧ ∀ x, y = some x → F x
theorem stable_mem (b fr : Nat) (s : List UInt8) : Stable (memA b fr s) := by
  rintro w w' F G ⟨y, t, h, hb, hy⟩ hc hg
  exact ⟨y, t, h.keep hc (hg b hb) (fun x hx => hg x (hy x hx)), hb, hy⟩
theorem mem_out {w w' : World} {b fr : Nat} {y y' : Option Nat} {s' : List UInt8} {t' : Int} {F : Nat → Prop} (hM : MemO w' b y' fr s' t') (hk : KeptM b y w w' y') (hb : F b) (hy : ∀ x, y = some x → F x) : Out (memA b fr s') w w' F := by
  refine ⟨fun x => x = b ∨ y' = some x, ⟨y', t', hM, .inl rfl, fun x hx => .inr hx⟩, fun x hx => ⟨?_, ?_⟩, hk.1.mono (fun x hx => hx.elim (fun e => e ▸ hb) (hy x))⟩
  · rcases hx with rfl | hx
    · exact .inl hb
    · rcases hk.2 with e | ⟨e, g, e2, e3⟩
      · exact .inl (hy x (by rw [← e, hx]))
      · rw [e2] at hx; injection hx with hx; exact .inr (by omega)
  · rcases hx with rfl | hx
    · exact hM.lt.1
    · exact hM.lt.2 x hx
theorem o_mload {w0 w : World} {b fr : Nat} {s : List UInt8} {R : Asn} (h : Own w0 w (Star (memA b fr s) R)) (hR : Stable R) (a n v r : Int) (ha : u64 a) (hv : loadV s a n = v) (hr : loadR s a n = r) :
    Calls Tryz.prog 45 #[.pointer (some ⟨b, 0, none⟩), .int .u64 a, .int .i64 n] w fun e w' => e = .returned (.tuple #[.int .u64 v, .int .i64 r]) ∧ Own w0 w' (Star (memA b fr s) R) := by
  subst hv; subst hr
  refine h.call hR (fun F hF => ?_)
  obtain ⟨y, t, hM, hb, hy⟩ := hF
  refine (c_load b y fr s t w hM a n ha.1 ha.2).mono ?_
  rintro e w' ⟨rfl, y', hM', hk⟩
  exact ⟨rfl, mem_out hM' hk hb hy⟩
theorem o_mstore {w0 w : World} {b fr : Nat} {s : List UInt8} {R : Asn} (h : Own w0 w (Star (memA b fr s) R)) (hR : Stable R) (a n v r : Int) (ha : u64 a) (hv : W.word v) (s' : List UInt8) (hs : storeS s a n v = s') (hr : loadR s a n = r) :
    Calls Tryz.prog 54 #[.pointer (some ⟨b, 0, none⟩), .int .u64 a, .int .i64 n, .int .u64 v] w fun e w' => e = .returned (.int .i64 r) ∧ Own w0 w' (Star (memA b fr s') R) := by
  subst hs; subst hr
  refine h.call hR (fun F hF => ?_)
  obtain ⟨y, t, hM, hb, hy⟩ := hF
  refine (c_store b y fr s t w hM a n v ha.1 ha.2 hv).mono ?_
  rintro e w' ⟨rfl, y', hM', hk⟩
  exact ⟨rfl, mem_out hM' hk hb hy⟩
theorem o_mget {w0 w : World} {b fr : Nat} {s : List UInt8} {R : Asn} (h : Own w0 w (Star (memA b fr s) R)) (hR : Stable R) (a n r : Int) (ha : u64 a) (hn : n ≤ 9223372036854775807) (v : ByteArray) (hv : getV s a n = v) (hr : getR s a n = r) :
    Calls Tryz.prog 13 #[.pointer (some ⟨b, 0, none⟩), .int .u64 a, .int .i64 n] w fun e w' => e = .returned (.tuple #[.string v, .int .i64 r]) ∧ Own w0 w' (Star (memA b fr s) R) := by
  subst hv; subst hr
  refine h.call hR (fun F hF => ?_)
  obtain ⟨y, t, hM, hb, hy⟩ := hF
  refine (c_get b y fr s t w hM a n ha.1 ha.2 hn).mono ?_
  rintro e w' ⟨rfl, y', hM', hk⟩
  exact ⟨rfl, mem_out hM' hk hb hy⟩
theorem o_mput {w0 w : World} {b fr : Nat} {s : List UInt8} {R : Asn} (h : Own w0 w (Star (memA b fr s) R)) (hR : Stable R) (a : Int) (x : ByteArray) (r : Int) (ha : u64 a) (hx : x.size ≤ maxLen) (s' : List UInt8) (hs : putS s a x = s') (hr : putR s a x = r) :
    Calls Tryz.prog 43 #[.pointer (some ⟨b, 0, none⟩), .int .u64 a, .string x] w fun e w' => e = .returned (.int .i64 r) ∧ Own w0 w' (Star (memA b fr s') R) := by
  subst hs; subst hr
  refine h.call hR (fun F hF => ?_)
  obtain ⟨y, t, hM, hb, hy⟩ := hF
  refine (c_put b y fr s t w hM a x ha.1 ha.2 hx).mono ?_
  rintro e w' ⟨rfl, y', hM', hk⟩
  exact ⟨rfl, mem_out hM' hk hb hy⟩
theorem o_mframes {w0 w : World} {b fr : Nat} {s : List UInt8} {R : Asn} (h : Own w0 w (Star (memA b fr s) R)) :
    Calls Tryz.prog 49 #[.pointer (some ⟨b, 0, none⟩)] w fun e w' => e = .returned (.int .i64 fr) ∧ w' = w := by
  obtain ⟨F, y, t, hM, _⟩ := h.left.get
  exact c_frames b y fr s t w hM
theorem o_mlen {w0 w : World} {b fr : Nat} {s : List UInt8} {R : Asn} (h : Own w0 w (Star (memA b fr s) R)) : s.length = fr * 256 ∧ 1 ≤ fr ∧ fr ≤ 256 := by
  obtain ⟨F, y, t, hM, _⟩ := h.left.get
  exact ⟨hM.1, hM.2.1, hM.2.2.1⟩
theorem o_mnew {w0 w : World} {R : Asn} (h : Own w0 w R) (hR : Stable R) (fr : Nat) (h1 : 1 ≤ fr) (h2 : fr ≤ 256) :
    Calls Tryz.prog 18 #[.int .i64 fr] w fun e w' => ∃ b, e = .returned (.tuple #[.pointer (some ⟨b, 0, none⟩), .int .i64 0]) ∧ Own w0 w' (Star (memA b fr (List.replicate (fr * 256) 0)) R) := by
  refine (c_new fr h1 h2 w).mono ?_
  rintro e w' ⟨b, rfl, hM, hb, g⟩
  exact ⟨b, rfl, h.add hR g ⟨fun x => x = b, ⟨none, 0, hM, rfl, fun x hx => by cases hx⟩, fun x hx => by rw [hx]; exact ⟨hb, hM.lt.1⟩⟩⟩
theorem o_mwalk {w0 w : World} {b fr : Nat} {s : List UInt8} {R : Asn} (h : Own w0 w (Star (memA b fr s) R)) (hR : Stable R) (r a acc v x : Int) (ha : u64 a) (hr : i64 r) (hv : walkV fr s r a acc = v) (hx : walkR fr s r a acc = x) :
    Calls Tryz.prog 44 #[.pointer (some ⟨b, 0, none⟩), .int .i64 r, .int .u64 a, .int .i64 acc] w fun e w' => e = .returned (.tuple #[.int .u64 v, .int .i64 x]) ∧ Own w0 w' (Star (memA b fr s) R) := by
  refine h.call hR (fun F hF => ?_)
  obtain ⟨y, t, hM, hb, hy⟩ := hF
  refine (c_walk b y fr s t w hM r a acc v x ha hr hv hx).mono ?_
  rintro e w' ⟨rfl, y', t', hM', hk⟩
  exact ⟨rfl, mem_out hM' hk hb hy⟩
end Go.Proofs.YtbcnibnkojnpiaaGreat.P
