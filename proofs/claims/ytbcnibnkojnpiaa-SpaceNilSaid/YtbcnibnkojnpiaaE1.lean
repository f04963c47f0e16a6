/- Stage 11: a pool with its memory among the objects side by side. No condition. -/
import Derived.Test.YtbcnibnkojnpiaaOM
import Derived.Test.YtbcnibnkojnpiaaF8
set_option linter.unusedVariables false
namespace Go.Proofs.Ytbcnibnkojnpiaa.P
open Go.RowKit Go.MuLone Go.Maps
/-- A pool, its memory, their blocks one's own. -/
def plA (pb b first : Nat) (L : List Bool) (s : List UInt8) : Asn := fun w F => ∃ mb y D t, PoolO w pb mb b y L.length first D s t ∧ (∀ k : Nat, hasI D k = isL L k) ∧ F pb ∧ F mb ∧ F b ∧ ∀ x, y = some x → F x
theorem stable_pl (pb b first : Nat) (L : List Bool) (s : List UInt8) : Stable (plA pb b first L s) := by
  rintro w w' F G ⟨mb, y, D, t, h, hd, h1, h2, h3, h4⟩ hc hg
  exact ⟨mb, y, D, t, h.keep hc (hg _ h1) (hg _ h2) (hg _ h3) (fun x hx => hg x (h4 x hx)), hd, h1, h2, h3, h4⟩
theorem pz_in {w : World} {F : Nat → Prop} {pb b first : Nat} {L : List Bool} {s : List UInt8} (h : plA pb b first L s w F) : PZ w F w pb b first L s := by
  obtain ⟨mb, y, D, t, h, hd, h1, h2, h3, h4⟩ := h
  exact ⟨Ch.refl _ _, mb, y, D, t, h1, h2, h3, fun x hx => .inl (h4 x hx), h, hd⟩
theorem pz_out {w w' : World} {F : Nat → Prop} {pb b first : Nat} {L : List Bool} {s : List UInt8} (hb : F pb → pb < w'.heap.size) (h : PZ w F w' pb b first L s) : Out (plA pb b first L s) w w' F := by
  obtain ⟨hc, mb, y, D, t, a1, a2, a3, a4, a5, a6⟩ := h
  have l3 := a5.2.2.2.2.1.lt
  refine ⟨fun x => x = pb ∨ x = mb ∨ x = b ∨ y = some x, ⟨mb, y, D, t, a5, a6, .inl rfl, .inr (.inl rfl), .inr (.inr (.inl rfl)), fun x hx => .inr (.inr (.inr hx))⟩, fun x hx => ?_, hc⟩
  rcases hx with rfl | rfl | rfl | hx
  · exact ⟨.inl a1, blk_lt a5.1⟩
  · exact ⟨.inl a2, own_lt a5.2.1⟩
  · exact ⟨.inl a3, l3.1⟩
  · exact ⟨a4 x hx, l3.2 x hx⟩
variable {w0 w : World} {pb b first : Nat} {L : List Bool} {s : List UInt8} {R : Asn}
theorem o_plen (h : Own w0 w (Star (plA pb b first L s) R)) : s.length = L.length * 256 ∧ 1 ≤ L.length ∧ L.length ≤ 256 ∧ first ≤ L.length := by
  obtain ⟨F, mb, y, D, t, a5, _⟩ := h.left.get
  have := a5.2.2.2.2.1
  exact ⟨this.1, this.2.1, this.2.2.1, a5.2.2.2.1⟩
theorem o_ptaken (h : Own w0 w (Star (plA pb b first L s) R)) (hR : Stable R) (k : Int) (hk : i64 k) (v : Bool) (hv : tknB L first k = v) :
    Calls Try.prog 23 #[.pointer (some ⟨pb, 0, none⟩), .int .i64 k] w fun e w' => e = .returned (.bool v) ∧ Own w0 w' (Star (plA pb b first L s) R) := by
  subst hv
  refine h.call hR (fun F hF => (pz_taken (pz_in hF) k hk).mono ?_)
  rintro e w' ⟨rfl, h'⟩
  exact ⟨rfl, pz_out (fun _ => blk_lt h'.2.choose_spec.choose_spec.choose_spec.choose_spec.2.2.2.2.1.1) h'⟩
theorem o_pleft (h : Own w0 w (Star (plA pb b first L s) R)) (n : Int) (hn : (cntL L first (L.length - first) : Int) = n) :
    Calls Try.prog 8 #[.pointer (some ⟨pb, 0, none⟩)] w fun e w' => e = .returned (.int .i64 n) ∧ w' = w := by
  subst hn
  obtain ⟨F, hF⟩ := h.left.get
  exact pz_left (pz_in hF)
theorem o_pmem (h : Own w0 w (Star (plA pb b first L s) R)) :
    Calls Try.prog 25 #[.pointer (some ⟨pb, 0, none⟩)] w fun e w' => e = .returned (.pointer (some ⟨b, 0, none⟩)) ∧ w' = w := by
  obtain ⟨F, hF⟩ := h.left.get
  exact pz_mem (pz_in hF)
theorem o_ptake (h : Own w0 w (Star (plA pb b first L s) R)) (hR : Stable R) (n e : Int) (L' : List Bool) (s' : List UInt8) (hn : takeN L first = n) (he : takeE L first = e) (hL : takeL L first = L') (hs : takeS L first s = s') :
    Calls Try.prog 22 #[.pointer (some ⟨pb, 0, none⟩)] w fun x w' => x = .returned (.tuple #[.int .i64 n, .int .i64 e]) ∧ Own w0 w' (Star (plA pb b first L' s') R) := by
  subst hn; subst he; subst hL; subst hs
  refine h.call hR (fun F hF => (pz_take (pz_in hF)).mono ?_)
  rintro e w' ⟨rfl, h'⟩
  exact ⟨rfl, pz_out (fun _ => blk_lt h'.2.choose_spec.choose_spec.choose_spec.choose_spec.2.2.2.2.1.1) h'⟩
theorem o_pgive (h : Own w0 w (Star (plA pb b first L s) R)) (hR : Stable R) (k : Int) (hk : i64 k) (e : Int) (L' : List Bool) (s' : List UInt8) (he : giveE L first k = e) (hL : giveL L first k = L') (hs : giveS L first k s = s') :
    Calls Try.prog 40 #[.pointer (some ⟨pb, 0, none⟩), .int .i64 k] w fun x w' => x = .returned (.int .i64 e) ∧ Own w0 w' (Star (plA pb b first L' s') R) := by
  subst he; subst hL; subst hs
  refine h.call hR (fun F hF => (pz_give (pz_in hF) k hk).mono ?_)
  rintro e w' ⟨rfl, h'⟩
  exact ⟨rfl, pz_out (fun _ => blk_lt h'.2.choose_spec.choose_spec.choose_spec.choose_spec.2.2.2.2.1.1) h'⟩
/-- A call on its memory. -/
theorem o_pon {f : FuncId} {args : Array Value} {v : Value} {s' : List UInt8} (h : Own w0 w (Star (plA pb b first L s) R)) (hR : Stable R)
    (hc : ∀ y t, MemO w b y L.length s t → Calls Try.prog f args w fun e w' => e = .returned v ∧ ∃ y' t', MemO w' b y' L.length s' t' ∧ KeptM b y w w' y') :
    Calls Try.prog f args w fun e w' => e = .returned v ∧ Own w0 w' (Star (plA pb b first L s') R) := by
  refine h.call hR (fun F hF => ?_)
  obtain ⟨mb, y, D, t, a5, a6, h1, h2, h3, h4⟩ := hF
  refine (hc y t a5.2.2.2.2.1).mono ?_
  rintro e w' ⟨rfl, y', t', hM', hK⟩
  have h' : PZ w F w' pb b first L s' := PZ.step (Ch.refl _ _) h1 h2 h3 (fun x hx => .inl (h4 x hx)) ⟨hK.1.mono (fun x hx => .inr (.inr hx)), hK.2⟩ (a5.memed hK hM') a6
  exact ⟨rfl, pz_out (fun _ => blk_lt h'.2.choose_spec.choose_spec.choose_spec.choose_spec.2.2.2.2.1.1) h'⟩
theorem o_pload (h : Own w0 w (Star (plA pb b first L s) R)) (hR : Stable R) (a n v r : Int) (ha : u64 a) (hv : loadV s a n = v) (hr : loadR s a n = r) :
    Calls Try.prog 26 #[.pointer (some ⟨b, 0, none⟩), .int .u64 a, .int .i64 n] w fun e w' => e = .returned (.tuple #[.int .u64 v, .int .i64 r]) ∧ Own w0 w' (Star (plA pb b first L s) R) := by
  subst hv; subst hr
  refine o_pon h hR (fun y t hM => (c_load b y L.length s t w hM a n ha.1 ha.2).mono ?_)
  rintro e w' ⟨rfl, y', hM', hk⟩
  exact ⟨rfl, y', _, hM', hk⟩
theorem o_pstore (h : Own w0 w (Star (plA pb b first L s) R)) (hR : Stable R) (a n v r : Int) (ha : u64 a) (hv : W.word v) (s' : List UInt8) (hs : storeS s a n v = s') (hr : loadR s a n = r) :
    Calls Try.prog 29 #[.pointer (some ⟨b, 0, none⟩), .int .u64 a, .int .i64 n, .int .u64 v] w fun e w' => e = .returned (.int .i64 r) ∧ Own w0 w' (Star (plA pb b first L s') R) := by
  subst hs; subst hr
  refine o_pon h hR (fun y t hM => (c_store b y L.length s t w hM a n v ha.1 ha.2 hv).mono ?_)
  rintro e w' ⟨rfl, y', hM', hk⟩
  exact ⟨rfl, y', _, hM', hk⟩
theorem o_pget (h : Own w0 w (Star (plA pb b first L s) R)) (hR : Stable R) (a n r : Int) (ha : u64 a) (hn : n ≤ 9223372036854775807) (v : ByteArray) (hv : getV s a n = v) (hr : getR s a n = r) :
    Calls Try.prog 46 #[.pointer (some ⟨b, 0, none⟩), .int .u64 a, .int .i64 n] w fun e w' => e = .returned (.tuple #[.string v, .int .i64 r]) ∧ Own w0 w' (Star (plA pb b first L s) R) := by
  subst hv; subst hr
  refine o_pon h hR (fun y t hM => (c_get b y L.length s t w hM a n ha.1 ha.2 hn).mono ?_)
  rintro e w' ⟨rfl, y', hM', hk⟩
  exact ⟨rfl, y', _, hM', hk⟩
theorem o_pput (h : Own w0 w (Star (plA pb b first L s) R)) (hR : Stable R) (a : Int) (x : ByteArray) (r : Int) (ha : u64 a) (hx : x.size ≤ maxLen) (s' : List UInt8) (hs : putS s a x = s') (hr : putR s a x = r) :
    Calls Try.prog 51 #[.pointer (some ⟨b, 0, none⟩), .int .u64 a, .string x] w fun e w' => e = .returned (.int .i64 r) ∧ Own w0 w' (Star (plA pb b first L s') R) := by
  subst hs; subst hr
  refine o_pon h hR (fun y t hM => (c_put b y L.length s t w hM a x ha.1 ha.2 hx).mono ?_)
  rintro e w' ⟨rfl, y', hM', hk⟩
  exact ⟨rfl, y', _, hM', hk⟩
theorem o_pcopy (h : Own w0 w (Star (plA pb b first L s) R)) (hR : Stable R) (n k r : Int) (s' : List UInt8) (hs : copyS L.length s n k = s') (hr : copyR L.length n k = r) :
    Calls Try.prog 37 #[.pointer (some ⟨b, 0, none⟩), .int .i64 n, .int .i64 k] w fun e w' => e = .returned (.int .i64 r) ∧ Own w0 w' (Star (plA pb b first L s') R) := by
  subst hs; subst hr
  refine o_pon h hR (fun y t hM => (c_copy b y L.length s t w hM n k).mono ?_)
  rintro e w' ⟨rfl, y', hM', hk⟩
  exact ⟨rfl, y', _, hM', hk⟩
theorem o_pleaf (h : Own w0 w (Star (plA pb b first L s) R)) (hR : Stable R) (r a v x : Int) (ha : u64 a) (hr : i64 r) (hv : leafV L.length s r a = v) (hx : leafR L.length s r a = x) :
    Calls Try.prog 24 #[.pointer (some ⟨b, 0, none⟩), .int .i64 r, .int .u64 a] w fun e w' => e = .returned (.tuple #[.int .u64 v, .int .i64 x]) ∧ Own w0 w' (Star (plA pb b first L s) R) := by
  refine o_pon h hR (fun y t hM => (c_leaf b y L.length s t w hM r a v x ha hr hv hx).mono ?_)
  rintro e w' ⟨rfl, y', t', hM', hk⟩
  exact ⟨rfl, y', t', hM', hk⟩
theorem o_pwalk (h : Own w0 w (Star (plA pb b first L s) R)) (hR : Stable R) (r a acc v x : Int) (ha : u64 a) (hr : i64 r) (hv : walkV L.length s r a acc = v) (hx : walkR L.length s r a acc = x) :
    Calls Try.prog 52 #[.pointer (some ⟨b, 0, none⟩), .int .i64 r, .int .u64 a, .int .i64 acc] w fun e w' => e = .returned (.tuple #[.int .u64 v, .int .i64 x]) ∧ Own w0 w' (Star (plA pb b first L s) R) := by
  refine o_pon h hR (fun y t hM => (c_walk b y L.length s t w hM r a acc v x ha hr hv hx).mono ?_)
  rintro e w' ⟨rfl, y', t', hM', hk⟩
  exact ⟨rfl, y', t', hM', hk⟩
/-- A pool is made of a memory. -/
theorem o_pnew {fr : Nat} (h : Own w0 w (Star (memA b fr s) R)) (hR : Stable R) (hf : first ≤ fr) :
    Calls Try.prog 18 #[.pointer (some ⟨b, 0, none⟩), .int .i64 first] w fun e w' => ∃ pb, e = .returned (.tuple #[.pointer (some ⟨pb, 0, none⟩), .int .i64 0]) ∧ Own w0 w' (Star (plA pb b first (freshL fr first) s) R) := by
  refine (h.step_call (X := Nat) (A' := fun pb => plA pb b first (freshL fr first) s) (Q := fun pb e => e = .returned (.tuple #[.pointer (some ⟨pb, 0, none⟩), .int .i64 0])) hR (fun F hF => ?_))
  obtain ⟨y, t, hM, hb, hy⟩ := hF
  refine (c_pool b y fr first s t w hM hf).mono ?_
  rintro e w' ⟨pb, mb, D, rfl, hp, h1, h2, g2, hd⟩
  have l3 := hp.2.2.2.2.1.lt
  refine ⟨pb, rfl, fun x => x = pb ∨ x = mb ∨ x = b ∨ y = some x, ⟨mb, y, D, t, by rw [fresh_len]; exact hp, fun k => by rw [hd, fresh_is], .inl rfl, .inr (.inl rfl), .inr (.inr (.inl rfl)), fun x hx => .inr (.inr (.inr hx))⟩, fun x hx => ?_, Ch.of_gr g2⟩
  rcases hx with rfl | rfl | rfl | hx
  · exact ⟨.inr h1, blk_lt hp.1⟩
  · exact ⟨.inr h2, own_lt hp.2.1⟩
  · exact ⟨.inl hb, l3.1⟩
  · exact ⟨.inl (hy x hx), l3.2 x hx⟩
end Go.Proofs.Ytbcnibnkojnpiaa.P
