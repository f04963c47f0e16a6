/- Stage 11: a pool with its memory among the objects side by side. No condition. -/
import Derived.Test.YtbcnibnkojnpiaaGreatOM
import Derived.Test.YtbcnibnkojnpiaaGreatF8
set_option linter.unusedVariables false
namespace Go.Proofs.YtbcnibnkojnpiaaGreat.P
open Go.RowKit Go.MuLone Go.Maps
/-- A pool, its memory, their blocks one's own. -/
def plA (pb b first : Nat) (L : List Bool) (s : List UInt8) : Asn := fun w F => ∃ mb y D t, PoolO w pb mb b y L.length first D s t ∧ (∀ k : Nat, hasI D k = isL L k) ∧ F pb ∧ F mb ∧ F b ∧ ∀ x, y = some x → F x
theorem stable_pl (pb b first : Nat) (L : List Bool) (s : List UInt8) : Stable (plA pb b first L s) := by
  rintro w w' F G ⟨mb, y, D, t, h, hd, h1, h2, h3, h4⟩ hc hg
  exact ⟨mb, y, D, t, h.keep hc (hg _ h1) (hg _ h2) (hg _ h3) (fun x hx => hg x (h4 x hx)), hd, h1, h2, h3, h4⟩
theorem pz_in {w : World} {F : Nat → Prop} {pb b first : Nat} {L : List Bool} {s : List UInt8} (h : plA pb b first L s w F) : PZ w F w pb b first L s := by
  obtain ⟨mb, y, D, t, h, hd, h1, h2, h3, h4⟩ := h
  exact ⟨Ch.refl _ _, mb, y, D, t, h1, h2, h3, fun x hx => .inl (h4 x hx), h, hd⟩
theorem pz_out {w w' : World} {F : Nat → Prop} {pb b first : Nat} {L : List Bool} {s : List UInt8} (hb : F pb → pb < w'.heap.size) (h : PZ w F w' pb b first L s) : Out (plA pb b first L s) w w' F := by
  obtain ⟨hc, mb, y, D, t, a1, a2, a3, a4, a5, a6⟩ := h
  have l3 := a5.2.2.2.2.1.lt
  refine ⟨fun x => x = pb ∨ x = mb ∨ x = b ∨ y = some x, ⟨mb, y, D, t, a5, a6, .inl rfl, .inr (.inl rfl), .inr (.inr (.inl rfl)), fun x hx => .inr (.inr (.inr hx))⟩, fun x hx => ?_, hc⟩
  rcases hx with rfl | rfl | rfl | hx
  · exact ⟨.inl a1, blk_lt a5.1⟩
  · exact ⟨.inl a2, own_lt a5.2.1⟩
  · exact ⟨.inl a3, l3.1⟩
  · exact ⟨a4 x hx, l3.2 x hx⟩
variable {w0 w : World} {pb b first : Nat} {L : List Bool} {s : List UInt8} {R : Asn}
theorem o_plen (h : Own w0 w (Star (plA pb b first L s) R)) : s.length = L.length * 256 ∧ 1 ≤ L.length ∧ L.length ≤ 256 ∧ first ≤ L.length := by
  obtain ⟨F, mb, y, D, t, a5, _⟩ := h.left.get
  have := a5.2.2.2.2.1
  exact ⟨this.1, this.2.1, this.2.2.1, a5.2.2.2.1⟩
theorem o_ptaken (h : Own w0 w (Star (plA pb b first L s) R)) (hR : Stable R) (k : Int) (hk : i64 k) (v : Bool) (hv : tknB L first k = v) :
    Calls Tryz.prog 32 #[.pointer (some ⟨pb, 0, none⟩), .int .i64 k] w fun e w' => e = .returned (.bool v) ∧ Own w0 w' (Star (plA pb b first L s) R) := by
  subst hv
  refine h.call hR (fun F hF => (pz_taken (pz_in hF) k hk).mono ?_)
  rintro e w' ⟨rfl, h'⟩
  exact ⟨rfl, pz_out (fun _ => blk_lt h'.2.choose_spec.choose_spec.choose_spec.choose_spec.2.2.2.2.1.1) h'⟩
theorem o_pleft (h : Own w0 w (Star (plA pb b first L s) R)) (n : Int) (hn : (cntL L first (L.length - first) : Int) = n) :
    Calls Tryz.prog 9 #[.pointer (some ⟨pb, 0, none⟩)] w fun e w' => e = .returned (.int .i64 n) ∧ w' = w := by
  subst hn
  obtain ⟨F, hF⟩ := h.left.get
  exact pz_left (pz_in hF)
theorem o_pmem (h : Own w0 w (Star (plA pb b first L s) R)) :
    Calls Tryz.prog 42 #[.pointer (some ⟨pb, 0, none⟩)] w fun e w' => e = .returned (.pointer (some ⟨b, 0, none⟩)) ∧ w' = w := by
  obtain ⟨F, hF⟩ := h.left.get
  exact pz_mem (pz_in hF)
theorem o_ptake (h : Own w0 w (Star (plA pb b first L s) R)) (hR : Stable R) (n e : Int) (L' : List Bool) (s' : List UInt8) (hn : takeN L first = n) (he : takeE L first = e) (hL : takeL L first = L') (hs : takeS L first s = s') :
    Calls Tryz.prog 50 #[.pointer (some ⟨pb, 0, none⟩)] w fun x w' => x = .returned (.tuple #[.int .i64 n, .int .i64 e]) ∧ Own w0 w' (Star (plA pb b first L' s') R) := by
  subst hn; subst he; subst hL; subst hs
  refine h.call hR (fun F hF => (pz_take (pz_in hF)).mono ?_)
  rintro e w' ⟨rfl, h'⟩
  exact ⟨rfl, pz_out (fun _ => blk_lt h'.2.choose_spec.choose_spec.choose_spec.choose_spec.2.2.2.2.1.1) h'⟩
theorem o_pgive (h : Own w0 w (Star (plA pb b first L s) R)) (hR : Stable R) (k : Int) (hk : i64 k) (e : Int) (L' : List Bool) (s' : List UInt8) (he : giveE L first k = e) (hL : giveL L first k = L') (hs : giveS L first k s = s') :
    Calls Tryz.prog 64 #[.pointer (some ⟨pb, 0, none⟩), .int .i64 k] w fun x w' => x = .returned (.int .i64 e) ∧ Own w0 w' (Star (plA pb b first L' s') R) := by
  subst he; subst hL; subst hs
  refine h.call hR (fun F hF => (pz_give (pz_in hF) k hk).mono ?_)
  rintro e w' ⟨rfl, h'⟩
  exact ⟨rfl, pz_out (fun _ => blk_lt h'.2.choose_spec.choose_spec.choose_spec.choose_spec.2.2.2.2.1.1) h'⟩
/-- A call on its memory. -/
theorem o_pon {f : FuncId} {args : Array Value} {v : Value} {s' : List UInt8} (h : Own w0 w (Star (plA pb b first L s) R)) (hR : Stable R)
    (hc : ∀ y t, MemO w b y L.length s t → Calls Tryz.prog f args w fun e w' => e = .returned v ∧ ∃ y' t', MemO w' b y' L.length s' t' ∧ KeptM b y w w' y') :
    Calls Tryz.prog f args w fun e w' => e = .returned v ∧ Own w0 w' (Star (plA pb b first L s') R) := by
  refine h.call hR (fun F hF => ?_)
  obtain ⟨mb, y, D, t, a5, a6, h1, h2, h3, h4⟩ := hF
  refine (hc y t a5.2.2.2.2.1).mono ?_
  rintro e w' ⟨rfl, y', t', hM', hK⟩
  have h' : PZ w F w' pb b first L s' := PZ.step (Ch.refl _ _) h1 h2 h3 (fun x hx => .inl (h4 x hx)) ⟨hK.1.mono (fun x hx => .inr (.inr hx)), hK.2⟩ (a5.memed hK hM') a6
  exact ⟨rfl, pz_out (fun _ => blk_lt h'.2.choose_spec.choose_spec.choose_spec.choose_spec.2.2.2.2.1.1) h'⟩
theorem o_pload (h : Own w0 w (Star (plA pb b first L s) R)) (hR : Stable R) (a n v r : Int) (ha : u64 a) (hv : loadV s a n = v) (hr : loadR s a n = r) :
    Calls Tryz.prog 45 #[.pointer (some ⟨b, 0, none⟩), .int .u64 a, .int .i64 n] w fun e w' => e = .returned (.tuple #[.int .u64 v, .int .i64 r]) ∧ Own w0 w' (Star (plA pb b first L s) R) := by
  subst hv; subst hr
  refine o_pon h hR (fun y t hM => (c_load b y L.length s t w hM a n ha.1 ha.2).mono ?_)
  rintro e w' ⟨rfl, y', hM', hk⟩
  exact ⟨rfl, y', _, hM', hk⟩
theorem o_pstore (h : Own w0 w (Star (plA pb b first L s) R)) (hR : Stable R) (a n v r : Int) (ha : u64 a) (hv : W.word v) (s' : List UInt8) (hs : storeS s a n v = s') (hr : loadR s a n = r) :
    Calls Tryz.prog 54 #[.pointer (some ⟨b, 0, none⟩), .int .u64 a, .int .i64 n, .int .u64 v] w fun e w' => e = .returned (.int .i64 r) ∧ Own w0 w' (Star (plA pb b first L s') R) := by
  subst hs; subst hr
  refine o_pon h hR (fun y t hM => (c_store b y L.length s t w hM a n v ha.1 ha.2 hv).mono ?_)
  rintro e w' ⟨rfl, y', hM', hk⟩
  exact ⟨rfl, y', _, hM', hk⟩
theorem o_pget (h : Own w0 w (Star (plA pb b first L s) R)) (hR : Stable R) (a n r : Int) (ha : u64 a) (hn : n ≤ 9223372036854775807) (v : ByteArray) (hv : getV s a n = v) (hr : getR s a n = r) :
    Calls Tryz.prog 13 #[.pointer (some ⟨b, 0, none⟩), .int .u64 a, .int .i64 n] w fun e w' => e = .returned (.tuple #[.string v, .int .i64 r]) ∧ Own w0 w' (Star (plA pb b first L s) R) := by
  subst hv; subst hr
  refine o_pon h hR (fun y t hM => (c_get b y L.length s t w hM a n ha.1 ha.2 hn).mono ?_)
  rintro e w' ⟨rfl, y', hM', hk⟩
  exact ⟨rfl, y', _, hM', hk⟩
theorem o_pput (h : Own w0 w (Star (plA pb b first L s) R)) (hR : Stable R) (a : Int) (x : ByteArray) (r : Int) (ha : u64 a) (hx : x.size ≤ maxLen) (s' : List UInt8) (hs : putS s a x = s') (hr : putR s a x = r) :
    Calls Tryz.prog 43 #[.pointer (some ⟨b, 0, none⟩), .int .u64 a, .string x] w fun e w' => e = .returned (.int .i64 r) ∧ Own w0 w' (Star (plA pb b first L s') R) := by
  subst hs; subst hr
  refine o_pon h hR (fun y t hM => (c_put b y L.length s t w hM a x ha.1 ha.2 hx).mono ?_)
  rintro e w' ⟨rfl, y', hM', hk⟩
  exact ⟨rfl, y', _, hM', hk⟩
theorem o_pcopy (h : Own w0 w (Star (plA pb b first L s) R)) (hR : Stable R) (n k r : Int) (s' : List UInt8) (hs : copyS L.length s n k = s') (hr : copyR L.length n k = r) :
    Calls Tryz.prog 61 #[.pointer (some ⟨b, 0, none⟩), .int .i64 n, .int .i64 k] w fun e w' => e = .returned (.int .i64 r) ∧ Own w0 w' (Star (plA pb b first L s') R) := by
  subst hs; subst hr
  refine o_pon h hR (fun y t hM => (c_copy b y L.length s t w hM n k).mono ?_)
  rintro e w' ⟨rfl, y', hM', hk⟩
  exact ⟨rfl, y', _, hM', hk⟩
theorem o_pleaf (h : Own w0 w (Star (plA pb b first L s) R)) (hR : Stable R) (r a v x : Int) (ha : u64 a) (hr : i64 r) (hv : leafV L.length s r a = v) (hx : leafR L.length s r a = x) :
    Calls Tryz.prog 51 #[.pointer (some ⟨b, 0, none⟩), .int .i64 r, .int .u64 a] w fun e w' => e = .returned (.tuple #[.int .u64 v, .int .i64 x]) ∧ Own w0 w' (Star (plA pb b first L s) R) := by
  refine o_pon h hR (fun y t hM => (c_leaf b y L.length s t w hM r a v x ha hr hv hx).mono ?_)
  rintro e w' ⟨rfl, y', t', hM', hk⟩
  exact ⟨rfl, y', t', hM', hk⟩
theorem o_pwalk (h : Own w0 w (Star (plA pb b first L s) R)) (hR : Stable R) (r a acc v x : Int) (ha : u64 a) (hr : i64 r) (hv : walkV L.length s r a acc = v) (hx : walkR L.length s r a acc = x) :
    Calls Tryz.prog 44 #[.pointer (some ⟨b, 0, none⟩), .int .i64 r, .int .u64 a, .int .i64 acc] w fun e w' => e = .returned (.tuple #[.int .u64 v, .int .i64 x]) ∧ Own w0 w' (Star (plA pb b first L s) R) := by
  refine o_pon h hR (fun y t hM => (c_walk b y L.length s t w hM r a acc v x ha hr hv hx).mono ?_)
  rintro e w' ⟨rfl, y', t', hM', hk⟩
  exact ⟨rfl, y', t', hM', hk⟩
/-- A pool is made of a memory. -/
theorem o_pnew {fr : Nat} (h : Own w0 w (Star (memA b fr s) R)) (hR : Stable R) (hf : first ≤ fr) :
    Calls Tryz.prog 19 #[.pointer (some ⟨b, 0, none⟩), .int .i64 first] w fun e w' => ∃ pb, e = .returned (.tuple #[.pointer (some ⟨pb, 0, none⟩), .int .i64 0]) ∧ Own w0 w' (Star (plA pb b first (freshL fr first) s) R) := by
  refine (h.step_call (X := Nat) (A' := fun pb => plA pb b first (freshL fr first) s) (Q := fun pb e => e = .returned (.tuple #[.pointer (some ⟨pb, 0, none⟩), .int .i64 0])) hR (fun F hF => ?_))
  obtain ⟨y, t, hM, hb, hy⟩ := hF
  refine (c_pool b y fr first s t w hM hf).mono ?_
  rintro e w' ⟨pb, mb, D, rfl, hp, h1, h2, g2, hd⟩
  have l3 := hp.2.2.2.2.1.lt
  refine ⟨pb, rfl, fun x => x = pb ∨ x = mb ∨ x = b ∨ y = some x, ⟨mb, y, D, t, by rw [fresh_len]; exact hp, fun k => by rw [hd, fresh_is], .inl rfl, .inr (.inl rfl), .inr (.inr (.inl rfl)), fun x hx => .inr (.inr (.inr hx))⟩, fun x hx => ?_, Ch.of_gr g2⟩
  rcases hx with rfl | rfl | rfl | hx
  · exact ⟨.inr h1, blk_lt hp.1⟩
  · exact ⟨.inr h2, own_lt hp.2.1⟩
  · exact ⟨.inl hb, l3.1⟩
  · exact ⟨.inl (hy x hx), l3.2 x hx⟩
end Go.Proofs.YtbcnibnkojnpiaaGreat.P
namespace Go.Proofs.YtbcnibnkojnpiaaGreat.P
open Go.RowKit Go.MuLone
theorem st3 {A B C D : Asn} {w : World} {F : Nat → Prop} (h : Star A (Star B (Star C D)) w F) : Star C (Star A (Star B D)) w F := star_swap2 (star_mono_r (fun F h => star_swap2 h) h)
theorem st4 {A B C D E : Asn} {w : World} {F : Nat → Prop} (h : Star A (Star B (Star C (Star D E))) w F) : Star D (Star A (Star B (Star C E))) w F := star_swap2 (star_mono_r (fun F h => st3 h) h)
theorem st5 {A B C D E G : Asn} {w : World} {F : Nat → Prop} (h : Star A (Star B (Star C (Star D (Star E G)))) w F) : Star E (Star A (Star B (Star C (Star D G)))) w F := star_swap2 (star_mono_r (fun F h => st4 h) h)
theorem st6 {A B C D E G I : Asn} {w : World} {F : Nat → Prop} (h : Star A (Star B (Star C (Star D (Star E (Star G I))))) w F) : Star G (Star A (Star B (Star C (Star D (Star E I))))) w F := star_swap2 (star_mono_r (fun F h => st5 h) h)
theorem bk3 {A B C D : Asn} {w : World} {F : Nat → Prop} (h : Star C (Star A (Star B D)) w F) : Star A (Star B (Star C D)) w F := star_mono_r (fun F h => star_swap2 h) (star_swap2 h)
theorem bk4 {A B C D E : Asn} {w : World} {F : Nat → Prop} (h : Star D (Star A (Star B (Star C E))) w F) : Star A (Star B (Star C (Star D E))) w F := star_mono_r (fun F h => bk3 h) (star_swap2 h)
theorem bk5 {A B C D E G : Asn} {w : World} {F : Nat → Prop} (h : Star E (Star A (Star B (Star C (Star D G)))) w F) : Star A (Star B (Star C (Star D (Star E G)))) w F := star_mono_r (fun F h => bk4 h) (star_swap2 h)
theorem star_drop2 {X A B : Asn} {w : World} {F : Nat → Prop} (h : Star X (Star A B) w F) : Star X B w F := by
  obtain ⟨F1, F2, h1, ⟨G1, G2, k1, k2, kd, t1, t2⟩, hd, s1, s2⟩ := h
  exact ⟨F1, G2, h1, k2, fun x hx hy => hd x hx (t2 x hy), s1, fun x hx => s2 x (t2 x hx)⟩
theorem star_drop {A B : Asn} {w : World} {F : Nat → Prop} (hB : ∀ (F G : Nat → Prop), B w F → (∀ x, F x → G x) → B w G) (h : Star A B w F) : B w F := by
  obtain ⟨F1, F2, h1, h2, hd, s1, s2⟩ := h
  exact hB F2 F h2 s2
theorem Own.set {w0 w : World} {B : Nat} {cs : Array Value} {T : TypeId} {R : Asn} (h : Own w0 w (Star (blkA B (.cells cs T)) R)) (hR : Stable R) (i : Nat) (v : Value) : Own w0 (w.setCell ⟨B, i, none⟩ v) (Star (blkA B (.cells (cs.setIfInBounds i v) T)) R) :=
  h.step hR (fun F hF => ⟨fun x => x = B, ⟨rfl, blk_set hF.2 i v⟩, fun x hx => ⟨.inl (by rw [hx]; exact hF.1), by rw [hx, size_setCell]; exact blk_lt hF.2⟩, Ch.setCell (Ch.refl _ _) (.inl hF.1) v⟩)
theorem gr_dN2 (w : World) (n : Nat) : Gr w (w.drewN n) := Gr.drewN (Gr.refl _) n
theorem size_alloc (w : World) (o : Obj) : (w.alloc o).heap.size = w.heap.size + 1 := by simp
end Go.Proofs.YtbcnibnkojnpiaaGreat.P
namespace Go.Proofs.YtbcnibnkojnpiaaGreat.P
open Go.RowKit Go.MuLone Go.Maps
/-- Which frames are free, and the bytes. -/
structure Sp where
  L : List Bool
  s : List UInt8
/-- Where a table's entry for an address stands. -/
def placeI (t a l : Int) : Int := t * 256 + partI a l * 8
def validB (s : List UInt8) (p : Int) : Bool := decide (p + 8 ≤ s.length) && decide (entS s p % 2 = 1)
def validF (s : List UInt8) (p : Int) : Int := bif validB s p then entS s p / 1024 else 0
def validG (s : List UInt8) (p : Int) : Int := bif validB s p then entS s p % 32 else 0
/-- How many tables on the way to an address aren't there. -/
def missI (s : List UInt8) (root a : Int) : Int := bif validB s (placeI root a 2) then (bif validB s (placeI (validF s (placeI root a 2)) a 1) then 0 else 1) else 2
def takeX (fi : Nat) (z : Sp) : Sp := ⟨takeL z.L fi, takeS z.L fi z.s⟩
def giveX (fi : Nat) (k : Int) (z : Sp) : Sp := ⟨giveL z.L fi k, giveS z.L fi k z.s⟩
def putX (z : Sp) (p v : Int) : Sp := ⟨z.L, storeS z.s p 8 v⟩
/-- The table to which another one leads, made if it isn't there. -/
def belowX (fi : Nat) (z : Sp) (t a l : Int) : Sp := bif validB z.s (placeI t a l) then z else putX (takeX fi z) (placeI t a l) (entryI (takeN z.L fi) 1)
def belowN (fi : Nat) (z : Sp) (t a l : Int) : Int := bif validB z.s (placeI t a l) then validF z.s (placeI t a l) else takeN z.L fi
def leftX (fi : Nat) (z : Sp) : Int := (cntL z.L fi (z.L.length - fi) : Nat)
def mapBad (fi : Nat) (z : Sp) (root page bits : Int) : Bool := !tknB z.L fi root || (decide (page < 0) || (decide (32768 ≤ page) || (decide (bits % 2 = 0) || decide (31 < bits))))
def mapThere (z : Sp) (root page : Int) : Bool := decide (leafR z.L.length z.s root (page * 256) = 0) && decide (entS z.s (leafV z.L.length z.s root (page * 256)) % 2 = 1)
def mapMiss (z : Sp) (root page : Int) : Int := bif decide (leafR z.L.length z.s root (page * 256) = 0) then 0 else missI z.s root (page * 256)
/-- The table that the page's entry stands in, when the tables are made. -/
def mapT (fi : Nat) (z : Sp) (root page : Int) : Int := belowN fi (belowX fi z root (page * 256) 2) (belowN fi z root (page * 256) 2) (page * 256) 1
def mapZ (fi : Nat) (z : Sp) (root page : Int) : Sp := belowX fi (belowX fi z root (page * 256) 2) (belowN fi z root (page * 256) 2) (page * 256) 1
def mapE (fi : Nat) (z : Sp) (root page bits : Int) : Int :=
  bif mapBad fi z root page bits then 1 else
  bif mapThere z root page then 9 else
  bif decide (leftX fi z ≤ mapMiss z root page) then 4 else
  loadR (takeX fi (mapZ fi z root page)).s (placeI (mapT fi z root page) (page * 256) 0) 8
def mapX (fi : Nat) (z : Sp) (root page bits : Int) : Sp :=
  bif mapBad fi z root page bits then z else
  bif mapThere z root page then z else
  bif decide (leftX fi z ≤ mapMiss z root page) then z else
  putX (takeX fi (mapZ fi z root page)) (placeI (mapT fi z root page) (page * 256) 0) (entryI (takeN (mapZ fi z root page).L fi) bits)
section
variable {X : Type} (rd : X → Sp) (fi : Nat)
/-- A round over a table. -/
def rndX (fr fst : Int) (f : Int → Int → Int → X → X) (i : Nat) (x : X) : X :=
  bif validB (rd x).s (fr * 256 + i * 8) && tknB (rd x).L fi (validF (rd x).s (fr * 256 + i * 8)) then f (fst * 32 + i) (validF (rd x).s (fr * 256 + i * 8)) (validG (rd x).s (fr * 256 + i * 8)) x else x
def lpX (fr fst : Int) (f : Int → Int → Int → X → X) : Nat → X → X
  | 0, x => x
  | k + 1, x => rndX rd fi fr fst f k (lpX fr fst f k x)
/-- A table, and what it leads to. -/
def visX (pg : Int → Int → Int → X → X) (tb : Int → X → X) : Nat → Int → Int → X → X
  | 0, fr, fst, x => tb fr (lpX rd fi fr fst pg 32 x)
  | l + 1, fr, fst, x => tb fr (lpX rd fi fr fst (fun n nx _ x => visX pg tb l nx n x) 32 x)
end
def pagesX (fi : Nat) (z : Sp) (root : Int) : Sp × List Int := visX (X := Sp × List Int) (·.1) fi (fun n _ _ x => (x.1, x.2 ++ [n])) (fun _ x => x) 2 root 0 (z, [])
def freeX (fi : Nat) (z : Sp) (root : Int) : Sp := visX (X := Sp) id fi (fun _ f _ x => giveX fi f x) (fun f x => giveX fi f x) 2 root 0 z
def countX (fi : Nat) (z : Sp) (root : Int) : Sp × Int := visX (X := Sp × Int) (·.1) fi (fun _ _ _ x => (x.1, IntKind.i64.wrap (x.2 + 1))) (fun _ x => (x.1, IntKind.i64.wrap (x.2 + 1))) 2 root 0 (z, 0)
def copyPg (fi : Nat) (other : Int) (n f g : Int) (x : Sp) : Sp :=
  let x1 := mapX fi x other n g
  let leaf := leafV x1.L.length x1.s other (n * 256)
  bif validB x1.s leaf then ⟨x1.L, copyS x1.L.length x1.s (validF x1.s leaf) f⟩ else x1
def copyZ (fi : Nat) (z : Sp) (root other : Int) : Sp := visX (X := Sp) id fi (fun n f g x => copyPg fi other n f g x) (fun _ x => x) 2 root 0 z
def copyE (fi : Nat) (z : Sp) (root : Int) : Int := bif tknB z.L fi root then (bif decide (leftX fi z < (countX fi z root).2) then 4 else 0) else 1
def copyN (fi : Nat) (z : Sp) (root : Int) : Int := bif decide (copyE fi z root = 0) then takeN z.L fi else 0
def copyW (fi : Nat) (z : Sp) (root : Int) : Sp := bif decide (copyE fi z root = 0) then copyZ fi (takeX fi z) root (takeN z.L fi) else z
section
variable {X : Type} (rd : X → Sp)
/-- Up to where the piece from `from` on goes. -/
def pieceI (at_ n from_ : Int) : Int := min n (from_ + 256 - (IntKind.u64.wrap (at_ + from_)) % 256)
def chunkX (root at_ n acc : Int) (f : Int → Int → Int → X → X) : Nat → Int → X → X × Int
  | 0, _, x => (x, 0)
  | k + 1, from_, x => bif decide (n ≤ from_) then (x, 0) else
      bif decide (walkR (rd x).L.length (rd x).s root (IntKind.u64.wrap (at_ + from_)) acc = 0) then chunkX root at_ n acc f k (pieceI at_ n from_) (f (walkV (rd x).L.length (rd x).s root (IntKind.u64.wrap (at_ + from_)) acc) from_ (pieceI at_ n from_) x)
      else (x, walkR (rd x).L.length (rd x).s root (IntKind.u64.wrap (at_ + from_)) acc)
end
def movedBad (fi : Nat) (z : Sp) (root n : Int) : Bool := !tknB z.L fi root || (decide (n < 0) || decide (4096 < n))
def inX (z : Sp) (root at_ n : Int) : List UInt8 × Int := chunkX (X := List UInt8) (fun _ => z) root at_ n 1 (fun p a b x => x ++ (getV z.s p (b - a)).data.toList) (n.toNat + 1) 0 []
def inE (fi : Nat) (z : Sp) (root at_ n : Int) : Int := bif movedBad fi z root n then 1 else (inX z root at_ n).2
def inV (fi : Nat) (z : Sp) (root at_ n : Int) : ByteArray := bif decide (inE fi z root at_ n = 0) then ⟨(inX z root at_ n).1.toArray⟩ else ⟨#[]⟩
/-- May all of these bytes be written? -/
def outE (fi : Nat) (z : Sp) (root at_ : Int) (x : ByteArray) : Int := bif movedBad fi z root x.size then 1 else (chunkX (X := Unit) (fun _ => z) root at_ x.size 2 (fun _ _ _ u => u) (x.size + 1) 0 ()).2
end Go.Proofs.YtbcnibnkojnpiaaGreat.P
