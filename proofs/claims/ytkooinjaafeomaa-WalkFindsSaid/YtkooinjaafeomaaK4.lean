/- Stage 4: a memory with words in it, and the document's beside it. No condition. -/
import Derived.Test.YtkooinjaafeomaaK3
import Derived.Test.YtkooinjaafeomaaS
import Derived.Deep.DeepCutAuto
import Derived.Deep.LoopGhost
import Derived.StillTailTactics
set_option linter.unusedVariables false
namespace Go.Proofs.Ytkooinjaafeomaa.P
open Go.RowKit Go.MuLone
structure WActV where
  at_ : Int
  v : Int
def WActV.ok (x : WActV) : Prop := u64 x.at_ ∧ u64 x.v
/-- The acts lie there. -/
def WActs (w : World) (bl off len : Nat) (f : Nat → WActV) : Prop :=
  ∀ i, i < len → (f i).ok ∧ w.cell? ⟨bl, off + i * 2, none⟩ = some (.int .u64 (f i).at_) ∧ w.cell? ⟨bl, off + i * 2 + 1, none⟩ = some (.int .u64 (f i).v)
section
open Go.ChangeShapes Go.WideShapes Go.Deep
variable {H : Type} {enc : TypeId × Value → H} {w : World} {base : Nat} {spare : Nat → Bool} {held : Bool}
set_option maxRecDepth 100000 in
theorem Wopen_acts {v : Value} {d : DataW H} {ps : List MemPlace} (hv : ∃ (o : Option Addr) (l c : Nat), v = .slice o l c) (h : DataW.Trod enc Try.prog w base spare held 28 v d ps) :
    ∃ (o : Option Addr) (len cap bl off : Nat) (f : Nat → WActV), v = .slice o len cap ∧ len ≤ maxLen ∧ (0 < len → o = some ⟨bl, off, none⟩ ∧ bl < w.heap.size) ∧ WActs w bl off len f := by
  rcases open_structs_s Try.underlying28 Try.underlying53 (by kernel_rfl) (by kernel_rfl) (by decide) hv h with ⟨o, cap, rfl⟩ | ⟨bl, off, len, cap, rfl, hl0, hlc, hcap, hbl, hf⟩
  · exact ⟨o, 0, cap, 0, 0, fun _ => ⟨0, 0⟩, rfl, by unfold maxLen; omega, fun h => absurd h (by omega), fun i hi => absurd hi (by omega)⟩
  · have hx : ∀ i, ∃ a : WActV, i < len → a.ok ∧ w.cell? ⟨bl, off + i * 2, none⟩ = some (.int .u64 a.at_) ∧ w.cell? ⟨bl, off + i * 2 + 1, none⟩ = some (.int .u64 a.v) := by
      intro i
      by_cases hi : i < len
      · obtain ⟨u0, y0, n0, c0, t0⟩ := hf i hi 0 _ rfl
        obtain ⟨u1, y1, n1, c1, t1⟩ := hf i hi 1 _ rfl
        obtain ⟨x0, e0, _, k0⟩ := DataW.trod_int Try.underlying22 t0
        obtain ⟨x1, e1, _, k1⟩ := DataW.trod_int Try.underlying22 t1
        rw [List.singleton_inj] at e0 e1
        subst e0; subst e1
        exact ⟨⟨x0, x1⟩, fun _ => ⟨⟨wf_u64 k0, wf_u64 k1⟩, c0, c1⟩⟩
      · exact ⟨⟨0, 0⟩, fun h => absurd h hi⟩
    obtain ⟨f, hf'⟩ := Classical.axiomOfChoice hx
    exact ⟨some ⟨bl, off, none⟩, len, cap, bl, off, f, rfl, by omega, fun _ => ⟨rfl, hbl⟩, fun i hi => hf' i hi⟩
theorem Wopen_acts_c {u : Value} {y : DataW H × List MemPlace} {n : Nat} (h : DataW.trod enc Try.prog w base spare held n 28 [u] = some y) :
    ∃ (o : Option Addr) (len cap bl off : Nat) (f : Nat → WActV), u = .slice o len cap ∧ len ≤ maxLen ∧ (0 < len → o = some ⟨bl, off, none⟩ ∧ bl < w.heap.size) ∧ WActs w bl off len f := by
  obtain ⟨o, len, cap, rfl, ht⟩ := open_slice_c Try.underlying28 h
  exact Wopen_acts ⟨o, len, cap, rfl⟩ ht
end
/-- The bytes after the first words are stored. -/
def stW (f : Nat → WActV) : Nat → List UInt8
  | 0 => List.replicate (8 * 256) 0
  | k + 1 => storeS (stW f k) (f k).at_ 8 (f k).v
theorem PX.base {wE : World} {S : Nat → Prop} {w : World} {b rb vb fr : Nat} {s : List UInt8} {t : Int} {s' : List UInt8} {t' : Int} (h : PX wE S w b rb vb fr s t s' t') :
    ∃ S' : Nat → Prop, PX w S' w b rb vb fr s t s' t' ∧ ∀ x, S' x → S x ∨ wE.heap.size ≤ x := by
  obtain ⟨hc, hb, hr, hv, y, hy, hs, hM, hR⟩ := h
  refine ⟨fun x => x = b ∨ x = rb ∨ x = vb ∨ y = some x, ⟨Ch.refl _ _, .inl rfl, .inr (.inl rfl), .inr (.inr (.inl rfl)), y, fun x hx => .inl (.inr (.inr (.inr hx))), hs, hM, hR⟩, fun x hx => ?_⟩
  rcases hx with rfl | rfl | rfl | hx
  · exact .inl hb
  · exact .inl hr
  · exact .inl hv
  · exact hy x hx
/-- A memory and the document's, of new memory, with the same bytes. -/
def PW (w0 w : World) (b rb vb : Nat) (s : List UInt8) : Prop := Gr w0 w ∧ ∃ (S : Nat → Prop) (t t' : Int), PX w S w b rb vb 8 s t s t' ∧ ∀ x, S x → w0.heap.size ≤ x
theorem PW.step {w0 w w' : World} {S : Nat → Prop} {b rb vb : Nat} {s' : List UInt8} {t t' : Int} (g : Gr w0 w) (hS : ∀ x, S x → w0.heap.size ≤ x) (h : PX w S w' b rb vb 8 s' t s' t') : PW w0 w' b rb vb s' := by
  obtain ⟨S', h2, h3⟩ := h.base
  have hsz := g.size
  exact ⟨gr_ch g h.1 hS, S', t, t', h2, fun x hx => by rcases h3 x hx with e | e; exact hS x e; omega⟩
theorem PW.up {w0 w w' : World} {b rb vb : Nat} {s : List UInt8} (g : Gr w0 w) (h : PW w w' b rb vb s) : PW w0 w' b rb vb s := by
  obtain ⟨g2, S, t, t', h2, h3⟩ := h
  have hsz := g.size
  exact ⟨gtrans g g2, S, t, t', h2, fun x hx => by have := h3 x hx; omega⟩
theorem PW.keep {w0 w w' : World} {b rb vb : Nat} {s : List UInt8} (h : PW w0 w b rb vb s) (g : Gr w w') : PW w0 w' b rb vb s := by
  obtain ⟨g2, S, t, t', h2, h3⟩ := h
  exact PW.step g2 h3 (px_gr h2 g)
theorem pw_start {w w1 w2 : World} {b : Nat} {s : List UInt8} {t t' : Int} (h : MG w w1 b 8 s t) (hR : RMemO w2 (w1.heap.size + 1) w1.heap.size s t') (g : Gr w1 w2) : PW w w2 b (w1.heap.size + 1) w1.heap.size s := by
  obtain ⟨g0, hb, y, hy, hM⟩ := h
  have hlt := hM.lt
  have hsz := g0.size
  refine ⟨gtrans g0 g, fun x => x = b ∨ x = w1.heap.size + 1 ∨ x = w1.heap.size ∨ y = some x, t, t', ⟨Ch.refl _ _, .inl rfl, .inr (.inl rfl), .inr (.inr (.inl rfl)), y, fun x hx => .inl (.inr (.inr (.inr hx))), ⟨by omega, fun e => by have := hlt.2 _ e; omega, fun e => by injection e with e; omega, fun x hx e => by injection e with e; have := hlt.2 x hx; omega⟩,
    hM.keep (S := fun _ => False) (Ch.of_gr g) (fun h => h) (fun _ _ h => h), hR⟩, fun x hx => ?_⟩
  rcases hx with rfl | rfl | rfl | hx
  · exact hb
  · omega
  · exact hsz
  · exact hy x hx
theorem pw_store {w0 w : World} {b rb vb : Nat} {s : List UInt8} (h : PW w0 w b rb vb s) (a v : Int) (ha : u64 a) (hv : u64 v) :
    Calls Try.prog 24 #[.pointer (some ⟨b, 0, none⟩), .int .u64 a, .int .i64 8, .int .u64 v] w fun e w' => (∃ x, e = .returned (.int .i64 x)) ∧ ∃ (S : Nat → Prop) (t t' : Int), Gr w0 w ∧ (∀ x, S x → w0.heap.size ≤ x) ∧ PX w S w' b rb vb 8 (storeS s a 8 v) t s t' := by
  obtain ⟨g, S, t, t', h2, h3⟩ := h
  refine (p_store h2 a 8 v ha.1 ha.2 ⟨hv.1, by have := hv.2; omega⟩).mono ?_
  rintro e w' ⟨rfl, hp⟩
  exact ⟨⟨_, rfl⟩, S, _, t', g, h3, hp⟩
theorem pw_store2 {w0 w1 w : World} {S : Nat → Prop} {t t' : Int} {b rb vb : Nat} {s s1 : List UInt8} (g : Gr w0 w1) (hS : ∀ x, S x → w0.heap.size ≤ x) (a v : Int) (h : PX w1 S w b rb vb 8 (storeS s a 8 v) t s t') (ha : u64 a) (hv : u64 v) (hs : storeS s a 8 v = s1) :
    Calls Try.prog 25 #[.pointer (some ⟨rb, 0, none⟩), .int .u64 a, .int .i64 8, .int .u64 v] w fun e w' => (∃ x, e = .returned (.int .i64 x)) ∧ PW w0 w' b rb vb s1 := by
  subst hs
  refine (q_store h a 8 v ha.1 ha.2 ⟨hv.1, by have := hv.2; omega⟩).mono ?_
  rintro e w' ⟨rfl, hp⟩
  exact ⟨⟨_, rfl⟩, PW.step g hS hp⟩
set_option maxRecDepth 100000 in
set_option maxHeartbeats 1600000 in
theorem c_memory (w : World) (o : Option Addr) (len cap bl off : Nat) (f : Nat → WActV) (hlen : len ≤ 9223372036854775807) (ho : 0 < len → o = some ⟨bl, off, none⟩ ∧ bl < w.heap.size) (hl : WActs w bl off len f) :
    Calls Try.prog 16 #[.slice o len cap] w fun e w' => ∃ b rb vb, e = .returned (.tuple #[.pointer (some ⟨b, 0, none⟩), .pointer (some ⟨rb, 0, none⟩)]) ∧ PW w w' b rb vb (stW f len) := by
  have HA := Lib.hid hl
  have HO := Lib.hid ho
  clear hl ho
  go_enter Try.func16, Try.ntmps16
  go_wp2_with fail
  refine (mg_new w 8 (by decide) (by decide) w (Gr.refl w)).mono ?_; rintro e w1 ⟨b, rfl, h⟩
  have H1 := Lib.hid h
  clear h
  go_wp2_with fail
  refine (r_new 8 (by decide) w1).mono ?_; rintro e w2 ⟨rfl, hR, g⟩
  have H2 := Lib.hid (pw_start H1.out hR g)
  clear hR g
  generalize w1.heap.size + 1 = rb at *
  generalize w1.heap.size = vb at *
  clear H1
  go_wp2_with fail
  go_loopg [7] len (fun g vi wr => ∃ i : Nat, i ≤ len ∧ g = len - i ∧ vi = .int .i64 i ∧ PW w wr b rb vb (stW f i))
  case atStart => exact ⟨0, Nat.zero_le _, rfl, rfl, H2.out⟩
  case round =>
    clear H2
    obtain ⟨i, hi, rfl, rfl, hg⟩ := hrel
    have HG := Lib.hid hg
    clear hg
    by_cases hlt : i < len
    · obtain ⟨rfl, hbl⟩ := HO.out (by omega)
      obtain ⟨⟨hua, huv⟩, a0', a1'⟩ := HA.out i hlt
      have HUA := Lib.hid hua
      have HUV := Lib.hid huv
      have HGR := Lib.hid (show Gr w wr from HG.out.1)
      have c0 := kcell HGR.out a0'
      have c1 := kcell HGR.out a1'
      have A0 := Lib.hid a0'
      have A1 := Lib.hid a1'
      clear a0' a1' hua huv
      go_wp2_with fail
      go_still_tail 11, (by kernel_rfl)
      go_wp2_with fail
      refine (pw_store (HG.out.keep (Below.drew (Below.refl _ _))) (f i).at_ (f i).v HUA.out HUV.out).mono ?_; rintro e w5 ⟨⟨x, rfl⟩, S, t, t', h1, h2, h3⟩
      have H3 := Lib.hid (And.intro h1 (And.intro h2 h3))
      clear c0 c1
      have gg := gr_ch h1 h3.1 h2
      clear h1 h2 h3
      have c0 := kcell gg A0.out
      have c1 := kcell gg A1.out
      clear gg
      go_wp2_with fail
      go_still_tail 11, (by kernel_rfl)
      go_wp2_with fail
      refine (pw_store2 H3.out.1 H3.out.2.1 (f i).at_ (f i).v (px_gr H3.out.2.2 (Below.drew (Below.refl _ _))) HUA.out HUV.out rfl).mono ?_; rintro e w6 ⟨⟨x2, rfl⟩, h⟩
      have H6 := Lib.hid h; clear h
      go_wp2_with fail
      go_roundg (len - (i + 1))
      case measure => omega
      case rel => exact ⟨i + 1, by omega, rfl, by go_num, H6.out⟩
    · have hil : i = len := by omega
      subst hil
      go_wp2_with fail
      go_ret2
      exact ⟨b, rb, vb, rfl, HG.out⟩
end Go.Proofs.Ytkooinjaafeomaa.P
