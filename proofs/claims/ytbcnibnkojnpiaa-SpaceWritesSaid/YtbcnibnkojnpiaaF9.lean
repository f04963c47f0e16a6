/- Stage 10: a pool beside the truths of what is had. No condition. -/
import Derived.Test.YtbcnibnkojnpiaaF8
set_option linter.unusedVariables false
namespace Go.Proofs.Ytbcnibnkojnpiaa.P
open Go.RowKit Go.MuLone Go.Maps
/-- Truths in memory: what is not in the list's. -/
def hadB (H : List Bool) : Array Value := (H.map fun b => Value.bool (!b)).toArray
theorem had_get (H : List Bool) (n : Nat) (h : n < H.length) : (hadB H)[n]? = some (.bool (!isL H n)) := by
  unfold hadB isL
  simp [h, List.getD]
theorem had_set (H : List Bool) (n : Nat) (v : Bool) : (hadB H).setIfInBounds n (.bool v) = hadB (H.set n (!v)) := by
  unfold hadB
  apply Array.toList_inj.1
  simp [List.map_set]
theorem boolInfo : (Try.prog.info? 4).map (fun i => (i.zero, i.size, i.bytes)) = some (some (.bool false), 1, 1) := by kernel_rfl
theorem made_bools (n : Nat) : madeCells #[Value.bool false] n = hadB (List.replicate n true) := by
  apply Array.toList_inj.1
  rw [toList_madeCells_one]
  simp only [hadB, List.map_replicate]; rfl
theorem mk_bools (n : Nat) (h : n ≤ 281474976710656) (w : World) : (Instr.makeSlice 106 (.int .i64 (n : Int)) (.int .i64 (n : Int))).run Try.prog w = .ok (.slice (some ⟨w.heap.size, 0, none⟩) n n) (w.alloc (.cells (hadB (List.replicate n true)) 4)) := by
  obtain ⟨i0, hi, hz0, hz1, hz2⟩ := info_parts boolInfo
  have := run_make (P := Try.prog) w 106 4 i0 (.bool false) Try.underlying106 hi hz0 .i64 .i64 n n (by omega) (Int.le_refl _) (by rw [hz2]; omega) (by omega)
  rw [this, hz1]
  simp only [Int.toNat_natCast, Nat.mul_one]
  rw [show (Value.bool false).cells = #[Value.bool false] from rfl, made_bools]
/-- A pool of all frames and, in another block, truths. -/
def AP (w0 w : World) (pb b hb : Nat) (L : List Bool) (s : List UInt8) (H : List Bool) : Prop :=
  Gr w0 w ∧ w0.heap.size ≤ hb ∧ w.heap[hb]? = some (.cells (hadB H) 4) ∧ ∃ S : Nat → Prop, PZ w S w pb b 0 L s ∧ (∀ x, S x → x < w.heap.size ∧ w0.heap.size ≤ x) ∧ ¬ S hb
theorem AP.out {w0 w : World} {pb b hb : Nat} {L : List Bool} {s : List UInt8} {H : List Bool} (h : AP w0 w pb b hb L s H) :
    ∃ S : Nat → Prop, PZ w S w pb b 0 L s ∧ ∀ w' L' s', PZ w S w' pb b 0 L' s' → AP w0 w' pb b hb L' s' H := by
  obtain ⟨g, h1, h2, S, hz, hS, hn⟩ := h
  refine ⟨S, hz, fun w' L' s' k => ?_⟩
  have hc := k.1
  obtain ⟨S', kz, kS⟩ := k.base
  have hlt := blk_lt h2
  have hsz := g.size
  refine ⟨gr_ch g hc (fun x hx => (hS x hx).2), h1, hc.blk h2 hn, S', kz, fun x hx => ⟨(kS x hx).1, ?_⟩, fun hx => ?_⟩
  · rcases (kS x hx).2 with e | e
    · exact (hS x e).2
    · omega
  · rcases (kS hb hx).2 with e | e
    · exact hn e
    · omega
theorem AP.set {w0 w : World} {pb b hb : Nat} {L : List Bool} {s : List UInt8} {H : List Bool} (h : AP w0 w pb b hb L s H) (n : Nat) (v : Bool) : AP w0 (w.setCell ⟨hb, n, none⟩ (.bool v)) pb b hb L s (H.set n (!v)) := by
  obtain ⟨g, h1, h2, S, hz, hS, hn⟩ := h
  have hc : Ch (· = hb) w (w.setCell ⟨hb, n, none⟩ (.bool v)) := Ch.setCell (S := (· = hb)) (Ch.refl _ w) (.inl rfl) _
  obtain ⟨S', kz, kS⟩ := hz.other hc (fun x hx e => hn (by rw [← e]; exact hx)) (fun x hx => (hS x hx).1)
  have hsz := hc.size
  exact ⟨gr_ch g hc (fun x hx => by rw [hx]; exact h1), h1, by rw [blk_set h2 n _, had_set], S', kz, fun x hx => ⟨by have := (hS x (kS x hx)).1; omega, (hS x (kS x hx)).2⟩, fun hx => hn (kS hb hx)⟩
theorem ap_take {w0 w : World} {pb b hb : Nat} {L : List Bool} {s : List UInt8} {H : List Bool} (h : AP w0 w pb b hb L s H) (n e : Int) (L' : List Bool) (s' : List UInt8) (hn : takeN L 0 = n) (he : takeE L 0 = e) (hL : takeL L 0 = L') (hs : takeS L 0 s = s') :
    Calls Try.prog 22 #[.pointer (some ⟨pb, 0, none⟩)] w fun x w' => x = .returned (.tuple #[.int .i64 n, .int .i64 e]) ∧ AP w0 w' pb b hb L' s' H := by
  obtain ⟨S, hz, k⟩ := h.out
  subst hn; subst he; subst hL; subst hs
  exact (pz_take hz).mono fun x w' q => ⟨q.1, k _ _ _ q.2⟩
theorem ap_give {w0 w : World} {pb b hb : Nat} {L : List Bool} {s : List UInt8} {H : List Bool} (h : AP w0 w pb b hb L s H) (i : Int) (hi : i64 i) (e : Int) (L' : List Bool) (s' : List UInt8) (he : giveE L 0 i = e) (hL : giveL L 0 i = L') (hs : giveS L 0 i s = s') :
    Calls Try.prog 40 #[.pointer (some ⟨pb, 0, none⟩), .int .i64 i] w fun x w' => x = .returned (.int .i64 e) ∧ AP w0 w' pb b hb L' s' H := by
  obtain ⟨S, hz, k⟩ := h.out
  subst he; subst hL; subst hs
  exact (pz_give hz i hi).mono fun x w' q => ⟨q.1, k _ _ _ q.2⟩
theorem ap_get {w0 w : World} {pb b hb : Nat} {L : List Bool} {s : List UInt8} {H : List Bool} (h : AP w0 w pb b hb L s H) (a n : Int) (ha0 : 0 ≤ a) (ha1 : a ≤ 18446744073709551615) (hn1 : n ≤ 9223372036854775807) (v : ByteArray) (r : Int) (hv : getV s a n = v) (hr : getR s a n = r) :
    Calls Try.prog 46 #[.pointer (some ⟨b, 0, none⟩), .int .u64 a, .int .i64 n] w fun x w' => x = .returned (.tuple #[.string v, .int .i64 r]) ∧ AP w0 w' pb b hb L s H := by
  obtain ⟨S, hz, k⟩ := h.out
  subst hv; subst hr
  exact (pz_get hz a n ha0 ha1 hn1).mono fun x w' q => ⟨q.1, k _ _ _ q.2⟩
theorem ap_put {w0 w : World} {pb b hb : Nat} {L : List Bool} {s : List UInt8} {H : List Bool} (h : AP w0 w pb b hb L s H) (a : Int) (x : ByteArray) (ha0 : 0 ≤ a) (ha1 : a ≤ 18446744073709551615) (hx : x.size ≤ maxLen) :
    Calls Try.prog 51 #[.pointer (some ⟨b, 0, none⟩), .int .u64 a, .string x] w fun e w' => e = .returned (.int .i64 (putR s a x)) ∧ AP w0 w' pb b hb L (putS s a x) H := by
  obtain ⟨S, hz, k⟩ := h.out
  exact (pz_put hz a x ha0 ha1 hx).mono fun x w' q => ⟨q.1, k _ _ _ q.2⟩
theorem ap_new {w0 w : World} {pb b : Nat} {L : List Bool} {s : List UInt8} (h : PG w0 w pb b 0 L s) (H : List Bool) : AP w0 (w.alloc (.cells (hadB H) 4)) pb b w.heap.size L s H := by
  obtain ⟨S, hz, hS⟩ := pz_of h
  have hal : Ch (fun _ => False) w (w.alloc (.cells (hadB H) 4)) := (Ch.refl _ _).alloc _
  obtain ⟨S', kz, kS⟩ := hz.other hal (fun _ _ e => e) (fun x hx => (hS x hx).1)
  have hsz := hal.size
  refine ⟨gr_ch h.1 hal (fun _ e => e.elim), h.1.size, blk_new w _, S', kz, fun x hx => ⟨by have := (hS x (kS x hx)).1; omega, (hS x (kS x hx)).2⟩, fun hx => ?_⟩
  have := (hS _ (kS _ hx)).1
  omega
end Go.Proofs.Ytbcnibnkojnpiaa.P
