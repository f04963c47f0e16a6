/- Objects in memory side by side: what one call turns leaves the others. No condition. -/
import Derived.Test.YtlpcccpagmipnaaGreatM
set_option linter.unusedVariables false
namespace Go.Proofs.YtlpcccpagmipnaaGreat.P
open Go.RowKit
/-- What is said of a world and of the blocks that it is said of. -/
abbrev Asn := World → (Nat → Prop) → Prop
/-- It hangs on its own blocks alone. -/
def Stable (A : Asn) : Prop := ∀ (w w' : World) (F G : Nat → Prop), A w F → Ch G w w' → (∀ x, F x → ¬ G x) → A w' F
/-- What became of it. -/
def Out (A : Asn) (w w' : World) (F : Nat → Prop) : Prop := ∃ F' : Nat → Prop, A w' F' ∧ (∀ x, F' x → (F x ∨ w.heap.size ≤ x) ∧ x < w'.heap.size) ∧ Ch F w w'
def Star (A B : Asn) : Asn := fun w F => ∃ F1 F2 : Nat → Prop, A w F1 ∧ B w F2 ∧ (∀ x, F1 x → ¬ F2 x) ∧ (∀ x, F1 x → F x) ∧ (∀ x, F2 x → F x)
def emp : Asn := fun _ _ => True
/-- It lies in memory that is new since w0; nothing else has turned. -/
def Own (w0 w : World) (A : Asn) : Prop := ∃ F : Nat → Prop, A w F ∧ (∀ x, F x → w0.heap.size ≤ x ∧ x < w.heap.size) ∧ Gr w0 w
theorem stable_star {A B : Asn} (ha : Stable A) (hb : Stable B) : Stable (Star A B) := by
  rintro w w' F G ⟨F1, F2, h1, h2, hd, s1, s2⟩ hc hg
  exact ⟨F1, F2, ha w w' F1 G h1 hc (fun x hx => hg x (s1 x hx)), hb w w' F2 G h2 hc (fun x hx => hg x (s2 x hx)), hd, s1, s2⟩
theorem stable_emp : Stable emp := fun _ _ _ _ _ _ _ => trivial
theorem Own.sub {w0 w : World} {A : Asn} (h : Own w0 w A) : Gr w0 w := h.choose_spec.2.2
theorem Own.gr {w0 w w' : World} {A : Asn} (h : Own w0 w A) (hs : Stable A) (g : Gr w w') : Own w0 w' A := by
  obtain ⟨F, h1, h2, h3⟩ := h
  exact ⟨F, hs w w' F (fun _ => False) h1 (Ch.of_gr g) (fun _ _ h => h), fun x hx => ⟨(h2 x hx).1, Nat.lt_of_lt_of_le (h2 x hx).2 g.size⟩, gtrans h3 g⟩
theorem Own.drew {w0 w : World} {A : Asn} (h : Own w0 w A) (hs : Stable A) : Own w0 w.drew A := h.gr hs (Gr.drewN (Gr.refl _) 1)
theorem Own.start {w0 w : World} (g : Gr w0 w) : Own w0 w emp := ⟨fun _ => False, trivial, fun _ h => h.elim, g⟩
/-- One more object, in memory that is new. -/
theorem Own.add {w0 w w' : World} {A R : Asn} (h : Own w0 w R) (hs : Stable R) (g : Gr w w') (ha : ∃ F : Nat → Prop, A w' F ∧ ∀ x, F x → w.heap.size ≤ x ∧ x < w'.heap.size) : Own w0 w' (Star A R) := by
  obtain ⟨F, h1, h2, h3⟩ := h
  obtain ⟨F1, k1, k2⟩ := ha
  refine ⟨fun x => F1 x ∨ F x, ⟨F1, F, k1, hs w w' F (fun _ => False) h1 (Ch.of_gr g) (fun _ _ h => h), fun x hx hf => ?_, fun x hx => .inl hx, fun x hx => .inr hx⟩, fun x hx => ?_, gtrans h3 g⟩
  · have := (k2 x hx).1; have := (h2 x hf).2; omega
  · have := h3.size; have := g.size
    rcases hx with hx | hx
    · have := k2 x hx; omega
    · have := h2 x hx; omega
theorem Own.swap {w0 w : World} {A B : Asn} (h : Own w0 w (Star A B)) : Own w0 w (Star B A) := by
  obtain ⟨F, ⟨F1, F2, h1, h2, hd, s1, s2⟩, hb, g⟩ := h
  exact ⟨F, ⟨F2, F1, h2, h1, fun x hx hy => hd x hy hx, s2, s1⟩, hb, g⟩
/-- A, B, C: B, A, C. -/
theorem Own.swap2 {w0 w : World} {A B C : Asn} (h : Own w0 w (Star A (Star B C))) : Own w0 w (Star B (Star A C)) := by
  obtain ⟨F, ⟨F1, F2, h1, ⟨G1, G2, k1, k2, kd, t1, t2⟩, hd, s1, s2⟩, hb, g⟩ := h
  exact ⟨F, ⟨G1, fun x => F1 x ∨ G2 x, k1, ⟨F1, G2, h1, k2, fun x hx hy => hd x hx (t2 x hy), fun x hx => .inl hx, fun x hx => .inr hx⟩, fun x hx hy => hy.elim (fun e => hd x e (t1 x hx)) (kd x hx), fun x hx => s2 x (t1 x hx), fun x hx => hx.elim (s1 x) (fun e => s2 x (t2 x e))⟩, hb, g⟩
theorem Own.left {w0 w : World} {A B : Asn} (h : Own w0 w (Star A B)) : Own w0 w A := by
  obtain ⟨F, ⟨F1, F2, h1, h2, hd, s1, s2⟩, hb, g⟩ := h
  exact ⟨F1, h1, fun x hx => hb x (s1 x hx), g⟩
theorem Own.right {w0 w : World} {A B : Asn} (h : Own w0 w (Star A B)) : Own w0 w B := h.swap.left
theorem Own.get {w0 w : World} {A : Asn} (h : Own w0 w A) : ∃ F : Nat → Prop, A w F := by
  obtain ⟨F, h1, _⟩ := h; exact ⟨F, h1⟩
theorem Own.cell {w0 w : World} {A : Asn} (h : Own w0 w A) {p : Addr} {v : Value} (hc : w0.cell? p = some v) : w.cell? p = some v := kcell h.sub hc
theorem Own.mono {w0 w : World} {A B : Asn} (h : Own w0 w A) (hs : ∀ F, A w F → B w F) : Own w0 w B := by
  obtain ⟨F, h1, h2, g⟩ := h; exact ⟨F, hs F h1, h2, g⟩
/-- A step on the first of them. -/
theorem Own.step {w0 w w' : World} {A A' R : Asn} (h : Own w0 w (Star A R)) (hs : Stable R) (ho : ∀ F : Nat → Prop, A w F → Out A' w w' F) : Own w0 w' (Star A' R) := by
  obtain ⟨F, ⟨F1, F2, h1, h2, hd, s1, s2⟩, hb, g⟩ := h
  obtain ⟨F', k1, k2, k3⟩ := ho F1 h1
  have hsz := k3.size
  refine ⟨fun x => F' x ∨ F2 x, ⟨F', F2, k1, hs w w' F2 F1 h2 k3 (fun x hx hy => hd x hy hx), fun x hx hy => ?_, fun x hx => .inl hx, fun x hx => .inr hx⟩, fun x hx => ?_, gr_ch g k3 (fun x hx => (hb x (s1 x hx)).1)⟩
  · rcases (k2 x hx).1 with e | e
    · exact hd x e hy
    · have := (hb x (s2 x hy)).2; omega
  · have := g.size
    rcases hx with hx | hx
    · refine ⟨?_, (k2 x hx).2⟩
      rcases (k2 x hx).1 with e | e
      · exact (hb x (s1 x e)).1
      · omega
    · have := hb x (s2 x hx); omega
/-- A step on the only one. -/
theorem Own.step1 {w0 w w' : World} {A A' : Asn} (h : Own w0 w A) (ho : ∀ F : Nat → Prop, A w F → Out A' w w' F) : Own w0 w' A' := by
  obtain ⟨F, h1, hb, g⟩ := h
  obtain ⟨F', k1, k2, k3⟩ := ho F h1
  refine ⟨F', k1, fun x hx => ⟨?_, (k2 x hx).2⟩, gr_ch g k3 (fun x hx => (hb x hx).1)⟩
  have := g.size
  rcases (k2 x hx).1 with e | e
  · exact (hb x e).1
  · omega
theorem Out.ofGr {A : Asn} {w w' : World} {F : Nat → Prop} (hs : Stable A) (h : A w F) (hb : ∀ x, F x → x < w.heap.size) (g : Gr w w') : Out A w w' F :=
  ⟨F, hs w w' F (fun _ => False) h (Ch.of_gr g) (fun _ _ h => h), fun x hx => ⟨.inl hx, Nat.lt_of_lt_of_le (hb x hx) g.size⟩, Ch.of_gr g⟩
/-- A block that is known whole. -/
def blkA (B : Nat) (o : Obj) : Asn := fun w F => F B ∧ w.heap[B]? = some o
theorem stable_blk (B : Nat) (o : Obj) : Stable (blkA B o) := fun w w' F G h hc hd => ⟨h.1, hc.blk h.2 (hd B h.1)⟩
theorem Own.alloc {w0 w : World} {R : Asn} (h : Own w0 w R) (hs : Stable R) (o : Obj) : Own w0 (w.alloc o) (Star (blkA w.heap.size o) R) :=
  h.add hs (Below.alloc (Below.refl _ _) (Nat.le_refl _) _) ⟨fun x => x = w.heap.size, ⟨rfl, blk_new w o⟩, fun x hx => by simp [hx]⟩
theorem Own.blk {w0 w : World} {B : Nat} {o : Obj} {R : Asn} (h : Own w0 w (Star (blkA B o) R)) : w.heap[B]? = some o := h.left.get.choose_spec.2
/-- A row of one's own. -/
def rowA (e : TypeId) (size : Nat) (v : Value) (n : Nat) (xs : List Value) : Asn := fun w F => w.ownsRow 0 e size v n xs ∧ ∀ b, v.ownBlock = some b → F b
theorem stable_row (e : TypeId) (size : Nat) (v : Value) (n : Nat) (xs : List Value) : Stable (rowA e size v n xs) := by
  rintro w w' F G ⟨⟨h1, h2⟩, h3⟩ hc hd
  refine ⟨⟨h1, ?_⟩, h3⟩
  rcases h2 with h2 | ⟨g, cap, cur, rfl, hb, hg, h4⟩
  · exact .inl h2
  · exact .inr ⟨g, cap, cur, rfl, hb, hc.blk hg (hd g (h3 g rfl)), h4⟩
theorem Own.row {w0 w : World} {e : TypeId} {size : Nat} {v : Value} {n : Nat} {xs : List Value} {R : Asn} (h : Own w0 w (Star (rowA e size v n xs) R)) : w.ownsRow 0 e size v n xs := h.left.get.choose_spec.1
theorem Own.conv {w0 w : World} {A A' R : Asn} (h : Own w0 w (Star A R)) (hs : ∀ F, A w F → A' w F) : Own w0 w (Star A' R) := by
  obtain ⟨F, ⟨F1, F2, h1, h2, hd, s1, s2⟩, hb, g⟩ := h
  exact ⟨F, ⟨F1, F2, hs F1 h1, h2, hd, s1, s2⟩, hb, g⟩
theorem star_swap2 {A B C : Asn} {w : World} {F : Nat → Prop} (h : Star A (Star B C) w F) : Star B (Star A C) w F := by
  obtain ⟨F1, F2, h1, ⟨G1, G2, k1, k2, kd, t1, t2⟩, hd, s1, s2⟩ := h
  exact ⟨G1, fun x => F1 x ∨ G2 x, k1, ⟨F1, G2, h1, k2, fun x hx hy => hd x hx (t2 x hy), fun x hx => .inl hx, fun x hx => .inr hx⟩, fun x hx hy => hy.elim (fun e => hd x e (t1 x hx)) (kd x hx), fun x hx => s2 x (t1 x hx), fun x hx => hx.elim (s1 x) (fun e => s2 x (t2 x e))⟩
theorem star_mono_r {A B B' : Asn} {w : World} {F : Nat → Prop} (hs : ∀ F, B w F → B' w F) (h : Star A B w F) : Star A B' w F := by
  obtain ⟨F1, F2, h1, h2, hd, s1, s2⟩ := h
  exact ⟨F1, F2, h1, hs F2 h2, hd, s1, s2⟩
/-- A, B, C: C, A, B. -/
theorem Own.rot3 {w0 w : World} {A B C D : Asn} (h : Own w0 w (Star A (Star B (Star C D)))) : Own w0 w (Star C (Star A (Star B D))) :=
  h.mono fun F hF => star_swap2 (star_mono_r (fun F h => star_swap2 h) hF)
/-- A, B, C: B, C, A. -/
theorem Own.rot3' {w0 w : World} {A B C D : Asn} (h : Own w0 w (Star A (Star B (Star C D)))) : Own w0 w (Star B (Star C (Star A D))) := h.rot3.rot3
theorem Own.drop2' {w0 w : World} {A B C D : Asn} (h : Own w0 w (Star A (Star B (Star C D)))) : Own w0 w (Star A (Star C D)) := h.swap2.right
theorem Own.drop2 {w0 w : World} {A B C : Asn} (h : Own w0 w (Star A (Star B C))) : Own w0 w (Star A C) := h.swap2.right
/-- A new block as a row. -/
theorem row_of_blk {e : TypeId} {size n : Nat} {B : Nat} {xs : List Value} (hl : xs.length = n * size) (hm : n ≤ maxLen) {w : World} {F : Nat → Prop} (h : blkA B (.cells xs.toArray e) w F) : rowA e size (.slice (some ⟨B, 0, none⟩) n n) n xs w F :=
  ⟨⟨hl, .inr ⟨B, n, xs.toArray, rfl, Nat.zero_le _, h.2, Nat.le_refl _, hm, by simpa using hl, List.take_of_length_le (by simpa using Nat.le_of_eq hl)⟩⟩, fun b hb => by injection hb with hb; rw [← hb]; exact h.1⟩
/-- Behind an append. -/
theorem Own.grown {w0 w w' : World} {e : TypeId} {size : Nat} {v v' : Value} {n n' : Nat} {xs ys : List Value} {R : Asn} {g : Nat} (h : Own w0 w (Star (rowA e size v n xs) R)) (hs : Stable R) (ho : w'.ownsRow 0 e size v' n' ys)
    (hv : v'.ownBlock = some g) (hg : w.grownBy w' v.ownBlock) (hat : v.ownBlock = some g ∨ w.heap.size ≤ g) (hlt : g < w'.heap.size) : Own w0 w' (Star (rowA e size v' n' ys) R) := by
  refine h.step hs (fun F hF => ⟨fun x => x = g, ⟨ho, fun b hb => ?_⟩, fun x hx => ⟨?_, by rw [hx]; exact hlt⟩, ⟨hg.os, hg.tape, hg.output, hg.size, fun k hk hs => hg.block k hk (fun e => hs (hF.2 k e.symm))⟩⟩)
  · rw [hv] at hb; injection hb with hb; exact hb.symm
  · rcases hat with e | e
    · exact .inl (by rw [hx]; exact hF.2 g e)
    · exact .inr (by rw [hx]; exact e)
theorem Own.step_call {P : Program} {f : FuncId} {args : Array Value} {X : Type} {w0 w : World} {A R : Asn} {A' : X → Asn} {Q : X → Ending → Prop} (h : Own w0 w (Star A R)) (hs : Stable R)
    (hc : ∀ F : Nat → Prop, A w F → Calls P f args w fun e w' => ∃ x, Q x e ∧ Out (A' x) w w' F) : Calls P f args w fun e w' => ∃ x, Q x e ∧ Own w0 w' (Star (A' x) R) := by
  obtain ⟨F, ⟨F1, F2, h1, h2, hd, s1, s2⟩, hb, g⟩ := h
  refine (hc F1 h1).mono ?_
  rintro e w' ⟨x, hq, F', k1, k2, k3⟩
  refine ⟨x, hq, ?_⟩
  have hsz := k3.size
  refine ⟨fun x => F' x ∨ F2 x, ⟨F', F2, k1, hs w w' F2 F1 h2 k3 (fun x hx hy => hd x hy hx), fun x hx hy => ?_, fun x hx => .inl hx, fun x hx => .inr hx⟩, fun x hx => ?_, gr_ch g k3 (fun x hx => (hb x (s1 x hx)).1)⟩
  · rcases (k2 x hx).1 with e | e
    · exact hd x e hy
    · have := (hb x (s2 x hy)).2; omega
  · have := g.size
    rcases hx with hx | hx
    · refine ⟨?_, (k2 x hx).2⟩
      rcases (k2 x hx).1 with e | e
      · exact (hb x (s1 x e)).1
      · omega
    · have := hb x (s2 x hx); omega
/-- A call with one way to end, on the first of them. -/
theorem Own.call {P : Program} {f : FuncId} {args : Array Value} {w0 w : World} {A R A' : Asn} {v : Value} (h : Own w0 w (Star A R)) (hs : Stable R)
    (hc : ∀ F : Nat → Prop, A w F → Calls P f args w fun e w' => e = .returned v ∧ Out A' w w' F) : Calls P f args w fun e w' => e = .returned v ∧ Own w0 w' (Star A' R) := by
  refine (h.step_call (X := Unit) (A' := fun _ => A') (Q := fun _ e => e = .returned v) hs (fun F hF => (hc F hF).mono fun e w' k => ⟨(), k⟩)).mono ?_
  rintro e w' ⟨_, k⟩
  exact k
end Go.Proofs.YtlpcccpagmipnaaGreat.P
