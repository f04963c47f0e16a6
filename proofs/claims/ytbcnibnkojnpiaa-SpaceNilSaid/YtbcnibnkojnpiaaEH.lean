/- Stage 11: objects side by side, turned round. No condition. -/
import Derived.Test.YtbcnibnkojnpiaaE1
set_option linter.unusedVariables false
namespace Go.Proofs.Ytbcnibnkojnpiaa.P
open Go.RowKit Go.MuLone
theorem st3 {A B C D : Asn} {w : World} {F : Nat → Prop} (h : Star A (Star B (Star C D)) w F) : Star C (Star A (Star B D)) w F := star_swap2 (star_mono_r (fun F h => star_swap2 h) h)
theorem st4 {A B C D E : Asn} {w : World} {F : Nat → Prop} (h : Star A (Star B (Star C (Star D E))) w F) : Star D (Star A (Star B (Star C E))) w F := star_swap2 (star_mono_r (fun F h => st3 h) h)
theorem st5 {A B C D E G : Asn} {w : World} {F : Nat → Prop} (h : Star A (Star B (Star C (Star D (Star E G)))) w F) : Star E (Star A (Star B (Star C (Star D G)))) w F := star_swap2 (star_mono_r (fun F h => st4 h) h)
theorem st6 {A B C D E G I : Asn} {w : World} {F : Nat → Prop} (h : Star A (Star B (Star C (Star D (Star E (Star G I))))) w F) : Star G (Star A (Star B (Star C (Star D (Star E I))))) w F := star_swap2 (star_mono_r (fun F h => st5 h) h)
theorem bk3 {A B C D : Asn} {w : World} {F : Nat → Prop} (h : Star C (Star A (Star B D)) w F) : Star A (Star B (Star C D)) w F := star_mono_r (fun F h => star_swap2 h) (star_swap2 h)
theorem bk4 {A B C D E : Asn} {w : World} {F : Nat → Prop} (h : Star D (Star A (Star B (Star C E))) w F) : Star A (Star B (Star C (Star D E))) w F := star_mono_r (fun F h => bk3 h) (star_swap2 h)
theorem bk5 {A B C D E G : Asn} {w : World} {F : Nat → Prop} (h : Star E (Star A (Star B (Star C (Star D G)))) w F) : Star A (Star B (Star C (Star D (Star E G)))) w F := star_mono_r (fun F h => bk4 h) (star_swap2 h)
theorem star_drop2 {X A B : Asn} {w : World} {F : Nat → Prop} (h : Star X (Star A B) w F) : Star X B w F := by
  obtain ⟨F1, F2, h1, ⟨G1, G2, k1, k2, kd, t1, t2⟩, hd, s1, s2⟩ := h
  exact ⟨F1, G2, h1, k2, fun x hx hy => hd x hx (t2 x hy), s1, fun x hx => s2 x (t2 x hx)⟩
theorem star_drop {A B : Asn} {w : World} {F : Nat → Prop} (hB : ∀ (F G : Nat → Prop), B w F → (∀ x, F x → G x) → B w G) (h : Star A B w F) : B w F := by
  obtain ⟨F1, F2, h1, h2, hd, s1, s2⟩ := h
  exact hB F2 F h2 s2
theorem Own.set {w0 w : World} {B : Nat} {cs : Array Value} {T : TypeId} {R : Asn} (h : Own w0 w (Star (blkA B (.cells cs T)) R)) (hR : Stable R) (i : Nat) (v : Value) : Own w0 (w.setCell ⟨B, i, none⟩ v) (Star (blkA B (.cells (cs.setIfInBounds i v) T)) R) :=
  h.step hR (fun F hF => ⟨fun x => x = B, ⟨rfl, blk_set hF.2 i v⟩, fun x hx => ⟨.inl (by rw [hx]; exact hF.1), by rw [hx, size_setCell]; exact blk_lt hF.2⟩, Ch.setCell (Ch.refl _ _) (.inl hF.1) v⟩)
theorem gr_dN2 (w : World) (n : Nat) : Gr w (w.drewN n) := Gr.drewN (Gr.refl _) n
theorem size_alloc (w : World) (o : Obj) : (w.alloc o).heap.size = w.heap.size + 1 := by simp
end Go.Proofs.Ytbcnibnkojnpiaa.P
