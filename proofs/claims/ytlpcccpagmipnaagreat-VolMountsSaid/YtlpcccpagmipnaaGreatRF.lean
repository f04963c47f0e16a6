/- A range over a function, over objects side by side. No condition. -/
import Derived.Test.YtlpcccpagmipnaaGreatY
import Derived.RangeFuncNested
import Derived.RangeFuncBox
import Derived.RangeFuncLeaves
import Derived.OwnWalkIn
import Derived.TacticsInMore
import Derived.LoopNIn
import Derived.LoopIn
set_option linter.unusedVariables false
namespace Go.Proofs.YtlpcccpagmipnaaGreat.P
open Go.RowKit
/-! objects side by side, in whatever order -/
theorem star_comm (A B : Asn) : Star A B = Star B A := by
  have h : ∀ A B w F, Star A B w F → Star B A w F := fun A B w F ⟨F1, F2, h1, h2, hd, s1, s2⟩ => ⟨F2, F1, h2, h1, fun x hx hy => hd x hy hx, s2, s1⟩
  funext w F
  exact propext ⟨h A B w F, h B A w F⟩
theorem star_assoc (A B C : Asn) : Star (Star A B) C = Star A (Star B C) := by
  have h : ∀ A B C w F, Star (Star A B) C w F → Star A (Star B C) w F := fun A B C w F ⟨F1, F2, ⟨G1, G2, k1, k2, kd, t1, t2⟩, h2, hd, s1, s2⟩ =>
    ⟨G1, fun x => G2 x ∨ F2 x, k1, ⟨G2, F2, k2, h2, fun x hx hy => hd x (t2 x hx) hy, fun x hx => .inl hx, fun x hx => .inr hx⟩, fun x hx hy => hy.elim (kd x hx) (hd x (t1 x hx)), fun x hx => s1 x (t1 x hx), fun x hx => hx.elim (fun e => s1 x (t2 x e)) (s2 x)⟩
  funext w F
  refine propext ⟨h A B C w F, fun k => ?_⟩
  rw [star_comm, star_comm B C] at k
  have := h C B A w F k
  rw [star_comm, star_comm B A] at this
  exact this
instance : Std.Commutative Star := ⟨star_comm⟩
instance : Std.Associative Star := ⟨star_assoc⟩
theorem Own.ac {w0 w : World} {A B : Asn} (h : Own w0 w A) (e : A = B) : Own w0 w B := e ▸ h
theorem Own.putO {w0 w : World} {B : Nat} {o : Obj} {R : Asn} (h : Own w0 w (Star (blkA B o) R)) (hs : Stable R) (o' : Obj) : Own w0 (w.putObj B o') (Star (blkA B o') R) :=
  h.step hs (fun F hF => by
    have hg := grownBy_putObj' w B o'
    exact ⟨fun x => x = B, ⟨rfl, World.putObj_heap_same (blk_lt hF.2)⟩, fun x hx => ⟨.inl (by rw [hx]; exact hF.1), by rw [hx]; exact Nat.lt_of_lt_of_le (blk_lt hF.2) hg.size⟩, ⟨hg.os, hg.tape, hg.output, hg.size, fun k hk hn => hg.block k hk (fun e => hn (by injection e with e; rw [e]; exact hF.1))⟩⟩)
abbrev defA (D : Nat) : Asn := blkA D (.deferred (some []))
/-- An iterator that gives N elements, one behind the other, whatever lies beside. -/
def SeqN (P : Program) (gf : Nat) (lb : Array Value) (enc : Nat → Array Value) (N : Nat) (Bx : Asn) : Prop :=
  ∀ (l : Nat) (X Xx : Nat → Asn), (∀ k, Stable (X k)) → ∀ (w0 W : World), Own w0 W (Star Bx (X 0)) →
    (∀ k W', k < N → Own w0 W' (Star Bx (X k)) → YieldAt Fence.wide 0 P l (enc k) W' (fun e W'' => (e = .returned (.bool true) ∧ Own w0 W'' (Star Bx (X (k + 1)))) ∨ (e = .returned (.bool false) ∧ Own w0 W'' (Xx k)))) →
    CallsIn Fence.wide 1 P gf (#[.func (.yield l) #[] #[]] ++ lb) W (fun e W' => (∃ v, e = .returned v) ∧ (Own w0 W' (Star Bx (X N)) ∨ ∃ k, k < N ∧ Own w0 W' (Xx k)))
theorem callsIn_any {n m : Nat} {P : Program} {f : FuncId} {args : Array Value} {w : World} {R : Ending → World → Prop} (h : CallsIn Fence.wide n P f args w R) : CallsIn Fence.wide m P f args w R := callsIn_wide.2 (callsIn_wide.1 h)
/-- What a round leaves. -/
def RPost (w0 : World) (Bx A : Asn) (Ax : Code → Asn) (R : Asn) : Exit → Act → World → Prop
  | .normal, _, W => Own w0 W (Star Bx (Star A R))
  | .ret, _, W => Own w0 W (Star Bx (Star (Ax .ret) R))
  | .exit id, _, W => Own w0 W (Star Bx (Star (Ax (.exit id)) R))
  | .goto t, _, W => Own w0 W (Star Bx (Star (Ax (.goto t)) R))
  | .panic _, _, _ => False
  | .outgrown, _, _ => False
/-- Some left. -/
def anyA (f : Code → Asn) : Asn := fun w F => ∃ c, f c w F
theorem Own.any {w0 w : World} {f : Code → Asn} (c : Code) (h : Own w0 w (f c)) : Own w0 w (anyA f) := h.mono fun F hF => ⟨c, hF⟩
theorem Own.some {w0 w : World} {f : Code → Asn} (h : Own w0 w (anyA f)) : ∃ c, Own w0 w (f c) := by
  obtain ⟨F, ⟨c, h1⟩, h2, h3⟩ := h
  exact ⟨c, F, h1, h2, h3⟩
theorem wpIn_rangeFunc_N {P : Program} {n : Nat} {g : Operand} {ps : Array Tmp} {assign body : Code} {Q : Exit → Act → World → Prop} {a : Act} {w w0 : World} {gf : Nat} {lb : Array Value} {enc : Nat → Array Value} {N : Nat} {Bx : Asn}
    (hseq : SeqN P gf lb enc N Bx) (hg : a.eval g = .func (.func gf) #[] lb) (eg : ∀ args w, (callFunc gf args).run P w = .ok (.enter gf args) w) (hps : ∀ k, (enc k).size = ps.size) (hB : Stable Bx)
    (J : Nat → Asn) (hJ : ∀ k, Stable (J k)) (Jx : Code → Nat → Asn) (hJx : ∀ c k, Stable (Jx c k)) (h0 : Own w0 w (Star Bx (J 0)))
    (hround : ∀ (l k : Nat) (W : World) (R : Asn), Stable R → k < N → Own w0 W (Star Bx (Star (J k) R)) → assign.wpIn (Fence.wide.inRound l) 0 P (Exit.then (fun a' W' => ∃ A : Asn, Stable A ∧ Own w0 W' (Star Bx (Star A R)) ∧
      ∀ (W2 : World) (R2 : Asn), Stable R2 → Own w0 W2 (Star Bx (Star A R2)) → body.wpIn (Fence.wide.inRound l) 0 P (RPost w0 Bx (J (k + 1)) (fun c => Jx c k) R2) a' W2) (fun _ _ _ => False)) { tmps := (ps.zip (enc k)).foldl (fun t (p, v) => t.setIfInBounds p v) a.tmps, defers := [] } W)
    (hdone : ∀ (D : Nat) (W : World), Own w0 W (Star (defA D) (Star Bx (J N))) → Q .normal { a with defers := { target := .collected D, args := #[] } :: a.defers } W)
    (hstop : ∀ (D : Nat) (c : Code) (k : Nat) (W : World), k < N → Own w0 W (Star (defA D) (Star Bx (Jx c k))) → c.wpIn Fence.wide n P Q { a with defers := { target := .collected D, args := #[] } :: a.defers } W) :
    (Code.rangeFunc g ps assign body).wpIn Fence.wide n P Q a w := by
  refine wpIn_rangeFunc ?_
  intro fn hfn
  obtain ⟨rec, hrec⟩ : ∃ rec : LoopState → Option Code → Loop, rec = fun st pe => { state := st, pending := pe, fn, tmps := a.tmps, params := ps, assign, body, defers := w.heap.size } := ⟨_, rfl⟩
  have hst0 : Stable (Star Bx (J 0)) := stable_star hB (hJ 0)
  have h1 := h0.alloc hst0 (.deferred (some []))
  have h2 := h1.alloc (stable_star (stable_blk _ _) hst0) (.loop (rec .ready none))
  rw [World.size_alloc] at h2
  have h3 : Own w0 ((w.alloc (.deferred (some []))).alloc (.loop (rec .ready none))) (Star Bx (Star (J 0) (Star (blkA (w.heap.size + 1) (.loop (rec .ready none))) (defA w.heap.size)))) := h2.ac (by ac_rfl)
  obtain ⟨W1, hW1⟩ : ∃ W1, (w.alloc (.deferred (some []))).alloc (.loop (rec .ready none)) = W1 := ⟨_, rfl⟩
  rw [hW1] at h3
  refine ⟨w.heap.size + 1, [{ target := .collected w.heap.size, args := #[] }], W1, { target := .fn (.func gf) lb, args := #[.func (.yield (w.heap.size + 1)) #[] #[]] }, W1, gf,
    #[.func (.yield (w.heap.size + 1)) #[] #[]] ++ lb, W1, ?_, ?_, ?_, ?_, fun h => (by cases h), ?_⟩
  · show (Instr.enterLoop fn a.tmps ps assign body none).run P w = _
    rw [run_enterLoop_outer, ← hW1, hrec]
  · simp only [resolve, hg]
    simp [go_sem]
  · intro f' hf'; trivial
  · simp [invoke, go_sem, eg]
  · clear h0 h1 h2 hW1
    generalize w.heap.size = D at *
    refine callsIn_any ((hseq (D + 1) (fun k => Star (J k) (Star (blkA (D + 1) (.loop (rec .ready none))) (defA D))) (fun k => anyA fun c => Star Bx (Star (Jx c k) (Star (blkA (D + 1) (.loop (rec .done (some c)))) (defA D)))) (fun k => stable_star (hJ k) (stable_star (stable_blk _ _) (stable_blk _ _))) w0 _ h3 ?_).mono ?_)
    · -- one round
      intro k W hk hW
      have hW1 : Own w0 W (Star (blkA (D + 1) (.loop (rec .ready none))) (Star Bx (Star (J k) (defA D)))) := hW.ac (by ac_rfl)
      have hy := run_yield (P := P) (args := enc k) hW1.blk (by rw [hrec]; exact hps k)
      rw [hrec] at hy
      refine ⟨fn, _, assign, body, hy, roundIn_of_wpIn hfn (wpIn_mono (hround (D + 1) k W (Star (blkA (D + 1) (.loop (rec .ready none))) (defA D)) (stable_star (stable_blk _ _) (stable_blk _ _)) hk hW) ?_)⟩
      rintro e a' Wa hp
      cases e with
      | normal =>
        obtain ⟨A, hA, hp0, hbody⟩ := hp
        have hp1 : Own w0 Wa (Star (blkA (D + 1) (.loop (rec .ready none))) (Star Bx (Star A (defA D)))) := hp0.ac (by ac_rfl)
        refine ⟨_, run_beginRound hp1.blk (by rw [hrec]), ?_⟩
        have hp2 := hp1.putO (stable_star hB (stable_star hA (stable_blk _ _))) (.loop { rec .ready none with state := .busy })
        refine wpIn_mono (hbody _ (Star (blkA (D + 1) (.loop { rec .ready none with state := .busy })) (defA D)) (stable_star (stable_blk _ _) (stable_blk _ _)) (hp2.ac (by ac_rfl))) ?_
        have fin : ∀ (jump : Option Code) (A : Asn) (W3 : World), Stable A → Own w0 W3 (Star Bx (Star A (Star (blkA (D + 1) (.loop { rec .ready none with state := .busy })) (defA D)))) →
            ∃ W4, (Instr.endRound (D + 1) jump).run P W3 = .ok (.bool jump.isNone) W4 ∧ Own w0 W4 (Star Bx (Star A (Star (blkA (D + 1) (.loop (rec (if jump.isNone then .ready else .done) jump))) (defA D)))) := fun jump A W3 hA h => by
          have h1 : Own w0 W3 (Star (blkA (D + 1) (.loop { rec .ready none with state := .busy })) (Star Bx (Star A (defA D)))) := h.ac (by ac_rfl)
          have hr := run_endRound (P := P) jump h1.blk
          refine ⟨_, hr, ?_⟩
          have h2 := h1.putO (stable_star hB (stable_star hA (stable_blk _ _))) (.loop (rec (if jump.isNone then .ready else .done) jump))
          rw [hrec] at h2 ⊢
          exact h2.ac (by ac_rfl)
        rintro e a3 W3 hp3
        cases e with
        | normal =>
          obtain ⟨W4, e1, e2⟩ := fin none _ W3 (hJ _) hp3
          exact ⟨_, _, e1, .inl ⟨rfl, e2⟩⟩
        | ret =>
          obtain ⟨W4, e1, e2⟩ := fin (some .ret) _ W3 (hJx _ _) hp3
          exact ⟨_, _, e1, .inr ⟨rfl, Own.any (f := fun c => Star Bx (Star (Jx c k) (Star (blkA (D + 1) (.loop (rec .done (some c)))) (defA D)))) .ret e2⟩⟩
        | exit id =>
          obtain ⟨W4, e1, e2⟩ := fin (some (.exit id)) _ W3 (hJx _ _) hp3
          exact ⟨_, _, e1, .inr ⟨rfl, Own.any (f := fun c => Star Bx (Star (Jx c k) (Star (blkA (D + 1) (.loop (rec .done (some c)))) (defA D)))) (.exit id) e2⟩⟩
        | goto t =>
          obtain ⟨W4, e1, e2⟩ := fin (some (.goto t)) _ W3 (hJx _ _) hp3
          exact ⟨_, _, e1, .inr ⟨rfl, Own.any (f := fun c => Star Bx (Star (Jx c k) (Star (blkA (D + 1) (.loop (rec .done (some c)))) (defA D)))) (.goto t) e2⟩⟩
        | panic ch => exact hp3.elim
        | outgrown => exact hp3.elim
      | ret => exact hp.elim
      | exit id => exact hp.elim
      | goto t => exact hp.elim
      | panic ch => exact hp.elim
      | outgrown => exact hp.elim
    · -- behind it
      rintro e W2 ⟨⟨v, rfl⟩, (hn | ⟨k, hk, hx⟩)⟩
      · have h1 : Own w0 W2 (Star (blkA (D + 1) (.loop (rec .ready none))) (Star (defA D) (Star Bx (J N)))) := hn.ac (by ac_rfl)
        have hr := run_endLoop (P := P) h1.blk (by rw [hrec]; simp)
        refine ⟨_, _, hr, ?_⟩
        rw [hrec]
        exact hdone D _ (h1.putO (stable_star (stable_blk _ _) (stable_star hB (hJ _))) _).right
      · obtain ⟨c, hx⟩ := hx.some
        have h1 : Own w0 W2 (Star (blkA (D + 1) (.loop (rec .done (some c)))) (Star (defA D) (Star Bx (Jx c k)))) := hx.ac (by ac_rfl)
        have hr := run_endLoop (P := P) h1.blk (by rw [hrec]; simp)
        refine ⟨_, _, hr, ?_⟩
        rw [hrec]
        exact hstop D c k _ hk (h1.putO (stable_star (stable_blk _ _) (stable_star hB (hJx _ _))) _).right
end Go.Proofs.YtlpcccpagmipnaaGreat.P
