/- Stage 11: what is written into one space is seen in no other one; no frame is of two. No condition. -/
import Derived.Test.YtbcnibnkojnpiaaGreatVE
set_option linter.unusedVariables false
set_option linter.unusedSimpArgs false
set_option maxRecDepth 100000
namespace Go.Proofs.YtbcnibnkojnpiaaGreat.P
open Go.RowKit Go.MuLone Go.Maps Go.Proofs.YtbcnibnkojnpiaaGreat.W
/-- All bytes of a space that may be read, of the first k of these pages. -/
def allK (z : Sp) (r : Int) : List Pgr → ByteArray → ByteArray
  | [], s => s
  | q :: l, s => allK z r l (s ++ inV 0 z r ((q.n : Int) * 256) 256)
def allF (z : Sp) (r : Nat) : ByteArray := allK z r (rqA z r 32) ⟨#[]⟩
theorem inV_size {z : Sp} {own : Who} (hw : WF 0 z own) {r p j : Nat} (hr : own r = some (3, p, j)) (a : Int) : (inV 0 z r a 256).size ≤ 256 := by
  obtain ⟨e1, e2, e3⟩ := in_same hw hr a 256 (by decide)
  have hl : ∀ (k i : Nat) (l : List UInt8), (rinF z r a k i l).2 = 0 → (rinF z r a k i l).1.length = l.length + k := by
    intro k
    induction k with
    | zero => intro i l _; rfl
    | succ k ih =>
      intro i l h
      rw [rinF] at h ⊢
      cases q : okAt z r a 1 (i : Int) with
      | false => rw [q, cond_false] at h; cases h
      | true => rw [q, cond_true] at h; rw [cond_true, ih _ _ h, List.length_append]; simp; omega
  by_cases h0 : (rinF z r a 256 0 []).2 = 0
  · have : inV 0 z r a 256 = _ := e2 h0
    rw [this]
    have := hl 256 0 [] h0
    show (rinF z r a 256 0 []).1.toArray.size ≤ 256
    rw [List.size_toArray, this]; simp
  · have : inV 0 z r a 256 = _ := e3 h0
    rw [this]; decide
/-- The frames of other spaces stay as they were. -/
theorem rou_keep {z : Sp} {own : Who} (h : WF 0 z own) {r p j : Nat} (hr : own r = some (3, p, j)) (a : Int) (y : ByteArray) {f p2 j2 : Nat} (hf : own f = some (0, p2, j2)) (hu : ¬ Und own r f) (o : Nat) (ho : o < 256) :
    ∀ (k i : Nat) (x : Sp), StP z x own → (∀ e, e < k → okAt z r a 2 ((i + e : Nat) : Int) = true) → (rouF r a y k i x).s[f * 256 + o]? = x.s[f * 256 + o]?
  | 0, i, x, _, _ => rfl
  | k + 1, i, x, s, hok => by
    have h0 := hok 0 (by omega)
    rw [Nat.add_zero] at h0
    obtain ⟨v0, _⟩ := vAt_bd a (i : Int)
    rcases walk_full h hr (vAt a (i : Int)) 2 v0 (.inr rfl) with ⟨q1, q2⟩ | ⟨g, t0, b, b0, b1, b2, b3, b4, b5, b6, q1, q2⟩
    · unfold okAt at h0; rw [q1] at h0; exact absurd h0 (by decide)
    · have hat : atAt x r a 2 (i : Int) = g * 256 + (vAt a (i : Int) % 256).toNat := by
        rw [(at_stp h s hr a 2 _ (.inr rfl)).2]; unfold atAt; rw [q2, Int.toNat_natCast]
      have hug : Und own r g := by
        refine .step b4 (by decide) (Und.of_pth h hr 2 _ _ (by decide) b1)
      have hne : g ≠ f := fun e => hu (by rw [← e]; exact hug)
      have hO : (vAt a (i : Int) % 256).toNat < 256 := by omega
      rw [rouF, hat]
      have st := stp_set h s b4 (vAt a (i : Int) % 256).toNat hO (y.data.toList.getD i 0)
      rw [rou_keep h hr a y hf hu o ho k (i + 1) _ st (fun e he => by have := hok (e + 1) (by omega); rw [show i + (e + 1) = i + 1 + e by omega] at this; exact this)]
      show (x.s.set (g * 256 + (vAt a (i : Int) % 256).toNat) _)[f * 256 + o]? = _
      rw [List.getElem?_set_ne (by omega)]
theorem all_keep {z : Sp} {own : Who} (h : WF 0 z own) {r p j : Nat} (hr : own r = some (3, p, j)) {r2 p2 j2 : Nat} (hr2 : own r2 = some (3, p2, j2)) (hne : r2 ≠ r) (a : Int) (y : ByteArray) : allF (outSt 0 z r a y) r2 = allF z r2 := by
  cases hb : movedBad 0 z r y.size with
  | true => rw [show outSt 0 z r a y = z by unfold outSt; rw [hb, cond_true]]
  | false =>
    have hn : y.size ≤ 4096 := by
      unfold movedBad at hb
      simp only [Bool.or_eq_false_iff, decide_eq_false_iff_not] at hb
      omega
    obtain ⟨_, e2, e3⟩ := out_same h hr a y hn
    by_cases h0 : rckF z r a y.size 0 = 0
    · obtain ⟨hS, st⟩ := e2 h0
      have hk : ∀ f p3 j3, own f = some (0, p3, j3) → ¬ Und own r f → ∀ o, o < 256 → (outSt 0 z r a y).s[f * 256 + o]? = z.s[f * 256 + o]? := fun f p3 j3 hf hu o ho => by
        rw [hS]
        exact rou_keep h hr a y hf hu o ho y.size 0 z (StP.refl h) (fun e he => by have := rck_ok z r a y.size 0 h0 e he; exact this)
      generalize outSt 0 z r a y = x at *
      have hx := st.wf h
      have hil : ilR x r2 = ilR z r2 := il_congr h hr2 (fun f hh p j e _ k hk => st.T f hh p j e k hk) 3 r2 0 0 p2 j2 (Nat.le_refl _) hr2 (.top hr2)
      have hrq : rqA x r2 32 = rqA z r2 32 := by rw [← (ilR_pages x r2).1, ← (ilR_pages z r2).1, hil]
      have hin : ∀ V : Int, inV 0 x r2 V 256 = inV 0 z r2 V 256 := fun V => by
        obtain ⟨a1, a2, a3⟩ := in_same h hr2 V 256 (by decide)
        obtain ⟨b1, b2, b3⟩ := in_same hx hr2 V 256 (by decide)
        have hrin : ∀ (k i : Nat) (l : List UInt8), rinF x r2 V k i l = rinF z r2 V k i l := by
          intro k
          induction k with
          | zero => intro i l; rfl
          | succ k ih =>
            intro i l
            obtain ⟨u1, u2⟩ := at_stp h st hr2 V 1 (i : Int) (.inl rfl)
            rw [rinF, rinF, u1, u2]
            cases q : okAt z r2 V 1 (i : Int) with
            | false => rfl
            | true =>
              rw [cond_true, cond_true]
              have hb2 : x.s.getD (atAt z r2 V 1 (i : Int)) 0 = z.s.getD (atAt z r2 V 1 (i : Int)) 0 := by
                obtain ⟨v0, _⟩ := vAt_bd V (i : Int)
                rcases walk_full h hr2 (vAt V (i : Int)) 1 v0 (.inl rfl) with ⟨q1, q2⟩ | ⟨g, t0, b, c0, c1, c2, c3, c4, c5, c6, q1, q2⟩
                · unfold okAt at q; rw [q1] at q; exact absurd q (by decide)
                · have hat : atAt z r2 V 1 (i : Int) = g * 256 + (vAt V (i : Int) % 256).toNat := by unfold atAt; rw [q2, Int.toNat_natCast]
                  have hug : Und own r2 g := .step c4 (by decide) (Und.of_pth h hr2 2 _ _ (by decide) c1)
                  have hk2 := hk g _ _ c4 (fun hu => hne (und_unique h hug hu)) (vAt V (i : Int) % 256).toNat (by omega)
                  rw [hat, List.getD_eq_getElem?_getD, List.getD_eq_getElem?_getD, hk2]
              rw [hb2]
              exact ih _ _
        rw [hrin] at b2 b3
        by_cases g0 : (rinF z r2 V 256 0 []).2 = 0
        · exact (b2 g0).trans (a2 g0).symm
        · exact (b3 g0).trans (a3 g0).symm
      unfold allF
      rw [hrq]
      have hall : ∀ (l : List Pgr) (s : ByteArray), allK x r2 l s = allK z r2 l s := by
        intro l
        induction l with
        | nil => intro s; rfl
        | cons q l ih => intro s; rw [allK, allK, hin, ih]
      exact hall _ _
    · rw [e3 h0]
/-- The frames of a space. -/
def frF (z : Sp) (r : Nat) : List Nat := tbA z r 32 ++ [r] ++ (rqA z r 32).map Pgr.f
theorem frF_ok {z : Sp} {own : Who} (h : WF 0 z own) {r p j : Nat} (hr : own r = some (3, p, j)) : (frF z r).Nodup ∧ ∀ f, f ∈ frF z r → f < z.L.length ∧ Und own r f := by
  have hp := docF_perm z r
  have hq : ((ilR z r).map It.f).Perm (frF z r) := hp.trans (by unfold docF frF; exact List.perm_append_comm)
  refine ⟨hq.nodup_iff.1 (ilR_nodup h hr), fun f hf => ?_⟩
  obtain ⟨it, hm, rfl⟩ := List.mem_map.1 (hq.mem_iff.2 hf)
  obtain ⟨hu, p', j', e⟩ := ilR_own h hr hm
  exact ⟨(h.lt e).2.1, hu⟩
theorem frF_apart {z : Sp} {own : Who} (h : WF 0 z own) {r p j r2 p2 j2 : Nat} (hr : own r = some (3, p, j)) (hr2 : own r2 = some (3, p2, j2)) (hne : r ≠ r2) {f : Nat} (h1 : f ∈ frF z r) (h2 : f ∈ frF z r2) : False :=
  hne (und_unique h ((frF_ok h hr).2 f h1).2 ((frF_ok h hr2).2 f h2).2)
/-- Forty marks. -/
def hadC (S : List Nat) : Array Value := ((List.range 40).map fun i => Value.bool (decide (i ∈ S))).toArray
theorem hadC_size (S : List Nat) : (hadC S).size = 40 := by unfold hadC; simp
theorem hadC_get (S : List Nat) (f : Nat) (hf : f < 40) : (hadC S)[f]? = some (.bool (decide (f ∈ S))) := by
  unfold hadC; simp [hf]
theorem hadC_set (S : List Nat) (f : Nat) (hf : f < 40) : (hadC S).setIfInBounds f (.bool true) = hadC (f :: S) := by
  apply Array.ext_getElem?
  intro i
  rw [Array.getElem?_setIfInBounds]
  by_cases h : f = i
  · subst h
    rw [if_pos rfl, if_pos (by rw [hadC_size]; exact hf), hadC_get _ _ hf]; simp
  · rw [if_neg h]
    by_cases hi : i < 40
    · rw [hadC_get _ _ hi, hadC_get _ _ hi]
      congr 2
      simp [Ne.symm h]
    · rw [Array.getElem?_eq_none (by rw [hadC_size]; omega), Array.getElem?_eq_none (by rw [hadC_size]; omega)]
theorem hadC_nil : hadC [] = Array.replicate 40 (.bool false) := by
  apply Array.ext_getElem?
  intro i
  by_cases hi : i < 40
  · rw [hadC_get _ _ hi, Array.getElem?_replicate, if_pos hi]; rfl
  · rw [Array.getElem?_eq_none (by rw [hadC_size]; omega), Array.getElem?_eq_none (by simp; omega)]
end Go.Proofs.YtbcnibnkojnpiaaGreat.P
