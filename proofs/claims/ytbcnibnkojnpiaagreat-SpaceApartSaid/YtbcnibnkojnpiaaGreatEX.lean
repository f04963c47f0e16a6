/- Stage 11: bytes put into a space, and read from it. No condition. -/
import Derived.Test.YtbcnibnkojnpiaaGreatEV
import Derived.Test.YtbcnibnkojnpiaaGreatEO
set_option linter.unusedVariables false
set_option maxRecDepth 100000
namespace Go.Proofs.YtbcnibnkojnpiaaGreat.P
open Go.RowKit Go.MuLone Go.Maps
def All23 (z : Sp) (r : Nat) : Prop := ∀ P f, P < 32768 → pth z r 3 P = some f → ∃ t0, pth z r 2 (P / 32) = some t0 ∧ T z t0 (P % 32) = ((f * 1024 + 23 : Nat) : Int)
def okB (z : Sp) (r : Nat) (v : Int) : Bool := decide (v < 8388608) && (pth z r 3 (v / 256).toNat).isSome
theorem part_same {v : Int} {P : Nat} (hv : v < 8388608) (hP : P = (v / 256).toNat) (h0 : 0 ≤ v) : partI v 0 = partI ((P : Int) * 256) 0 ∧ partI v 1 = partI ((P : Int) * 256) 1 ∧ partI v 2 = partI ((P : Int) * 256) 2 := by
  have hb : (P : Int) * 256 < 8388608 := by omega
  refine ⟨?_, ?_, ?_⟩
  · rw [part0 _ hv, part0 _ hb]; omega
  · rw [part1 _ hv, part1 _ hb]; omega
  · rw [part2 _ hv, part2 _ hb]; omega
theorem leaf_same {fr : Nat} {s : List UInt8} {r v : Int} {P : Nat} (hv : v < 8388608) (hP : P = (v / 256).toNat) (h0 : 0 ≤ v) : leafR fr s r v = leafR fr s r ((P : Int) * 256) ∧ leafV fr s r v = leafV fr s r ((P : Int) * 256) := by
  obtain ⟨e0, e1, e2⟩ := part_same hv hP h0
  have hb : (P : Int) * 256 < 8388608 := by omega
  have eA : leafA s r v = leafA s r ((P : Int) * 256) := by unfold leafA; rw [e2]
  have eC : leafC s r v = leafC s r ((P : Int) * 256) := by unfold leafC; rw [eA, e1]
  have eR : leafR fr s r v = leafR fr s r ((P : Int) * 256) := by unfold leafR; rw [eA, eC, decide_eq_true hv, decide_eq_true hb]
  refine ⟨eR, ?_⟩
  unfold leafV; rw [eR, eC, e0]
theorem may_zero (n : Int) : mayB n 0 = false := by unfold mayB; rfl
theorem may_23 (g : Nat) (n : Int) (hn : n = 2 ∨ n = 4) : mayB n ((g * 1024 + 23 : Nat) : Int) = true := by
  unfold mayB
  have h1 : ((g * 1024 + 23 : Nat) : Int) % 2 = 1 := by omega
  have h2 : ((g * 1024 + 23 : Nat) : Int) / 16 % 2 = 1 := by omega
  have h3 : ((g * 1024 + 23 : Nat) : Int) / n % 2 = 1 := by rcases hn with rfl | rfl <;> omega
  rw [decide_eq_true h1, decide_eq_true h2, decide_eq_true h3]; rfl
theorem walk_at {fi : Nat} {x : Sp} {own : Who} (h : WF fi x own) {r p j : Nat} (hr : own r = some (3, p, j)) (h23 : All23 x r) (v acc : Int) (h0 : 0 ≤ v) (hacc : acc = 1 ∨ acc = 2) :
    (∃ f, okB x r v = true ∧ v < 8388608 ∧ pth x r 3 (v / 256).toNat = some f ∧ walkR x.L.length x.s r v acc = 0 ∧ walkV x.L.length x.s r v acc = (f : Int) * 256 + v % 256) ∨ (okB x r v = false ∧ walkR x.L.length x.s r v acc = 3) := by
  have hn : decide (neededI acc = 0) = false := by rcases hacc with rfl | rfl <;> decide
  have hn2 : neededI acc = 2 ∨ neededI acc = 4 := by rcases hacc with rfl | rfl; exact .inl rfl; exact .inr rfl
  by_cases hv : v < 8388608
  · obtain ⟨P, hP⟩ : ∃ P, P = (v / 256).toNat := ⟨_, rfl⟩
    have hPb : P < 32768 := by omega
    obtain ⟨eR, eV⟩ := leaf_same (fr := x.L.length) (s := x.s) (r := (r : Int)) hv hP h0
    have hok : okB x r v = (pth x r 3 P).isSome := by unfold okB; rw [decide_eq_true hv, Bool.true_and, ← hP]
    have bad3 : leafR x.L.length x.s r v = 3 → walkR x.L.length x.s r v acc = 3 := fun e => by
      unfold walkR; rw [hn, e, cond_false, decide_eq_false (by decide), cond_false]
    rw [← hP]
    rcases leaf_tab h hr hPb with ⟨e1, e2, e3⟩ | ⟨t1, e1, e2, e3, e4⟩ | ⟨t1, t0, e1, e2, e3, e4⟩
    · right
      refine ⟨?_, bad3 (eR.trans e2)⟩
      rw [hok, pth_pre' (m := P) (d := 2) (pth_pre' (m := P / 32) (d := 1) (by rw [show P / 32 / 32 = P / 1024 by omega]; exact e1))]; rfl
    · right
      refine ⟨?_, bad3 (eR.trans e3)⟩
      rw [hok, pth_pre' (m := P) (d := 2) e2]; rfl
    · have e5 : pth x r 3 P = kid x t0 (P % 32) := by
        have := pth_kid (z := x) (r := r) (d := 2) (m := P / 32) (k := P % 32) (by omega) e2
        rw [show P / 32 * 32 + P % 32 = P by omega] at this; exact this
      have hE : walkE x.L.length x.s r v = T x t0 (P % 32) := by
        unfold walkE; rw [eV, e4]; rfl
      obtain ⟨c1, c2, hot⟩ := pth_high h hr (show 2 ≤ 3 by decide) e2
      have hR0 : decide (leafR x.L.length x.s r v = 0) = true := decide_eq_true (eR.trans e3)
      cases hk : pth x r 3 P with
      | none =>
        right
        have hz : T x t0 (P % 32) = 0 := h.kid_none hot (by omega) (by rw [← e5]; exact hk)
        refine ⟨by rw [hok, hk]; rfl, ?_⟩
        unfold walkR; rw [hn, cond_false, hR0, cond_true, hE, hz, may_zero, Bool.false_and, cond_false]
      | some f =>
        left
        obtain ⟨t0', q1, q2⟩ := h23 P f hPb hk
        have q3 : t0 = t0' := Option.some.inj (e2.symm.trans q1)
        rw [← q3] at q2
        have hof : own f = some (0, t0, P % 32) := (h.kid_iff hot (by omega)).1 (by rw [← e5]; exact hk)
        have hfl := (h.lt hof).2.1
        have hd : ((f * 1024 + 23 : Nat) : Int) / 1024 = (f : Int) := by omega
        have hR : walkR x.L.length x.s r v acc = 0 := by
          unfold walkR
          rw [hn, cond_false, hR0, cond_true, hE, q2, may_23 f _ hn2, hd, decide_eq_true (show (f : Int) < (x.L.length : Int) by omega), Bool.true_and, cond_true]
        refine ⟨f, by rw [hok, hk]; rfl, hv, rfl, hR, ?_⟩
        unfold walkV
        rw [hR, decide_eq_true rfl, cond_true, hE, q2, hd]
  · right
    refine ⟨by unfold okB; rw [decide_eq_false hv]; rfl, ?_⟩
    have hrl := h.lt hr
    have hL : leafR x.L.length x.s r v = 3 := by
      unfold leafR
      rw [decide_eq_true (show 0 ≤ (r : Int) by omega), decide_eq_true (show (r : Int) < (x.L.length : Int) by omega), decide_eq_false hv, Bool.true_and, cond_true, cond_false]
    unfold walkR; rw [hn, hL, cond_false, decide_eq_false (by decide), cond_false]
theorem wrap_at (a from_ i : Int) (h1 : from_ ≤ i) (h2 : i < from_ + 256 - IntKind.u64.wrap (a + from_) % 256) : IntKind.u64.wrap (a + i) = IntKind.u64.wrap (a + from_) + (i - from_) ∧ IntKind.u64.wrap (a + i) / 256 = IntKind.u64.wrap (a + from_) / 256 ∧ 0 ≤ IntKind.u64.wrap (a + from_) := by
  rw [IntKind.wrap_u64] at h2 ⊢
  rw [IntKind.wrap_u64]
  omega
/-- All bytes from from_ on may be come to. -/
def goodFrom (z : Sp) (r : Nat) (a n from_ : Int) : Prop := ∀ i, from_ ≤ i → i < n → okB z r (IntKind.u64.wrap (a + i)) = true
theorem good_step {z : Sp} {r : Nat} {a n from_ : Int} (hl : from_ < n) : goodFrom z r a n from_ ↔ (okB z r (IntKind.u64.wrap (a + from_)) = true ∧ goodFrom z r a n (pieceI a n from_)) := by
  obtain ⟨b1, b2, b3⟩ := piece_bd a n from_ hl
  constructor
  · intro h
    exact ⟨h from_ (Int.le_refl _) hl, fun i h1 h2 => h i (by omega) h2⟩
  · rintro ⟨h1, h2⟩ i h3 h4
    by_cases e : pieceI a n from_ ≤ i
    · exact h2 i e h4
    · have hp : i < from_ + 256 - IntKind.u64.wrap (a + from_) % 256 := by
        unfold pieceI at e; omega
      obtain ⟨e1, e2, e3⟩ := wrap_at a from_ i h3 hp
      unfold okB at h1 ⊢
      rw [e2]
      simp only [Bool.and_eq_true, decide_eq_true_eq] at h1 ⊢
      refine ⟨?_, h1.2⟩
      have : IntKind.u64.wrap (a + i) / 256 = IntKind.u64.wrap (a + from_) / 256 := e2
      omega
theorem check_all {X : Type} {z : Sp} {r : Nat} {a n acc : Int} {f : Int → Int → Int → X → X} (hw : ∀ v, 0 ≤ v → (okB z r v = true ∧ walkR z.L.length z.s r v acc = 0) ∨ (okB z r v = false ∧ walkR z.L.length z.s r v acc = 3)) :
    ∀ (F : Nat) (from_ : Int) (x : X), n - from_ < F → (goodFrom z r a n from_ ∧ (chunkX (fun _ => z) r a n acc f F from_ x).2 = 0) ∨ (¬ goodFrom z r a n from_ ∧ (chunkX (fun _ => z) r a n acc f F from_ x).2 = 3)
  | 0, from_, x, hF => by
    left
    exact ⟨fun i h1 h2 => by omega, rfl⟩
  | F + 1, from_, x, hF => by
    rw [chunkX]
    by_cases hl : n ≤ from_
    · left
      rw [decide_eq_true hl, cond_true]
      exact ⟨fun i h1 h2 => by omega, rfl⟩
    · rw [decide_eq_false hl, cond_false]
      have hv0 : 0 ≤ IntKind.u64.wrap (a + from_) := by rw [IntKind.wrap_u64]; omega
      have hgs := good_step (z := z) (r := r) (a := a) (n := n) (from_ := from_) (by omega)
      obtain ⟨b1, b2, b3⟩ := piece_bd a n from_ (by omega)
      rcases hw _ hv0 with ⟨h1, h2⟩ | ⟨h1, h2⟩
      · rw [h2, decide_eq_true rfl, cond_true]
        rcases check_all (a := a) (n := n) (f := f) hw F (pieceI a n from_) (f (walkV z.L.length z.s r (IntKind.u64.wrap (a + from_)) acc) from_ (pieceI a n from_) x) (by omega) with ⟨g1, g2⟩ | ⟨g1, g2⟩
        · exact .inl ⟨hgs.2 ⟨h1, g1⟩, g2⟩
        · exact .inr ⟨fun e => g1 (hgs.1 e).2, g2⟩
      · right
        rw [h2, decide_eq_false (by decide), cond_false]
        exact ⟨fun e => (by have := (hgs.1 e).1; rw [h1] at this; exact nomatch this), rfl⟩
/-- Only pages differ. -/
structure StP (z x : Sp) (own : Who) : Prop where
  sz : Sz x
  L : x.L = z.L
  T : ∀ f hh p j, own f = some (hh + 1, p, j) → ∀ k, k < 32 → P.T x f k = P.T z f k
theorem StP.wf {fi : Nat} {z x : Sp} {own : Who} (h : WF fi z own) (s : StP z x own) : WF fi x own := wf_page h s.sz s.L s.T
theorem StP.pth {fi : Nat} {z x : Sp} {own : Who} (h : WF fi z own) (s : StP z x own) {r p j : Nat} (hr : own r = some (3, p, j)) (d m : Nat) (hd : d ≤ 3) : P.pth x r d m = P.pth z r d m := pth_congr h hr (fun f hh p j e _ k hk => s.T f hh p j e k hk) d m hd
theorem StP.a23 {fi : Nat} {z x : Sp} {own : Who} (h : WF fi z own) (s : StP z x own) {r p j : Nat} (hr : own r = some (3, p, j)) (h23 : All23 z r) : All23 x r := fun P f hP hp => by
  rw [s.pth h hr 3 P (by decide)] at hp
  obtain ⟨t0, q1, q2⟩ := h23 P f hP hp
  obtain ⟨c1, c2, hot⟩ := pth_high h hr (show 2 ≤ 3 by decide) q1
  exact ⟨t0, by rw [s.pth h hr 2 _ (by decide)]; exact q1, by rw [s.T t0 0 c1 c2 hot _ (by omega)]; exact q2⟩
theorem StP.ok {fi : Nat} {z x : Sp} {own : Who} (h : WF fi z own) (s : StP z x own) {r p j : Nat} (hr : own r = some (3, p, j)) (v : Int) : okB x r v = okB z r v := by
  unfold okB; rw [s.pth h hr 3 _ (by decide)]
theorem StP.refl {fi : Nat} {z : Sp} {own : Who} (h : WF fi z own) : StP z z own := ⟨h.sz, rfl, fun _ _ _ _ _ _ _ => rfl⟩
/-- Where the byte at v lies. -/
def bAt (z : Sp) (r : Nat) (v : Int) : Nat := ((pth z r 3 (v / 256).toNat).getD 0) * 256 + (v % 256).toNat
abbrev vAt (a : Int) (i : Int) : Int := IntKind.u64.wrap (a + i)
theorem vAt_bd (a i : Int) : 0 ≤ vAt a i ∧ vAt a i < 18446744073709551616 := by unfold vAt; rw [IntKind.wrap_u64]; omega
/-- A piece: where it lies, and that its bytes lie there one behind the other. -/
theorem piece_at {fi : Nat} {z x : Sp} {own : Who} (h : WF fi z own) (s : StP z x own) {r p j : Nat} (hr : own r = some (3, p, j)) (h23 : All23 z r) {a acc from_ n : Int} (hacc : acc = 1 ∨ acc = 2) (hl : from_ < n) (hok : okB z r (vAt a from_) = true) :
    ∃ f p2 j2, own f = some (0, p2, j2) ∧ f < x.L.length ∧ walkR x.L.length x.s r (vAt a from_) acc = 0 ∧ walkV x.L.length x.s r (vAt a from_) acc = ((f * 256 + (vAt a from_ % 256).toNat : Nat) : Int) ∧
      (vAt a from_ % 256).toNat + (pieceI a n from_ - from_) ≤ 256 ∧ (∀ i, from_ ≤ i → i < pieceI a n from_ → bAt z r (vAt a i) = f * 256 + (vAt a from_ % 256).toNat + (i - from_).toNat) ∧
      (∀ v, okB z r v = true → 0 ≤ v → f * 256 ≤ bAt z r v → bAt z r v < f * 256 + 256 → v / 256 = vAt a from_ / 256 ∧ bAt z r v = f * 256 + (v % 256).toNat) := by
  have hx := s.wf h
  obtain ⟨v0, v1⟩ := vAt_bd a from_
  rcases walk_at hx hr (s.a23 h hr h23) (vAt a from_) acc v0 hacc with ⟨f, h1, h2, h3, h4, h5⟩ | ⟨h1, _⟩
  · rw [s.pth h hr 3 _ (by decide)] at h3
    have hP : (vAt a from_ / 256).toNat < 32768 := by omega
    obtain ⟨p2, j2, hf⟩ := pth_high h hr (show 3 ≤ 3 by decide) h3
    have hf : own f = some (0, p2, j2) := hf
    have q3 : (32 : Nat) ^ 3 = 32768 := by decide
    refine ⟨f, p2, j2, hf, (hx.lt hf).2.1, h4, ?_, ?_, ?_, ?_⟩
    · rw [h5]; omega
    · unfold pieceI; show (vAt a from_ % 256).toNat + (min n (from_ + 256 - vAt a from_ % 256) - from_) ≤ 256; omega
    · intro i h6 h7
      obtain ⟨e1, e2, e3⟩ := wrap_at a from_ i h6 (by unfold pieceI at h7; omega)
      unfold bAt
      show ((pth z r 3 (IntKind.u64.wrap (a + i) / 256).toNat).getD 0) * 256 + (IntKind.u64.wrap (a + i) % 256).toNat = _
      rw [e2]
      show ((pth z r 3 (vAt a from_ / 256).toNat).getD 0) * 256 + _ = _
      rw [h3, Option.getD_some]
      have h8 : vAt a i = vAt a from_ + (i - from_) := e1
      have h9 : vAt a i / 256 = vAt a from_ / 256 := e2
      have : (vAt a i % 256).toNat = (vAt a from_ % 256).toNat + (i - from_).toNat := by omega
      show _ + (vAt a i % 256).toNat = _
      omega
    · intro v h6 h7 h8 h9
      unfold okB at h6
      simp only [Bool.and_eq_true, decide_eq_true_eq] at h6
      obtain ⟨h6, h10⟩ := h6
      unfold bAt at h8 h9 ⊢
      cases hq : pth z r 3 (v / 256).toNat with
      | none => rw [hq] at h10; cases h10
      | some g =>
        rw [hq, Option.getD_some] at h8 h9
        rw [Option.getD_some]
        have : g = f := by omega
        subst this
        obtain ⟨_, _, e⟩ := pth_inj h hr hr 3 (v / 256).toNat 3 (vAt a from_ / 256).toNat g (by decide) (by decide) (by omega) (by omega) hq h3
        exact ⟨by omega, rfl⟩
  · rw [s.ok h hr, hok] at h1; cases h1
theorem ext_list (s : ByteArray) (a c : Nat) : (s.extract a c).data.toList = (s.data.toList.drop a).take (c - a) := by
  simp [ByteArray.data_extract, Array.toList_extract, List.extract_eq_take_drop]
theorem write_step {fi : Nat} {z x : Sp} {own : Who} (h : WF fi z own) (s : StP z x own) {f p2 j2 : Nat} (hf : own f = some (0, p2, j2)) (hfl : f < x.L.length) (off : Nat) (y : ByteArray) (hy : off + y.size ≤ 256) :
    putS x.s ((f * 256 + off : Nat) : Int) y = putL x.s (f * 256 + off) y.data.toList ∧ f * 256 + off + y.data.toList.length ≤ x.s.length ∧ StP z ⟨x.L, putS x.s ((f * 256 + off : Nat) : Int) y⟩ own := by
  have hs := s.sz.len
  have e0 : y.data.toList.length = y.size := Array.length_toList
  have e1 : putS x.s ((f * 256 + off : Nat) : Int) y = putL x.s (f * 256 + off) y.data.toList := by
    unfold putS; rw [if_pos (inB_t (by omega)), Int.toNat_natCast]
  refine ⟨e1, by omega, ?_⟩
  rw [e1]
  refine ⟨⟨by show (putL _ _ _).length = _; rw [putL_len _ _ _ (by omega)]; exact hs, s.sz.lo, s.sz.hi⟩, s.L, fun g hh p j hg k hk => ?_⟩
  rw [← s.T g hh p j hg k hk]
  have hgl := ((s.wf h).lt hg).2.1
  have hne : g ≠ f := fun e => by rw [e, hf] at hg; injection hg with hg; injection hg with hg; omega
  show entS (putL x.s _ _) _ = entS x.s _
  exact ent_put _ _ _ (by omega) _ (by omega) (by omega)
theorem write_go {fi : Nat} {z : Sp} {own : Who} (h : WF fi z own) {r p j : Nat} (hr : own r = some (3, p, j)) (h23 : All23 z r) (a : Int) (s : ByteArray) (hs : s.size ≤ 4096) :
    ∀ (F : Nat) (from_ : Int) (x : Sp), 0 ≤ from_ → from_ ≤ s.size → s.size - from_ < F → goodFrom z r a s.size from_ → StP z x own → goodFrom z r a s.size 0 → (∀ i : Nat, (i : Int) < from_ → x.s[bAt z r (vAt a i)]? = s.data.toList[i]?) →
      (chunkX (X := Sp) id r a s.size 2 (fun p a c x => putX2 s p a c x) F from_ x).2 = 0 ∧ StP z (chunkX (X := Sp) id r a s.size 2 (fun p a c x => putX2 s p a c x) F from_ x).1 own ∧
      (∀ i : Nat, i < s.size → (chunkX (X := Sp) id r a s.size 2 (fun p a c x => putX2 s p a c x) F from_ x).1.s[bAt z r (vAt a i)]? = s.data.toList[i]?)
  | 0, from_, x, h0, h1, h2, _, _, _, _ => absurd h2 (by omega)
  | F + 1, from_, x, h0, h1, h2, hg, hst, hg0, hd => by
    rw [chunkX]
    by_cases hl : (s.size : Int) ≤ from_
    · rw [decide_eq_true hl, cond_true]
      exact ⟨rfl, hst, fun i hi => hd i (by omega)⟩
    · rw [decide_eq_false hl, cond_false]
      obtain ⟨g1, g2⟩ := (good_step (by omega)).1 hg
      obtain ⟨f, p2, j2, hf, hfl, hR, hV, hoff, hin, hout⟩ := piece_at h hst hr h23 (a := a) (acc := 2) (from_ := from_) (n := s.size) (.inr rfl) (by omega) g1
      obtain ⟨b1, b2, b3⟩ := piece_bd a s.size from_ (by omega)
      have hRR : walkR (id x).L.length (id x).s r (IntKind.u64.wrap (a + from_)) 2 = 0 := hR
      have hVV : walkV (id x).L.length (id x).s r (IntKind.u64.wrap (a + from_)) 2 = ((f * 256 + (vAt a from_ % 256).toNat : Nat) : Int) := hV
      rw [hRR, decide_eq_true rfl, cond_true, hVV]
      clear hRR hVV hR hV
      obtain ⟨c, hc⟩ : ∃ c, pieceI a s.size from_ = c := ⟨_, rfl⟩
      obtain ⟨O, hO⟩ : ∃ O, (vAt a from_ % 256).toNat = O := ⟨_, rfl⟩
      rw [hc] at b1 b2 b3 hoff hin g2 ⊢
      rw [hO] at hoff hin ⊢
      obtain ⟨A, rfl⟩ : ∃ A : Nat, from_ = (A : Int) := ⟨from_.toNat, by omega⟩
      obtain ⟨C, rfl⟩ : ∃ C : Nat, c = (C : Int) := ⟨c.toNat, by omega⟩
      have esz : (s.extract A C).size = C - A := by rw [ByteArray.size_extract]; omega
      obtain ⟨w1, w2, w3⟩ := write_step h hst hf hfl O (s.extract A C) (by omega)
      have eX : putX2 s ((f * 256 + O : Nat) : Int) A C x = ⟨x.L, putS x.s ((f * 256 + O : Nat) : Int) (s.extract A C)⟩ := rfl
      rw [eX]
      have ell : (s.extract A C).data.toList.length = C - A := by rw [← esz]; exact Array.length_toList
      refine write_go h hr h23 a s hs F C _ (by omega) (by omega) (by omega) g2 w3 hg0 (fun i hi => ?_)
      show (putS x.s _ _)[_]? = _
      rw [w1, putL_get _ _ _ w2, ell]
      by_cases hiA : (A : Int) ≤ i
      · have e := hin i hiA hi
        rw [e, if_neg (by omega), if_pos (by omega), ext_list, List.getElem?_take_of_lt (by omega), List.getElem?_drop]
        congr 1; omega
      · rw [← hd i (by omega)]
        have oki := hg0 i (by omega) (by omega)
        obtain ⟨u0, u1⟩ := vAt_bd a i
        obtain ⟨u2, u3⟩ := vAt_bd a A
        by_cases q1 : bAt z r (vAt a i) < f * 256 + O
        · rw [if_pos q1]
        · by_cases q2 : bAt z r (vAt a i) < f * 256 + O + (C - A)
          · exfalso
            obtain ⟨x1, x2⟩ := hout (vAt a i) oki u0 (by omega) (by omega)
            have x3 : vAt a i - vAt a A < C - A ∧ 0 ≤ vAt a i - vAt a A := by omega
            have x4 : (vAt a i - vAt a A - ((i : Int) - A)) % 18446744073709551616 = 0 := by unfold vAt; rw [IntKind.wrap_u64, IntKind.wrap_u64]; omega
            omega
          · rw [if_neg q1, if_neg q2]
theorem getV_sub (x : Sp) (k n : Nat) (h : k + n ≤ x.s.length) : (getV x.s (k : Int) (n : Int)).data.toList = (x.s.drop k).take n := by
  unfold getV
  rw [if_neg (by omega), if_pos (inB_t (by omega)), Int.toNat_natCast, Int.toNat_natCast]
  rfl
theorem read_go {fi : Nat} {z x : Sp} {own : Who} (h : WF fi z own) (hst : StP z x own) {r p j : Nat} (hr : own r = some (3, p, j)) (h23 : All23 z r) (a : Int) (n : Nat) (hn : n ≤ 4096) :
    ∀ (F : Nat) (from_ : Int) (l : List UInt8), 0 ≤ from_ → from_ ≤ n → n - from_ < F → goodFrom z r a n from_ → (l.length : Int) = from_ → (∀ i : Nat, (i : Int) < from_ → l[i]? = x.s[bAt z r (vAt a i)]?) →
      (chunkX (X := List UInt8) (fun _ => x) r a n 1 (fun p a b l => l ++ (getV x.s p (b - a)).data.toList) F from_ l).2 = 0 ∧
      (chunkX (X := List UInt8) (fun _ => x) r a n 1 (fun p a b l => l ++ (getV x.s p (b - a)).data.toList) F from_ l).1.length = n ∧
      (∀ i : Nat, i < n → (chunkX (X := List UInt8) (fun _ => x) r a n 1 (fun p a b l => l ++ (getV x.s p (b - a)).data.toList) F from_ l).1[i]? = x.s[bAt z r (vAt a i)]?)
  | 0, from_, l, h0, h1, h2, _, _, _ => absurd h2 (by omega)
  | F + 1, from_, l, h0, h1, h2, hg, hl0, hd => by
    rw [chunkX]
    by_cases hl : (n : Int) ≤ from_
    · rw [decide_eq_true hl, cond_true]
      exact ⟨rfl, (show l.length = n by omega), fun i hi => hd i (by omega)⟩
    · rw [decide_eq_false hl, cond_false]
      obtain ⟨g1, g2⟩ := (good_step (by omega)).1 hg
      obtain ⟨f, p2, j2, hf, hfl, hR, hV, hoff, hin, hout⟩ := piece_at h hst hr h23 (a := a) (acc := 1) (from_ := from_) (n := n) (.inl rfl) (by omega) g1
      obtain ⟨b1, b2, b3⟩ := piece_bd a n from_ (by omega)
      have hRR : walkR x.L.length x.s r (IntKind.u64.wrap (a + from_)) 1 = 0 := hR
      have hVV : walkV x.L.length x.s r (IntKind.u64.wrap (a + from_)) 1 = ((f * 256 + (vAt a from_ % 256).toNat : Nat) : Int) := hV
      rw [hRR, decide_eq_true rfl, cond_true, hVV]
      clear hRR hVV hR hV hout
      obtain ⟨c, hc⟩ : ∃ c, pieceI a n from_ = c := ⟨_, rfl⟩
      obtain ⟨O, hO⟩ : ∃ O, (vAt a from_ % 256).toNat = O := ⟨_, rfl⟩
      rw [hc] at b1 b2 b3 hoff hin g2 ⊢
      rw [hO] at hoff hin ⊢
      obtain ⟨A, rfl⟩ : ∃ A : Nat, from_ = (A : Int) := ⟨from_.toNat, by omega⟩
      obtain ⟨C, rfl⟩ : ∃ C : Nat, c = (C : Int) := ⟨c.toNat, by omega⟩
      have hsl := hst.sz.len
      have eg : (getV x.s ((f * 256 + O : Nat) : Int) ((C : Int) - A)).data.toList = (x.s.drop (f * 256 + O)).take (C - A) := by
        rw [show (C : Int) - A = ((C - A : Nat) : Int) by omega]
        exact getV_sub x _ _ (by omega)
      have egl : ((x.s.drop (f * 256 + O)).take (C - A)).length = C - A := by rw [List.length_take, List.length_drop]; omega
      refine read_go h hst hr h23 a n hn F C _ (by omega) (by omega) (by omega) g2 (by rw [List.length_append, eg, egl]; omega) (fun i hi => ?_)
      rw [eg]
      by_cases hiA : (A : Int) ≤ i
      · rw [List.getElem?_append_right (by omega), List.getElem?_take_of_lt (by omega), List.getElem?_drop, hin i hiA hi]
        congr 1; omega
      · rw [List.getElem?_append_left (by omega)]
        exact hd i (by omega)
/-- A space whose pages all may be read and written. -/
def S23 (n : Nat) (z : Sp) (r : Nat) : Prop := ∃ own, WF 0 z own ∧ (∃ p j, own r = some (3, p, j)) ∧ All23 z r ∧ z.L.length = n
theorem pth_keep {fi : Nat} {z z' : Sp} {own own' : Who} {r r' p j : Nat} (h : WF fi z own) (g : Grw fi z own z' own' r') (hr : own r = some (3, p, j)) : ∀ d m f, d ≤ 3 → pth z r d m = some f → pth z' r d m = some f
  | 0, m, f, _, e => e
  | d + 1, m, f, hd, e => by
    rw [pth_succ] at e ⊢
    cases hq : pth z r d (m / 32) with
    | none => rw [hq] at e; cases e
    | some g0 =>
      rw [hq] at e
      have e : kid z g0 (m % 32) = some f := e
      rw [pth_keep h g hr d (m / 32) g0 (by omega) hq]
      obtain ⟨p1, j1, ho⟩ := pth_high h hr (by omega) hq
      have ho : own g0 = some ((2 - d) + 1, p1, j1) := by rw [ho, show 3 - d = (2 - d) + 1 by omega]
      have hk := g.keep g0 (2 - d) p1 j1 ho (m % 32) (by omega) (fun e0 => by rw [kid_zero e0] at e; cases e)
      show kid z' g0 (m % 32) = some f
      rw [kid_congr hk]; exact e
theorem S23.map {n : Nat} {z : Sp} {r : Nat} (h : S23 n z r) (pg : Int) : S23 n (mapX 0 z r pg 23) r := by
  obtain ⟨own, hw, ⟨p, j, hr⟩, h23, hl⟩ := h
  rcases map_inv hw hr pg 23 (by decide) with e | ⟨P, b, hP, hb1, hb2, rfl, hb, hno, hlt⟩
  · rw [e]; exact ⟨own, hw, ⟨p, j, hr⟩, h23, hl⟩
  · obtain rfl : b = 23 := by omega
    obtain ⟨_, own', g, his, _, t0, gn, q1, q2, q3, q4⟩ := map_ok hw hr hP hb1 hb2 hno hlt
    have hr' := g.old _ _ hr
    refine ⟨own', g.wf, ⟨p, j, hr'⟩, fun Q f hQ hf => ?_, by rw [← hl]; exact g.len⟩
    have c3 : (32 : Nat) ^ 3 = 32768 := by decide
    by_cases e : Q = P
    · subst e
      refine ⟨t0, q1, ?_⟩
      obtain ⟨p1, j1, ht⟩ := pth_high g.wf hr' (show 2 ≤ 3 by decide) q1
      have ht : own' t0 = some (0 + 1, p1, j1) := ht
      have hk := pth_kid (z := mapX 0 z r Q 23) (r := r) (d := 2) (m := Q / 32) (k := Q % 32) (by omega) q1
      rw [show Q / 32 * 32 + Q % 32 = Q by omega] at hk
      have h1 : kid (mapX 0 z r Q 23) t0 (Q % 32) = some gn := (g.wf.kid_iff ht (by omega)).2 q4
      have : f = gn := Option.some.inj (hf.symm.trans (hk.trans h1))
      rw [this]; exact q2
    · have h3 := his 3 Q (by decide) (by omega)
      rw [show (mapX 0 z r P 23) = mapX 0 z r P (23 : Nat) from rfl] at hf ⊢
      rw [hf, decide_eq_false (by omega), decide_eq_false (by omega), decide_eq_false (by omega), Bool.or_false, Bool.or_false, Bool.or_false] at h3
      obtain ⟨f0, hf0⟩ : ∃ f0, pth z r 3 Q = some f0 := by
        cases hq : pth z r 3 Q with
        | none => rw [hq] at h3; cases h3
        | some f0 => exact ⟨f0, rfl⟩
      obtain ⟨t1, r1, r2⟩ := h23 Q f0 hQ hf0
      obtain ⟨p1, j1, ht⟩ := pth_high hw hr (show 2 ≤ 3 by decide) r1
      have ht : own t1 = some (0 + 1, p1, j1) := ht
      obtain ⟨t1', s1⟩ := pth_up 1 2 Q f hf
      rw [show Q / 32 ^ 1 = Q / 32 by rw [Nat.pow_one]] at s1
      have hkeep := pth_keep hw g hr 2 (Q / 32) t1 (by decide) r1
      have e1 : t1' = t1 := Option.some.inj (s1.symm.trans hkeep)
      have hT := g.keep t1 0 p1 j1 ht (Q % 32) (by omega) (by rw [r2]; omega)
      have hk := pth_kid (z := mapX 0 z r P (23 : Nat)) (r := r) (d := 2) (m := Q / 32) (k := Q % 32) (by omega) hkeep
      rw [show Q / 32 * 32 + Q % 32 = Q by omega] at hk
      have hk2 : kid (mapX 0 z r P (23 : Nat)) t1 (Q % 32) = kid z t1 (Q % 32) := kid_congr hT
      have hk3 := pth_kid (z := z) (r := r) (d := 2) (m := Q / 32) (k := Q % 32) (by omega) r1
      rw [show Q / 32 * 32 + Q % 32 = Q by omega] at hk3
      have : f = f0 := Option.some.inj (hf.symm.trans (hk.trans (hk2.trans (hk3.symm.trans hf0))))
      exact ⟨t1, hkeep, by rw [hT, r2, this]⟩
theorem S23.new {n : Nat} (h1 : 1 ≤ n) (h2 : n ≤ 256) (s : List UInt8) (hs : s.length = n * 256) {r : Nat} (hr0 : takeN (freshL n 0) 0 = r) : S23 n (takeX 0 ⟨freshL n 0, s⟩) r := by
  have hw := wf_none n h1 h2 s hs
  obtain ⟨r', e1, e2, hone, hl⟩ := oneS_new h1 h2 s hs
  have hq : takeB (freshL n 0) 0 = true := by
    cases q : takeB (freshL n 0) 0 with
    | true => rfl
    | false =>
      have := (take_nb q).2.1
      rw [this] at e2; cases e2
  obtain ⟨r2, f1, f2, f3, f4, f5⟩ := wf_new hw hq
  have er : r2 = r := by
    have h : ((r2 : Nat) : Int) = r := f1.symm.trans hr0
    omega
  subst er
  obtain ⟨own, _, _, _, _, hL⟩ := hone
  refine ⟨_, f4, ⟨0, 0, by unfold upd; rw [if_pos rfl]⟩, fun P f hP hf => ?_, hL⟩
  have hz0 : ∀ k, k < 32 → T (takeX 0 ⟨freshL n 0, s⟩) r2 k = 0 := fun k hk => by rw [f5 r2 k f2 hk, if_pos rfl]
  rw [pth_fresh hz0 2 P] at hf; cases hf
end Go.Proofs.YtbcnibnkojnpiaaGreat.P
