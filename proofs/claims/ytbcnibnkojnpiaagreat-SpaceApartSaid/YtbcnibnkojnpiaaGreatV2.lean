/- Stage 11: the walk through a space, whatever its pages' bits; what is written into a page leaves it. No condition. -/
import Derived.Test.YtbcnibnkojnpiaaGreatEN
import Derived.Test.YtbcnibnkojnpiaaGreatEX
set_option linter.unusedVariables false
set_option linter.unusedSimpArgs false
set_option maxRecDepth 100000
namespace Go.Proofs.YtbcnibnkojnpiaaGreat.P
open Go.RowKit Go.MuLone Go.Maps Go.Proofs.YtbcnibnkojnpiaaGreat.W
theorem need_pos {acc : Int} (h : acc = 1 ∨ acc = 2) : neededI acc = 2 ∨ neededI acc = 4 := by
  rcases h with rfl | rfl
  · exact .inl rfl
  · exact .inr rfl
theorem leaf_far {z : Sp} {r v : Int} (h0 : 0 ≤ r) (h1 : r < z.L.length) (hv : ¬ v < 8388608) : leafR z.L.length z.s r v = 3 := by
  unfold leafR
  rw [decide_eq_true h0, decide_eq_true h1, decide_eq_false hv, Bool.true_and, cond_true, cond_false]
/-- What an address comes to: a page's frame, or nothing. -/
theorem walk_full {fi : Nat} {z : Sp} {own : Who} (h : WF fi z own) {r p j : Nat} (hr : own r = some (3, p, j)) (v acc : Int) (h0 : 0 ≤ v) (hacc : acc = 1 ∨ acc = 2) :
    (walkR z.L.length z.s r v acc = 3 ∧ walkV z.L.length z.s r v acc = 0) ∨
    (∃ f t0 b, v < 8388608 ∧ pth z r 2 ((v / 256).toNat / 32) = some t0 ∧ T z t0 ((v / 256).toNat % 32) = ((f * 1024 + b : Nat) : Int) ∧ b < 32 ∧ own f = some (0, t0, (v / 256).toNat % 32) ∧ f < z.L.length ∧ mayB (neededI acc) (b : Int) = true ∧ walkR z.L.length z.s r v acc = 0 ∧ walkV z.L.length z.s r v acc = ((f * 256 + (v % 256).toNat : Nat) : Int)) := by
  have hn0 : decide (neededI acc = 0) = false := by rcases hacc with rfl | rfl <;> decide
  have hk := need_pos hacc
  have hrl := h.lt hr
  have z3 : leafR z.L.length z.s r v = 3 → walkR z.L.length z.s r v acc = 3 ∧ walkV z.L.length z.s r v acc = 0 := fun e => by
    have hR : walkR z.L.length z.s r v acc = 3 := by
      unfold walkR; rw [hn0, e, cond_false, decide_eq_false (by decide), cond_false]
    refine ⟨hR, ?_⟩
    unfold walkV; rw [hR, decide_eq_false (by decide), cond_false]
  by_cases hv : v < 8388608
  · obtain ⟨P, hP⟩ : ∃ P, P = (v / 256).toNat := ⟨_, rfl⟩
    have hPb : P < 32768 := by omega
    obtain ⟨eR, eV⟩ := leaf_same (fr := z.L.length) (s := z.s) (r := (r : Int)) hv hP h0
    rw [← hP]
    rcases leaf_tab h hr hPb with ⟨_, e2, _⟩ | ⟨_, _, _, e3, _⟩ | ⟨t1, t0, e1, e2, e3, e4⟩
    · exact .inl (z3 (eR.trans e2))
    · exact .inl (z3 (eR.trans e3))
    · have hE : walkE z.L.length z.s r v = T z t0 (P % 32) := by
        unfold walkE; rw [eV, e4]; rfl
      obtain ⟨c1, c2, hot⟩ := pth_high h hr (show 2 ≤ 3 by decide) e2
      have hR0 : decide (leafR z.L.length z.s r v = 0) = true := decide_eq_true (eR.trans e3)
      have hRR : walkR z.L.length z.s r v acc = bif mayB (neededI acc) (T z t0 (P % 32)) && decide (T z t0 (P % 32) / 1024 < (z.L.length : Int)) then 0 else 3 := by
        unfold walkR; rw [hn0, cond_false, hR0, cond_true, hE]
      rcases h.ch t0 0 c1 c2 hot (P % 32) (by omega) with c | ⟨f, b, q1, q2, q3, _, q5⟩
      · left
        have hR : walkR z.L.length z.s r v acc = 3 := by rw [hRR, c, may_zero, Bool.false_and, cond_false]
        refine ⟨hR, ?_⟩
        unfold walkV; rw [hR, decide_eq_false (by decide), cond_false]
      · have hfl := (h.lt q5).2.1
        have hd : ((f * 1024 + b : Nat) : Int) / 1024 = (f : Int) := by omega
        have hm : mayB (neededI acc) ((f * 1024 + b : Nat) : Int) = mayB (neededI acc) (b : Int) := by
          unfold mayB
          have m1 : ((f * 1024 + b : Nat) : Int) % 2 = (b : Int) % 2 := by omega
          have m2 : ((f * 1024 + b : Nat) : Int) / 16 % 2 = (b : Int) / 16 % 2 := by omega
          have m3 : ((f * 1024 + b : Nat) : Int) / neededI acc % 2 = (b : Int) / neededI acc % 2 := by rcases hk with e | e <;> rw [e] <;> omega
          rw [m1, m2, m3]
        rw [q1, hm, hd, decide_eq_true (show (f : Int) < (z.L.length : Int) by omega), Bool.and_true] at hRR
        cases hq : mayB (neededI acc) (b : Int) with
        | false =>
          left
          have hR : walkR z.L.length z.s r v acc = 3 := by rw [hRR, hq, cond_false]
          refine ⟨hR, ?_⟩
          unfold walkV; rw [hR, decide_eq_false (by decide), cond_false]
        | true =>
          right
          have hR : walkR z.L.length z.s r v acc = 0 := by rw [hRR, hq, cond_true]
          refine ⟨f, t0, b, hv, e2, q1, q3, q5, hfl, hq, hR, ?_⟩
          unfold walkV; rw [hR, decide_eq_true rfl, cond_true, hE, q1, hd]; omega
  · exact .inl (z3 (leaf_far (by omega) (by omega) hv))
/-- The walk is the same where only pages differ. -/
theorem walk_stp {fi : Nat} {z x : Sp} {own : Who} (h : WF fi z own) (s : StP z x own) {r p j : Nat} (hr : own r = some (3, p, j)) (v acc : Int) (h0 : 0 ≤ v) (hacc : acc = 1 ∨ acc = 2) :
    walkR x.L.length x.s r v acc = walkR z.L.length z.s r v acc ∧ walkV x.L.length x.s r v acc = walkV z.L.length z.s r v acc := by
  have hx := s.wf h
  rcases walk_full h hr v acc h0 hacc with ⟨a1, a2⟩ | ⟨f, t0, b, a0, a1, a2, a3, a4, a5, a6, a7, a8⟩
  · rcases walk_full hx hr v acc h0 hacc with ⟨b1, b2⟩ | ⟨f', t0', b', b0, b1, b2, b3, b4, b5, b6, b7, b8⟩
    · exact ⟨b1.trans a1.symm, b2.trans a2.symm⟩
    · exfalso
      rw [s.pth h hr 2 _ (by decide)] at b1
      obtain ⟨p2, j2, ho⟩ := pth_high h hr (show 2 ≤ 3 by decide) b1
      replace ho : own t0' = some (0 + 1, p2, j2) := ho
      rw [s.T t0' 0 p2 j2 ho _ (by omega)] at b2
      have hP : (v / 256).toNat < 32768 := by omega
      obtain ⟨eR, eV⟩ := leaf_same (fr := z.L.length) (s := z.s) (r := (r : Int)) b0 rfl h0
      have hk := need_pos hacc
      have hn0 : decide (neededI acc = 0) = false := by rcases hacc with rfl | rfl <;> decide
      have : walkR z.L.length z.s r v acc = 0 := by
        rcases leaf_tab h hr hP with ⟨e1, _, _⟩ | ⟨_, _, e1, _, _⟩ | ⟨t1, t0, e1, e2, e3, e4⟩
        · have := pth_pre' (m := (v / 256).toNat / 32) (d := 1) (z := z) (r := r) (by rw [show (v / 256).toNat / 32 / 32 = (v / 256).toNat / 1024 by omega]; exact e1)
          rw [b1] at this; cases this
        · rw [b1] at e1; cases e1
        · have : t0' = t0 := Option.some.inj (b1.symm.trans e2)
          subst this
          have hE : walkE z.L.length z.s r v = ((f' * 1024 + b' : Nat) : Int) := by
            unfold walkE; rw [eV, e4]; exact b2
          have hd : ((f' * 1024 + b' : Nat) : Int) / 1024 = (f' : Int) := by omega
          have hm : mayB (neededI acc) ((f' * 1024 + b' : Nat) : Int) = mayB (neededI acc) (b' : Int) := by
            unfold mayB
            have m1 : ((f' * 1024 + b' : Nat) : Int) % 2 = (b' : Int) % 2 := by omega
            have m2 : ((f' * 1024 + b' : Nat) : Int) / 16 % 2 = (b' : Int) / 16 % 2 := by omega
            have m3 : ((f' * 1024 + b' : Nat) : Int) / neededI acc % 2 = (b' : Int) / neededI acc % 2 := by rcases hk with e | e <;> rw [e] <;> omega
            rw [m1, m2, m3]
          unfold walkR
          rw [hn0, cond_false, decide_eq_true (eR.trans e3), cond_true, hE, hm, b6, hd, decide_eq_true (show (f' : Int) < (z.L.length : Int) by have := s.L; rw [this] at b5; omega)]; rfl
      rw [a1] at this; cases this
  · rcases walk_full hx hr v acc h0 hacc with ⟨b1, b2⟩ | ⟨f', t0', b', b0, b1, b2, b3, b4, b5, b6, b7, b8⟩
    · exfalso
      obtain ⟨p2, j2, ho⟩ := pth_high h hr (show 2 ≤ 3 by decide) a1
      replace ho : own t0 = some (0 + 1, p2, j2) := ho
      have hP : (v / 256).toNat < 32768 := by omega
      obtain ⟨eR, eV⟩ := leaf_same (fr := x.L.length) (s := x.s) (r := (r : Int)) a0 rfl h0
      have hk := need_pos hacc
      have hn0 : decide (neededI acc = 0) = false := by rcases hacc with rfl | rfl <;> decide
      have a1' : pth x r 2 ((v / 256).toNat / 32) = some t0 := by rw [s.pth h hr 2 _ (by decide)]; exact a1
      have : walkR x.L.length x.s r v acc = 0 := by
        rcases leaf_tab hx hr hP with ⟨e1, _, _⟩ | ⟨_, _, e1, _, _⟩ | ⟨t1, t0', e1, e2, e3, e4⟩
        · have := pth_pre' (m := (v / 256).toNat / 32) (d := 1) (z := x) (r := r) (by rw [show (v / 256).toNat / 32 / 32 = (v / 256).toNat / 1024 by omega]; exact e1)
          rw [a1'] at this; cases this
        · rw [a1'] at e1; cases e1
        · have : t0 = t0' := Option.some.inj (a1'.symm.trans e2)
          subst this
          have hE : walkE x.L.length x.s r v = ((f * 1024 + b : Nat) : Int) := by
            unfold walkE; rw [eV, e4]; exact (s.T t0 0 p2 j2 ho _ (by omega)).trans a2
          have hd : ((f * 1024 + b : Nat) : Int) / 1024 = (f : Int) := by omega
          have hm : mayB (neededI acc) ((f * 1024 + b : Nat) : Int) = mayB (neededI acc) (b : Int) := by
            unfold mayB
            have m1 : ((f * 1024 + b : Nat) : Int) % 2 = (b : Int) % 2 := by omega
            have m2 : ((f * 1024 + b : Nat) : Int) / 16 % 2 = (b : Int) / 16 % 2 := by omega
            have m3 : ((f * 1024 + b : Nat) : Int) / neededI acc % 2 = (b : Int) / neededI acc % 2 := by rcases hk with e | e <;> rw [e] <;> omega
            rw [m1, m2, m3]
          unfold walkR
          rw [hn0, cond_false, decide_eq_true (eR.trans e3), cond_true, hE, hm, a6, hd, decide_eq_true (show (f : Int) < (x.L.length : Int) by have := s.L; rw [this]; omega)]; rfl
      rw [b1] at this; cases this
    · refine ⟨b7.trans a7.symm, ?_⟩
      rw [s.pth h hr 2 _ (by decide)] at b1
      have : t0' = t0 := Option.some.inj (b1.symm.trans a1)
      subst this
      obtain ⟨p2, j2, ho⟩ := pth_high h hr (show 2 ≤ 3 by decide) a1
      replace ho : own t0' = some (0 + 1, p2, j2) := ho
      rw [s.T t0' 0 p2 j2 ho _ (by omega), a2] at b2
      have : f' = f := by omega
      rw [b8, a8, this]
/-- One byte put into a page's frame. -/
theorem set_put (s : List UInt8) (q : Nat) (v : UInt8) (h : q < s.length) : putL s q [v] = s.set q v := by
  apply List.ext_getElem?
  intro i
  rw [putL_get _ _ _ (by show q + 1 ≤ _; omega), List.getElem?_set, show [v].length = 1 from rfl]
  by_cases h1 : i < q
  · rw [if_pos h1, if_neg (by omega)]
  · rw [if_neg h1]
    by_cases h2 : i = q
    · subst h2
      rw [if_pos (show i < i + 1 by omega), if_pos rfl, if_pos h]; simp
    · rw [if_neg (show ¬ i < q + 1 by omega), if_neg (by omega)]
theorem stp_set {fi : Nat} {z x : Sp} {own : Who} (h : WF fi z own) (s : StP z x own) {f p2 j2 : Nat} (hf : own f = some (0, p2, j2)) (o : Nat) (ho : o < 256) (v : UInt8) : StP z ⟨x.L, x.s.set (f * 256 + o) v⟩ own := by
  have hfl : f < x.L.length := by rw [s.L]; exact (h.lt hf).2.1
  obtain ⟨w1, w2, w3⟩ := write_step h s hf hfl o ⟨#[v]⟩ (by show o + 1 ≤ 256; omega)
  rw [w1] at w3
  have hl := s.sz.len
  have e : putL x.s (f * 256 + o) (⟨#[v]⟩ : ByteArray).data.toList = x.s.set (f * 256 + o) v := set_put _ _ _ (by rw [hl]; omega)
  rw [e] at w3
  exact w3
end Go.Proofs.YtbcnibnkojnpiaaGreat.P
namespace Go.Proofs.YtbcnibnkojnpiaaGreat.P
open Go.RowKit Go.MuLone Go.Maps Go.Proofs.YtbcnibnkojnpiaaGreat.W
variable {fi : Nat} {z x : Sp} {own : Who} {r p j : Nat}
def okAt (z : Sp) (r a acc i : Int) : Bool := decide (walkR z.L.length z.s r (vAt a i) acc = 0)
def atAt (z : Sp) (r a acc i : Int) : Nat := (walkV z.L.length z.s r (vAt a i) acc).toNat
/-- The document's In, from the byte i on, k of them left. -/
def rinF (z : Sp) (r a : Int) : Nat → Nat → List UInt8 → List UInt8 × Int
  | 0, _, l => (l, 0)
  | k + 1, i, l => bif okAt z r a 1 i then rinF z r a k (i + 1) (l ++ [z.s.getD (atAt z r a 1 i) 0]) else ([], 3)
/-- May all be written? -/
def rckF (z : Sp) (r a : Int) : Nat → Nat → Int
  | 0, _ => 0
  | k + 1, i => bif okAt z r a 2 i then rckF z r a k (i + 1) else 3
/-- The document's Out behind that. -/
def rouF (r a : Int) (s : ByteArray) : Nat → Nat → Sp → Sp
  | 0, _, z => z
  | k + 1, i, z => rouF r a s k (i + 1) ⟨z.L, z.s.set (atAt z r a 2 i) (s.data.toList.getD i 0)⟩
/-- The bytes of a piece: all in one page. -/
theorem piece_ok (h : WF fi z own) (hr : own r = some (3, p, j)) {a acc n A : Int} (hacc : acc = 1 ∨ acc = 2) (hA : A < n) :
    (walkR z.L.length z.s r (vAt a A) acc = 3 ∧ okAt z r a acc A = false) ∨
    (∃ f p2 j2, own f = some (0, p2, j2) ∧ f < z.L.length ∧ walkR z.L.length z.s r (vAt a A) acc = 0 ∧ walkV z.L.length z.s r (vAt a A) acc = ((f * 256 + (vAt a A % 256).toNat : Nat) : Int) ∧
      (vAt a A % 256).toNat + (pieceI a n A - A) ≤ 256 ∧ A < pieceI a n A ∧ pieceI a n A ≤ n ∧ ∀ i, A ≤ i → i < pieceI a n A → okAt z r a acc i = true ∧ atAt z r a acc i = f * 256 + (vAt a A % 256).toNat + (i - A).toNat) := by
  obtain ⟨v0, v1⟩ := vAt_bd a A
  obtain ⟨b1, b2, b3⟩ := piece_bd a n A hA
  rcases walk_full h hr (vAt a A) acc v0 hacc with ⟨e1, _⟩ | ⟨f, t0, b, a0, a1, a2, a3, a4, a5, a6, a7, a8⟩
  · refine .inl ⟨e1, ?_⟩
    unfold okAt; rw [e1]; rfl
  · refine .inr ⟨f, _, _, a4, a5, a7, a8, ?_, b1, b2, fun i h1 h2 => ?_⟩
    · unfold pieceI; show (vAt a A % 256).toNat + (min n (A + 256 - vAt a A % 256) - A) ≤ 256; omega
    · obtain ⟨e1, e2, e3⟩ := wrap_at a A i h1 (by unfold pieceI at h2; omega)
      have q1 : vAt a i = vAt a A + (i - A) := e1
      have q2 : vAt a i / 256 = vAt a A / 256 := e2
      obtain ⟨u0, u1⟩ := vAt_bd a i
      have h3 : i - A < 256 - vAt a A % 256 := by unfold pieceI at h2; have : pieceI a n A ≤ A + 256 - vAt a A % 256 := by { unfold pieceI; exact Int.min_le_right _ _ }; unfold pieceI at this; omega
      rcases walk_full h hr (vAt a i) acc u0 hacc with ⟨c1, _⟩ | ⟨f', t0', b', c0, c1, c2, c3, c4, c5, c6, c7, c8⟩
      · exfalso
        have hP : (vAt a A / 256).toNat < 32768 := by omega
        have : walkR z.L.length z.s r (vAt a i) acc = walkR z.L.length z.s r (vAt a A) acc := by
          obtain ⟨eR, eV⟩ := leaf_same (fr := z.L.length) (s := z.s) (r := (r : Int)) a0 rfl v0
          obtain ⟨eR', eV'⟩ := leaf_same (fr := z.L.length) (s := z.s) (r := (r : Int)) (v := vAt a i) (P := (vAt a A / 256).toNat) (by omega) (by rw [q2]) u0
          unfold walkR walkE; rw [eR, eV, eR', eV']
        rw [c1, a7] at this; cases this
      · rw [q2, a1] at c1
        have : t0 = t0' := Option.some.inj c1
        subst this
        rw [q2, a2] at c2
        have : f' = f := by omega
        subst this
        refine ⟨by unfold okAt; rw [c7]; rfl, ?_⟩
        unfold atAt
        rw [c8, Int.toNat_natCast]
        have : (vAt a i % 256).toNat = (vAt a A % 256).toNat + (i - A).toNat := by omega
        omega
theorem rin_run (z : Sp) (r a : Int) : ∀ (d k i : Nat) (l : List UInt8), d ≤ k → (∀ e, e < d → okAt z r a 1 ((i + e : Nat) : Int) = true) → rinF z r a k i l = rinF z r a (k - d) (i + d) (l ++ (List.range d).map (fun e => z.s.getD (atAt z r a 1 ((i + e : Nat) : Int)) 0))
  | 0, k, i, l, _, _ => by simp
  | d + 1, k, i, l, hd, hok => by
    obtain ⟨K, rfl⟩ : ∃ K, k = K + 1 := ⟨k - 1, by omega⟩
    rw [rinF]
    have h0 := hok 0 (by omega)
    rw [Nat.add_zero] at h0
    rw [h0, cond_true, rin_run z r a d K (i + 1) _ (by omega) (fun e he => by have := hok (e + 1) (by omega); rw [show i + (e + 1) = i + 1 + e by omega] at this; exact this)]
    rw [List.range_succ_eq_map, List.map_cons, List.map_map, show K + 1 - (d + 1) = K - d by omega, show i + 1 + d = i + (d + 1) by omega, List.append_assoc]
    congr 1
    show _ = l ++ (_ :: _)
    congr 1
    rw [Nat.add_zero]
    show _ :: _ = _ :: _
    congr 1
    apply List.map_congr_left
    intro e _
    show z.s.getD (atAt z r a 1 ((i + 1 + e : Nat) : Int)) 0 = z.s.getD (atAt z r a 1 ((i + (e + 1) : Nat) : Int)) 0
    rw [show i + 1 + e = i + (e + 1) by omega]
theorem rck_run (z : Sp) (r a : Int) : ∀ (d k i : Nat), d ≤ k → (∀ e, e < d → okAt z r a 2 ((i + e : Nat) : Int) = true) → rckF z r a k i = rckF z r a (k - d) (i + d)
  | 0, k, i, _, _ => by simp
  | d + 1, k, i, hd, hok => by
    obtain ⟨K, rfl⟩ : ∃ K, k = K + 1 := ⟨k - 1, by omega⟩
    rw [rckF]
    have h0 := hok 0 (by omega)
    rw [Nat.add_zero] at h0
    rw [h0, cond_true, rck_run z r a d K (i + 1) (by omega) (fun e he => by have := hok (e + 1) (by omega); rw [show i + (e + 1) = i + 1 + e by omega] at this; exact this)]
    rw [show K + 1 - (d + 1) = K - d by omega, show i + 1 + d = i + (d + 1) by omega]
theorem getV_sub2 (s : List UInt8) (p k : Nat) (h : p + k ≤ s.length) : (getV s (p : Int) (k : Int)).data.toList = (s.drop p).take k := by
  unfold getV subB
  rw [if_neg (by omega), if_pos (inB_t (by omega)), Int.toNat_natCast, Int.toNat_natCast]
theorem in_bytes (h : WF fi z own) (hr : own r = some (3, p, j)) (a : Int) (n : Nat) : ∀ (F A : Nat) (l : List UInt8), A ≤ n → n - A < F →
    (chunkX (X := List UInt8) (fun _ => z) r a n 1 (fun p a b x => x ++ (getV z.s p (b - a)).data.toList) F A l).2 = (rinF z r a (n - A) A l).2 ∧
    ((rinF z r a (n - A) A l).2 = 0 → (chunkX (X := List UInt8) (fun _ => z) r a n 1 (fun p a b x => x ++ (getV z.s p (b - a)).data.toList) F A l).1 = (rinF z r a (n - A) A l).1)
  | 0, A, l, _, h2 => absurd h2 (Nat.not_lt_zero _)
  | F + 1, A, l, h1, h2 => by
    rw [chunkX]
    by_cases hl : n ≤ A
    · obtain rfl : A = n := by omega
      rw [decide_eq_true (Int.le_refl _), cond_true, Nat.sub_self]
      exact ⟨rfl, fun _ => rfl⟩
    · rw [decide_eq_false (by omega), cond_false]
      rcases piece_ok h hr (a := a) (acc := 1) (n := n) (A := A) (.inl rfl) (by omega) with ⟨e1, e2⟩ | ⟨f, p2, j2, hf, hfl, hR, hV, hoff, b1, b2, hin⟩
      · obtain ⟨K, hK⟩ : ∃ K, n - A = K + 1 := ⟨n - A - 1, by omega⟩
        have e1' : walkR z.L.length z.s r (IntKind.u64.wrap (a + A)) 1 = 3 := e1
        rw [e1', decide_eq_false (by decide), cond_false, hK, rinF, e2, cond_false]
        exact ⟨rfl, fun e => by cases e⟩
      · have hR' : walkR z.L.length z.s r (IntKind.u64.wrap (a + A)) 1 = 0 := hR
        have hV' : walkV z.L.length z.s r (IntKind.u64.wrap (a + A)) 1 = ((f * 256 + (vAt a A % 256).toNat : Nat) : Int) := hV
        rw [hR', decide_eq_true rfl, cond_true, hV']
        obtain ⟨O, hO⟩ : ∃ O, (vAt a A % 256).toNat = O := ⟨_, rfl⟩
        obtain ⟨C, hC⟩ : ∃ C : Nat, pieceI a n A = (C : Int) := ⟨(pieceI a n A).toNat, by omega⟩
        rw [hO] at hin hoff ⊢
        rw [hC] at b1 b2 hin hoff ⊢
        have hlen := h.sz.len
        have hmb : f * 256 + O + (C - A) ≤ z.s.length := by rw [hlen]; omega
        have eg : (getV z.s ((f * 256 + O : Nat) : Int) ((C : Int) - (A : Int))).data.toList = (List.range (C - A)).map (fun e => z.s.getD (atAt z r a 1 ((A + e : Nat) : Int)) 0) := by
          rw [show (C : Int) - (A : Int) = ((C - A : Nat) : Int) by omega, getV_sub2 _ _ _ hmb]
          apply List.ext_getElem?
          intro i
          by_cases hi : i < C - A
          · rw [List.getElem?_take_of_lt hi, List.getElem?_drop, List.getElem?_map, List.getElem?_range hi]
            show _ = some (z.s.getD (atAt z r a 1 ((A + i : Nat) : Int)) 0)
            rw [(hin ((A + i : Nat) : Int) (by omega) (by omega)).2, List.getD_eq_getElem?_getD, show f * 256 + O + (((A + i : Nat) : Int) - (A : Int)).toNat = f * 256 + O + i by omega, List.getElem?_eq_getElem (by omega)]; rfl
          · rw [List.getElem?_eq_none (by rw [List.length_take]; omega), List.getElem?_eq_none (by rw [List.length_map, List.length_range]; omega)]
        rw [eg, rin_run z r a (C - A) (n - A) A l (by omega) (fun e he => (hin ((A + e : Nat) : Int) (by omega) (by omega)).1), show n - A - (C - A) = n - C by omega, show A + (C - A) = C by omega]
        exact in_bytes h hr a n F C _ (by omega) (by omega)
theorem ck_bytes (h : WF fi z own) (hr : own r = some (3, p, j)) (a : Int) (n : Nat) : ∀ (F A : Nat), A ≤ n → n - A < F →
    (chunkX (X := Unit) (fun _ => z) r a n 2 (fun _ _ _ u => u) F A ()).2 = rckF z r a (n - A) A
  | 0, A, _, h2 => absurd h2 (Nat.not_lt_zero _)
  | F + 1, A, h1, h2 => by
    rw [chunkX]
    by_cases hl : n ≤ A
    · obtain rfl : A = n := by omega
      rw [decide_eq_true (Int.le_refl _), cond_true, Nat.sub_self]
      rfl
    · rw [decide_eq_false (by omega), cond_false]
      rcases piece_ok h hr (a := a) (acc := 2) (n := n) (A := A) (.inr rfl) (by omega) with ⟨e1, e2⟩ | ⟨f, p2, j2, hf, hfl, hR, hV, hoff, b1, b2, hin⟩
      · obtain ⟨K, hK⟩ : ∃ K, n - A = K + 1 := ⟨n - A - 1, by omega⟩
        have e1' : walkR z.L.length z.s r (IntKind.u64.wrap (a + A)) 2 = 3 := e1
        rw [e1', decide_eq_false (by decide), cond_false, hK, rckF, e2, cond_false]
      · have hR' : walkR z.L.length z.s r (IntKind.u64.wrap (a + A)) 2 = 0 := hR
        rw [hR', decide_eq_true rfl, cond_true]
        obtain ⟨C, hC⟩ : ∃ C : Nat, pieceI a n A = (C : Int) := ⟨(pieceI a n A).toNat, by omega⟩
        rw [hC] at b1 b2 hin ⊢
        rw [rck_run z r a (C - A) (n - A) A (by omega) (fun e he => (hin ((A + e : Nat) : Int) (by omega) (by omega)).1), show n - A - (C - A) = n - C by omega, show A + (C - A) = C by omega]
        exact ck_bytes h hr a n F C (by omega) (by omega)
theorem rck_ok (z : Sp) (r a : Int) : ∀ (k i : Nat), rckF z r a k i = 0 → ∀ e, e < k → okAt z r a 2 ((i + e : Nat) : Int) = true
  | 0, i, _, e, he => absurd he (Nat.not_lt_zero _)
  | k + 1, i, h, e, he => by
    rw [rckF] at h
    cases q : okAt z r a 2 (i : Int) with
    | false => rw [q, cond_false] at h; cases h
    | true =>
      rw [q, cond_true] at h
      cases e with
      | zero => rw [Nat.add_zero]; exact q
      | succ e => have := rck_ok z r a k (i + 1) h e (by omega); rw [show i + (e + 1) = i + 1 + e by omega]; exact this
theorem at_stp (h : WF fi z own) (s : StP z x own) (hr : own r = some (3, p, j)) (a acc i : Int) (hacc : acc = 1 ∨ acc = 2) : okAt x r a acc i = okAt z r a acc i ∧ atAt x r a acc i = atAt z r a acc i := by
  obtain ⟨v0, _⟩ := vAt_bd a i
  obtain ⟨e1, e2⟩ := walk_stp h s hr (vAt a i) acc v0 hacc
  unfold okAt atAt
  rw [e1, e2]; exact ⟨rfl, rfl⟩
/-- A run of bytes in one page. -/
theorem rou_run (h : WF fi z own) (hr : own r = some (3, p, j)) (a : Int) (y : ByteArray) {f p2 j2 O : Nat} (hf : own f = some (0, p2, j2)) : ∀ (d k i : Nat) (x : Sp), StP z x own → d ≤ k → i + d ≤ y.size → O + d ≤ 256 → (∀ e, e < d → atAt z r a 2 ((i + e : Nat) : Int) = f * 256 + O + e) →
    rouF r a y k i x = rouF r a y (k - d) (i + d) ⟨x.L, putL x.s (f * 256 + O) ((y.data.toList.drop i).take d)⟩ ∧ StP z ⟨x.L, putL x.s (f * 256 + O) ((y.data.toList.drop i).take d)⟩ own
  | 0, k, i, x, s, _, _, hO, _ => by
    have e : putL x.s (f * 256 + O) ((y.data.toList.drop i).take 0) = x.s := by
      rw [List.take_zero]; unfold putL; simp
    rw [e]
    exact ⟨by simp, s⟩
  | d + 1, k, i, x, s, hd, hi, hO, hat => by
    have hl := s.sz.len
    have hfl : f < x.L.length := by rw [s.L]; exact (h.lt hf).2.1
    have hy : y.data.toList.length = y.size := Array.length_toList
    obtain ⟨e1, e2⟩ := rou_run h hr a y hf d k i x s (by omega) (by omega) (by omega) (fun e he => hat e (by omega))
    obtain ⟨K, hK⟩ : ∃ K, k - d = K + 1 := ⟨k - d - 1, by omega⟩
    have hA : atAt ⟨x.L, putL x.s (f * 256 + O) ((y.data.toList.drop i).take d)⟩ r a 2 ((i + d : Nat) : Int) = f * 256 + O + d := by
      rw [(at_stp h e2 hr a 2 _ (.inr rfl)).2]; exact hat d (by omega)
    have hput : (putL x.s (f * 256 + O) ((y.data.toList.drop i).take d)).set (f * 256 + O + d) (y.data.toList.getD (i + d) 0) = putL x.s (f * 256 + O) ((y.data.toList.drop i).take (d + 1)) := by
      have t1 : ((y.data.toList.drop i).take d).length = d := by rw [List.length_take, List.length_drop]; omega
      have t2 : ((y.data.toList.drop i).take (d + 1)).length = d + 1 := by rw [List.length_take, List.length_drop]; omega
      have hlen : (putL x.s (f * 256 + O) ((y.data.toList.drop i).take d)).length = x.s.length := putL_len _ _ _ (by rw [t1]; omega)
      apply List.ext_getElem?
      intro q
      rw [List.getElem?_set, putL_get _ _ _ (by rw [t1]; omega), putL_get _ _ _ (by rw [t2]; omega), t1, t2, hlen]
      by_cases h1 : f * 256 + O + d = q
      · subst h1
        rw [if_pos rfl, if_pos (by omega), if_neg (by omega), if_pos (by omega), show f * 256 + O + d - (f * 256 + O) = d by omega, List.getElem?_take_of_lt (by omega), List.getElem?_drop, List.getD_eq_getElem?_getD, List.getElem?_eq_getElem (by omega)]; rfl
      · rw [if_neg h1]
        by_cases h2 : q < f * 256 + O
        · rw [if_pos h2, if_pos h2]
        · rw [if_neg h2, if_neg h2]
          by_cases h3 : q < f * 256 + O + d
          · rw [if_pos h3, if_pos (by omega), List.getElem?_take_of_lt (by omega), List.getElem?_take_of_lt (by omega)]
          · rw [if_neg h3, if_neg (by omega)]
    have st := stp_set h e2 hf (O + d) (by omega) (y.data.toList.getD (i + d) 0)
    rw [show f * 256 + (O + d) = f * 256 + O + d by omega] at st
    replace st : StP z ⟨x.L, (putL x.s (f * 256 + O) ((y.data.toList.drop i).take d)).set (f * 256 + O + d) (y.data.toList.getD (i + d) 0)⟩ own := st
    rw [hput] at st
    refine ⟨?_, st⟩
    rw [e1, hK, rouF, hA]
    show rouF r a y K (i + d + 1) ⟨x.L, (putL x.s (f * 256 + O) ((y.data.toList.drop i).take d)).set (f * 256 + O + d) (y.data.toList.getD (i + d) 0)⟩ = _
    rw [hput, show k - (d + 1) = K by omega, show i + (d + 1) = i + d + 1 by omega]
theorem ou_bytes (h : WF fi z own) (hr : own r = some (3, p, j)) (a : Int) (y : ByteArray) : ∀ (F A : Nat) (x : Sp), A ≤ y.size → y.size - A < F → StP z x own → (∀ e, A ≤ e → e < y.size → okAt z r a 2 (e : Int) = true) →
    (chunkX (X := Sp) id r a y.size 2 (fun p a c x => putX2 y p a c x) F A x).2 = 0 ∧ (chunkX (X := Sp) id r a y.size 2 (fun p a c x => putX2 y p a c x) F A x).1 = rouF r a y (y.size - A) A x ∧ StP z (rouF r a y (y.size - A) A x) own
  | 0, A, x, _, h2, _, _ => absurd h2 (Nat.not_lt_zero _)
  | F + 1, A, x, h1, h2, s, hok => by
    rw [chunkX]
    by_cases hl : y.size ≤ A
    · obtain rfl : A = y.size := by omega
      rw [decide_eq_true (Int.le_refl _), cond_true, Nat.sub_self]
      exact ⟨rfl, rfl, s⟩
    · rw [decide_eq_false (by omega), cond_false]
      have hx := s.wf h
      rcases piece_ok h hr (a := a) (acc := 2) (n := y.size) (A := A) (.inr rfl) (by omega) with ⟨e1, e2⟩ | ⟨f, p2, j2, hf, hfl, hR, hV, hoff, b1, b2, hin⟩
      · rw [hok A (Nat.le_refl _) (by omega)] at e2; cases e2
      · obtain ⟨v0, _⟩ := vAt_bd a A
        obtain ⟨w1, w2⟩ := walk_stp h s hr (vAt a A) 2 v0 (.inr rfl)
        have hR' : walkR x.L.length x.s r (IntKind.u64.wrap (a + A)) 2 = 0 := w1.trans hR
        have hV' : walkV x.L.length x.s r (IntKind.u64.wrap (a + A)) 2 = ((f * 256 + (vAt a A % 256).toNat : Nat) : Int) := w2.trans hV
        show (bif decide (walkR x.L.length x.s r (IntKind.u64.wrap (a + A)) 2 = 0) then _ else _ : Sp × Int).2 = 0 ∧ (bif decide (walkR x.L.length x.s r (IntKind.u64.wrap (a + A)) 2 = 0) then chunkX (X := Sp) id r a y.size 2 (fun p a c x => putX2 y p a c x) F (pieceI a y.size A) (putX2 y (walkV x.L.length x.s r (IntKind.u64.wrap (a + A)) 2) A (pieceI a y.size A) x) else (x, walkR x.L.length x.s r (IntKind.u64.wrap (a + A)) 2)).1 = _ ∧ _
        rw [hR', decide_eq_true rfl, cond_true, cond_true]
        show (chunkX (X := Sp) id r a y.size 2 (fun p a c x => putX2 y p a c x) F (pieceI a y.size A) (putX2 y (walkV x.L.length x.s r (IntKind.u64.wrap (a + A)) 2) A (pieceI a y.size A) x)).2 = 0 ∧ _
        rw [hV']
        obtain ⟨O, hO⟩ : ∃ O, (vAt a A % 256).toNat = O := ⟨_, rfl⟩
        obtain ⟨C, hC⟩ : ∃ C : Nat, pieceI a y.size A = (C : Int) := ⟨(pieceI a y.size A).toNat, by omega⟩
        rw [hO] at hin hoff ⊢
        rw [hC] at b1 b2 hin hoff ⊢
        have hfx : f < x.L.length := by rw [s.L]; exact hfl
        have hxs : (y.extract A C).size = C - A := by rw [ByteArray.size_extract]; omega
        obtain ⟨k1, k2, k3⟩ := write_step h s hf hfx O (y.extract A C) (by rw [hxs]; omega)
        have hext : (y.extract A C).data.toList = (y.data.toList.drop A).take (C - A) := ext_list y A C
        have hz2 : putX2 y ((f * 256 + O : Nat) : Int) A C x = ⟨x.L, putL x.s (f * 256 + O) ((y.data.toList.drop A).take (C - A))⟩ := by
          unfold putX2
          rw [Int.toNat_natCast, Int.toNat_natCast, k1, hext]
        rw [hz2]
        obtain ⟨r1, r2⟩ := rou_run h hr a y (O := O) hf (C - A) (y.size - A) A x s (by omega) (by omega) (by omega) (fun e he => by rw [(hin ((A + e : Nat) : Int) (by omega) (by omega)).2]; omega)
        rw [show y.size - A - (C - A) = y.size - C by omega, show A + (C - A) = C by omega] at r1
        rw [r1]
        exact ou_bytes h hr a y F C _ (by omega) (by omega) r2 (fun e h3 h4 => hok e (by omega) h4)
/-- In and Out, one by one. -/
theorem in_same (h : WF fi z own) (hr : own r = some (3, p, j)) (a : Int) (n : Nat) (hn : n ≤ 4096) : inE fi z r a n = (rinF z r a n 0 []).2 ∧ ((rinF z r a n 0 []).2 = 0 → inV fi z r a n = ⟨(rinF z r a n 0 []).1.toArray⟩) ∧ ((rinF z r a n 0 []).2 ≠ 0 → inV fi z r a n = ⟨#[]⟩) := by
  have mb : movedBad fi z r n = false := by
    unfold movedBad; rw [h.tkn hr, decide_eq_false (by omega), decide_eq_false (by omega)]; rfl
  obtain ⟨e1, e2⟩ := in_bytes h hr a n (n + 1) 0 [] (Nat.zero_le _) (by omega)
  rw [Nat.sub_zero] at e1 e2
  have hE : inE fi z r a n = (rinF z r a n 0 []).2 := by
    unfold inE; rw [mb, cond_false]; unfold inX; rw [Int.toNat_natCast]; exact e1
  refine ⟨hE, fun h0 => ?_, fun h0 => ?_⟩
  · unfold inV
    rw [hE, decide_eq_true h0, cond_true]
    unfold inX; rw [Int.toNat_natCast]
    exact congrArg (fun l : List UInt8 => (⟨l.toArray⟩ : ByteArray)) (e2 h0)
  · unfold inV
    rw [hE, decide_eq_false h0, cond_false]
theorem out_same (h : WF fi z own) (hr : own r = some (3, p, j)) (a : Int) (y : ByteArray) (hn : y.size ≤ 4096) : outErr fi z r a y = rckF z r a y.size 0 ∧ (rckF z r a y.size 0 = 0 → outSt fi z r a y = rouF r a y y.size 0 z ∧ StP z (outSt fi z r a y) own) ∧ (rckF z r a y.size 0 ≠ 0 → outSt fi z r a y = z) := by
  have mb : movedBad fi z r y.size = false := by
    unfold movedBad; rw [h.tkn hr, decide_eq_false (by omega), decide_eq_false (by omega)]; rfl
  have hC : outC z r a y.size = rckF z r a y.size 0 := by
    have := ck_bytes h hr a y.size (y.size + 1) 0 (Nat.zero_le _) (by omega)
    rw [Nat.sub_zero] at this
    unfold outC; rw [Int.toNat_natCast]; exact this
  by_cases h0 : rckF z r a y.size 0 = 0
  · obtain ⟨e1, e2, e3⟩ := ou_bytes h hr a y (y.size + 1) 0 z (Nat.zero_le _) (by omega) (StP.refl h) (fun e _ he => by have := rck_ok z r a y.size 0 h0 e he; rw [Nat.zero_add] at this; exact this)
    rw [Nat.sub_zero] at e2 e3
    have hS : outSt fi z r a y = rouF r a y y.size 0 z := by
      unfold outSt; rw [mb, cond_false, hC, decide_eq_true h0, cond_true]; unfold outW; rw [Int.toNat_natCast]; exact e2
    refine ⟨?_, fun _ => ⟨hS, by rw [hS]; exact e3⟩, fun e => absurd h0 e⟩
    unfold outErr; rw [mb, cond_false, hC, decide_eq_true h0, cond_true, h0]; unfold outW; rw [Int.toNat_natCast]; exact e1
  · refine ⟨?_, fun e => absurd e h0, fun _ => ?_⟩
    · unfold outErr; rw [mb, cond_false, hC, decide_eq_false h0, cond_false]
    · unfold outSt; rw [mb, cond_false, hC, decide_eq_false h0, cond_false]
end Go.Proofs.YtbcnibnkojnpiaaGreat.P
