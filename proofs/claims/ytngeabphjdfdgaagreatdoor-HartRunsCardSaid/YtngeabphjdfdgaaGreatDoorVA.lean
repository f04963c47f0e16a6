/- Stage 5: where a step may read and write, with the statements' own tables; plain. No condition. -/
import Derived.Test.YtngeabphjdfdgaaGreatDoorHP
import Derived.Test.YtngeabphjdfdgaaGreatDoorID
set_option linter.unusedVariables false
set_option linter.unusedSimpArgs false
set_option maxRecDepth 100000
namespace Go.Proofs.YtngeabphjdfdgaaGreatDoor.P
open Go.RowKit Go.MuLone Go.Proofs.YtngeabphjdfdgaaGreatDoor.W
/-- An event and nothing done; or no event: something stored, or nothing. -/
def StopP (s : List UInt8) (D : DS) : Prop := (D.e.k ≠ 0 ∧ D.s = s ∧ D.e.wr = false) ∨ (D.e.k = 0 ∧ (D.e.wr = true ∨ (D.s = s ∧ D.e.ad = 0 ∧ D.e.wr = false)))
theorem stop_none (A : HS) (s : List UInt8) : StopP s ⟨A, e0, s⟩ := .inr ⟨rfl, .inr ⟨rfl, rfl, rfl⟩⟩
theorem stop_ev (A : HS) (s : List UInt8) (k a : Int) (hk : k ≠ 0) : StopP s ⟨A, ⟨k, a, false⟩, s⟩ := .inl ⟨hk, rfl, rfl⟩
theorem stop_wr (A : HS) (s z : List UInt8) (a : Int) : StopP s ⟨A, ⟨0, a, true⟩, z⟩ := .inr ⟨rfl, .inl rfl⟩
theorem stop_jump (A : HS) (s : List UInt8) (tg : Int) : StopP s (jumpF A s tg) := by
  unfold jumpF; split
  · exact stop_none _ _
  · exact stop_ev _ _ _ _ (by decide)
theorem stop_load (fr : Nat) (s : List UInt8) (r op : Int) (rd : Nat) (p n : Int) (A : HS) : StopP s (loadF fr s r op rd p n A) := by
  unfold loadF; split
  · exact stop_none _ _
  · exact stop_ev _ _ _ _ (by decide)
theorem stop_stor (fr : Nat) (s : List UInt8) (r p n b : Int) (A : HS) : StopP s (storF fr s r p n b A) := by
  unfold storF; split
  · exact stop_wr _ _ _ _
  · exact stop_ev _ _ _ _ (by decide)
theorem stop_move (fr : Nat) (s : List UInt8) (r op : Int) (rd : Nat) (p b : Int) (A : HS) : StopP s (moveF fr s r op rd p b A) := by
  unfold moveF; split
  · exact stop_stor _ _ _ _ _ _ _
  · exact stop_load _ _ _ _ _ _ _ _
theorem stop_lr (fr : Nat) (s : List UInt8) (r : Int) (rd : Nat) (p n : Int) (A : HS) : StopP s (lrF fr s r rd p n A) := by
  unfold lrF; split
  · exact stop_none _ _
  · exact stop_ev _ _ _ _ (by decide)
theorem stop_sc (fr : Nat) (s : List UInt8) (r : Int) (rd : Nat) (p n b : Int) (A : HS) : StopP s (scF fr s r rd p n b A) := by
  unfold scF; split
  · split
    · exact stop_wr _ _ _ _
    · exact stop_none _ _
  · exact stop_ev _ _ _ _ (by decide)
theorem stop_am (fr : Nat) (s : List UInt8) (r op : Int) (rd : Nat) (p n b : Int) (A : HS) : StopP s (amF fr s r op rd p n b A) := by
  unfold amF; split
  · split
    · exact stop_wr _ _ _ _
    · exact stop_ev _ _ _ _ (by decide)
  · exact stop_ev _ _ _ _ (by decide)
theorem stop_atom (fr : Nat) (s : List UInt8) (r op : Int) (rd : Nat) (p b : Int) (A : HS) : StopP s (atomF fr s r op rd p b A) := by
  unfold atomF
  split
  · exact stop_lr _ _ _ _ _ _ _
  split
  · exact stop_lr _ _ _ _ _ _ _
  split
  · exact stop_sc _ _ _ _ _ _ _ _
  split
  · exact stop_sc _ _ _ _ _ _ _ _
  split
  · exact stop_am _ _ _ _ _ _ _ _ _
  · exact stop_am _ _ _ _ _ _ _ _ _
theorem stop_do (fr : Nat) (s : List UInt8) (r op : Int) (rd : Nat) (a b m pc : Int) (A : HS) : StopP s (doF fr s r op rd a b m pc A) := by
  unfold doF
  split
  · exact stop_none _ _
  split
  · exact stop_none _ _
  split
  · exact stop_jump _ _ _
  split
  · exact stop_jump _ _ _
  split
  · split
    · exact stop_jump _ _ _
    · exact stop_none _ _
  split
  · exact stop_move _ _ _ _ _ _ _ _
  split
  · exact stop_none _ _
  split
  · exact stop_none _ _
  split
  · exact stop_none _ _
  split
  · exact stop_ev _ _ _ _ (by decide)
  split
  · exact stop_ev _ _ _ _ (by decide)
  · exact stop_atom _ _ _ _ _ _ _ _
/-- A step that comes to an event leaves hart and memory; else it stores, or leaves memory; X[0] is 0. -/
theorem step_stops (fr : Nat) (s : List UInt8) (r : Int) (H : HS) : (((stepF fr s r H).e.k ≠ 0 ∧ (stepF fr s r H).H = H.set 0 0 ∧ (stepF fr s r H).s = s ∧ (stepF fr s r H).e.wr = false) ∨ ((stepF fr s r H).e.k = 0 ∧ ((stepF fr s r H).e.wr = true ∨ ((stepF fr s r H).s = s ∧ (stepF fr s r H).e.ad = 0 ∧ (stepF fr s r H).e.wr = false)))) ∧ (stepF fr s r H).H.X 0 = 0 := by
  unfold stepF
  split
  · split
    · generalize loadV s (rchV fr s r H.pc 4 3) 4 = x
      have hs := stop_do fr s r (insF x).op (insF x).rd ((H.set 0 0).X (insF x).a) ((H.set 0 0).X (insF x).b) (w64 (insF x).i) H.pc { H.set 0 0 with pc := w64 (H.pc + 4) }
      generalize doF fr s r (insF x).op (insF x).rd ((H.set 0 0).X (insF x).a) ((H.set 0 0).X (insF x).b) (w64 (insF x).i) H.pc { H.set 0 0 with pc := w64 (H.pc + 4) } = D at hs ⊢
      split
      · rename_i hk
        refine ⟨.inr ?_, rfl⟩
        rcases hs with ⟨h1, _⟩ | h
        · exact absurd hk h1
        · exact h
      · rename_i hk
        refine ⟨.inl ?_, rfl⟩
        rcases hs with ⟨h1, h2, h3⟩ | h
        · exact ⟨h1, rfl, h2, h3⟩
        · exact absurd h.1 hk
    · exact ⟨.inl ⟨show (3 : Int) ≠ 0 by decide, rfl, rfl, rfl⟩, rfl⟩
  · exact ⟨.inl ⟨show (4 : Int) ≠ 0 by decide, rfl, rfl, rfl⟩, rfl⟩
/-! A hart's words stay words. -/
theorem u64_w64 (a : Int) : Go.Proofs.YtngeabphjdfdgaaGreatDoor.P.u64 (w64 a) := by unfold w64; exact ⟨by omega, by omega⟩
theorem u64_of_word {v : Int} (h : word v) : Go.Proofs.YtngeabphjdfdgaaGreatDoor.P.u64 v := by obtain ⟨h0, h1⟩ := h; exact ⟨h0, by omega⟩
theorem word_of_u64 {v : Int} (h : Go.Proofs.YtngeabphjdfdgaaGreatDoor.P.u64 v) : word v := by obtain ⟨h0, h1⟩ := h; exact ⟨h0, by omega⟩
theorem u64_lit0 : Go.Proofs.YtngeabphjdfdgaaGreatDoor.P.u64 0 := ⟨by decide, by decide⟩
theorem u64_lit1 : Go.Proofs.YtngeabphjdfdgaaGreatDoor.P.u64 1 := ⟨by decide, by decide⟩
theorem HS.pc_ok {A : HS} (h : A.ok) {v : Int} (hv : Go.Proofs.YtngeabphjdfdgaaGreatDoor.P.u64 v) : ({ A with pc := v } : HS).ok := ⟨h.1, hv, h.2.2⟩
def OkD (D : DS) : Prop := D.A.ok
theorem okd {A : HS} (h : A.ok) (e : EvS) (s : List UInt8) : OkD ⟨A, e, s⟩ := h
theorem ok_jump {A : HS} (h : A.ok) (s : List UInt8) (tg : Int) (ht : Go.Proofs.YtngeabphjdfdgaaGreatDoor.P.u64 tg) : OkD (jumpF A s tg) := by
  unfold jumpF; split
  · exact HS.pc_ok h ht
  · exact h
theorem ok_load {fr : Nat} (s : List UInt8) (r op : Int) (rd : Nat) (p n : Int) {A : HS} (h : A.ok) : OkD (loadF fr s r op rd p n A) := by
  unfold loadF; split
  · refine HS.set_ok h rd ?_
    split
    · exact u64_of_word (sgn_word _ _ (loadV_word _ _ _))
    · exact u64_of_word (loadV_word _ _ _)
  · exact h
theorem ok_stor {fr : Nat} (s : List UInt8) (r p n b : Int) {A : HS} (h : A.ok) : OkD (storF fr s r p n b A) := by
  unfold storF; split <;> exact h
theorem ok_move {fr : Nat} (s : List UInt8) (r op : Int) (rd : Nat) (p b : Int) {A : HS} (h : A.ok) : OkD (moveF fr s r op rd p b A) := by
  unfold moveF; split
  · exact ok_stor _ _ _ _ _ h
  · exact ok_load _ _ _ _ _ _ h
theorem ok_lr {fr : Nat} (hf : fr ≤ 256) (s : List UInt8) (r : Int) (rd : Nat) (p n : Int) (hp : Go.Proofs.YtngeabphjdfdgaaGreatDoor.P.u64 p) {A : HS} (h : A.ok) : OkD (lrF fr s r rd p n A) := by
  unfold lrF; split
  · have h1 := HS.set_ok h rd (u64_of_word (sgn_word _ (8 * n) (loadV_word s (rchV fr s r p n 1) n)))
    exact ⟨h1.1, h1.2.1, (rch_u64 hf hp).1⟩
  · exact h
theorem ok_sc {fr : Nat} (s : List UInt8) (r : Int) (rd : Nat) (p n b : Int) {A : HS} (h : A.ok) : OkD (scF fr s r rd p n b A) := by
  unfold scF; split
  · split
    · have h1 := HS.set_ok h rd u64_lit0
      exact ⟨h1.1, h1.2.1, u64_lit0⟩
    · have h1 := HS.set_ok h rd u64_lit1
      exact ⟨h1.1, h1.2.1, u64_lit0⟩
  · exact h
theorem ok_am {fr : Nat} (s : List UInt8) (r op : Int) (rd : Nat) (p n b : Int) {A : HS} (h : A.ok) : OkD (amF fr s r op rd p n b A) := by
  unfold amF; split
  · split
    · exact HS.set_ok h rd (u64_of_word (sgn_word _ (8 * n) (loadV_word s (rchV fr s r p n 1) n)))
    · exact h
  · exact h
theorem ok_atom {fr : Nat} (hf : fr ≤ 256) (s : List UInt8) (r op : Int) (rd : Nat) (p b : Int) (hp : Go.Proofs.YtngeabphjdfdgaaGreatDoor.P.u64 p) {A : HS} (h : A.ok) : OkD (atomF fr s r op rd p b A) := by
  unfold atomF
  split
  · exact ok_lr hf _ _ _ _ _ hp h
  split
  · exact ok_lr hf _ _ _ _ _ hp h
  split
  · exact ok_sc _ _ _ _ _ _ h
  split
  · exact ok_sc _ _ _ _ _ _ h
  split
  · exact ok_am _ _ _ _ _ _ _ h
  · exact ok_am _ _ _ _ _ _ _ h
set_option maxHeartbeats 1600000 in
theorem ok_do {fr : Nat} (hf : fr ≤ 256) (s : List UInt8) (r op : Int) (rd : Nat) (a b m pc : Int) (ha : Go.Proofs.YtngeabphjdfdgaaGreatDoor.P.u64 a) (hb : Go.Proofs.YtngeabphjdfdgaaGreatDoor.P.u64 b) (hm : Go.Proofs.YtngeabphjdfdgaaGreatDoor.P.u64 m) {A : HS} (h : A.ok) : OkD (doF fr s r op rd a b m pc A) := by
  have hR1 : Go.Proofs.YtngeabphjdfdgaaGreatDoor.P.u64 (reckV (aluL.getD (op - 22).toNat 0) a m) := u64_of_word (reck_word _ _ _ (word_of_u64 ha) (word_of_u64 hm))
  have hR2 : Go.Proofs.YtngeabphjdfdgaaGreatDoor.P.u64 (reckV op a b) := u64_of_word (reck_word _ _ _ (word_of_u64 ha) (word_of_u64 hb))
  have hAt : OkD (atomF fr s r op rd a b A) := ok_atom hf _ _ _ _ _ _ ha h
  have hMv : OkD (moveF fr s r op rd (w64 (a + m)) b A) := ok_move _ _ _ _ _ _ h
  have he : Go.Proofs.YtngeabphjdfdgaaGreatDoor.P.u64 (w64 (a + m) / 2 * 2) := by have := u64_w64 (a + m); obtain ⟨h1, h2⟩ := this; generalize w64 (a + m) = z at *; exact ⟨by omega, by omega⟩
  unfold doF
  split
  · exact okd (HS.set_ok h rd hm) _ _
  split
  · exact okd (HS.set_ok h rd (u64_w64 _)) _ _
  split
  · exact ok_jump (HS.set_ok h rd (u64_w64 _)) _ _ (u64_w64 _)
  split
  · exact ok_jump (HS.set_ok h rd (u64_w64 _)) _ _ he
  split
  · split
    · exact ok_jump h _ _ (u64_w64 _)
    · exact okd h _ _
  split
  · exact hMv
  split
  · exact okd (HS.set_ok h rd hR1) _ _
  split
  · exact okd (HS.set_ok h rd hR2) _ _
  split
  · exact okd h _ _
  split
  · exact okd h _ _
  split
  · exact okd h _ _
  · exact hAt
theorem ins_lt (x : Int) : (insF x).a < 32 ∧ (insF x).b < 32 := by
  have ha : 0 ≤ fitA (fmT (decK x)) x ∧ fitA (fmT (decK x)) x < 32 := by unfold fitA; split <;> omega
  have hb : 0 ≤ fitB (fmT (decK x)) (resB (decK x)) x ∧ fitB (fmT (decK x)) (resB (decK x)) x < 32 := by
    unfold fitB
    split
    · omega
    · split
      · cases resB (decK x)
        · rw [cond_false]; omega
        · rw [cond_true]; omega
      · omega
  unfold insF
  exact ⟨by simp only; omega, by simp only; omega⟩
theorem step_ok {fr : Nat} (hf : fr ≤ 256) (s : List UInt8) (r : Int) {H : HS} (h : H.ok) : (stepF fr s r H).H.ok := by
  have h0 : (H.set 0 0).ok := HS.set_ok h 0 u64_lit0
  unfold stepF
  split
  · split
    · generalize loadV s (rchV fr s r H.pc 4 3) 4 = x
      have hl := ins_lt x
      have hs : OkD _ := ok_do hf s r (insF x).op (insF x).rd ((H.set 0 0).X (insF x).a) ((H.set 0 0).X (insF x).b) (w64 (insF x).i) H.pc (h0.1 _ hl.1) (h0.1 _ hl.2) (u64_w64 _) (HS.pc_ok h0 (u64_w64 (H.pc + 4)))
      generalize doF fr s r (insF x).op (insF x).rd ((H.set 0 0).X (insF x).a) ((H.set 0 0).X (insF x).b) (w64 (insF x).i) H.pc { H.set 0 0 with pc := w64 (H.pc + 4) } = D at hs ⊢
      split
      · exact HS.set_ok hs 0 u64_lit0
      · exact h0
    · exact h0
  · exact h0
/-- The statements' tables stand in the first three frames. -/
def LowT (s : List UInt8) : Prop := s.length = 2048 ∧ s.take 768 = (preS 5).take 768
def entT (k : Nat) : Int := if k = 0 then 1025 else if k = 32 then 2049 else if k = 64 then 3103 else if k = 65 then 4119 else if k = 66 then 5139 else 0
theorem ent_tab : ∀ k : Fin 96, loadV (preS 5) (8 * (k.val : Int)) 8 = entT k.val := by decide +kernel
theorem pre_len : (preS 5).length = 2048 := by decide +kernel
theorem subB_take {s z : List UInt8} {k : Nat} (h : s.take k = z.take k) (a n : Nat) (hk : a + n ≤ k) : subB s a n = subB z a n := by
  have e : ∀ l : List UInt8, (l.drop a).take n = ((l.take k).drop a).take n := by
    intro l
    rw [List.drop_take, List.take_take, Nat.min_eq_left (by omega)]
  unfold subB
  rw [e s, e z, h]
theorem loadV_take {s z : List UInt8} {k : Nat} (hs : k ≤ s.length) (hz : k ≤ z.length) (h : s.take k = z.take k) (a n : Int) (h0 : 0 ≤ a) (hn : 0 ≤ n) (hk : a + n ≤ k) : loadV s a n = loadV z a n := by
  unfold loadV
  rw [inB_t (s := s) (a := a) (n := n) (by omega), inB_t (s := z) (a := a) (n := n) (by omega), subB_take h a.toNat n.toNat (by omega)]
theorem low_ent {s : List UInt8} (h : LowT s) (k : Nat) (hk : k < 96) : entS s (8 * (k : Int)) = entT k := by
  unfold entS
  rw [loadV_take (s := s) (z := preS 5) (k := 768) (by rw [h.1]; decide) (by rw [pre_len]; decide) h.2 (8 * (k : Int)) 8 (by omega) (by decide) (by omega)]
  exact ent_tab ⟨k, hk⟩
def limA (acc : Int) : Int := if acc = 1 then 768 else if acc = 2 then 512 else 256
theorem ent_zero {k : Nat} (h : k ≠ 0 ∧ k ≠ 32 ∧ k ≠ 64 ∧ k ≠ 65 ∧ k ≠ 66) : entT k = 0 := by
  unfold entT; rw [if_neg h.1, if_neg h.2.1, if_neg h.2.2.1, if_neg h.2.2.2.1, if_neg h.2.2.2.2]
theorem low_ent_at {s : List UInt8} (h : LowT s) (q : Int) (k : Nat) (hk : k < 96) (e : q = 8 * (k : Int)) : entS s q = entT k := by rw [e]; exact low_ent h k hk
theorem leaf_no {fr : Nat} {s : List UInt8} {r a : Int} (h : leafR fr s r a ≠ 0) (acc : Int) : walkR fr s r a acc ≠ 0 := by
  unfold walkR
  cases decide (neededI acc = 0)
  · rw [cond_false, decide_eq_false h, cond_false]; exact h
  · rw [cond_true]; decide
theorem lim_pos (acc : Int) : limA acc ≤ 768 := by unfold limA; split; · omega
                                                   · split <;> omega
theorem low_walk {s : List UInt8} (h : LowT s) {a acc : Int} (ha : Go.Proofs.YtngeabphjdfdgaaGreatDoor.P.u64 a) (hacc : acc = 1 ∨ acc = 2 ∨ acc = 3) : (decide (walkR 8 s 0 a acc = 0) = decide (a < limA acc)) ∧ (a < limA acc → walkV 8 s 0 a acc = 768 + a) := by
  obtain ⟨a0, a1⟩ := ha
  have hlim := lim_pos acc
  by_cases hb : a < 8388608
  case neg =>
    have hl : leafR 8 s 0 a ≠ 0 := by
      have h3 : leafR 8 s 0 a = 3 := by unfold leafR; rw [decide_eq_false hb]; rfl
      rw [h3]; decide
    refine ⟨?_, fun hx => absurd hx (by omega)⟩
    rw [decide_eq_false (leaf_no hl acc), decide_eq_false (by omega)]
  have q2 := part2 a hb
  have q1 := part1 a hb
  have q0 := part0 a hb
  obtain ⟨p2, h2⟩ : ∃ p : Nat, a / 262144 % 32 = (p : Int) := ⟨(a / 262144 % 32).toNat, by omega⟩
  obtain ⟨p1, h1⟩ : ∃ p : Nat, a / 8192 % 32 = (p : Int) := ⟨(a / 8192 % 32).toNat, by omega⟩
  obtain ⟨p0, h0⟩ : ∃ p : Nat, a / 256 % 32 = (p : Int) := ⟨(a / 256 % 32).toNat, by omega⟩
  have b2 : p2 < 32 := by omega
  have b1 : p1 < 32 := by omega
  have b0 : p0 < 32 := by omega
  have eA : leafA s 0 a = entT p2 := by unfold leafA; rw [q2, h2]; exact low_ent_at h _ p2 (by omega) (by omega)
  have hR : leafR 8 s 0 a = bif ptB 8 (leafA s 0 a) && ptB 8 (leafC s 0 a) then 0 else 3 := by unfold leafR; rw [decide_eq_true hb]; rfl
  by_cases c2 : p2 = 0
  case neg =>
    have hl : leafR 8 s 0 a ≠ 0 := by rw [hR, eA, ent_zero (by omega), show ptB 8 0 = false by decide, Bool.false_and]; decide
    refine ⟨?_, fun hx => absurd hx (by omega)⟩
    rw [decide_eq_false (leaf_no hl acc), decide_eq_false (by omega)]
  subst c2
  have eA1 : leafA s 0 a = 1025 := eA
  have eC : leafC s 0 a = entT (32 + p1) := by unfold leafC; rw [eA1, q1, h1]; exact low_ent_at h _ (32 + p1) (by omega) (by omega)
  by_cases c1 : p1 = 0
  case neg =>
    have hl : leafR 8 s 0 a ≠ 0 := by rw [hR, eA1, eC, ent_zero (by omega)]; decide
    refine ⟨?_, fun hx => absurd hx (by omega)⟩
    rw [decide_eq_false (leaf_no hl acc), decide_eq_false (by omega)]
  subst c1
  have eC1 : leafC s 0 a = 2049 := eC
  have hl : leafR 8 s 0 a = 0 := by rw [hR, eA1, eC1]; decide
  have eV : leafV 8 s 0 a = 512 + (p0 : Int) * 8 := by unfold leafV; rw [hl, eC1, q0, h0]; rfl
  have eE : walkE 8 s 0 a = entT (64 + p0) := by unfold walkE; rw [eV]; exact low_ent_at h _ (64 + p0) (by omega) (by omega)
  have hn : decide (neededI acc = 0) = false := by rcases hacc with rfl | rfl | rfl <;> decide
  have eR : walkR 8 s 0 a acc = bif mayB (neededI acc) (entT (64 + p0)) && decide (entT (64 + p0) / 1024 < ((8 : Nat) : Int)) then 0 else 3 := by
    unfold walkR; rw [hn, hl, eE]; rfl
  have ea : a = 256 * p0 + a % 256 := by omega
  have main : ∀ (x : Int), entT (64 + p0) = x → ((bif mayB (neededI acc) x && decide (x / 1024 < ((8 : Nat) : Int)) then (0 : Int) else 3) = 0 ↔ a < limA acc) → (decide (walkR 8 s 0 a acc = 0) = decide (a < limA acc)) := by
    intro x hx hi
    rw [eR, hx]
    exact decide_eq_decide.2 hi
  have mainV : a < limA acc → decide (walkR 8 s 0 a acc = 0) = decide (a < limA acc) → walkV 8 s 0 a acc = 768 + a := by
    intro hx hd
    have hd2 : walkR 8 s 0 a acc = 0 := of_decide_eq_true (hd.trans (decide_eq_true hx))
    unfold walkV
    rw [hd2, eE]
    have : p0 = 0 ∨ p0 = 1 ∨ p0 = 2 := by omega
    rcases this with rfl | rfl | rfl
    · show (3103 : Int) / 1024 * 256 + a % 256 = _; omega
    · show (4119 : Int) / 1024 * 256 + a % 256 = _; omega
    · show (5139 : Int) / 1024 * 256 + a % 256 = _; omega
  have hd : decide (walkR 8 s 0 a acc = 0) = decide (a < limA acc) := by
    rcases (by omega : p0 = 0 ∨ p0 = 1 ∨ p0 = 2 ∨ 3 ≤ p0) with c0 | c0 | c0 | c0
    · refine main 3103 (by rw [c0]; rfl) ?_
      rcases hacc with rfl | rfl | rfl
      · exact ⟨fun _ => show a < 768 by omega, fun _ => by decide⟩
      · exact ⟨fun _ => show a < 512 by omega, fun _ => by decide⟩
      · exact ⟨fun _ => show a < 256 by omega, fun _ => by decide⟩
    · refine main 4119 (by rw [c0]; rfl) ?_
      rcases hacc with rfl | rfl | rfl
      · exact ⟨fun _ => show a < 768 by omega, fun _ => by decide⟩
      · exact ⟨fun _ => show a < 512 by omega, fun _ => by decide⟩
      · exact ⟨fun h => absurd h (by decide), fun h => absurd (show a < 256 from h) (by omega)⟩
    · refine main 5139 (by rw [c0]; rfl) ?_
      rcases hacc with rfl | rfl | rfl
      · exact ⟨fun _ => show a < 768 by omega, fun _ => by decide⟩
      · exact ⟨fun h => absurd h (by decide), fun h => absurd (show a < 512 from h) (by omega)⟩
      · exact ⟨fun h => absurd h (by decide), fun h => absurd (show a < 256 from h) (by omega)⟩
    · refine main 0 (ent_zero (by omega)) ?_
      rcases hacc with rfl | rfl | rfl
      · exact ⟨fun h => absurd h (by decide), fun h => absurd h (by omega)⟩
      · exact ⟨fun h => absurd h (by decide), fun h => absurd h (by omega)⟩
      · exact ⟨fun h => absurd h (by decide), fun h => absurd h (by omega)⟩
  exact ⟨hd, fun hx => mainV hx hd⟩
theorem low_rch {s : List UInt8} (h : LowT s) {a acc : Int} (n : Int) (ha : Go.Proofs.YtngeabphjdfdgaaGreatDoor.P.u64 a) (hacc : acc = 1 ∨ acc = 2 ∨ acc = 3) : rchB 8 s 0 a n acc = (decide (a % n = 0) && decide (a < limA acc)) := by
  unfold rchB; rw [(low_walk h ha hacc).1]
theorem low_rchV {s : List UInt8} (h : LowT s) {a acc n : Int} (ha : Go.Proofs.YtngeabphjdfdgaaGreatDoor.P.u64 a) (hacc : acc = 1 ∨ acc = 2 ∨ acc = 3) (hb : (decide (a % n = 0) && decide (a < limA acc)) = true) : rchV 8 s 0 a n acc = 768 + a := by
  rw [Bool.and_eq_true, decide_eq_true_eq, decide_eq_true_eq] at hb
  unfold rchV; rw [if_pos hb.1]; exact (low_walk h ha hacc).2 hb.2
theorem storeS_in {s : List UInt8} (a n v : Int) (hn : n = 1 ∨ n = 2 ∨ n = 4 ∨ n = 8) (h0 : 0 ≤ a) (h : a + n ≤ s.length) : storeS s a n v = putL s a.toNat (bytesF v n).data.toList ∧ (bytesF v n).data.toList.length = n.toNat := by
  have hz : (bytesF v n).data.toList.length = n.toNat := by
    have := bytes_size v n
    rw [Array.length_toList]
    show (bytesF v n).size = n.toNat
    rw [this]
    rcases hn with rfl | rfl | rfl | rfl <;> rfl
  refine ⟨?_, hz⟩
  unfold storeS
  rw [if_pos (sized_t hn), if_pos (inB_t h)]
theorem put_take_low (s x : List UInt8) (a k : Nat) (h : a + x.length ≤ s.length) (hk : k ≤ a) : (putL s a x).take k = s.take k := by
  apply List.ext_getElem?
  intro i
  rw [List.getElem?_take, List.getElem?_take]
  by_cases hi : i < k
  · rw [if_pos hi, if_pos hi, putL_get s a x h i, if_pos (by omega)]
  · rw [if_neg hi, if_neg hi]
theorem put_drop_high (s x : List UInt8) (a k : Nat) (h : a + x.length ≤ s.length) (hk : a + x.length ≤ k) : (putL s a x).drop k = s.drop k := by
  apply List.ext_getElem?
  intro i
  rw [List.getElem?_drop, List.getElem?_drop, putL_get s a x h (k + i), if_neg (by omega), if_neg (by omega)]
theorem put_take_both {s z : List UInt8} {k : Nat} (e : s.take k = z.take k) (x : List UInt8) (a : Nat) (h : a + x.length ≤ s.length) (h' : a + x.length ≤ z.length) : (putL s a x).take k = (putL z a x).take k := by
  apply List.ext_getElem?
  intro i
  have ei := congrArg (fun l => l[i]?) e
  simp only [List.getElem?_take] at ei
  rw [List.getElem?_take, List.getElem?_take]
  by_cases hi : i < k
  · rw [if_pos hi, if_pos hi] at ei
    rw [if_pos hi, if_pos hi, putL_get s a x h i, putL_get z a x h' i, ei]
  · rw [if_neg hi, if_neg hi]
/-- Two memories that agree where a process of these tables may look. -/
structure SeeS (s z : List UInt8) : Prop where
  ls : LowT s
  lz : LowT z
  eq : s.take 1536 = z.take 1536
/-- What becomes of both. -/
def TwoP (s z : List UInt8) (D E : DS) : Prop := D.A = E.A ∧ D.e = E.e ∧ SeeS D.s E.s ∧ D.s.drop 1280 = s.drop 1280 ∧ (D.e.wr = true → 768 ≤ D.e.ad ∧ D.e.ad < 1280)
theorem two_same {s z : List UInt8} (h : SeeS s z) (A : HS) (e : EvS) (he : e.wr = false) : TwoP s z ⟨A, e, s⟩ ⟨A, e, z⟩ := ⟨rfl, rfl, h, rfl, fun hx => absurd (he.symm.trans hx) (by decide)⟩
theorem two_store {s z : List UInt8} (h : SeeS s z) (A : HS) (p n v : Int) (hn : n = 1 ∨ n = 2 ∨ n = 4 ∨ n = 8) (h0 : 0 ≤ p) (hp : p % n = 0) (h5 : p < 512) : TwoP s z ⟨A, ⟨0, 768 + p, true⟩, storeS s (768 + p) n v⟩ ⟨A, ⟨0, 768 + p, true⟩, storeS z (768 + p) n v⟩ := by
  have hl : p + n ≤ 512 := by rcases hn with rfl | rfl | rfl | rfl <;> omega
  have n0 : 0 ≤ n := by rcases hn with rfl | rfl | rfl | rfl <;> decide
  have l1 := h.ls.1
  have l2 := h.lz.1
  obtain ⟨e1, e2⟩ := storeS_in (s := s) (768 + p) n v hn (by omega) (by omega)
  obtain ⟨e3, _⟩ := storeS_in (s := z) (768 + p) n v hn (by omega) (by omega)
  have t1 : (768 + p).toNat + (bytesF v n).data.toList.length ≤ s.length := by rw [e2, l1]; omega
  have t2 : (768 + p).toNat + (bytesF v n).data.toList.length ≤ z.length := by rw [e2, l2]; omega
  refine ⟨rfl, rfl, ⟨⟨?_, ?_⟩, ⟨?_, ?_⟩, ?_⟩, ?_, fun _ => ⟨by simp only; omega, by simp only; omega⟩⟩
  · rw [e1, putL_len _ _ _ t1]; exact l1
  · rw [e1, put_take_low _ _ _ _ t1 (by omega)]; exact h.ls.2
  · rw [e3, putL_len _ _ _ t2]; exact l2
  · rw [e3, put_take_low _ _ _ _ t2 (by omega)]; exact h.lz.2
  · rw [e1, e3]; exact put_take_both h.eq _ _ t1 t2
  · rw [e1]; exact put_drop_high _ _ _ _ t1 (by rw [e2]; omega)
theorem see_load {s z : List UInt8} (h : SeeS s z) {p n acc : Int} (hn : n = 1 ∨ n = 2 ∨ n = 4 ∨ n = 8) (h0 : 0 ≤ p) (hb : (decide (p % n = 0) && decide (p < limA acc)) = true) : loadV s (768 + p) n = loadV z (768 + p) n := by
  rw [Bool.and_eq_true, decide_eq_true_eq, decide_eq_true_eq] at hb
  have := lim_pos acc
  have hl : p + n ≤ 768 := by rcases hn with rfl | rfl | rfl | rfl <;> omega
  have n0 : 0 ≤ n := by rcases hn with rfl | rfl | rfl | rfl <;> decide
  exact loadV_take (k := 1536) (by rw [h.ls.1]; decide) (by rw [h.lz.1]; decide) h.eq _ _ (by omega) n0 (by omega)
theorem two_jump {s z : List UInt8} (h : SeeS s z) (A : HS) (tg : Int) : TwoP s z (jumpF A s tg) (jumpF A z tg) := by
  unfold jumpF; split
  · exact two_same h _ _ rfl
  · exact two_same h _ _ rfl
theorem two_load {s z : List UInt8} (h : SeeS s z) (op : Int) (rd : Nat) (p n : Int) (hp : Go.Proofs.YtngeabphjdfdgaaGreatDoor.P.u64 p) (hn : n = 1 ∨ n = 2 ∨ n = 4 ∨ n = 8) (A : HS) : TwoP s z (loadF 8 s 0 op rd p n A) (loadF 8 z 0 op rd p n A) := by
  unfold loadF
  rw [low_rch h.ls n hp (.inl rfl), low_rch h.lz n hp (.inl rfl)]
  split
  · rename_i hb
    rw [low_rchV h.ls hp (.inl rfl) hb, low_rchV h.lz hp (.inl rfl) hb, see_load h hn hp.1 hb]
    exact two_same h _ _ rfl
  · exact two_same h _ _ rfl
theorem two_stor {s z : List UInt8} (h : SeeS s z) (p n b : Int) (hp : Go.Proofs.YtngeabphjdfdgaaGreatDoor.P.u64 p) (hn : n = 1 ∨ n = 2 ∨ n = 4 ∨ n = 8) (A : HS) : TwoP s z (storF 8 s 0 p n b A) (storF 8 z 0 p n b A) := by
  unfold storF
  rw [low_rch h.ls n hp (.inr (.inl rfl)), low_rch h.lz n hp (.inr (.inl rfl))]
  split
  · rename_i hb
    rw [low_rchV h.ls hp (.inr (.inl rfl)) hb, low_rchV h.lz hp (.inr (.inl rfl)) hb]
    rw [Bool.and_eq_true, decide_eq_true_eq, decide_eq_true_eq] at hb
    exact two_store h A p n b hn hp.1 hb.1 hb.2
  · exact two_same h _ _ rfl
theorem pw_size (k : Nat) (h : k < 4) : (2 : Int) ^ k = 1 ∨ (2 : Int) ^ k = 2 ∨ (2 : Int) ^ k = 4 ∨ (2 : Int) ^ k = 8 := by
  rcases (by omega : k = 0 ∨ k = 1 ∨ k = 2 ∨ k = 3) with rfl | rfl | rfl | rfl <;> decide
theorem two_move {s z : List UInt8} (h : SeeS s z) (op : Int) (rd : Nat) (p b : Int) (hp : Go.Proofs.YtngeabphjdfdgaaGreatDoor.P.u64 p) (hop : op ≤ 21) (A : HS) : TwoP s z (moveF 8 s 0 op rd p b A) (moveF 8 z 0 op rd p b A) := by
  unfold moveF
  split
  · exact two_stor h _ _ _ hp (pw_size _ (by omega)) _
  · exact two_load h _ _ _ _ hp (pw_size _ (by omega)) _
theorem two_lr {s z : List UInt8} (h : SeeS s z) (rd : Nat) (p n : Int) (hp : Go.Proofs.YtngeabphjdfdgaaGreatDoor.P.u64 p) (hn : n = 1 ∨ n = 2 ∨ n = 4 ∨ n = 8) (A : HS) : TwoP s z (lrF 8 s 0 rd p n A) (lrF 8 z 0 rd p n A) := by
  unfold lrF
  rw [low_rch h.ls n hp (.inl rfl), low_rch h.lz n hp (.inl rfl)]
  split
  · rename_i hb
    rw [low_rchV h.ls hp (.inl rfl) hb, low_rchV h.lz hp (.inl rfl) hb, see_load h hn hp.1 hb]
    exact two_same h _ _ rfl
  · exact two_same h _ _ rfl
theorem two_sc {s z : List UInt8} (h : SeeS s z) (rd : Nat) (p n b : Int) (hp : Go.Proofs.YtngeabphjdfdgaaGreatDoor.P.u64 p) (hn : n = 1 ∨ n = 2 ∨ n = 4 ∨ n = 8) (A : HS) : TwoP s z (scF 8 s 0 rd p n b A) (scF 8 z 0 rd p n b A) := by
  unfold scF
  rw [low_rch h.ls n hp (.inr (.inl rfl)), low_rch h.lz n hp (.inr (.inl rfl))]
  split
  · rename_i hb
    rw [low_rchV h.ls hp (.inr (.inl rfl)) hb, low_rchV h.lz hp (.inr (.inl rfl)) hb]
    rw [Bool.and_eq_true, decide_eq_true_eq, decide_eq_true_eq] at hb
    split
    · exact two_store h _ p n b hn hp.1 hb.1 hb.2
    · exact two_same h _ _ rfl
  · exact two_same h _ _ rfl
theorem two_am {s z : List UInt8} (h : SeeS s z) (op : Int) (rd : Nat) (p n b : Int) (hp : Go.Proofs.YtngeabphjdfdgaaGreatDoor.P.u64 p) (hn : n = 1 ∨ n = 2 ∨ n = 4 ∨ n = 8) (A : HS) : TwoP s z (amF 8 s 0 op rd p n b A) (amF 8 z 0 op rd p n b A) := by
  unfold amF
  rw [low_rch h.ls n hp (.inl rfl), low_rch h.lz n hp (.inl rfl), low_rch h.ls n hp (.inr (.inl rfl)), low_rch h.lz n hp (.inr (.inl rfl))]
  split
  · rename_i hb
    split
    · rename_i hc
      rw [low_rchV h.ls hp (.inl rfl) hb, low_rchV h.lz hp (.inl rfl) hb, see_load h hn hp.1 hb, low_rchV h.ls hp (.inr (.inl rfl)) hc, low_rchV h.lz hp (.inr (.inl rfl)) hc]
      rw [Bool.and_eq_true, decide_eq_true_eq, decide_eq_true_eq] at hc
      exact two_store h _ p n _ hn hp.1 hc.1 hc.2
    · exact two_same h _ _ rfl
  · exact two_same h _ _ rfl
theorem two_atom {s z : List UInt8} (h : SeeS s z) (op : Int) (rd : Nat) (p b : Int) (hp : Go.Proofs.YtngeabphjdfdgaaGreatDoor.P.u64 p) (A : HS) : TwoP s z (atomF 8 s 0 op rd p b A) (atomF 8 z 0 op rd p b A) := by
  have n4 : (4 : Int) = 1 ∨ (4 : Int) = 2 ∨ (4 : Int) = 4 ∨ (4 : Int) = 8 := by decide
  have n8 : (8 : Int) = 1 ∨ (8 : Int) = 2 ∨ (8 : Int) = 4 ∨ (8 : Int) = 8 := by decide
  unfold atomF
  by_cases h1 : op = 66
  · rw [if_pos h1, if_pos h1]; exact two_lr h _ _ _ hp n4 _
  rw [if_neg h1, if_neg h1]
  clear h1
  by_cases h1 : op = 77
  · rw [if_pos h1, if_pos h1]; exact two_lr h _ _ _ hp n8 _
  rw [if_neg h1, if_neg h1]
  clear h1
  by_cases h1 : op = 67
  · rw [if_pos h1, if_pos h1]; exact two_sc h _ _ _ _ hp n4 _
  rw [if_neg h1, if_neg h1]
  clear h1
  by_cases h1 : op = 78
  · rw [if_pos h1, if_pos h1]; exact two_sc h _ _ _ _ hp n8 _
  rw [if_neg h1, if_neg h1]
  clear h1
  by_cases h1 : op ≤ 76
  · rw [if_pos h1, if_pos h1]; exact two_am h _ _ _ _ _ hp n4 _
  rw [if_neg h1, if_neg h1]
  clear h1
  exact two_am h _ _ _ _ _ hp n8 _
theorem two_do {s z : List UInt8} (h : SeeS s z) (op : Int) (rd : Nat) (a b m pc : Int) (ha : Go.Proofs.YtngeabphjdfdgaaGreatDoor.P.u64 a) (A : HS) : TwoP s z (doF 8 s 0 op rd a b m pc A) (doF 8 z 0 op rd a b m pc A) := by
  unfold doF
  by_cases h1 : op = 1
  · rw [if_pos h1, if_pos h1]; exact two_same h _ _ rfl
  rw [if_neg h1, if_neg h1]
  clear h1
  by_cases h1 : op = 2
  · rw [if_pos h1, if_pos h1]; exact two_same h _ _ rfl
  rw [if_neg h1, if_neg h1]
  clear h1
  by_cases h1 : op = 3
  · rw [if_pos h1, if_pos h1]; exact two_jump h _ _
  rw [if_neg h1, if_neg h1]
  clear h1
  by_cases h1 : op = 4
  · rw [if_pos h1, if_pos h1]; exact two_jump h _ _
  rw [if_neg h1, if_neg h1]
  clear h1
  by_cases h1 : op ≤ 10
  · rw [if_pos h1, if_pos h1]
    by_cases hh : holdF op a b = true
    · rw [if_pos hh, if_pos hh]; exact two_jump h _ _
    · rw [if_neg hh, if_neg hh]; exact two_same h _ _ rfl
  rw [if_neg h1, if_neg h1]
  clear h1
  by_cases h1 : op ≤ 21
  · rw [if_pos h1, if_pos h1]; exact two_move h _ _ _ _ (u64_w64 _) h1 _
  rw [if_neg h1, if_neg h1]
  clear h1
  by_cases h1 : op ≤ 34
  · rw [if_pos h1, if_pos h1]; exact two_same h _ _ rfl
  rw [if_neg h1, if_neg h1]
  clear h1
  by_cases h1 : op ≤ 62
  · rw [if_pos h1, if_pos h1]; exact two_same h _ _ rfl
  rw [if_neg h1, if_neg h1]
  clear h1
  by_cases h1 : op = 63
  · rw [if_pos h1, if_pos h1]; exact two_same h _ _ rfl
  rw [if_neg h1, if_neg h1]
  clear h1
  by_cases h1 : op = 64
  · rw [if_pos h1, if_pos h1]; exact two_same h _ _ rfl
  rw [if_neg h1, if_neg h1]
  clear h1
  by_cases h1 : op = 65
  · rw [if_pos h1, if_pos h1]; exact two_same h _ _ rfl
  rw [if_neg h1, if_neg h1]
  clear h1
  exact two_atom h _ _ _ _ ha _
/-- A step over two memories that agree where the tables lead. -/
theorem two_step {s z : List UInt8} (h : SeeS s z) {H : HS} (hH : H.ok) : (stepF 8 s 0 H).H = (stepF 8 z 0 H).H ∧ (stepF 8 s 0 H).e = (stepF 8 z 0 H).e ∧ SeeS (stepF 8 s 0 H).s (stepF 8 z 0 H).s ∧ (stepF 8 s 0 H).s.drop 1280 = s.drop 1280 ∧ ((stepF 8 s 0 H).e.wr = true → 768 ≤ (stepF 8 s 0 H).e.ad ∧ (stepF 8 s 0 H).e.ad < 1280) := by
  have h0 : (H.set 0 0).ok := HS.set_ok hH 0 u64_lit0
  have hp := hH.2.1
  unfold stepF
  rw [low_rch h.ls 4 hp (.inr (.inr rfl)), low_rch h.lz 4 hp (.inr (.inr rfl))]
  cases hb : (decide (H.pc % 4 = 0) && decide (H.pc < limA 3)) with
  | false => exact ⟨rfl, rfl, h, rfl, fun hx => Bool.noConfusion hx⟩
  | true =>
    rw [low_rchV h.ls hp (.inr (.inr rfl)) hb, low_rchV h.lz hp (.inr (.inr rfl)) hb, see_load h (.inr (.inr (.inl rfl))) hp.1 hb]
    rw [if_pos rfl, if_pos rfl]
    generalize loadV z (768 + H.pc) 4 = x
    have hl := ins_lt x
    split
    · have ht := two_do h (insF x).op (insF x).rd ((H.set 0 0).X (insF x).a) ((H.set 0 0).X (insF x).b) (w64 (insF x).i) H.pc (h0.1 _ hl.1) { H.set 0 0 with pc := w64 (H.pc + 4) }
      generalize doF 8 s 0 (insF x).op (insF x).rd ((H.set 0 0).X (insF x).a) ((H.set 0 0).X (insF x).b) (w64 (insF x).i) H.pc { H.set 0 0 with pc := w64 (H.pc + 4) } = D at ht ⊢
      generalize doF 8 z 0 (insF x).op (insF x).rd ((H.set 0 0).X (insF x).a) ((H.set 0 0).X (insF x).b) (w64 (insF x).i) H.pc { H.set 0 0 with pc := w64 (H.pc + 4) } = E at ht ⊢
      obtain ⟨t1, t2, t3, t4, t5⟩ := ht
      rw [← t2]
      split
      · exact ⟨by simp only; rw [t1], rfl, t3, t4, t5⟩
      · exact ⟨rfl, rfl, t3, t4, t5⟩
    · exact ⟨rfl, rfl, h, rfl, fun hx => Bool.noConfusion hx⟩
end Go.Proofs.YtngeabphjdfdgaaGreatDoor.P
namespace Go.Proofs.YtngeabphjdfdgaaGreatDoor.P
open Go.RowKit Go.MuLone Go.Proofs.YtngeabphjdfdgaaGreatDoor.W
/-- What the document says that an instruction does. -/
structure DN where
  sets : Bool
  v : Int
  pc : Int
  e : EvS
  hd : Bool
  at_ : Int
def dnC (d : DN) : Array Value := #[.bool d.sets, .int .u64 d.v, .int .u64 d.pc, .int .i64 d.e.k, .int .u64 d.e.ad, .bool d.e.wr, .bool d.hd, .int .u64 d.at_]
def d0F (H : HS) : DN := ⟨false, 0, w64 (H.pc + 4), e0, H.hd, H.at_⟩
structure DR where
  d : DN
  s : List UInt8
def finF (d : DN) (s : List UInt8) (tg : Int) : DR := ⟨{ d with e := if tg % 4 = 0 then d.e else ⟨4, tg, false⟩, pc := tg }, s⟩
def dMemF (fr : Nat) (s : List UInt8) (r op p b : Int) (d : DN) : DR :=
  if op ≤ 17 then
    (if rchB fr s r p (2 ^ ((op - 11) % 4).toNat) 1 = true then ⟨{ d with sets := true, v := if op ≤ 14 then sgnF (loadV s (rchV fr s r p (2 ^ ((op - 11) % 4).toNat) 1) (2 ^ ((op - 11) % 4).toNat)) (8 * (2 ^ ((op - 11) % 4).toNat)) else loadV s (rchV fr s r p (2 ^ ((op - 11) % 4).toNat) 1) (2 ^ ((op - 11) % 4).toNat) }, s⟩
    else ⟨{ d with e := ⟨5, p, false⟩ }, s⟩)
  else
    (if rchB fr s r p (2 ^ (op - 18).toNat) 2 = true then ⟨{ d with e := ⟨0, rchV fr s r p (2 ^ (op - 18).toNat) 2, true⟩ }, storeS s (rchV fr s r p (2 ^ (op - 18).toNat) 2) (2 ^ (op - 18).toNat) b⟩
    else ⟨{ d with e := ⟨6, p, false⟩ }, s⟩)
def amN (op : Int) : Int := if op ≤ 76 then 4 else 8
def amK (op : Int) : Int := if op ≤ 76 then op - 66 else op - 77
def dAtF (fr : Nat) (s : List UInt8) (r op p b : Int) (d : DN) : DR :=
  if amK op = 0 then
    (if rchB fr s r p (amN op) 1 = true then ⟨{ d with sets := true, v := sgnF (loadV s (rchV fr s r p (amN op) 1) (amN op)) (8 * amN op), hd := true, at_ := rchV fr s r p (amN op) 1 }, s⟩ else ⟨{ d with e := ⟨5, p, false⟩ }, s⟩)
  else if amK op = 1 then
    (if rchB fr s r p (amN op) 2 = true then
      (if (d.hd && decide (d.at_ = rchV fr s r p (amN op) 2)) = true then ⟨⟨true, 0, d.pc, ⟨0, rchV fr s r p (amN op) 2, true⟩, false, 0⟩, storeS s (rchV fr s r p (amN op) 2) (amN op) b⟩
      else ⟨{ d with sets := true, v := 1, hd := false, at_ := 0 }, s⟩)
    else ⟨{ d with e := ⟨6, p, false⟩ }, s⟩)
  else
    (if (rchB fr s r p (amN op) 2 && rchB fr s r p (amN op) 1) = true then
      ⟨{ d with sets := true, v := sgnF (loadV s (rchV fr s r p (amN op) 2) (amN op)) (8 * amN op), e := ⟨0, rchV fr s r p (amN op) 2, true⟩ }, storeS s (rchV fr s r p (amN op) 2) (amN op) (amoV op (loadV s (rchV fr s r p (amN op) 2) (amN op)) b)⟩
    else ⟨{ d with e := ⟨6, p, false⟩ }, s⟩)
def docF (fr : Nat) (s : List UInt8) (r op a b m pc : Int) (d : DN) : DR :=
  if op = 1 then finF { d with sets := true, v := m } s (w64 (pc + 4))
  else if op = 2 then finF { d with sets := true, v := w64 (pc + m) } s (w64 (pc + 4))
  else if op = 3 then finF { d with sets := true, v := w64 (pc + 4) } s (w64 (pc + m))
  else if op = 4 then finF { d with sets := true, v := w64 (pc + 4) } s (w64 (a + m) / 2 * 2)
  else if op ≤ 10 then finF d s (if holdF op a b = true then w64 (pc + m) else w64 (pc + 4))
  else if op ≤ 21 then dMemF fr s r op (w64 (a + m)) b d
  else if op ≤ 34 then finF { d with sets := true, v := reckV (aluL.getD (op - 22).toNat 0) a m } s (w64 (pc + 4))
  else if op ≤ 62 then finF { d with sets := true, v := reckV op a b } s (w64 (pc + 4))
  else if op = 63 then finF d s (w64 (pc + 4))
  else dAtF fr s r op a b d
/-- What is done to a hart. -/
def appF (d : DN) (rd : Nat) (H : HS) : HS := ⟨if (d.sets && decide (0 < rd)) = true then upX H.X rd d.v else H.X, d.pc, d.hd, d.at_⟩
def Fits (D : DS) (d : DR) (rd : Nat) (H : HS) : Prop := d.s = D.s ∧ d.d.e = D.e ∧ (D.e.k = 0 → appF d.d rd H = D.A.set 0 0)
theorem fit_set (X : Nat → Int) (h0 : X 0 = 0) (rd : Nat) (v pc : Int) (hd : Bool) (at_ : Int) (e : EvS) (s : List UInt8) (p1 : Int) (h1 : Bool) (a1 : Int) : Fits ⟨⟨upX X rd v, pc, hd, at_⟩, e, s⟩ ⟨⟨true, v, pc, e, hd, at_⟩, s⟩ rd ⟨X, p1, h1, a1⟩ := by
  refine ⟨rfl, rfl, fun _ => ?_⟩
  unfold appF HS.set
  simp only [Bool.true_and]
  congr 1
  funext j
  by_cases hr : 0 < rd
  · rw [if_pos (decide_eq_true hr)]
    by_cases hj : j = 0
    · subst hj; unfold upX; rw [if_neg (by omega), if_pos rfl]; exact h0
    · rw [show upX (upX X rd v) 0 0 j = upX X rd v j from if_neg hj]
  · rw [if_neg (by simpa using hr)]
    obtain rfl : rd = 0 := by omega
    by_cases hj : j = 0
    · subst hj; unfold upX; rw [if_pos rfl]; exact h0
    · unfold upX; rw [if_neg hj, if_neg hj]
theorem fit_no (X : Nat → Int) (h0 : X 0 = 0) (rd : Nat) (v pc : Int) (hd : Bool) (at_ : Int) (e : EvS) (s : List UInt8) (p1 : Int) (h1 : Bool) (a1 : Int) : Fits ⟨⟨X, pc, hd, at_⟩, e, s⟩ ⟨⟨false, v, pc, e, hd, at_⟩, s⟩ rd ⟨X, p1, h1, a1⟩ := by
  refine ⟨rfl, rfl, fun _ => ?_⟩
  unfold appF HS.set
  simp only [Bool.false_and]
  congr 1
  funext j
  by_cases hj : j = 0
  · subst hj; unfold upX; rw [if_pos rfl]; exact h0
  · unfold upX; rw [if_neg hj]; rfl
theorem fit_ev (A : HS) (e : EvS) (s : List UInt8) (d : DN) (rd : Nat) (H : HS) (he : d.e = e) (hk : e.k ≠ 0) : Fits ⟨A, e, s⟩ ⟨d, s⟩ rd H := ⟨rfl, he, fun h => absurd h hk⟩
theorem fit_jump {H : HS} (h0 : H.X 0 = 0) (rd : Nat) (v : Int) (s : List UInt8) (tg : Int) : Fits (jumpF ({ H with pc := w64 (H.pc + 4) }.set rd v) s tg) (finF { d0F H with sets := true, v := v } s tg) rd H := by
  obtain ⟨X, pc, hd, a⟩ := H
  unfold jumpF finF
  by_cases ht : tg % 4 = 0
  · rw [if_pos ht, if_pos ht]; exact fit_set X h0 rd v tg hd a e0 s _ _ _
  · rw [if_neg ht, if_neg ht]; exact fit_ev _ _ _ _ _ _ rfl (show (4 : Int) ≠ 0 by decide)
theorem fit_jump0 {H : HS} (h0 : H.X 0 = 0) (rd : Nat) (s : List UInt8) (tg : Int) : Fits (jumpF { H with pc := w64 (H.pc + 4) } s tg) (finF (d0F H) s tg) rd H := by
  obtain ⟨X, pc, hd, a⟩ := H
  unfold jumpF finF
  by_cases ht : tg % 4 = 0
  · rw [if_pos ht, if_pos ht]; exact fit_no X h0 rd 0 tg hd a e0 s _ _ _
  · rw [if_neg ht, if_neg ht]; exact fit_ev _ _ _ _ _ _ rfl (show (4 : Int) ≠ 0 by decide)
theorem fit_go {H : HS} (h0 : H.X 0 = 0) (hp : H.pc % 4 = 0) (rd : Nat) (v : Int) (s : List UInt8) : Fits ⟨{ H with pc := w64 (H.pc + 4) }.set rd v, e0, s⟩ (finF { d0F H with sets := true, v := v } s (w64 (H.pc + 4))) rd H := by
  obtain ⟨X, pc, hd, a⟩ := H
  simp only at hp
  unfold finF
  rw [if_pos (by unfold w64; simp only; omega)]
  exact fit_set X h0 rd v _ hd a e0 s _ _ _
theorem fit_go0 {H : HS} (h0 : H.X 0 = 0) (hp : H.pc % 4 = 0) (rd : Nat) (s : List UInt8) : Fits ⟨{ H with pc := w64 (H.pc + 4) }, e0, s⟩ (finF (d0F H) s (w64 (H.pc + 4))) rd H := by
  obtain ⟨X, pc, hd, a⟩ := H
  simp only at hp
  unfold finF
  rw [if_pos (by unfold w64; simp only; omega)]
  exact fit_no X h0 rd 0 _ hd a e0 s _ _ _
theorem fit_mem {H : HS} (h0 : H.X 0 = 0) (fr : Nat) (s : List UInt8) (r op : Int) (rd : Nat) (p b : Int) : Fits (moveF fr s r op rd p b { H with pc := w64 (H.pc + 4) }) (dMemF fr s r op p b (d0F H)) rd H := by
  obtain ⟨X, pc, hd, a⟩ := H
  unfold moveF dMemF
  by_cases h1 : op ≤ 17
  · rw [if_neg (by omega), if_pos h1]
    unfold loadF
    split
    · exact fit_set X h0 rd _ _ hd a e0 s _ _ _
    · exact fit_ev _ _ _ _ _ _ rfl (show (5 : Int) ≠ 0 by decide)
  · rw [if_pos (by omega), if_neg h1]
    unfold storF
    split
    · exact fit_no X h0 rd 0 _ hd a _ _ _ _ _
    · exact fit_ev _ _ _ _ _ _ rfl (show (6 : Int) ≠ 0 by decide)
theorem rch_same {fr : Nat} {s : List UInt8} {r p n : Int} (h1 : rchB fr s r p n 1 = true) (h2 : rchB fr s r p n 2 = true) : rchV fr s r p n 1 = rchV fr s r p n 2 := by
  unfold rchB at h1 h2
  rw [Bool.and_eq_true, decide_eq_true_eq, decide_eq_true_eq] at h1 h2
  unfold rchV
  rw [if_pos h1.1, if_pos h1.1]
  unfold walkV
  rw [h1.2, h2.2]
theorem fit_at {H : HS} (h0 : H.X 0 = 0) (fr : Nat) (s : List UInt8) (r op : Int) (rd : Nat) (p b : Int) (hop : 66 ≤ op ∧ op ≤ 87) : Fits (atomF fr s r op rd p b { H with pc := w64 (H.pc + 4) }) (dAtF fr s r op p b (d0F H)) rd H := by
  have lr : ∀ n : Int, Fits (lrF fr s r rd p n { H with pc := w64 (H.pc + 4) }) (if rchB fr s r p n 1 = true then ⟨{ d0F H with sets := true, v := sgnF (loadV s (rchV fr s r p n 1) n) (8 * n), hd := true, at_ := rchV fr s r p n 1 }, s⟩ else ⟨{ d0F H with e := ⟨5, p, false⟩ }, s⟩) rd H := by
    intro n
    obtain ⟨X, pc, hd, a⟩ := H
    unfold lrF
    split
    · exact fit_set X h0 rd _ _ true _ e0 s _ _ _
    · exact fit_ev _ _ _ _ _ _ rfl (show (5 : Int) ≠ 0 by decide)
  have sc : ∀ n : Int, Fits (scF fr s r rd p n b { H with pc := w64 (H.pc + 4) }) (if rchB fr s r p n 2 = true then
      (if ((d0F H).hd && decide ((d0F H).at_ = rchV fr s r p n 2)) = true then ⟨⟨true, 0, (d0F H).pc, ⟨0, rchV fr s r p n 2, true⟩, false, 0⟩, storeS s (rchV fr s r p n 2) n b⟩
      else ⟨{ d0F H with sets := true, v := 1, hd := false, at_ := 0 }, s⟩)
    else ⟨{ d0F H with e := ⟨6, p, false⟩ }, s⟩) rd H := by
    intro n
    obtain ⟨X, pc, hd, a⟩ := H
    unfold scF
    split
    · by_cases hc : (hd && decide (a = rchV fr s r p n 2)) = true
      · rw [if_pos hc, if_pos (show ((d0F ⟨X, pc, hd, a⟩).hd && decide ((d0F ⟨X, pc, hd, a⟩).at_ = rchV fr s r p n 2)) = true from hc)]; exact fit_set X h0 rd _ _ false 0 _ _ _ _ _
      · rw [if_neg hc, if_neg (show ¬ ((d0F ⟨X, pc, hd, a⟩).hd && decide ((d0F ⟨X, pc, hd, a⟩).at_ = rchV fr s r p n 2)) = true from hc)]; exact fit_set X h0 rd _ _ false 0 e0 s _ _ _
    · exact fit_ev _ _ _ _ _ _ rfl (show (6 : Int) ≠ 0 by decide)
  have am : ∀ n : Int, Fits (amF fr s r op rd p n b { H with pc := w64 (H.pc + 4) }) (if (rchB fr s r p n 2 && rchB fr s r p n 1) = true then
      ⟨{ d0F H with sets := true, v := sgnF (loadV s (rchV fr s r p n 2) n) (8 * n), e := ⟨0, rchV fr s r p n 2, true⟩ }, storeS s (rchV fr s r p n 2) n (amoV op (loadV s (rchV fr s r p n 2) n) b)⟩
    else ⟨{ d0F H with e := ⟨6, p, false⟩ }, s⟩) rd H := by
    intro n
    obtain ⟨X, pc, hd, a⟩ := H
    unfold amF
    cases h1 : rchB fr s r p n 1 with
    | false =>
      rw [if_neg (by decide), Bool.and_false, if_neg (by decide)]
      exact fit_ev _ _ _ _ _ _ rfl (show (6 : Int) ≠ 0 by decide)
    | true =>
      cases h2 : rchB fr s r p n 2 with
      | false =>
        rw [if_pos rfl, if_neg (by decide), Bool.false_and, if_neg (by decide)]
        exact fit_ev _ _ _ _ _ _ rfl (show (6 : Int) ≠ 0 by decide)
      | true =>
        rw [if_pos rfl, if_pos rfl, Bool.true_and, if_pos rfl, rch_same h1 h2]
        exact fit_set X h0 rd _ _ hd a _ _ _ _ _
  unfold atomF dAtF
  by_cases g1 : op ≤ 76
  · rw [show amN op = 4 from if_pos g1, show amK op = op - 66 from if_pos g1]
    by_cases g2 : op = 66
    · rw [if_pos g2, if_pos (by omega)]; exact lr 4
    · rw [if_neg g2, if_neg (by omega : ¬ op = 77), if_neg (by omega : ¬ op - 66 = 0)]
      by_cases g3 : op = 67
      · rw [if_pos g3, if_pos (by omega)]; exact sc 4
      · rw [if_neg g3, if_neg (by omega : ¬ op = 78), if_pos g1, if_neg (by omega : ¬ op - 66 = 1)]; exact am 4
  · rw [show amN op = 8 from if_neg g1, show amK op = op - 77 from if_neg g1, if_neg (by omega : ¬ op = 66)]
    by_cases g2 : op = 77
    · rw [if_pos g2, if_pos (by omega)]; exact lr 8
    · rw [if_neg g2, if_neg (by omega : ¬ op = 67), if_neg (by omega : ¬ op - 77 = 0)]
      by_cases g3 : op = 78
      · rw [if_pos g3, if_pos (by omega)]; exact sc 8
      · rw [if_neg g3, if_neg g1, if_neg (by omega : ¬ op - 77 = 1)]; exact am 8
theorem fit_do {H : HS} (h0 : H.X 0 = 0) (hp : H.pc % 4 = 0) (fr : Nat) (s : List UInt8) (r op : Int) (rd : Nat) (a b m : Int) (hop : op ≤ 63 ∨ 66 ≤ op ∧ op ≤ 87) : Fits (doF fr s r op rd a b m H.pc { H with pc := w64 (H.pc + 4) }) (docF fr s r op a b m H.pc (d0F H)) rd H := by
  unfold doF docF
  by_cases h1 : op = 1
  · rw [if_pos h1, if_pos h1]; exact fit_go h0 hp _ _ _
  rw [if_neg h1, if_neg h1]
  by_cases h1 : op = 2
  · rw [if_pos h1, if_pos h1]; exact fit_go h0 hp _ _ _
  rw [if_neg h1, if_neg h1]
  by_cases h1 : op = 3
  · rw [if_pos h1, if_pos h1]; exact fit_jump h0 _ _ _ _
  rw [if_neg h1, if_neg h1]
  by_cases h1 : op = 4
  · rw [if_pos h1, if_pos h1]; exact fit_jump h0 _ _ _ _
  rw [if_neg h1, if_neg h1]
  by_cases h1 : op ≤ 10
  · rw [if_pos h1, if_pos h1]
    by_cases hh : holdF op a b = true
    · rw [if_pos hh, if_pos hh]; exact fit_jump0 h0 _ _ _
    · rw [if_neg hh, if_neg hh]; exact fit_go0 h0 hp _ _
  rw [if_neg h1, if_neg h1]
  by_cases h1 : op ≤ 21
  · rw [if_pos h1, if_pos h1]; exact fit_mem h0 _ _ _ _ _ _ _
  rw [if_neg h1, if_neg h1]
  by_cases h1 : op ≤ 34
  · rw [if_pos h1, if_pos h1]; exact fit_go h0 hp _ _ _
  rw [if_neg h1, if_neg h1]
  by_cases h1 : op ≤ 62
  · rw [if_pos h1, if_pos h1]; exact fit_go h0 hp _ _ _
  rw [if_neg h1, if_neg h1]
  by_cases h1 : op = 63
  · rw [if_pos h1, if_pos h1]; exact fit_go0 h0 hp _ _
  rw [if_neg h1, if_neg h1, if_neg (by omega : ¬ op = 64), if_neg (by omega : ¬ op = 65)]
  exact fit_at h0 _ _ _ _ _ _ _ (by omega)
/-- The document's step. -/
def dStepF (fr : Nat) (s : List UInt8) (r : Int) (H : HS) : RS :=
  if rchB fr s r H.pc 4 3 = true then
    (if decE (loadV s (rchV fr s r H.pc 4 3) 4) = 0 then
      (if (insF (loadV s (rchV fr s r H.pc 4 3) 4)).op = 64 then ⟨H.set 0 0, ⟨1, 0, false⟩, s⟩
      else if (insF (loadV s (rchV fr s r H.pc 4 3) 4)).op = 65 then ⟨H.set 0 0, ⟨2, 0, false⟩, s⟩
      else if (docF fr s r (insF (loadV s (rchV fr s r H.pc 4 3) 4)).op ((H.set 0 0).X (insF (loadV s (rchV fr s r H.pc 4 3) 4)).a) ((H.set 0 0).X (insF (loadV s (rchV fr s r H.pc 4 3) 4)).b) (w64 (insF (loadV s (rchV fr s r H.pc 4 3) 4)).i) H.pc (d0F (H.set 0 0))).d.e.k = 0 then
        ⟨appF (docF fr s r (insF (loadV s (rchV fr s r H.pc 4 3) 4)).op ((H.set 0 0).X (insF (loadV s (rchV fr s r H.pc 4 3) 4)).a) ((H.set 0 0).X (insF (loadV s (rchV fr s r H.pc 4 3) 4)).b) (w64 (insF (loadV s (rchV fr s r H.pc 4 3) 4)).i) H.pc (d0F (H.set 0 0))).d (insF (loadV s (rchV fr s r H.pc 4 3) 4)).rd (H.set 0 0),
         (docF fr s r (insF (loadV s (rchV fr s r H.pc 4 3) 4)).op ((H.set 0 0).X (insF (loadV s (rchV fr s r H.pc 4 3) 4)).a) ((H.set 0 0).X (insF (loadV s (rchV fr s r H.pc 4 3) 4)).b) (w64 (insF (loadV s (rchV fr s r H.pc 4 3) 4)).i) H.pc (d0F (H.set 0 0))).d.e,
         (docF fr s r (insF (loadV s (rchV fr s r H.pc 4 3) 4)).op ((H.set 0 0).X (insF (loadV s (rchV fr s r H.pc 4 3) 4)).a) ((H.set 0 0).X (insF (loadV s (rchV fr s r H.pc 4 3) 4)).b) (w64 (insF (loadV s (rchV fr s r H.pc 4 3) 4)).i) H.pc (d0F (H.set 0 0))).s⟩
      else ⟨H.set 0 0,
         (docF fr s r (insF (loadV s (rchV fr s r H.pc 4 3) 4)).op ((H.set 0 0).X (insF (loadV s (rchV fr s r H.pc 4 3) 4)).a) ((H.set 0 0).X (insF (loadV s (rchV fr s r H.pc 4 3) 4)).b) (w64 (insF (loadV s (rchV fr s r H.pc 4 3) 4)).i) H.pc (d0F (H.set 0 0))).d.e,
         (docF fr s r (insF (loadV s (rchV fr s r H.pc 4 3) 4)).op ((H.set 0 0).X (insF (loadV s (rchV fr s r H.pc 4 3) 4)).a) ((H.set 0 0).X (insF (loadV s (rchV fr s r H.pc 4 3) 4)).b) (w64 (insF (loadV s (rchV fr s r H.pc 4 3) 4)).i) H.pc (d0F (H.set 0 0))).s⟩)
    else ⟨H.set 0 0, ⟨3, 0, false⟩, s⟩)
  else ⟨H.set 0 0, ⟨4, H.pc, false⟩, s⟩
theorem op_range (x : Int) (hx : u32 x) (h : decE x = 0) : 1 ≤ (insF x).op ∧ (insF x).op ≤ 87 := (ins_of hx h).2.2.2.2
theorem dstep_is (fr : Nat) (s : List UInt8) (r : Int) (H : HS) (h4 : u32 (loadV s (rchV fr s r H.pc 4 3) 4)) : dStepF fr s r H = stepF fr s r H := by
  unfold dStepF stepF
  by_cases hb : rchB fr s r H.pc 4 3 = true
  · rw [if_pos hb, if_pos hb]
    have hp : H.pc % 4 = 0 := by unfold rchB at hb; rw [Bool.and_eq_true, decide_eq_true_eq] at hb; exact hb.1
    generalize loadV s (rchV fr s r H.pc 4 3) 4 = x at *
    by_cases hd : decE x = 0
    · rw [if_pos hd, if_pos hd]
      have ho := op_range x h4 hd
      by_cases h64 : (insF x).op = 64
      · rw [if_pos h64, h64]
        exact (if_neg (show ¬ (1 : Int) = 0 by decide)).symm
      rw [if_neg h64]
      by_cases h65 : (insF x).op = 65
      · rw [if_pos h65, h65]
        exact (if_neg (show ¬ (2 : Int) = 0 by decide)).symm
      rw [if_neg h65]
      obtain ⟨f1, f2, f3⟩ := fit_do (H := H.set 0 0) rfl hp fr s r (insF x).op (insF x).rd ((H.set 0 0).X (insF x).a) ((H.set 0 0).X (insF x).b) (w64 (insF x).i) (by omega)
      change (docF fr s r (insF x).op ((H.set 0 0).X (insF x).a) ((H.set 0 0).X (insF x).b) (w64 (insF x).i) H.pc (d0F (H.set 0 0))).s = (doF fr s r (insF x).op (insF x).rd ((H.set 0 0).X (insF x).a) ((H.set 0 0).X (insF x).b) (w64 (insF x).i) H.pc { H.set 0 0 with pc := w64 (H.pc + 4) }).s at f1
      change (docF fr s r (insF x).op ((H.set 0 0).X (insF x).a) ((H.set 0 0).X (insF x).b) (w64 (insF x).i) H.pc (d0F (H.set 0 0))).d.e = (doF fr s r (insF x).op (insF x).rd ((H.set 0 0).X (insF x).a) ((H.set 0 0).X (insF x).b) (w64 (insF x).i) H.pc { H.set 0 0 with pc := w64 (H.pc + 4) }).e at f2
      change (doF fr s r (insF x).op (insF x).rd ((H.set 0 0).X (insF x).a) ((H.set 0 0).X (insF x).b) (w64 (insF x).i) H.pc { H.set 0 0 with pc := w64 (H.pc + 4) }).e.k = 0 → appF (docF fr s r (insF x).op ((H.set 0 0).X (insF x).a) ((H.set 0 0).X (insF x).b) (w64 (insF x).i) H.pc (d0F (H.set 0 0))).d (insF x).rd (H.set 0 0) = (doF fr s r (insF x).op (insF x).rd ((H.set 0 0).X (insF x).a) ((H.set 0 0).X (insF x).b) (w64 (insF x).i) H.pc { H.set 0 0 with pc := w64 (H.pc + 4) }).A.set 0 0 at f3
      generalize docF fr s r (insF x).op ((H.set 0 0).X (insF x).a) ((H.set 0 0).X (insF x).b) (w64 (insF x).i) H.pc (d0F (H.set 0 0)) = d at *
      generalize doF fr s r (insF x).op (insF x).rd ((H.set 0 0).X (insF x).a) ((H.set 0 0).X (insF x).b) (w64 (insF x).i) H.pc { H.set 0 0 with pc := w64 (H.pc + 4) } = D at *
      rw [f1, f2]
      by_cases hk : D.e.k = 0
      · rw [if_pos hk, if_pos hk, f3 hk]
      · rw [if_neg hk, if_neg hk]
    · rw [if_neg hd, if_neg hd]
  · rw [if_neg hb, if_neg hb]
end Go.Proofs.YtngeabphjdfdgaaGreatDoor.P
