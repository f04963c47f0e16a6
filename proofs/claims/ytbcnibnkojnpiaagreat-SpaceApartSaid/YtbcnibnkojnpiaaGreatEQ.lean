/- Stage 11: the entries of tables behind what is done to memory. No condition. -/
import Derived.Test.YtbcnibnkojnpiaaGreatE3
set_option linter.unusedVariables false
namespace Go.Proofs.YtbcnibnkojnpiaaGreat.P
open Go.RowKit Go.MuLone Go.Maps Go.Proofs.YtbcnibnkojnpiaaGreat.W
set_option maxRecDepth 100000 in
theorem store_put (s : List UInt8) (a : Nat) (v : Int) (h : a + 8 ≤ s.length) : storeS s a 8 v = putL s a (bytesF v 8).data.toList ∧ (bytesF v 8).data.toList.length = 8 := by
  have hl : (bytesF v 8).data.toList.length = 8 := by
    have := bytes_size v 8
    rw [show clampN 8 = 8 by decide] at this
    rw [Array.length_toList]; exact this
  refine ⟨?_, hl⟩
  unfold storeS inB
  rw [if_pos (show sizedB 8 = true from rfl), if_pos (decide_eq_true (by omega)), Int.toNat_natCast]
theorem ent_sub (s : List UInt8) (a : Nat) (h : a + 8 ≤ s.length) : entS s a = ofF (subB s a 8) := by
  unfold entS loadV inB
  rw [if_pos (show sizedB 8 = true from rfl), if_pos (decide_eq_true (by omega)), Int.toNat_natCast]; rfl
theorem putL_len3 (s : List UInt8) (a : Nat) (x : List UInt8) (h : a + x.length ≤ s.length) : (putL s a x).length = s.length := putL_len _ _ _ h
theorem ent_same (s : List UInt8) (a : Nat) (v : Int) (h : a + 8 ≤ s.length) (hv : W.word v) : entS (storeS s a 8 v) a = v := by
  have hl := (store_put s a v h).2
  have hlen : (storeS s a 8 v).length = s.length := by rw [(store_put s a v h).1]; exact putL_len _ _ _ (by omega)
  rw [ent_sub _ _ (by omega), (store_put s a v h).1]
  have e : subB (putL s a (bytesF v 8).data.toList) a 8 = bytesF v 8 := by
    unfold subB
    have := sub_put_same s a (bytesF v 8).data.toList (by omega)
    rw [hl] at this
    rw [this]
  rw [e, of_bytes v 8 hv]
  rw [show clampN 8 = 8 by decide]
  unfold lowF
  rw [if_neg (by decide), if_pos (by decide)]
/-- What is put beside an entry leaves it. -/
theorem ent_put (s : List UInt8) (a : Nat) (x : List UInt8) (h : a + x.length ≤ s.length) (p : Nat) (hp : p + 8 ≤ s.length) (hd : p + 8 ≤ a ∨ a + x.length ≤ p) : entS (putL s a x) p = entS s p := by
  have hlen := putL_len s a x h
  rw [ent_sub _ _ (by omega), ent_sub _ _ hp]
  unfold subB
  rw [sub_put_other s a x h p 8 hd]
/-- The entry k of the table f. -/
def T (z : Sp) (f k : Nat) : Int := entS z.s ((f * 256 + k * 8 : Nat) : Int)
structure Sz (z : Sp) : Prop where
  len : z.s.length = z.L.length * 256
  lo : 1 ≤ z.L.length
  hi : z.L.length ≤ 256
theorem T_put {z : Sp} (hz : Sz z) {f k : Nat} (hf : f < z.L.length) (hk : k < 32) (v : Int) (hv : W.word v) (g j : Nat) (hg : g < z.L.length) (hj : j < 32) :
    T (putX z ((f * 256 + k * 8 : Nat) : Int) v) g j = if g = f ∧ j = k then v else T z g j := by
  have hl := hz.len
  unfold T putX
  by_cases e : g = f ∧ j = k
  · obtain ⟨rfl, rfl⟩ := e
    rw [if_pos ⟨rfl, rfl⟩]
    exact ent_same _ _ v (by omega) hv
  · rw [if_neg e]
    have h8 := (store_put z.s (f * 256 + k * 8) v (by omega))
    show entS (storeS z.s ((f * 256 + k * 8 : Nat) : Int) 8 v) _ = _
    rw [h8.1]
    refine ent_put _ _ _ (by omega) _ (by omega) ?_
    rw [h8.2]
    have : ¬ (g = f ∧ j = k) := e
    by_cases e2 : g = f
    · subst e2
      have : j ≠ k := fun h => e ⟨rfl, h⟩
      omega
    · omega
theorem putX_sz {z : Sp} (hz : Sz z) {p : Int} (v : Int) (h0 : 0 ≤ p) : Sz (putX z p v) := by
  refine ⟨?_, hz.lo, hz.hi⟩
  show (storeS z.s p 8 v).length = _
  unfold storeS; split
  · split
    · rename_i h1 h2
      have h3 : p + 8 ≤ z.s.length := of_decide_eq_true h2
      obtain ⟨q, rfl⟩ : ∃ q : Nat, p = (q : Int) := ⟨p.toNat, by omega⟩
      have h8 := (store_put z.s q v (by omega)).2
      rw [putL_len _ _ _ (by rw [Int.toNat_natCast]; omega)]; exact hz.len
    · exact hz.len
  · exact hz.len
theorem ofF_zero : ofF (subB (List.replicate 256 0) 0 8) = 0 := by decide +kernel
theorem T_clear {s : List UInt8} {fr : Nat} (hl : s.length = fr * 256) {n : Nat} (hn : n < fr) (L L' : List Bool) (g j : Nat) (hg : g < fr) (hj : j < 32) :
    T ⟨L', clearS fr s n⟩ g j = if g = n then 0 else T ⟨L, s⟩ g j := by
  unfold T
  show entS (clearS fr s n) _ = if g = n then 0 else entS s _
  have e1 : clearS fr s n = putL s (n * 256) (List.replicate 256 0) := by
    unfold clearS frB; rw [if_pos (decide_eq_true ⟨by omega, by omega⟩), Int.toNat_natCast]
  rw [e1]
  have h256 : (List.replicate 256 (0 : UInt8)).length = 256 := List.length_replicate
  by_cases e : g = n
  · subst e
    rw [if_pos rfl]
    have hlen : (putL s (g * 256) (List.replicate 256 0)).length = s.length := putL_len _ _ _ (by omega)
    rw [ent_sub _ _ (by omega)]
    have h2 := sub_put_same s (g * 256) (List.replicate 256 0) (by omega)
    rw [h256] at h2
    have h3 : subB (putL s (g * 256) (List.replicate 256 0)) (g * 256 + j * 8) 8 = subB (List.replicate 256 0) (j * 8) 8 := by
      unfold subB
      have e4 : ((putL s (g * 256) (List.replicate 256 0)).drop (g * 256 + j * 8)).take 8 = ((((putL s (g * 256) (List.replicate 256 0)).drop (g * 256)).take 256).drop (j * 8)).take 8 := by
        rw [List.drop_take, List.drop_drop, List.take_take, Nat.min_eq_left (by omega)]
      rw [e4, h2]
    rw [h3]
    have h4 : subB (List.replicate 256 0) (j * 8) 8 = subB (List.replicate 256 0) 0 8 := by
      unfold subB
      rw [List.drop_replicate, List.drop_replicate, List.take_replicate, List.take_replicate, Nat.min_eq_left (by omega), Nat.min_eq_left (by omega)]
    rw [h4]
    exact ofF_zero
  · rw [if_neg e]
    exact ent_put _ _ _ (by omega) _ (by omega) (by rw [h256]; omega)
theorem clear_sz {s : List UInt8} {fr : Nat} (hl : s.length = fr * 256) (n : Int) : (clearS fr s n).length = fr * 256 := by
  unfold clearS; split
  · rename_i h
    have h := of_decide_eq_true h
    rw [putL_len _ _ _ (by rw [List.length_replicate]; omega)]; exact hl
  · exact hl
/-- How many are free, when one is taken. -/
theorem cnt_none (L : List Bool) (a : Nat) : ∀ n, (∀ j, a ≤ j → j < a + n → isL L j = false) → cntL L a n = 0
  | 0, _ => rfl
  | n + 1, h => by
    rw [cntL, cnt_none L a n (fun j h1 h2 => h j h1 (by omega)), h (a + n) (by omega) (by omega)]; rfl
theorem cnt_same (L L' : List Bool) (a : Nat) : ∀ n, (∀ j, a ≤ j → j < a + n → isL L' j = isL L j) → cntL L' a n = cntL L a n
  | 0, _ => rfl
  | n + 1, h => by
    rw [cntL, cntL, cnt_same L L' a n (fun j h1 h2 => h j h1 (by omega)), h (a + n) (by omega) (by omega)]
theorem cnt_set (L : List Bool) (a k : Nat) (v : Bool) (hk : k < L.length) (ha : a ≤ k) : ∀ n, k < a + n → cntL (L.set k v) a n + (if isL L k = true then 1 else 0) = cntL L a n + (if v = true then 1 else 0)
  | 0, h => by omega
  | n + 1, h => by
    by_cases e : k = a + n
    · rw [cntL, cntL, cnt_same L (L.set k v) a n (fun j h1 h2 => by rw [isL_set _ _ _ _ hk, if_neg (by omega)]), isL_set _ _ _ _ hk, if_pos e.symm, ← e]
      omega
    · have ih := cnt_set L a k v hk ha n (by omega)
      rw [cntL, cntL, isL_set _ _ _ _ hk, if_neg (show ¬ (a + n = k) from fun h => e h.symm)]
      omega
theorem take_b {L : List Bool} {fi : Nat} (h : takeB L fi = true) : ∃ n, n < L.length ∧ fi ≤ n ∧ isL L n = true ∧ takeN L fi = n ∧ takeE L fi = 0 ∧ takeL L fi = L.set n false ∧ (∀ s, takeS L fi s = clearS L.length s n) := by
  have h1 := of_decide_eq_true h
  have hge := nextL_ge L (L.length - fi) fi
  refine ⟨nextL L fi (L.length - fi), h1, hge, nextL_is L (L.length - fi) fi (by omega), ?_, ?_, ?_, fun s => ?_⟩
  · unfold takeN; rw [h]; rfl
  · unfold takeE; rw [h]; rfl
  · unfold takeL; rw [h]; rfl
  · unfold takeS; rw [h]; rfl
theorem take_nb {L : List Bool} {fi : Nat} (h : takeB L fi = false) : takeN L fi = 0 ∧ takeE L fi = 4 ∧ takeL L fi = L ∧ (∀ s, takeS L fi s = s) := by
  refine ⟨?_, ?_, ?_, fun s => ?_⟩
  · unfold takeN; rw [h]; rfl
  · unfold takeE; rw [h]; rfl
  · unfold takeL; rw [h]; rfl
  · unfold takeS; rw [h]; rfl
theorem left_take {z : Sp} {fi : Nat} (hfi : fi ≤ z.L.length) : (takeB z.L fi = true ↔ 0 < leftX fi z) := by
  unfold leftX
  constructor
  · intro h
    obtain ⟨n, h1, h2, h3, _⟩ := take_b h
    have := cnt_set z.L fi n false h1 h2 (z.L.length - fi) (by omega)
    rw [if_pos h3, if_neg (by decide)] at this
    omega
  · intro h
    by_cases q : takeB z.L fi = true
    · exact q
    · exfalso
      have q2 : ¬ (nextL z.L fi (z.L.length - fi) < z.L.length) := fun h => q (decide_eq_true h)
      have := cnt_none z.L fi (z.L.length - fi) (fun j h1 h2 => nextL_not z.L (z.L.length - fi) fi j h1 (by omega))
      omega
theorem left_taken {z : Sp} {fi : Nat} (h : takeB z.L fi = true) : leftX fi (takeX fi z) = leftX fi z - 1 := by
  obtain ⟨n, h1, h2, h3, _, _, e, _⟩ := take_b h
  unfold leftX takeX
  show ((cntL (takeL z.L fi) fi ((takeL z.L fi).length - fi) : Nat) : Int) = _
  rw [e, List.length_set]
  have := cnt_set z.L fi n false h1 h2 (z.L.length - fi) (by omega)
  rw [if_pos h3, if_neg (by decide)] at this
  omega
theorem take_sz {z : Sp} (fi : Nat) (hz : Sz z) : Sz (takeX fi z) ∧ (takeX fi z).L.length = z.L.length := by
  unfold takeX
  by_cases q : takeB z.L fi = true
  · obtain ⟨n, h1, h2, h3, _, _, e, e2⟩ := take_b q
    refine ⟨⟨?_, ?_, ?_⟩, ?_⟩
    · show (takeS z.L fi z.s).length = (takeL z.L fi).length * 256
      rw [e, e2, List.length_set]; exact clear_sz hz.len _
    · show 1 ≤ (takeL z.L fi).length
      rw [e, List.length_set]; exact hz.lo
    · show (takeL z.L fi).length ≤ 256
      rw [e, List.length_set]; exact hz.hi
    · show (takeL z.L fi).length = _
      rw [e, List.length_set]
  · rw [Bool.not_eq_true] at q
    obtain ⟨_, _, e, e2⟩ := take_nb q
    rw [e, e2]; exact ⟨hz, rfl⟩
end Go.Proofs.YtbcnibnkojnpiaaGreat.P
namespace Go.Proofs.YtbcnibnkojnpiaaGreat.P
open Go.RowKit Go.MuLone Go.Maps
/-- What a frame is: how high (3 a root, 2 and 1 tables, 0 a page), and where it hangs. -/
abbrev Who := Nat → Option (Nat × Nat × Nat)
def upd (own : Who) (n : Nat) (v : Nat × Nat × Nat) : Who := fun f => if f = n then some v else own f
structure WF (fi : Nat) (z : Sp) (own : Who) : Prop where
  sz : Sz z
  fle : fi ≤ z.L.length
  tk : ∀ f, (own f).isSome = true ↔ (fi ≤ f ∧ f < z.L.length ∧ isL z.L f = false)
  ch : ∀ f h p j, own f = some (h + 1, p, j) → ∀ k, k < 32 → T z f k = 0 ∨ ∃ g b : Nat, T z f k = ((g * 1024 + b : Nat) : Int) ∧ b % 2 = 1 ∧ b < 32 ∧ (1 ≤ h → b = 1) ∧ own g = some (h, f, k)
  pa : ∀ g h p k, own g = some (h, p, k) → h ≤ 3 ∧ (h < 3 → k < 32 ∧ (∃ p' j, own p = some (h + 1, p', j)) ∧ T z p k % 2 = 1 ∧ T z p k / 1024 = (g : Int))
theorem WF.lt {fi : Nat} {z : Sp} {own : Who} (h : WF fi z own) {f : Nat} {v : Nat × Nat × Nat} (hf : own f = some v) : fi ≤ f ∧ f < z.L.length ∧ isL z.L f = false := (h.tk f).1 (by rw [hf]; rfl)
theorem WF.tkn {fi : Nat} {z : Sp} {own : Who} (h : WF fi z own) {f : Nat} {v : Nat × Nat × Nat} (hf : own f = some v) : tknB z.L fi (f : Int) = true := by
  obtain ⟨h1, h2, h3⟩ := h.lt hf
  unfold tknB
  rw [decide_eq_true (by omega), decide_eq_true (by omega), Int.toNat_natCast, h3]; rfl
theorem isL_out {L : List Bool} {f : Nat} (h : L.length ≤ f) : isL L f = false := by
  unfold isL; rw [List.getD_eq_getElem?_getD, List.getElem?_eq_none h]; rfl
theorem T_take {z : Sp} (fi : Nat) (hz : Sz z) {n : Nat} (hn : n < z.L.length) (e1 : takeL z.L fi = z.L.set n false) (e2 : ∀ s, takeS z.L fi s = clearS z.L.length s n) (g j : Nat) (hg : g < z.L.length) (hj : j < 32) : T (takeX fi z) g j = if g = n then 0 else T z g j := by
  unfold takeX
  rw [e1, e2]
  exact T_clear hz.len hn z.L _ g j hg hj
theorem wf_new {fi : Nat} {z : Sp} {own : Who} (h : WF fi z own) (q : takeB z.L fi = true) :
    ∃ n : Nat, takeN z.L fi = n ∧ n < z.L.length ∧ own n = none ∧ WF fi (takeX fi z) (upd own n (3, 0, 0)) ∧ (∀ g j, g < z.L.length → j < 32 → T (takeX fi z) g j = if g = n then 0 else T z g j) := by
  obtain ⟨n, h1, h2, h3, e0, _, e1, e2⟩ := take_b q
  have hT := T_take fi h.sz h1 e1 e2
  obtain ⟨hs, hl⟩ := take_sz fi h.sz
  have hn : own n = none := by
    cases hq : own n with
    | none => rfl
    | some v => have := (h.lt hq).2.2; rw [this] at h3; cases h3
  have hL : ∀ f, isL (takeX fi z).L f = if f = n then false else isL z.L f := fun f => by
    show isL (takeL z.L fi) f = _
    rw [e1]; exact isL_set _ _ _ _ h1
  refine ⟨n, e0, h1, hn, ⟨hs, by rw [hl]; exact h.fle, fun f => ?_, fun f hh p j hf k hk => ?_, fun g hh p k hg => ?_⟩, hT⟩
  · unfold upd
    rw [hl, hL]
    by_cases e : f = n
    · subst e; rw [if_pos rfl, if_pos rfl]; exact ⟨fun _ => ⟨h2, h1, rfl⟩, fun _ => rfl⟩
    · rw [if_neg e, if_neg e]; exact h.tk f
  · unfold upd at hf ⊢
    by_cases e : f = n
    · subst e
      left; rw [hT f k h1 hk, if_pos rfl]
    · rw [if_neg e] at hf
      have hlt := h.lt hf
      rw [hT f k hlt.2.1 hk, if_neg e]
      rcases h.ch f hh p j hf k hk with q0 | ⟨g, b, q1, q2, q3, q4, q5⟩
      · exact .inl q0
      · refine .inr ⟨g, b, q1, q2, q3, q4, ?_⟩
        rw [if_neg (fun e3 => by rw [e3, hn] at q5; cases q5)]; exact q5
  · unfold upd at hg ⊢
    by_cases e : g = n
    · subst e; rw [if_pos rfl] at hg
      injection hg with hg; injection hg with hg _; subst hg
      exact ⟨Nat.le_refl _, fun h => absurd h (by omega)⟩
    · rw [if_neg e] at hg
      obtain ⟨a1, a2⟩ := h.pa g hh p k hg
      refine ⟨a1, fun hlt => ?_⟩
      obtain ⟨b1, ⟨p', j, b2⟩, b3, b4⟩ := a2 hlt
      have hpn : p ≠ n := fun e3 => by rw [e3, hn] at b2; cases b2
      have hplt := h.lt b2
      rw [hT p k hplt.2.1 b1]
      simp only [if_neg hpn]
      exact ⟨b1, ⟨p', j, b2⟩, b3, b4⟩
theorem wf_link {fi : Nat} {z : Sp} {own : Who} (h : WF fi z own) (q : takeB z.L fi = true) {f k hh p j b : Nat} (hf : own f = some (hh + 1, p, j)) (hk : k < 32) (h0 : T z f k = 0) (hb : b % 2 = 1) (hb2 : b < 32) (hb3 : 1 ≤ hh → b = 1) :
    ∃ n : Nat, takeN z.L fi = n ∧ n < z.L.length ∧ own n = none ∧ WF fi (putX (takeX fi z) ((f * 256 + k * 8 : Nat) : Int) ((n * 1024 + b : Nat) : Int)) (upd own n (hh, f, k)) ∧
      (∀ g j, g < z.L.length → j < 32 → T (putX (takeX fi z) ((f * 256 + k * 8 : Nat) : Int) ((n * 1024 + b : Nat) : Int)) g j = if g = n then 0 else if g = f ∧ j = k then ((n * 1024 + b : Nat) : Int) else T z g j) := by
  obtain ⟨n, h1, h2, h3, e0, _, e1, e2⟩ := take_b q
  have hT1 := T_take fi h.sz h1 e1 e2
  obtain ⟨hs, hl⟩ := take_sz fi h.sz
  have hfl := h.lt hf
  have hhi := h.sz.hi
  have hn : own n = none := by
    cases hq : own n with
    | none => rfl
    | some v => have := (h.lt hq).2.2; rw [this] at h3; cases h3
  have hfn : f ≠ n := fun e => by rw [e, hn] at hf; cases hf
  have hT : ∀ g j, g < z.L.length → j < 32 → T (putX (takeX fi z) ((f * 256 + k * 8 : Nat) : Int) ((n * 1024 + b : Nat) : Int)) g j = if g = n then 0 else if g = f ∧ j = k then ((n * 1024 + b : Nat) : Int) else T z g j := fun g j hg hj => by
    rw [T_put hs (by rw [hl]; exact hfl.2.1) hk _ ⟨by omega, by omega⟩ g j (by rw [hl]; exact hg) hj, hT1 g j hg hj]
    by_cases e : g = f ∧ j = k
    · rw [if_pos e, if_neg (by rw [e.1]; exact hfn), if_pos e]
    · rw [if_neg e, if_neg e]
  have hL : ∀ f, isL (takeX fi z).L f = if f = n then false else isL z.L f := fun f => by
    show isL (takeL z.L fi) f = _
    rw [e1]; exact isL_set _ _ _ _ h1
  refine ⟨n, e0, h1, hn, ⟨putX_sz hs _ (by omega), by show fi ≤ (takeX fi z).L.length; rw [hl]; exact h.fle, fun f' => ?_, fun f' h' p' j' hf' k' hk' => ?_, fun g h' p' k' hg => ?_⟩, hT⟩
  · unfold upd
    show _ ↔ (fi ≤ f' ∧ f' < (takeX fi z).L.length ∧ isL (takeX fi z).L f' = false)
    rw [hl, hL]
    by_cases e : f' = n
    · subst e; rw [if_pos rfl, if_pos rfl]; exact ⟨fun _ => ⟨h2, h1, rfl⟩, fun _ => rfl⟩
    · rw [if_neg e, if_neg e]; exact h.tk f'
  · unfold upd at hf' ⊢
    by_cases e : f' = n
    · subst e
      left; rw [hT f' k' h1 hk', if_pos rfl]
    · rw [if_neg e] at hf'
      have hlt := h.lt hf'
      rw [hT f' k' hlt.2.1 hk', if_neg e]
      by_cases e3 : f' = f ∧ k' = k
      · obtain ⟨rfl, rfl⟩ := e3
        rw [hf] at hf'
        injection hf' with hf'; injection hf' with e4 _
        rw [if_pos ⟨rfl, rfl⟩]
        exact .inr ⟨n, b, rfl, hb, hb2, fun h => hb3 (by omega), by rw [if_pos rfl]; congr 2; omega⟩
      · rw [if_neg e3]
        rcases h.ch f' h' p' j' hf' k' hk' with q0 | ⟨g, b, q1, q2, q3, q4, q5⟩
        · exact .inl q0
        · refine .inr ⟨g, b, q1, q2, q3, q4, ?_⟩
          rw [if_neg (fun e3 => by rw [e3, hn] at q5; cases q5)]; exact q5
  · unfold upd at hg ⊢
    by_cases e : g = n
    · subst e; rw [if_pos rfl] at hg
      injection hg with hg; injection hg with e4 hg; injection hg with e5 e6; subst e4; subst e5; subst e6
      have a1 := (h.pa f (hh + 1) p j hf).1
      refine ⟨by omega, fun _ => ⟨hk, ⟨p, j, by rw [if_neg hfn]; exact hf⟩, ?_⟩⟩
      rw [hT f k hfl.2.1 hk, if_neg hfn, if_pos ⟨rfl, rfl⟩]
      constructor
      · omega
      · omega
    · rw [if_neg e] at hg
      obtain ⟨a1, a2⟩ := h.pa g h' p' k' hg
      refine ⟨a1, fun hlt => ?_⟩
      obtain ⟨b1, ⟨p2, j2, b2⟩, b3, b4⟩ := a2 hlt
      have hpn : p' ≠ n := fun e3 => by rw [e3, hn] at b2; cases b2
      have hplt := h.lt b2
      have hne : ¬ (p' = f ∧ k' = k) := fun e3 => by rw [e3.1, e3.2, h0] at b3; cases b3
      rw [hT p' k' hplt.2.1 b1]
      simp only [if_neg hpn, if_neg hne]
      exact ⟨b1, ⟨p2, j2, b2⟩, b3, b4⟩
/-- A whole tree is given back. -/
theorem wf_off {fi : Nat} {z z' : Sp} {own : Who} (h : WF fi z own) (S : Nat → Bool) (hsz : Sz z') (hlen : z'.L.length = z.L.length) (hL : ∀ f, fi ≤ f → f < z.L.length → isL z'.L f = (isL z.L f || S f))
    (hT : ∀ f, f < z.L.length → S f = false → ∀ j, j < 32 → T z' f j = T z f j) (hcl : ∀ g hh p k, own g = some (hh, p, k) → hh < 3 → S g = S p) : WF fi z' (fun f => if S f = true then none else own f) := by
  refine ⟨hsz, by rw [hlen]; exact h.fle, fun f => ?_, fun f hh p j hf k hk => ?_, fun g hh p k hg => ?_⟩
  · rw [hlen]
    by_cases e : S f = true
    · simp only [if_pos e]
      refine ⟨fun h => (by cases h), fun ⟨h1, h2, h3⟩ => ?_⟩
      rw [hL f h1 h2, e, Bool.or_true] at h3; cases h3
    · simp only [if_neg e]
      rw [Bool.not_eq_true] at e
      rw [h.tk f]
      constructor
      · rintro ⟨h1, h2, h3⟩; exact ⟨h1, h2, by rw [hL f h1 h2, e, h3]; rfl⟩
      · rintro ⟨h1, h2, h3⟩; exact ⟨h1, h2, by rw [hL f h1 h2, e, Bool.or_false] at h3; exact h3⟩
  · by_cases e : S f = true
    · simp only [if_pos e] at hf; cases hf
    · simp only [if_neg e] at hf
      rw [Bool.not_eq_true] at e
      rw [hT f (h.lt hf).2.1 e k hk]
      rcases h.ch f hh p j hf k hk with q0 | ⟨g, b, q1, q2, q3, q4, q5⟩
      · exact .inl q0
      · refine .inr ⟨g, b, q1, q2, q3, q4, ?_⟩
        have a1 := (h.pa f (hh + 1) p j hf).1
        have := hcl g hh f k q5 (by omega)
        simp only [this, e, if_neg Bool.false_ne_true]; exact q5
  · by_cases e : S g = true
    · simp only [if_pos e] at hg; cases hg
    · simp only [if_neg e] at hg
      rw [Bool.not_eq_true] at e
      obtain ⟨a1, a2⟩ := h.pa g hh p k hg
      refine ⟨a1, fun hlt => ?_⟩
      obtain ⟨b1, ⟨p2, j2, b2⟩, b3, b4⟩ := a2 hlt
      have := hcl g hh p k hg hlt
      rw [e] at this
      rw [hT p (h.lt b2).2.1 this.symm k b1]
      exact ⟨b1, ⟨p2, j2, by simp only [← this, if_neg Bool.false_ne_true]; exact b2⟩, b3, b4⟩
/-- Only pages are written. -/
theorem wf_page {fi : Nat} {z z' : Sp} {own : Who} (h : WF fi z own) (hsz : Sz z') (hL : z'.L = z.L) (hT : ∀ f hh p j, own f = some (hh + 1, p, j) → ∀ k, k < 32 → T z' f k = T z f k) : WF fi z' own := by
  refine ⟨hsz, by rw [hL]; exact h.fle, fun f => by rw [hL]; exact h.tk f, fun f hh p j hf k hk => ?_, fun g hh p k hg => ?_⟩
  · rw [hT f hh p j hf k hk]; exact h.ch f hh p j hf k hk
  · obtain ⟨a1, a2⟩ := h.pa g hh p k hg
    refine ⟨a1, fun hlt => ?_⟩
    obtain ⟨b1, ⟨p2, j2, b2⟩, b3, b4⟩ := a2 hlt
    rw [hT p hh p2 j2 b2 k b1]
    exact ⟨b1, ⟨p2, j2, b2⟩, b3, b4⟩
/-- An entry of a table is read. -/
theorem WF.ent {fi : Nat} {z : Sp} {own : Who} (h : WF fi z own) {f hh p j : Nat} (hf : own f = some (hh + 1, p, j)) {k : Nat} (hk : k < 32) :
    (T z f k = 0 ∧ validB z.s ((f * 256 + k * 8 : Nat) : Int) = false) ∨ ∃ g b : Nat, T z f k = ((g * 1024 + b : Nat) : Int) ∧ b % 2 = 1 ∧ b < 32 ∧ (1 ≤ hh → b = 1) ∧ own g = some (hh, f, k) ∧
      validB z.s ((f * 256 + k * 8 : Nat) : Int) = true ∧ validF z.s ((f * 256 + k * 8 : Nat) : Int) = g ∧ validG z.s ((f * 256 + k * 8 : Nat) : Int) = b := by
  have hl := h.sz.len
  have hlt := h.lt hf
  have hin : decide (((f * 256 + k * 8 : Nat) : Int) + 8 ≤ z.s.length) = true := decide_eq_true (by omega)
  have hTd : entS z.s ((f * 256 + k * 8 : Nat) : Int) = T z f k := rfl
  rcases h.ch f hh p j hf k hk with q0 | ⟨g, b, q1, q2, q3, q4, q5⟩
  · left
    refine ⟨q0, ?_⟩
    unfold validB
    rw [hTd, q0, hin]; rfl
  · right
    have hv : validB z.s ((f * 256 + k * 8 : Nat) : Int) = true := by
      unfold validB
      rw [hTd, q1, hin, decide_eq_true (by omega)]; rfl
    refine ⟨g, b, q1, q2, q3, q4, q5, hv, ?_, ?_⟩
    · unfold validF; rw [hv, hTd, q1, cond_true]; omega
    · unfold validG; rw [hv, hTd, q1, cond_true]; omega
end Go.Proofs.YtbcnibnkojnpiaaGreat.P
namespace Go.Proofs.YtbcnibnkojnpiaaGreat.P
open Go.RowKit Go.MuLone Go.Maps
def kid (z : Sp) (f k : Nat) : Option Nat := if T z f k % 2 = 1 then some (T z f k / 1024).toNat else none
/-- The frame at the place n, d steps below the root. -/
def pth (z : Sp) (r : Nat) : Nat → Nat → Option Nat
  | 0, _ => some r
  | d + 1, n => (pth z r d (n / 32)).bind fun f => kid z f (n % 32)
theorem WF.kid_iff {fi : Nat} {z : Sp} {own : Who} (h : WF fi z own) {f hh p j : Nat} (hf : own f = some (hh + 1, p, j)) {k : Nat} (hk : k < 32) {g : Nat} :
    kid z f k = some g ↔ own g = some (hh, f, k) := by
  unfold kid
  rcases h.ch f hh p j hf k hk with q0 | ⟨g', b, q1, q2, q3, q4, q5⟩
  · rw [q0, if_neg (by decide)]
    constructor
    · intro e; cases e
    · intro e
      have a1 := (h.pa f (hh + 1) p j hf).1
      have := ((h.pa g hh f k e).2 (by omega)).2.2.1
      rw [q0] at this; cases this
  · rw [if_pos (by rw [q1]; omega)]
    constructor
    · intro e; injection e with e
      have : g' = g := by rw [← e, q1]; omega
      rw [← this]; exact q5
    · intro e
      have a1 := (h.pa f (hh + 1) p j hf).1
      have := ((h.pa g hh f k e).2 (by omega)).2.2.2
      rw [this]; rfl
theorem WF.kid_none {fi : Nat} {z : Sp} {own : Who} (h : WF fi z own) {f hh p j : Nat} (hf : own f = some (hh + 1, p, j)) {k : Nat} (hk : k < 32) (hn : kid z f k = none) : T z f k = 0 := by
  unfold kid at hn
  rcases h.ch f hh p j hf k hk with q0 | ⟨g', b, q1, q2, q3, q4, q5⟩
  · exact q0
  · rw [if_pos (by rw [q1]; omega)] at hn; cases hn
theorem kid_zero {z : Sp} {f k : Nat} (h : T z f k = 0) : kid z f k = none := by unfold kid; rw [h, if_neg (by decide)]
/-- What stands d steps below a root is so high. -/
theorem pth_own {fi : Nat} {z : Sp} {own : Who} (h : WF fi z own) {r p j : Nat} (hr : own r = some (3, p, j)) : ∀ d n f, d ≤ 3 → pth z r d n = some f → (d = 0 ∧ f = r) ∨ ∃ d' g, d = d' + 1 ∧ pth z r d' (n / 32) = some g ∧ own f = some (3 - d, g, n % 32) ∧ ∃ p' j', own g = some (3 - d', p', j')
  | 0, n, f, _, e => by injection e with e; exact .inl ⟨rfl, e.symm⟩
  | d + 1, n, f, hd, e => by
    right
    rw [pth] at e
    cases hg : pth z r d (n / 32) with
    | none => rw [hg] at e; cases e
    | some g =>
      rw [hg] at e
      have e : kid z g (n % 32) = some f := e
      have hown : ∃ p' j', own g = some (3 - d, p', j') := by
        rcases pth_own h hr d (n / 32) g (by omega) hg with ⟨rfl, rfl⟩ | ⟨d', g', rfl, h2, h3, _⟩
        · exact ⟨p, j, hr⟩
        · exact ⟨g', _, h3⟩
      obtain ⟨p', j', ho⟩ := hown
      have ho2 : own g = some ((3 - (d + 1)) + 1, p', j') := by rw [ho]; congr 2; omega
      exact ⟨d, g, rfl, hg, (h.kid_iff ho2 (by omega)).1 e, p', j', ho⟩
theorem pth_high {fi : Nat} {z : Sp} {own : Who} (h : WF fi z own) {r p j : Nat} (hr : own r = some (3, p, j)) {d n f : Nat} (hd : d ≤ 3) (e : pth z r d n = some f) : ∃ p' j', own f = some (3 - d, p', j') := by
  rcases pth_own h hr d n f hd e with ⟨rfl, rfl⟩ | ⟨d', g', rfl, h2, h3, _⟩
  · exact ⟨p, j, hr⟩
  · exact ⟨_, _, h3⟩
/-- Each frame stands at one place of one root. -/
theorem pth_inj {fi : Nat} {z : Sp} {own : Who} (h : WF fi z own) {r r' p j p' j' : Nat} (hr : own r = some (3, p, j)) (hr' : own r' = some (3, p', j')) : ∀ d n d' n' f, d ≤ 3 → d' ≤ 3 → n < 32 ^ d → n' < 32 ^ d' → pth z r d n = some f → pth z r' d' n' = some f → r = r' ∧ d = d' ∧ n = n'
  | 0, n, d', n', f, hd, hd', hn, hn', e, e' => by
    injection e with e; subst e
    rcases pth_own h hr' d' n' r hd' e' with ⟨rfl, rfl⟩ | ⟨d2, g, rfl, h2, h3, _⟩
    · exact ⟨rfl, rfl, by simp at hn hn'; omega⟩
    · rw [hr] at h3; injection h3 with h3; injection h3 with h3 _; omega
  | d + 1, n, d', n', f, hd, hd', hn, hn', e, e' => by
    rcases pth_own h hr (d + 1) n f hd e with ⟨h0, _⟩ | ⟨d1, g, h1, h2, h3, _⟩
    · omega
    · obtain rfl : d1 = d := by omega
      rcases pth_own h hr' d' n' f hd' e' with ⟨rfl, rfl⟩ | ⟨d2, g', rfl, h2', h3', _⟩
      · rw [hr'] at h3; injection h3 with h3; injection h3 with h3 _; omega
      · rw [h3] at h3'; injection h3' with h3'; injection h3' with a1 a2; injection a2 with a2 a3
        subst a2
        obtain ⟨b1, b2, b3⟩ := pth_inj h hr hr' d1 (n / 32) d2 (n' / 32) g (by omega) (by omega) (by rw [Nat.pow_succ] at hn; omega) (by rw [Nat.pow_succ] at hn'; omega) h2 h2'
        exact ⟨b1, by omega, by omega⟩
/-- It hangs below the root. -/
inductive Und (own : Who) (r : Nat) : Nat → Prop
  | top {p j : Nat} (h : own r = some (3, p, j)) : Und own r r
  | step {g hh p k : Nat} (h : own g = some (hh, p, k)) (hl : hh < 3) (hp : Und own r p) : Und own r g
theorem Und.of_pth {fi : Nat} {z : Sp} {own : Who} (h : WF fi z own) {r p j : Nat} (hr : own r = some (3, p, j)) : ∀ d n f, d ≤ 3 → pth z r d n = some f → Und own r f
  | 0, n, f, _, e => by injection e with e; rw [← e]; exact .top hr
  | d + 1, n, f, hd, e => by
    rcases pth_own h hr (d + 1) n f hd e with ⟨h0, _⟩ | ⟨d1, g, h1, h2, h3, _⟩
    · omega
    · obtain rfl : d1 = d := by omega
      exact .step h3 (by omega) (Und.of_pth h hr d1 (n / 32) g (by omega) h2)
theorem Und.to_pth {fi : Nat} {z : Sp} {own : Who} (h : WF fi z own) {r f : Nat} (hu : Und own r f) : (∃ p j, own r = some (3, p, j)) ∧ ∃ d n hh p k, own f = some (hh, p, k) ∧ hh + d = 3 ∧ n < 32 ^ d ∧ pth z r d n = some f := by
  induction hu with
  | top h0 => exact ⟨⟨_, _, h0⟩, 0, 0, 3, _, _, h0, rfl, by decide, rfl⟩
  | step hg hl hp ih =>
    rename_i g hh p k
    obtain ⟨h1, d, n, hh', p', k', h2, h3, h4, h5⟩ := ih
    obtain ⟨b1, ⟨p2, j2, b2⟩, b3, b4⟩ := (h.pa g hh p k hg).2 hl
    rw [h2] at b2; injection b2 with b2; injection b2 with b2 _
    refine ⟨h1, d + 1, n * 32 + k, hh, p, k, hg, by omega, by rw [Nat.pow_succ]; omega, ?_⟩
    rw [pth, show (n * 32 + k) / 32 = n by omega, h5, show (n * 32 + k) % 32 = k by omega]
    show kid z p k = some g
    exact (h.kid_iff (by rw [h2, b2]) b1).2 hg
/-- A new frame is hung up: the other places stay. -/
theorem pth_link {fi : Nat} {z z' : Sp} {own : Who} (h : WF fi z own) {f k hh p j n b : Nat} (hf : own f = some (hh + 1, p, j)) (hk : k < 32) (h0 : T z f k = 0) (hn : own n = none) (hb : b % 2 = 1) (hb2 : b < 32)
    (hT : ∀ g j, g < z.L.length → j < 32 → T z' g j = if g = n then 0 else if g = f ∧ j = k then ((n * 1024 + b : Nat) : Int) else T z g j) (hnl : n < z.L.length)
    {r p1 j1 : Nat} (hr : own r = some (3, p1, j1)) : ∀ d m, d ≤ 3 → m < 32 ^ d → ((∃ d' m', d = d' + 1 ∧ m = m' * 32 + k ∧ m' < 32 ^ d' ∧ pth z r d' m' = some f) → pth z' r d m = some n) ∧ (¬ (∃ d' m', d = d' + 1 ∧ m = m' * 32 + k ∧ m' < 32 ^ d' ∧ pth z r d' m' = some f) → pth z' r d m = pth z r d m)
  | 0, m, _, _ => ⟨by rintro ⟨d', _, e, _⟩; omega, fun _ => rfl⟩
  | d + 1, m, hd, hm => by
    obtain ⟨ih1, ih2⟩ := pth_link h hf hk h0 hn hb hb2 hT hnl hr d (m / 32) (by omega) (by rw [Nat.pow_succ] at hm; omega)
    have hkn : ∀ q, q < 32 → kid z' n q = none := fun q hq => kid_zero (by rw [hT n q hnl hq, if_pos rfl])
    have hlf := (h.lt hf).2.1
    have hfn : f ≠ n := fun e => by rw [e, hn] at hf; cases hf
    have hold : (∃ d' m', d = d' + 1 ∧ m / 32 = m' * 32 + k ∧ m' < 32 ^ d' ∧ pth z r d' m' = some f) → pth z r (d + 1) m = none := by
      rintro ⟨d', m', e1, e2, e3, e4⟩
      rw [pth, show pth z r d (m / 32) = none by
        subst e1
        rw [pth, show m / 32 / 32 = m' by omega, e4, show m / 32 % 32 = k by omega]
        exact kid_zero h0]
      rfl
    constructor
    · rintro ⟨d2, m2, a1, a2, a3, a4⟩
      obtain rfl : d2 = d := by omega
      obtain rfl : m2 = m / 32 := by omega
      have c1 : ¬ ∃ d' m', d2 = d' + 1 ∧ m / 32 = m' * 32 + k ∧ m' < 32 ^ d' ∧ pth z r d' m' = some f := by
        rintro ⟨d', m', e1, e2, e3, e4⟩
        obtain ⟨_, b2, b3⟩ := pth_inj h hr hr d' m' d2 (m / 32) f (by omega) (by omega) e3 a3 e4 a4
        omega
      rw [pth, ih2 c1, a4]
      show kid z' f (m % 32) = some n
      unfold kid
      rw [hT f (m % 32) hlf (by omega), if_neg hfn, if_pos (show f = f ∧ m % 32 = k from ⟨rfl, by omega⟩), if_pos (by omega)]
      congr 1; omega
    · intro c2
      by_cases c1 : ∃ d' m', d = d' + 1 ∧ m / 32 = m' * 32 + k ∧ m' < 32 ^ d' ∧ pth z r d' m' = some f
      · rw [pth, ih1 c1, hold c1]
        exact hkn _ (by omega)
      · rw [pth, ih2 c1, pth]
        cases hg : pth z r d (m / 32) with
        | none => rfl
        | some g =>
          show kid z' g (m % 32) = kid z g (m % 32)
          obtain ⟨p', j', hog⟩ := pth_high h hr (show d ≤ 3 by omega) hg
          have hgn : g ≠ n := fun e => by rw [e, hn] at hog; cases hog
          have hgl := (h.lt hog).2.1
          have c3 : ¬ (g = f ∧ m % 32 = k) := by
            rintro ⟨rfl, c3⟩
            exact c2 ⟨d, m / 32, rfl, by omega, by rw [Nat.pow_succ] at hm; omega, hg⟩
          unfold kid
          rw [hT g (m % 32) hgl (by omega), if_neg hgn, if_neg c3]
end Go.Proofs.YtbcnibnkojnpiaaGreat.P
namespace Go.Proofs.YtbcnibnkojnpiaaGreat.P
open Go.RowKit Go.MuLone Go.Maps
theorem pl2 (t : Nat) {P : Nat} (hP : P < 32768) : placeI (t : Int) ((P : Int) * 256) 2 = ((t * 256 + P / 1024 * 8 : Nat) : Int) := by
  unfold placeI; rw [part2 _ (by omega)]; omega
theorem pl1 (t : Nat) {P : Nat} (hP : P < 32768) : placeI (t : Int) ((P : Int) * 256) 1 = ((t * 256 + P / 32 % 32 * 8 : Nat) : Int) := by
  unfold placeI; rw [part1 _ (by omega)]; omega
theorem pl0 (t : Nat) {P : Nat} (hP : P < 32768) : placeI (t : Int) ((P : Int) * 256) 0 = ((t * 256 + P % 32 * 8 : Nat) : Int) := by
  unfold placeI; rw [part0 _ (by omega)]; omega
theorem entryI_nat (n b : Nat) (hn : n < 256) (hb : b < 32) : entryI (n : Int) (b : Int) = ((n * 1024 + b : Nat) : Int) := by
  unfold entryI; rw [if_neg (by omega)]; omega
/-- From z to z' the space r has grown. -/
structure Grw (fi : Nat) (z : Sp) (own : Who) (z' : Sp) (own' : Who) (r : Nat) : Prop where
  wf : WF fi z' own'
  len : z'.L.length = z.L.length
  old : ∀ f v, own f = some v → own' f = some v
  new : ∀ f hh p k, own f = none → own' f = some (hh, p, k) → hh < 3 ∧ Und own' r f
  tab : ∀ f hh p j, own f = some (hh + 1, p, j) → ¬ Und own r f → ∀ k, k < 32 → T z' f k = T z f k
  keep : ∀ f hh p j, own f = some (hh + 1, p, j) → ∀ k, k < 32 → T z f k ≠ 0 → T z' f k = T z f k
theorem Und.grow {own own' : Who} (h : ∀ f v, own f = some v → own' f = some v) {r f : Nat} (hu : Und own r f) : Und own' r f := by
  induction hu with
  | top h0 => exact .top (h _ _ h0)
  | step hg hl _ ih => exact .step (h _ _ hg) hl ih
theorem Grw.back {fi : Nat} {z : Sp} {own : Who} {z' : Sp} {own' : Who} {r : Nat} (h : Grw fi z own z' own' r) (h0 : WF fi z own) {r' f : Nat} (hu : Und own' r' f) : ∀ v, own f = some v → Und own r' f := by
  induction hu with
  | top hr => intro v hv; have := h.old _ _ hv; rw [hr] at this; injection this with this; rw [← this] at hv; exact .top hv
  | step hg hl _ ih =>
    intro v hv
    have := h.old _ _ hv
    rw [hg] at this; injection this with this; rw [← this] at hv
    obtain ⟨_, ⟨p', j, b2⟩, _⟩ := (h0.pa _ _ _ _ hv).2 hl
    exact .step hv hl (ih _ b2)
theorem Grw.refl {fi : Nat} {z : Sp} {own : Who} (h : WF fi z own) (r : Nat) : Grw fi z own z own r :=
  ⟨h, rfl, fun _ _ h => h, fun f hh p k h1 h2 => by (rw [h1] at h2; cases h2), fun _ _ _ _ _ _ _ _ => rfl, fun _ _ _ _ _ _ _ _ => rfl⟩
theorem Grw.trans {fi : Nat} {z1 z2 z3 : Sp} {o1 o2 o3 : Who} {r : Nat} (h0 : WF fi z1 o1) (h : Grw fi z1 o1 z2 o2 r) (k : Grw fi z2 o2 z3 o3 r) : Grw fi z1 o1 z3 o3 r := by
  refine ⟨k.wf, k.len.trans h.len, fun f v e => k.old f v (h.old f v e), fun f hh p q e1 e2 => ?_, fun f hh p j e hu q hq => ?_, fun f hh p j e q hq hn => ?_⟩
  · cases e3 : o2 f with
    | none => exact k.new f hh p q e3 e2
    | some v =>
      have := k.old f v e3
      rw [e2] at this; injection this with this; rw [← this] at e3
      obtain ⟨a, b⟩ := h.new f hh p q e1 e3
      exact ⟨a, b.grow k.old⟩
  · rw [k.tab f hh p j (h.old _ _ e) (fun c => hu (h.back h0 c _ e)) q hq, h.tab f hh p j e hu q hq]
  · have e1 := h.keep f hh p j e q hq hn
    rw [k.keep f hh p j (h.old _ _ e) q hq (by rw [e1]; exact hn), e1]
/-- One frame more, hung up at k of f. -/
structure Lk (fi : Nat) (z z' : Sp) (own : Who) (f k hh n b : Nat) : Prop where
  wf : WF fi z' (upd own n (hh, f, k))
  lt : n < z.L.length
  fresh : own n = none
  k32 : k < 32
  zero : P.T z f k = 0
  odd : b % 2 = 1
  b32 : b < 32
  T : ∀ g j, g < z.L.length → j < 32 → P.T z' g j = if g = n then 0 else if g = f ∧ j = k then ((n * 1024 + b : Nat) : Int) else P.T z g j
  left : leftX fi z' = leftX fi z - 1
  len : z'.L.length = z.L.length
theorem lk_of {fi : Nat} {z : Sp} {own : Who} (h : WF fi z own) (q : takeB z.L fi = true) {f k hh p j b : Nat} (hf : own f = some (hh + 1, p, j)) (hk : k < 32) (h0 : T z f k = 0) (hb : b % 2 = 1) (hb2 : b < 32) (hb3 : 1 ≤ hh → b = 1) :
    ∃ n : Nat, takeN z.L fi = n ∧ Lk fi z (putX (takeX fi z) ((f * 256 + k * 8 : Nat) : Int) (entryI (takeN z.L fi) b)) own f k hh n b := by
  obtain ⟨n, e0, h1, hn, hw, hT⟩ := wf_link h q hf hk h0 hb hb2 hb3
  have hhi := h.sz.hi
  have e : entryI (takeN z.L fi) b = ((n * 1024 + b : Nat) : Int) := by rw [e0]; exact entryI_nat n b (by omega) hb2
  rw [e]
  exact ⟨n, e0, hw, h1, hn, hk, h0, hb, hb2, hT, left_taken q, (take_sz fi h.sz).2⟩
theorem Lk.grw {fi : Nat} {z z' : Sp} {own : Who} {f k hh n b : Nat} (l : Lk fi z z' own f k hh n b) (h : WF fi z own) {r p j : Nat} (hf : own f = some (hh + 1, p, j)) (hu : Und own r f) : Grw fi z own z' (upd own n (hh, f, k)) r := by
  have hold : ∀ g v, own g = some v → upd own n (hh, f, k) g = some v := fun g v e => by
    unfold upd; rw [if_neg (fun e2 => by rw [e2, l.fresh] at e; cases e)]; exact e
  have a1 := (h.pa f (hh + 1) p j hf).1
  refine ⟨l.wf, l.len, hold, fun g h' p' k' e1 e2 => ?_, fun g h' p' j' e hn q hq => ?_, fun g h' p' j' e q hq hn => ?_⟩
  · by_cases e : g = n
    · subst e
      have e3 : upd own g (hh, f, k) g = some (hh, f, k) := by unfold upd; rw [if_pos rfl]
      rw [e3] at e2; injection e2 with e2; injection e2 with e4 _
      exact ⟨by omega, .step e3 (by omega) (hu.grow hold)⟩
    · unfold upd at e2; rw [if_neg e, e1] at e2; cases e2
  · rw [l.T g q (h.lt e).2.1 hq, if_neg (fun e2 => by rw [e2, l.fresh] at e; cases e), if_neg (fun e2 => hn (by rw [e2.1]; exact hu))]
  · rw [l.T g q (h.lt e).2.1 hq, if_neg (fun e2 => by rw [e2, l.fresh] at e; cases e), if_neg (fun e2 => hn (by rw [e2.1, e2.2]; exact l.zero))]
/-- Which places there are, when a frame is hung up. -/
theorem Lk.pth {fi : Nat} {z z' : Sp} {own : Who} {f k hh n b : Nat} (l : Lk fi z z' own f k hh n b) (h : WF fi z own) {r p j p1 j1 d m : Nat} (hf : own f = some (hh + 1, p, j)) (hr : own r = some (3, p1, j1)) (hd : d ≤ 2) (hm : m < 32 ^ d) (he : pth z r d m = some f) :
    pth z' r (d + 1) (m * 32 + k) = some n ∧ ∀ d' m', d' ≤ 3 → m' < 32 ^ d' → ¬ (d' = d + 1 ∧ m' = m * 32 + k) → pth z' r d' m' = pth z r d' m' := by
  have hk := l.k32
  constructor
  · exact (pth_link h hf l.k32 l.zero l.fresh l.odd l.b32 l.T l.lt hr (d + 1) (m * 32 + k) (by omega) (by rw [Nat.pow_succ]; omega)).1 ⟨d, m, rfl, rfl, hm, he⟩
  · intro d' m' h1 h2 h3
    refine (pth_link h hf l.k32 l.zero l.fresh l.odd l.b32 l.T l.lt hr d' m' h1 h2).2 ?_
    rintro ⟨d2, m2, a1, a2, a3, a4⟩
    obtain ⟨_, b2, b3⟩ := pth_inj h hr hr d m d2 m2 f (by omega) (by omega) hm a3 he a4
    exact h3 ⟨by omega, by omega⟩
theorem below_yes {fi : Nat} {z : Sp} {own : Who} (h : WF fi z own) {f hh p j k t : Nat} (hf : own f = some (hh + 1, p, j)) (hk : k < 32) (ht : kid z f k = some t) {a l : Int} (hpl : placeI f a l = ((f * 256 + k * 8 : Nat) : Int)) :
    belowX fi z f a l = z ∧ belowN fi z f a l = t ∧ validB z.s (placeI f a l) = true ∧ validF z.s (placeI f a l) = t := by
  rcases h.ent hf hk with ⟨q0, _⟩ | ⟨g, b, q1, q2, q3, q4, q5, v1, v2, v3⟩
  · rw [kid_zero q0] at ht; cases ht
  · have := (h.kid_iff hf hk).2 q5
    rw [ht] at this; injection this with this; subst this
    unfold belowX belowN
    rw [hpl, v1, v2]; exact ⟨rfl, rfl, rfl, rfl⟩
theorem valid_no {fi : Nat} {z : Sp} {own : Who} (h : WF fi z own) {f hh p j k : Nat} (hf : own f = some (hh + 1, p, j)) (hk : k < 32) (ht : kid z f k = none) {a l : Int} (hpl : placeI f a l = ((f * 256 + k * 8 : Nat) : Int)) :
    validB z.s (placeI f a l) = false := by
  rcases h.ent hf hk with ⟨_, q0⟩ | ⟨g, b, q1, q2, q3, q4, q5, v1, v2, v3⟩
  · rw [hpl]; exact q0
  · have := (h.kid_iff hf hk).2 q5
    rw [ht] at this; cases this
theorem below_no {fi : Nat} {z : Sp} {own : Who} (h : WF fi z own) (q : takeB z.L fi = true) {f hh p j k : Nat} (hf : own f = some (hh + 1, p, j)) (hk : k < 32) (ht : kid z f k = none) {a l : Int} (hpl : placeI f a l = ((f * 256 + k * 8 : Nat) : Int)) :
    ∃ n : Nat, belowN fi z f a l = n ∧ Lk fi z (belowX fi z f a l) own f k hh n 1 := by
  have hv := valid_no h hf hk ht hpl
  obtain ⟨n, e0, hl⟩ := lk_of h q hf hk (h.kid_none hf hk ht) (show 1 % 2 = 1 from rfl) (by decide) (fun _ => rfl)
  refine ⟨n, ?_, ?_⟩
  · unfold belowN; rw [hv]; exact e0
  · unfold belowX; rw [hv, hpl]; exact hl
theorem pt_yes {t fr : Nat} (h : t < fr) {e : Int} (he : e = ((t * 1024 + 1 : Nat) : Int)) : ptB fr e = true := by
  unfold ptB
  have h1 : e % 16 = 1 := by omega
  have h2 : e / 1024 < fr := by omega
  rw [decide_eq_true h1, decide_eq_true h2]; rfl
theorem pt_zero (fr : Nat) {e : Int} (he : e = 0) : ptB fr e = false := by subst he; rfl
theorem ent_div {t : Nat} {e : Int} (he : e = ((t * 1024 + 1 : Nat) : Int)) : e / 1024 = t := by omega
theorem pth_succ (z : Sp) (r d n : Nat) : pth z r (d + 1) n = (pth z r d (n / 32)).bind fun f => kid z f (n % 32) := rfl
/-- Where Leaf comes to. -/
theorem leaf_tab {fi : Nat} {z : Sp} {own : Who} (h : WF fi z own) {r p j P : Nat} (hr : own r = some (3, p, j)) (hP : P < 32768) :
    (pth z r 1 (P / 1024) = none ∧ leafR z.L.length z.s r ((P : Int) * 256) = 3 ∧ missI z.s r ((P : Int) * 256) = 2) ∨
    (∃ t1, pth z r 1 (P / 1024) = some t1 ∧ pth z r 2 (P / 32) = none ∧ leafR z.L.length z.s r ((P : Int) * 256) = 3 ∧ missI z.s r ((P : Int) * 256) = 1) ∨
    (∃ t1 t0, pth z r 1 (P / 1024) = some t1 ∧ pth z r 2 (P / 32) = some t0 ∧ leafR z.L.length z.s r ((P : Int) * 256) = 0 ∧ leafV z.L.length z.s r ((P : Int) * 256) = ((t0 * 256 + P % 32 * 8 : Nat) : Int)) := by
  have hrl := h.lt hr
  have d1 : (decide (0 ≤ (r : Int)) && decide ((r : Int) < (z.L.length : Int))) = true := by rw [decide_eq_true (by omega), decide_eq_true (by omega)]; rfl
  have d2 : decide ((P : Int) * 256 < 8388608) = true := decide_eq_true (by omega)
  have hR : leafR z.L.length z.s r ((P : Int) * 256) = bif ptB z.L.length (leafA z.s r ((P : Int) * 256)) && ptB z.L.length (leafC z.s r ((P : Int) * 256)) then 0 else 3 := by
    unfold leafR; rw [d1, d2, cond_true, cond_true]
  have eA : leafA z.s r ((P : Int) * 256) = T z r (P / 1024) := by
    have := pl2 r hP
    unfold placeI at this
    unfold leafA; rw [this]; rfl
  have e1 : pth z r 1 (P / 1024) = kid z r (P / 1024) := by
    rw [pth_succ z r 0 (P / 1024), show P / 1024 % 32 = P / 1024 by omega]; rfl
  have hm2 := pl2 r hP
  cases hk : kid z r (P / 1024) with
  | none =>
    left
    have h0 := h.kid_none hr (by omega) hk
    refine ⟨by rw [e1, hk], ?_, ?_⟩
    · rw [hR, pt_zero _ (eA.trans h0), Bool.false_and, cond_false]
    · unfold missI; rw [valid_no h hr (by omega) hk hm2, cond_false]
  | some t1 =>
    right
    have ho := (h.kid_iff hr (by omega)).1 hk
    obtain ⟨_, _, hv1, hv2⟩ := below_yes h hr (by omega) hk hm2
    have hT1 : T z r (P / 1024) = ((t1 * 1024 + 1 : Nat) : Int) := by
      rcases h.ent hr (show P / 1024 < 32 by omega) with ⟨q0, _⟩ | ⟨g, b, q1, q2, q3, q4, q5, _⟩
      · rw [kid_zero q0] at hk; cases hk
      · have := (h.kid_iff hr (by omega)).2 q5
        have e6 : t1 = g := Option.some.inj (hk.symm.trans this)
        rw [q1, q4 (by decide), e6]
    have ht1 := h.lt ho
    have p1 : ptB z.L.length (leafA z.s r ((P : Int) * 256)) = true := by
      exact pt_yes ht1.2.1 (eA.trans hT1)
    have eC : leafC z.s r ((P : Int) * 256) = T z t1 (P / 32 % 32) := by
      have := pl1 t1 hP
      unfold placeI at this
      unfold leafC; rw [ent_div (eA.trans hT1), this]; rfl
    have e2 : pth z r 2 (P / 32) = kid z t1 (P / 32 % 32) := by
      rw [pth_succ z r 1 (P / 32), show P / 32 / 32 = P / 1024 by omega, e1, hk]; rfl
    have hm1 := pl1 t1 hP
    cases hk2 : kid z t1 (P / 32 % 32) with
    | none =>
      left
      have h0 := h.kid_none ho (by omega) hk2
      refine ⟨t1, by rw [e1, hk], by rw [e2, hk2], ?_, ?_⟩
      · rw [hR, pt_zero _ (eC.trans h0), Bool.and_false, cond_false]
      · unfold missI; rw [hv1, hv2, valid_no h ho (by omega) hk2 hm1, cond_true, cond_false]
    | some t0 =>
      right
      have ho2 := (h.kid_iff ho (by omega)).1 hk2
      have ht0 := h.lt ho2
      have hT2 : T z t1 (P / 32 % 32) = ((t0 * 1024 + 1 : Nat) : Int) := by
        rcases h.ent ho (show P / 32 % 32 < 32 by omega) with ⟨q0, _⟩ | ⟨g, b, q1, q2, q3, q4, q5, _⟩
        · rw [kid_zero q0] at hk2; cases hk2
        · have := (h.kid_iff ho (by omega)).2 q5
          have e6 : t0 = g := Option.some.inj (hk2.symm.trans this)
          rw [q1, q4 (by decide), e6]
      have p2 : ptB z.L.length (leafC z.s r ((P : Int) * 256)) = true := by
        exact pt_yes ht0.2.1 (eC.trans hT2)
      have hR0 : leafR z.L.length z.s r ((P : Int) * 256) = 0 := by rw [hR, p1, p2, Bool.and_true, cond_true]
      refine ⟨t1, t0, by rw [e1, hk], by rw [e2, hk2], hR0, ?_⟩
      have := pl0 t0 hP
      unfold placeI at this
      unfold leafV
      rw [hR0, ent_div (eC.trans hT2), decide_eq_true rfl, cond_true]
      exact this
end Go.Proofs.YtbcnibnkojnpiaaGreat.P
namespace Go.Proofs.YtbcnibnkojnpiaaGreat.P
open Go.RowKit Go.MuLone Go.Maps
def lack (x : Option Nat) : Int := if x.isSome = true then 0 else 1
theorem pth_pre {z : Sp} {r d m k : Nat} (hk : k < 32) (h : pth z r d m = none) : pth z r (d + 1) (m * 32 + k) = none := by
  rw [pth, show (m * 32 + k) / 32 = m by omega, h]; rfl
theorem pth_pre' {z : Sp} {r d m : Nat} (h : pth z r d (m / 32) = none) : pth z r (d + 1) m = none := by
  rw [pth, h]; rfl
theorem pth_kid {z : Sp} {r d m k f : Nat} (hk : k < 32) (h : pth z r d m = some f) : pth z r (d + 1) (m * 32 + k) = kid z f k := by
  rw [pth, show (m * 32 + k) / 32 = m by omega, h, show (m * 32 + k) % 32 = k by omega]; rfl
theorem miss_eq {fi : Nat} {z : Sp} {own : Who} (h : WF fi z own) {r p j P : Nat} (hr : own r = some (3, p, j)) (hP : P < 32768) : mapMiss z r P = lack (pth z r 1 (P / 1024)) + lack (pth z r 2 (P / 32)) := by
  unfold mapMiss
  rcases leaf_tab h hr hP with ⟨e1, e2, e3⟩ | ⟨t1, e1, e2, e3, e4⟩ | ⟨t1, t0, e1, e2, e3, e4⟩
  · rw [e2, e3, e1, pth_pre' (m := P / 32) (d := 1) (by rw [show P / 32 / 32 = P / 1024 by omega]; exact e1)]; rfl
  · rw [e3, e4, e1, e2]; rfl
  · rw [e3, e1, e2]; rfl
theorem there_eq {fi : Nat} {z : Sp} {own : Who} (h : WF fi z own) {r p j P : Nat} (hr : own r = some (3, p, j)) (hP : P < 32768) : mapThere z r P = (pth z r 3 P).isSome := by
  unfold mapThere
  rcases leaf_tab h hr hP with ⟨e1, e2, e3⟩ | ⟨t1, e1, e2, e3, e4⟩ | ⟨t1, t0, e1, e2, e3, e4⟩
  · rw [e2, pth_pre' (m := P) (d := 2) (pth_pre' (m := P / 32) (d := 1) (by rw [show P / 32 / 32 = P / 1024 by omega]; exact e1))]; rfl
  · rw [e3, pth_pre' (m := P) (d := 2) e2]; rfl
  · rw [e3, e4]
    have e5 : pth z r 3 P = kid z t0 (P % 32) := by
      have := pth_kid (z := z) (r := r) (d := 2) (m := P / 32) (k := P % 32) (by omega) e2
      rw [show P / 32 * 32 + P % 32 = P by omega] at this; exact this
    rw [e5]
    unfold kid
    show (true && decide (T z t0 (P % 32) % 2 = 1)) = _
    by_cases q : T z t0 (P % 32) % 2 = 1
    · rw [if_pos q, decide_eq_true q]; rfl
    · rw [if_neg q, decide_eq_false q]; rfl
theorem bad_no {fi : Nat} {z : Sp} {own : Who} (h : WF fi z own) {r p j P b : Nat} (hr : own r = some (3, p, j)) (hP : P < 32768) (hb : b % 2 = 1) (hb2 : b < 32) : mapBad fi z r P b = false := by
  unfold mapBad
  rw [h.tkn hr, decide_eq_false (by omega), decide_eq_false (by omega), decide_eq_false (by omega), decide_eq_false (by omega)]; rfl
theorem below_step {fi : Nat} {z : Sp} {own : Who} (h : WF fi z own) {r p j : Nat} (hr : own r = some (3, p, j)) {d m f k : Nat} (hd : d ≤ 1) (hm : m < 32 ^ d) (hf : pth z r d m = some f) (hk : k < 32) {a l : Int} (hpl : placeI f a l = ((f * 256 + k * 8 : Nat) : Int))
    (hq : pth z r (d + 1) (m * 32 + k) = none → 0 < leftX fi z) :
    ∃ t own', belowN fi z f a l = ((t : Nat) : Int) ∧ Grw fi z own (belowX fi z f a l) own' r ∧ pth (belowX fi z f a l) r (d + 1) (m * 32 + k) = some t ∧
      (∀ d' m', d' ≤ 3 → m' < 32 ^ d' → ¬ (d' = d + 1 ∧ m' = m * 32 + k) → pth (belowX fi z f a l) r d' m' = pth z r d' m') ∧ leftX fi (belowX fi z f a l) = leftX fi z - lack (pth z r (d + 1) (m * 32 + k)) := by
  obtain ⟨p', j', ho⟩ := pth_high h hr (by omega) hf
  have ho2 : own f = some ((2 - d) + 1, p', j') := by rw [ho]; congr 2; omega
  have e5 := pth_kid (z := z) (r := r) hk hf
  cases hc : kid z f k with
  | some t =>
    obtain ⟨b1, b2, _, _⟩ := below_yes h ho2 hk hc hpl
    rw [b1, b2, e5, hc]
    exact ⟨t, own, rfl, Grw.refl h r, rfl, fun _ _ _ _ _ => rfl, by show _ = _ - 0; omega⟩
  | none =>
    obtain ⟨n, b1, b2⟩ := below_no h ((left_take h.fle).2 (hq (by rw [e5, hc]))) ho2 hk hc hpl
    obtain ⟨c1, c2⟩ := b2.pth h ho2 hr (by omega) hm hf
    rw [e5, hc]
    exact ⟨n, _, b1, b2.grw h ho2 (Und.of_pth h hr d m f (by omega) hf), c1, c2, b2.left⟩
theorem place_in (t0 P fr : Nat) (h : t0 < fr) : ((t0 * 256 + P % 32 * 8 : Nat) : Int) + 8 ≤ ((fr * 256 : Nat) : Int) := by omega
theorem load_in (s : List UInt8) (p : Int) (h : p + 8 ≤ s.length) : loadR s p 8 = 0 := by
  unfold loadR inB; rw [if_pos (show sizedB 8 = true from rfl), if_pos (decide_eq_true h)]
theorem map_ok {fi : Nat} {z : Sp} {own : Who} (h : WF fi z own) {r p j P b : Nat} (hr : own r = some (3, p, j)) (hP : P < 32768) (hb : b % 2 = 1) (hb2 : b < 32) (hno : pth z r 3 P = none) (hleft : mapMiss z r P < leftX fi z) :
    mapE fi z r P b = 0 ∧ ∃ own', Grw fi z own (mapX fi z r P b) own' r ∧
      (∀ d m, d ≤ 3 → m < 32 ^ d → (pth (mapX fi z r P b) r d m).isSome = ((pth z r d m).isSome || (decide (d = 1 ∧ m = P / 1024) || (decide (d = 2 ∧ m = P / 32) || decide (d = 3 ∧ m = P))))) ∧
      leftX fi (mapX fi z r P b) = leftX fi z - (mapMiss z r P + 1) ∧
      ∃ t0 g, pth (mapX fi z r P b) r 2 (P / 32) = some t0 ∧ T (mapX fi z r P b) t0 (P % 32) = ((g * 1024 + b : Nat) : Int) ∧ own g = none ∧ own' g = some (0, t0, P % 32) := by
  have hth : mapThere z r P = false := by rw [there_eq h hr hP, hno]; rfl
  have hbad := bad_no h hr hP hb hb2
  have hlt : decide (leftX fi z ≤ mapMiss z r P) = false := decide_eq_false (by omega)
  have eX : mapX fi z r P b = putX (takeX fi (mapZ fi z r P)) (placeI (mapT fi z r P) ((P : Int) * 256) 0) (entryI (takeN (mapZ fi z r P).L fi) b) := by
    unfold mapX; rw [hbad, hth, hlt, cond_false, cond_false, cond_false]
  have eE : mapE fi z r P b = loadR (takeX fi (mapZ fi z r P)).s (placeI (mapT fi z r P) ((P : Int) * 256) 0) 8 := by
    unfold mapE; rw [hbad, hth, hlt, cond_false, cond_false, cond_false]
  rw [miss_eq h hr hP] at hleft ⊢
  have hl1 : 0 ≤ lack (pth z r 1 (P / 1024)) ∧ (pth z r 1 (P / 1024) = none → lack (pth z r 1 (P / 1024)) = 1) := by
    unfold lack; constructor
    · split <;> omega
    · intro e; rw [e]; rfl
  have hl2 : 0 ≤ lack (pth z r 2 (P / 32)) ∧ (pth z r 2 (P / 32) = none → lack (pth z r 2 (P / 32)) = 1) := by
    unfold lack; constructor
    · split <;> omega
    · intro e; rw [e]; rfl
  obtain ⟨t1, o1, n1, g1, q1, k1, f1⟩ := below_step h hr (d := 0) (m := 0) (f := r) (k := P / 1024) (by omega) (by decide) rfl (by omega) (pl2 r hP) (fun e => by rw [show 0 * 32 + P / 1024 = P / 1024 by omega] at e; have := hl1.2 e; omega)
  rw [show 0 * 32 + P / 1024 = P / 1024 by omega] at q1 k1 f1
  replace q1 : pth (belowX fi z r ((P : Int) * 256) 2) r 1 (P / 1024) = some t1 := q1
  replace f1 : leftX fi (belowX fi z r ((P : Int) * 256) 2) = leftX fi z - lack (pth z r 1 (P / 1024)) := f1
  have hr1 := g1.old _ _ hr
  have s2 : pth (belowX fi z r ((P : Int) * 256) 2) r 2 (P / 32) = pth z r 2 (P / 32) := k1 2 (P / 32) (by decide) (by omega) (by omega)
  have s3 : pth (belowX fi z r ((P : Int) * 256) 2) r 3 P = pth z r 3 P := k1 3 P (by decide) (by omega) (by omega)
  obtain ⟨t0, o2, n2, g2, q2, k2, f2⟩ := below_step g1.wf hr1 (d := 1) (m := P / 1024) (f := t1) (k := P / 32 % 32) (by omega) (by omega) q1 (by omega) (pl1 t1 hP) (fun e => by
    rw [show P / 1024 * 32 + P / 32 % 32 = P / 32 by omega] at e
    replace e : pth (belowX fi z r ((P : Int) * 256) 2) r 2 (P / 32) = none := e
    rw [s2] at e
    have := hl2.2 e
    rw [f1]; omega)
  rw [show P / 1024 * 32 + P / 32 % 32 = P / 32 by omega] at q2 k2 f2
  replace q2 : pth (belowX fi (belowX fi z r ((P : Int) * 256) 2) t1 ((P : Int) * 256) 1) r 2 (P / 32) = some t0 := q2
  replace f2 : leftX fi (belowX fi (belowX fi z r ((P : Int) * 256) 2) t1 ((P : Int) * 256) 1) = leftX fi (belowX fi z r ((P : Int) * 256) 2) - lack (pth (belowX fi z r ((P : Int) * 256) 2) r 2 (P / 32)) := f2
  rw [s2] at f2
  have hr2 := g2.old _ _ hr1
  have eZ : mapZ fi z r P = belowX fi (belowX fi z r ((P : Int) * 256) 2) t1 ((P : Int) * 256) 1 := by unfold mapZ; rw [n1]
  have eT : mapT fi z r P = t0 := by unfold mapT; rw [n1]; exact n2
  rw [eT, eZ, pl0 t0 hP] at eX eE
  generalize belowX fi (belowX fi z r ((P : Int) * 256) 2) t1 ((P : Int) * 256) 1 = z2 at *
  have u3 : pth z2 r 3 P = none := by rw [k2 3 P (by decide) (by omega) (by omega), s3, hno]
  obtain ⟨p', j', ho⟩ := pth_high g2.wf hr2 (show 2 ≤ 3 by decide) q2
  have ho2 : o2 t0 = some (0 + 1, p', j') := ho
  have e5 := pth_kid (z := z2) (r := r) (k := P % 32) (by omega) q2
  rw [show P / 32 * 32 + P % 32 = P by omega, u3] at e5
  have hlf : leftX fi z2 = leftX fi z - lack (pth z r 1 (P / 1024)) - lack (pth z r 2 (P / 32)) := by rw [f2, f1]
  obtain ⟨n, e0, lk⟩ := lk_of g2.wf ((left_take g2.wf.fle).2 (by omega)) ho2 (k := P % 32) (b := b) (by omega) (g2.wf.kid_none ho2 (by omega) e5.symm) hb hb2 (fun h => by omega)
  obtain ⟨c1, c2⟩ := lk.pth g2.wf ho2 hr2 (show 2 ≤ 2 by decide) (by omega) q2
  rw [show P / 32 * 32 + P % 32 = P by omega] at c1 c2
  have g3 := lk.grw g2.wf ho2 (Und.of_pth g2.wf hr2 2 (P / 32) t0 (by decide) q2)
  have ht0 := g2.wf.lt ho2
  have hlen2 := g2.wf.sz.len
  rw [eX]
  refine ⟨?_, _, (g1.trans h (g2.trans g1.wf g3)), fun d m hd hm => ?_, by rw [lk.left, hlf]; omega, t0, n, ?_, ?_, ?_, ?_⟩
  · rw [eE]
    obtain ⟨hs, hlen⟩ := take_sz fi g2.wf.sz
    have a1 := hs.len
    rw [hlen] at a1
    refine load_in _ _ ?_
    rw [a1]
    exact place_in t0 P _ ht0.2.1
  · by_cases a3 : d = 3 ∧ m = P
    · obtain ⟨rfl, rfl⟩ := a3
      rw [c1, decide_eq_true (show 3 = 3 ∧ m = m from ⟨rfl, rfl⟩), Bool.or_true, Bool.or_true, Bool.or_true]; rfl
    rw [c2 d m hd hm (by omega), decide_eq_false a3, Bool.or_false]
    by_cases a2 : d = 2 ∧ m = P / 32
    · obtain ⟨rfl, rfl⟩ := a2
      rw [q2, decide_eq_true (show 2 = 2 ∧ P / 32 = P / 32 from ⟨rfl, rfl⟩), Bool.or_true, Bool.or_true]; rfl
    rw [k2 d m hd hm (by omega), decide_eq_false a2, Bool.or_false]
    by_cases a1 : d = 1 ∧ m = P / 1024
    · obtain ⟨rfl, rfl⟩ := a1
      rw [q1, decide_eq_true (show 1 = 1 ∧ P / 1024 = P / 1024 from ⟨rfl, rfl⟩), Bool.or_true]; rfl
    rw [k1 d m hd hm (by omega), decide_eq_false a1, Bool.or_false]
  · rw [c2 2 (P / 32) (by decide) (by omega) (by omega)]; exact q2
  · rw [lk.T t0 (P % 32) ht0.2.1 (by omega), if_neg (fun e => by rw [e, lk.fresh] at ho2; cases ho2), if_pos ⟨rfl, rfl⟩]
  · cases hn : own n with
    | none => rfl
    | some v =>
      have := g2.old _ _ (g1.old _ _ hn)
      rw [lk.fresh] at this; cases this
  · unfold upd; rw [if_pos rfl]
end Go.Proofs.YtbcnibnkojnpiaaGreat.P
namespace Go.Proofs.YtbcnibnkojnpiaaGreat.P
open Go.RowKit Go.MuLone Go.Maps
/-- What is come to: how high it is, its number there, its frame, its bits. -/
structure It where
  h : Nat
  n : Nat
  f : Nat
  b : Nat
/-- What hangs at k of f. -/
def kidL (z : Sp) (f k : Nat) (c : Nat → Nat → List It) : List It := match kid z f k with
  | none => []
  | some g => c g (T z f k % 32).toNat
def ilpF (z : Sp) (f n : Nat) (c : Nat → Nat → Nat → List It) : Nat → List It
  | 0 => []
  | k + 1 => ilpF z f n c k ++ kidL z f k (fun g b => c g (n * 32 + k) b)
/-- All below a frame, and itself at the end. -/
def il (z : Sp) : Nat → Nat → Nat → Nat → List It
  | 0, f, n, b => [⟨0, n, f, b⟩]
  | h + 1, f, n, b => ilpF z f n (fun g m c => il z h g m c) 32 ++ [⟨h + 1, n, f, b⟩]
section
variable {X : Type} (pg : Int → Int → Int → X → X) (tb : Int → X → X)
def actI (x : X) (i : It) : X := if i.h = 0 then pg i.n i.f i.b x else tb i.f x
end
theorem valid_same {z y : Sp} {f k : Nat} (hl : y.s.length = z.s.length) (hT : T y f k = T z f k) :
    validB y.s ((f * 256 + k * 8 : Nat) : Int) = validB z.s ((f * 256 + k * 8 : Nat) : Int) ∧ validF y.s ((f * 256 + k * 8 : Nat) : Int) = validF z.s ((f * 256 + k * 8 : Nat) : Int) ∧ validG y.s ((f * 256 + k * 8 : Nat) : Int) = validG z.s ((f * 256 + k * 8 : Nat) : Int) := by
  have h1 : entS y.s ((f * 256 + k * 8 : Nat) : Int) = entS z.s ((f * 256 + k * 8 : Nat) : Int) := hT
  have h2 : validB y.s ((f * 256 + k * 8 : Nat) : Int) = validB z.s ((f * 256 + k * 8 : Nat) : Int) := by unfold validB; rw [h1, hl]
  refine ⟨h2, ?_, ?_⟩
  · unfold validF; rw [h2, h1]
  · unfold validG; rw [h2, h1]
theorem fold_il {X : Type} {rd : X → Sp} {fi : Nat} {pg : Int → Int → Int → X → X} {tb : Int → X → X} {z : Sp} {own : Who} (h : WF fi z own) (all : List It) (J : List It → X → Prop)
    (hJ : ∀ pre it post x, all = pre ++ it :: post → J pre x → J (pre ++ [it]) (actI pg tb x it))
    (hS : ∀ pre post x, all = pre ++ post → J pre x → (rd x).s.length = z.s.length ∧ ∀ it, it ∈ post → (1 ≤ it.h → ∀ k, k < 32 → T (rd x) it.f k = T z it.f k) ∧ tknB (rd x).L fi (it.f : Int) = true) :
    ∀ (l f n b p j : Nat) (pre post : List It) (x : X), own f = some (l + 1, p, j) → all = pre ++ (il z (l + 1) f n b ++ post) → J pre x →
      visX rd fi pg tb l f n x = (il z (l + 1) f n b).foldl (actI pg tb) x ∧ J (pre ++ il z (l + 1) f n b) ((il z (l + 1) f n b).foldl (actI pg tb) x) := by
  -- one table's rounds
  have rounds : ∀ (l f n b p j : Nat) (fL : Int → Int → Int → X → X), own f = some (l + 1, p, j) →
      (∀ (g m c : Nat) (pre post : List It) (x : X), own g = some (l, f, m % 32) → all = pre ++ (il z l g m c ++ post) → J pre x → fL m g c x = (il z l g m c).foldl (actI pg tb) x ∧ J (pre ++ il z l g m c) ((il z l g m c).foldl (actI pg tb) x)) →
      ∀ (k : Nat) (pre post : List It) (x : X), k ≤ 32 → all = pre ++ (il z (l + 1) f n b ++ post) → J pre x →
        lpX rd fi f n fL k x = (ilpF z f n (fun g m c => il z l g m c) k).foldl (actI pg tb) x ∧ J (pre ++ ilpF z f n (fun g m c => il z l g m c) k) ((ilpF z f n (fun g m c => il z l g m c) k).foldl (actI pg tb) x) := by
    intro l f n b p j fL ho hc k
    induction k with
    | zero =>
      intro pre post x _ _ hj
      rw [lpX, ilpF, List.append_nil]
      exact ⟨rfl, hj⟩
    | succ k ih =>
      intro pre post x hk ha hj
      obtain ⟨i1, i2⟩ := ih pre post x (by omega) ha hj
      rw [lpX, i1, ilpF, List.foldl_append]
      generalize hy : (ilpF z f n (fun g m c => il z l g m c) k).foldl (actI pg tb) x = y at *
      -- what is left
      have hsplit : ∃ rest, ilpF z f n (fun g m c => il z l g m c) 32 = ilpF z f n (fun g m c => il z l g m c) k ++ (kidL z f k (fun g b => il z l g (n * 32 + k) b) ++ rest) := by
        have key : ∀ d, k + 1 + d ≤ 32 → ∃ rest, ilpF z f n (fun g m c => il z l g m c) (k + 1 + d) = ilpF z f n (fun g m c => il z l g m c) k ++ (kidL z f k (fun g b => il z l g (n * 32 + k) b) ++ rest) := by
          intro d
          induction d with
          | zero => intro _; exact ⟨[], by rw [Nat.add_zero, ilpF, List.append_nil]⟩
          | succ d ih =>
            intro hd
            obtain ⟨rest, e⟩ := ih (by omega)
            refine ⟨rest ++ kidL z f (k + 1 + d) (fun g b => il z l g (n * 32 + (k + 1 + d)) b), ?_⟩
            rw [show k + 1 + (d + 1) = (k + 1 + d) + 1 by omega, ilpF, e, List.append_assoc, List.append_assoc]
        have := key (31 - k) (by omega)
        rw [show k + 1 + (31 - k) = 32 by omega] at this
        exact this
      obtain ⟨rest, hrest⟩ := hsplit
      have ha2 : all = (pre ++ ilpF z f n (fun g m c => il z l g m c) k) ++ (kidL z f k (fun g b => il z l g (n * 32 + k) b) ++ (rest ++ (⟨l + 1, n, f, b⟩ :: post))) := by
        rw [ha, il, hrest]
        simp only [List.append_assoc, List.cons_append, List.nil_append]
      obtain ⟨s1, s2⟩ := hS _ _ y ha2 i2
      have st := s2 ⟨l + 1, n, f, b⟩ (by simp)
      have hTf := st.1 (by simp) k (by omega)
      obtain ⟨v1, v2, v3⟩ := valid_same (z := z) (y := rd y) (f := f) (k := k) s1 hTf
      have hpos : (f : Int) * 256 + (k : Int) * 8 = ((f * 256 + k * 8 : Nat) : Int) := by omega
      unfold rndX
      rw [hpos, v1, v2, v3]
      unfold kidL at ha2 ⊢
      rcases h.ent ho (show k < 32 by omega) with ⟨q0, q1⟩ | ⟨g, c, q1, q2, q3, q4, q5, w1, w2, w3⟩
      · have hkn := kid_zero q0
        rw [hkn, q1, Bool.false_and, cond_false]
        exact ⟨rfl, by rw [List.append_nil]; exact i2⟩
      · have hks : kid z f k = some g := (h.kid_iff ho (by omega)).2 q5
        rw [hks] at ha2 ⊢
        have hc32 : (T z f k % 32).toNat = c := by rw [q1]; omega
        simp only [hc32] at ha2 ⊢
        rw [w1, w2, w3, Bool.true_and]
        have hmod : (n * 32 + k) % 32 = k := by omega
        have htk : tknB (rd y).L fi (g : Int) = true := by
          have hm : ∃ bb, (⟨l, n * 32 + k, g, bb⟩ : It) ∈ il z l g (n * 32 + k) c := by
            cases l with
            | zero => exact ⟨c, by rw [il]; simp⟩
            | succ l => exact ⟨c, by rw [il]; simp⟩
          obtain ⟨bb, hm⟩ := hm
          exact (s2 _ (List.mem_append_left _ (by unfold kidL; rw [hks]; simp only [hc32]; exact hm))).2
        rw [htk, cond_true]
        obtain ⟨c1, c2⟩ := hc g (n * 32 + k) c (pre ++ ilpF z f n (fun g m c => il z l g m c) k) _ y (by rw [hmod]; exact q5) ha2 i2
        have en : (n : Int) * 32 + (k : Int) = ((n * 32 + k : Nat) : Int) := by omega
        rw [en]
        exact ⟨c1, by rw [← List.append_assoc]; exact c2⟩
  intro l
  induction l with
  | zero =>
    intro f n b p j pre post x ho ha hj
    have hr := rounds 0 f n b p j pg ho (fun g m c pre post x hg ha hj => by
      rw [il] at ha ⊢
      exact ⟨rfl, hJ pre ⟨0, m, g, c⟩ post x ha hj⟩) 32 pre post x (Nat.le_refl _) ha hj
    have hfin : all = (pre ++ ilpF z f n (fun g m c => il z 0 g m c) 32) ++ (⟨1, n, f, b⟩ :: post) := by
      rw [ha, il]; simp only [List.append_assoc, List.cons_append, List.nil_append]
    have := hJ _ ⟨1, n, f, b⟩ post _ hfin hr.2
    rw [il, List.foldl_append, visX, hr.1]
    refine ⟨rfl, ?_⟩
    rw [← List.append_assoc]; exact this
  | succ l ih =>
    intro f n b p j pre post x ho ha hj
    have hr := rounds (l + 1) f n b p j (fun n nx _ x => visX rd fi pg tb l nx n x) ho (fun g m c pre post x hg ha hj => ih g m c f (m % 32) pre post x hg ha hj) 32 pre post x (Nat.le_refl _) ha hj
    have hfin : all = (pre ++ ilpF z f n (fun g m c => il z (l + 1) g m c) 32) ++ (⟨l + 2, n, f, b⟩ :: post) := by
      rw [ha, il]; simp only [List.append_assoc, List.cons_append, List.nil_append]
    have := hJ _ ⟨l + 2, n, f, b⟩ post _ hfin hr.2
    rw [il, List.foldl_append, visX, hr.1]
    refine ⟨rfl, ?_⟩
    rw [← List.append_assoc]; exact this
end Go.Proofs.YtbcnibnkojnpiaaGreat.P
namespace Go.Proofs.YtbcnibnkojnpiaaGreat.P
open Go.RowKit Go.MuLone Go.Maps
theorem mem_ilpF {z : Sp} {f n : Nat} {c : Nat → Nat → Nat → List It} {it : It} : ∀ {K : Nat}, it ∈ ilpF z f n c K ↔ ∃ k, k < K ∧ ∃ g, kid z f k = some g ∧ it ∈ c g (n * 32 + k) (T z f k % 32).toNat
  | 0 => by
    rw [ilpF]
    constructor
    · intro h; cases h
    · rintro ⟨k, h, _⟩; omega
  | K + 1 => by
    rw [ilpF, List.mem_append, mem_ilpF (K := K)]
    constructor
    · rintro (⟨k, h1, h2⟩ | h)
      · exact ⟨k, by omega, h2⟩
      · unfold kidL at h
        cases hk : kid z f K with
        | none => rw [hk] at h; cases h
        | some g => rw [hk] at h; exact ⟨K, by omega, g, hk, h⟩
    · rintro ⟨k, h1, g, h2, h3⟩
      by_cases e : k = K
      · subst e
        right; unfold kidL; rw [h2]; exact h3
      · exact .inl ⟨k, by omega, g, h2, h3⟩
structure ItOk (z : Sp) (r h n : Nat) (it : It) : Prop where
  le : it.h ≤ h
  pt : pth z r (3 - it.h) it.n = some it.f
  lt : it.n < 32 ^ (3 - it.h)
  pre : it.n / 32 ^ (h - it.h) = n
  ent : it.h < h → ∃ p', pth z r (2 - it.h) (it.n / 32) = some p' ∧ (T z p' (it.n % 32) % 32).toNat = it.b
theorem il_mem {fi : Nat} {z : Sp} {own : Who} (h0 : WF fi z own) {r p j : Nat} (hr : own r = some (3, p, j)) : ∀ (h f n b : Nat) (it : It), h ≤ 3 → n < 32 ^ (3 - h) → pth z r (3 - h) n = some f → it ∈ il z h f n b → ItOk z r h n it
  | 0, f, n, b, it, hh, hn, hp, hm => by
    rw [il] at hm
    rcases List.mem_singleton.1 hm with rfl
    exact ⟨Nat.le_refl _, hp, hn, by simp, fun h => absurd h (by simp)⟩
  | h + 1, f, n, b, it, hh, hn, hp, hm => by
    rw [il, List.mem_append] at hm
    rcases hm with hm | hm
    · obtain ⟨k, hk, g, h2, h3⟩ := mem_ilpF.1 hm
      have e1 : 3 - h = (3 - (h + 1)) + 1 := by omega
      have hp2 : pth z r (3 - h) (n * 32 + k) = some g := by rw [e1, pth_kid hk hp]; exact h2
      have hn2 : n * 32 + k < 32 ^ (3 - h) := by rw [e1, Nat.pow_succ]; omega
      have ih := il_mem h0 hr h g (n * 32 + k) _ it (by omega) hn2 hp2 h3
      refine ⟨Nat.le_succ_of_le ih.le, ih.pt, ih.lt, ?_, fun hlt => ?_⟩
      · have hle := ih.le
        rw [show h + 1 - it.h = (h - it.h) + 1 by omega, Nat.pow_succ, ← Nat.div_div_eq_div_mul, ih.pre]; omega
      · by_cases e : it.h < h
        · exact ih.ent e
        · have hle := ih.le
          have e2 : it.h = h := by omega
          have hpre := ih.pre
          rw [e2, Nat.sub_self, Nat.pow_zero, Nat.div_one] at hpre
          refine ⟨f, ?_, ?_⟩
          · rw [hpre, e2, show (n * 32 + k) / 32 = n by omega, show 2 - h = 3 - (h + 1) by omega]; exact hp
          · rw [hpre, show (n * 32 + k) % 32 = k by omega]
            have hb : ∀ (h g m c : Nat) (it : It), it ∈ il z h g m c → it.h = h → it.b = c := by
              intro h g m c it hm he
              cases h with
              | zero => rw [il] at hm; rcases List.mem_singleton.1 hm with rfl; rfl
              | succ h =>
                rw [il, List.mem_append] at hm
                rcases hm with hm | hm
                · exfalso
                  obtain ⟨k, _, g', _, h3⟩ := mem_ilpF.1 hm
                  have : ∀ (h g m c : Nat) (it : It), it ∈ il z h g m c → it.h ≤ h := by
                    intro h
                    induction h with
                    | zero => intro g m c it hm; rw [il] at hm; rcases List.mem_singleton.1 hm with rfl; exact Nat.le_refl _
                    | succ h ih =>
                      intro g m c it hm
                      rw [il, List.mem_append] at hm
                      rcases hm with hm | hm
                      · obtain ⟨k, _, g', _, h3⟩ := mem_ilpF.1 hm
                        exact Nat.le_succ_of_le (ih _ _ _ _ h3)
                      · rcases List.mem_singleton.1 hm with rfl; exact Nat.le_refl _
                  have := this _ _ _ _ _ h3
                  omega
                · rcases List.mem_singleton.1 hm with rfl; rfl
            exact (hb _ _ _ _ _ h3 e2).symm
    · rcases List.mem_singleton.1 hm with rfl
      exact ⟨Nat.le_refl _, hp, hn, by simp, fun h => absurd h (by simp)⟩
theorem pth_up {z : Sp} {r : Nat} : ∀ (e d m f : Nat), pth z r (d + e) m = some f → ∃ g, pth z r d (m / 32 ^ e) = some g
  | 0, d, m, f, h => ⟨f, by simpa using h⟩
  | e + 1, d, m, f, h => by
    have h' : pth z r ((d + e) + 1) m = some f := h
    rw [pth] at h'
    cases hg : pth z r (d + e) (m / 32) with
    | none => rw [hg] at h'; cases h'
    | some g =>
      obtain ⟨g2, h2⟩ := pth_up e d (m / 32) g hg
      refine ⟨g2, ?_⟩
      rw [Nat.div_div_eq_div_mul] at h2
      rw [Nat.pow_succ, Nat.mul_comm]; exact h2
theorem il_all {fi : Nat} {z : Sp} {own : Who} (h0 : WF fi z own) {r p j : Nat} (hr : own r = some (3, p, j)) : ∀ (h f n b e m f' : Nat), h ≤ 3 → e ≤ h → pth z r (3 - h) n = some f → m / 32 ^ e = n → pth z r (3 - h + e) m = some f' → ∃ b', (⟨h - e, m, f', b'⟩ : It) ∈ il z h f n b
  | h, f, n, b, 0, m, f', hh, he, hp, hm, hq => by
    rw [Nat.pow_zero, Nat.div_one] at hm
    subst hm
    have : f' = f := by rw [Nat.add_zero, hp] at hq; injection hq with hq; exact hq.symm
    subst this
    refine ⟨b, ?_⟩
    cases h with
    | zero => rw [il]; simp
    | succ h => rw [il]; simp
  | 0, f, n, b, e + 1, m, f', hh, he, hp, hm, hq => by omega
  | h + 1, f, n, b, e + 1, m, f', hh, he, hp, hm, hq => by
    have e1 : 3 - h = (3 - (h + 1)) + 1 := by omega
    have hq2 : pth z r (3 - h + e) m = some f' := by rw [e1, Nat.add_right_comm]; exact hq
    obtain ⟨g, hg⟩ := pth_up e (3 - h) m f' hq2
    have hmn : m / 32 ^ e / 32 = n := by rw [Nat.div_div_eq_div_mul, ← Nat.pow_succ]; exact hm
    have hk : kid z f (m / 32 ^ e % 32) = some g := by
      rw [e1, pth_succ, hmn, hp] at hg; exact hg
    obtain ⟨b', hb⟩ := il_all h0 hr h g (m / 32 ^ e) (T z f (m / 32 ^ e % 32) % 32).toNat e m f' (by omega) (by omega) hg rfl hq2
    refine ⟨b', ?_⟩
    rw [il, List.mem_append]
    left
    rw [show h + 1 - (e + 1) = h - e by omega]
    exact mem_ilpF.2 ⟨m / 32 ^ e % 32, by omega, g, hk, by rw [show n * 32 + m / 32 ^ e % 32 = m / 32 ^ e by omega]; exact hb⟩
abbrev Apart (a c : It) : Prop := ¬ (a.h = c.h ∧ a.n = c.n)
theorem il_apart {fi : Nat} {z : Sp} {own : Who} (h0 : WF fi z own) {r p j : Nat} (hr : own r = some (3, p, j)) : ∀ (h f n b : Nat), h ≤ 3 → n < 32 ^ (3 - h) → pth z r (3 - h) n = some f → (il z h f n b).Pairwise Apart
  | 0, f, n, b, _, _, _ => by rw [il]; exact List.pairwise_singleton _ _
  | h + 1, f, n, b, hh, hn, hp => by
    have e1 : 3 - h = (3 - (h + 1)) + 1 := by omega
    have hkp : ∀ k g, k < 32 → kid z f k = some g → pth z r (3 - h) (n * 32 + k) = some g ∧ n * 32 + k < 32 ^ (3 - h) := fun k g hk hg => ⟨by rw [e1, pth_kid hk hp]; exact hg, by rw [e1, Nat.pow_succ]; omega⟩
    have hin : ∀ K, K ≤ 32 → (ilpF z f n (fun g m c => il z h g m c) K).Pairwise Apart := by
      intro K
      induction K with
      | zero => intro _; rw [ilpF]; exact List.Pairwise.nil
      | succ K ih =>
        intro hK
        rw [ilpF, List.pairwise_append]
        refine ⟨ih (by omega), ?_, ?_⟩
        · unfold kidL
          cases hk : kid z f K with
          | none => exact List.Pairwise.nil
          | some g =>
            obtain ⟨q1, q2⟩ := hkp K g (by omega) hk
            exact il_apart h0 hr h g (n * 32 + K) _ (by omega) q2 q1
        · intro a ha c hc hac
          obtain ⟨k, hk, g, h2, h3⟩ := mem_ilpF.1 ha
          obtain ⟨q1, q2⟩ := hkp k g (by omega) h2
          have o1 := il_mem h0 hr h g (n * 32 + k) _ a (by omega) q2 q1 h3
          unfold kidL at hc
          cases hk2 : kid z f K with
          | none => rw [hk2] at hc; cases hc
          | some g' =>
            rw [hk2] at hc
            obtain ⟨q3, q4⟩ := hkp K g' (by omega) hk2
            have o2 := il_mem h0 hr h g' (n * 32 + K) _ c (by omega) q4 q3 hc
            have e2 := o1.pre
            rw [hac.1, hac.2, o2.pre] at e2
            omega
    rw [il, List.pairwise_append]
    refine ⟨hin 32 (Nat.le_refl _), List.pairwise_singleton _ _, ?_⟩
    intro a ha c hc hac
    obtain ⟨k, hk, g, h2, h3⟩ := mem_ilpF.1 ha
    obtain ⟨q1, q2⟩ := hkp k g (by omega) h2
    have o1 := il_mem h0 hr h g (n * 32 + k) _ a (by omega) q2 q1 h3
    rcases List.mem_singleton.1 hc with rfl
    have := o1.le
    have e3 : a.h = h + 1 := hac.1
    omega
/-- The whole list of a space. -/
def ilR (z : Sp) (r : Nat) : List It := il z 3 r 0 0
theorem ilR_mem {fi : Nat} {z : Sp} {own : Who} (h0 : WF fi z own) {r p j : Nat} (hr : own r = some (3, p, j)) {it : It} (hm : it ∈ ilR z r) : ItOk z r 3 0 it := il_mem h0 hr 3 r 0 0 it (Nat.le_refl _) (by decide) rfl hm
theorem ilR_own {fi : Nat} {z : Sp} {own : Who} (h0 : WF fi z own) {r p j : Nat} (hr : own r = some (3, p, j)) {it : It} (hm : it ∈ ilR z r) : Und own r it.f ∧ ∃ p' j', own it.f = some (it.h, p', j') := by
  have o := ilR_mem h0 hr hm
  have hle := o.le
  refine ⟨Und.of_pth h0 hr (3 - it.h) it.n it.f (by omega) o.pt, ?_⟩
  obtain ⟨p', j', e⟩ := pth_high h0 hr (d := 3 - it.h) (by omega) o.pt
  exact ⟨p', j', by rw [e]; congr 2; omega⟩
theorem ilR_all {fi : Nat} {z : Sp} {own : Who} (h0 : WF fi z own) {r f : Nat} (hu : Und own r f) : ∃ it, it ∈ ilR z r ∧ it.f = f := by
  obtain ⟨⟨p, j, hr⟩, d, n, hh, p', k, ho, hd, hn, hp⟩ := hu.to_pth h0
  obtain ⟨b', hb⟩ := il_all h0 hr 3 r 0 0 d n f (Nat.le_refl _) (by omega) rfl (Nat.div_eq_of_lt hn) (by rw [show 3 - 3 + d = d by omega]; exact hp)
  exact ⟨_, hb, rfl⟩
theorem ilR_nodup {fi : Nat} {z : Sp} {own : Who} (h0 : WF fi z own) {r p j : Nat} (hr : own r = some (3, p, j)) : ((ilR z r).map It.f).Nodup := by
  have h := il_apart h0 hr 3 r 0 0 (Nat.le_refl _) (by decide) rfl
  rw [List.Nodup, List.pairwise_map]
  refine List.Pairwise.imp_of_mem ?_ h
  intro a c ha hc hac e
  have o1 := ilR_mem h0 hr ha
  have o2 := ilR_mem h0 hr hc
  have l1 := o1.le
  have l2 := o2.le
  have p2 := o2.pt
  rw [← e] at p2
  obtain ⟨_, e2, e3⟩ := pth_inj h0 hr hr (3 - a.h) a.n (3 - c.h) c.n a.f (by omega) (by omega) o1.lt o2.lt o1.pt p2
  exact hac ⟨by omega, e3⟩
end Go.Proofs.YtbcnibnkojnpiaaGreat.P
