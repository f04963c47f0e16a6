/- Stage 12: a page that is new: noughts; where its bytes stand. No condition. -/
import Derived.Test.YtdlglnoffpnonaaGreatU2
import Derived.Test.YtdlglnoffpnonaaGreatPC
import Derived.Test.YtdlglnoffpnonaaGreatPK
import Derived.Test.YtdlglnoffpnonaaGreatPT
set_option linter.unusedVariables false
set_option linter.unusedSimpArgs false
set_option maxRecDepth 100000
namespace Go.Proofs.YtdlglnoffpnonaaGreat.P
open Go.RowKit Go.MuLone Go.Maps
variable {fi : Nat} {z : Sp} {own : Who}
theorem zero_after (s : List UInt8) (L n t k : Nat) (v : Int) (hs : s.length = L * 256) (hn : n < L) (ht : t < L) (hne : t ≠ n) (hk : k < 32) (i : Nat) (hi : i < 256) :
    (storeS (clearS L s n) ((t * 256 + k * 8 : Nat) : Int) 8 v)[n * 256 + i]? = some 0 := by
  have hcl : (clearS L s n).length = s.length := clear_len _ _ _ hn hs
  have hA : t * 256 + k * 8 + 8 ≤ (clearS L s n).length := by rw [hcl, hs]; omega
  have hB : n * 256 + 256 ≤ s.length := by rw [hs]; omega
  have hC : n * 256 + i < t * 256 + k * 8 ∨ t * 256 + k * 8 + 8 ≤ n * 256 + i := by omega
  obtain ⟨e1, e2⟩ := store_put (clearS L s n) (t * 256 + k * 8) v hA
  rw [e1]
  generalize (W.bytesF v 8).data.toList = bl at *
  generalize t * 256 + k * 8 = A at *
  have hc : (clearS L s n)[n * 256 + i]? = some 0 := by
    unfold clearS
    rw [if_pos (frB_t ⟨Int.natCast_nonneg n, Int.ofNat_lt.2 hn⟩), Int.toNat_natCast, putL_get _ _ _ (by rw [List.length_replicate]; exact hB), if_neg (by omega), if_pos (by rw [List.length_replicate]; omega), List.getElem?_replicate, if_pos (by omega)]
  rw [putL_at _ _ _ (by rw [e2]; exact hA) _ (by rw [e2]; exact hC)]
  exact hc
set_option maxHeartbeats 6400000 in
theorem map_zero (h : WF fi z own) {r p j P b : Nat} (hr : own r = some (3, p, j)) (hP : P < 32768) (hb : b % 2 = 1) (hb2 : b < 32) (hno : pth z r 3 P = none) (hleft : mapMiss z r P < leftX fi z) :
    ∃ (t0 n : Nat), pth (mapX fi z r P b) r 2 (P / 32) = some t0 ∧ T (mapX fi z r P b) t0 (P % 32) = ((n * 1024 + b : Nat) : Int) ∧ n < (mapX fi z r P b).L.length ∧ ∀ i, i < 256 → (mapX fi z r P b).s[n * 256 + i]? = some 0 := by
  have hth : mapThere z r P = false := by rw [there_eq h hr hP, hno]; rfl
  have hbad := bad_no h hr hP hb hb2
  have hlt : decide (leftX fi z ≤ mapMiss z r P) = false := decide_eq_false (by omega)
  have eX : mapX fi z r P b = putX (takeX fi (mapZ fi z r P)) (placeI (mapT fi z r P) ((P : Int) * 256) 0) (entryI (takeN (mapZ fi z r P).L fi) b) := by
    unfold mapX; rw [hbad, hth, hlt, cond_false, cond_false, cond_false]
  rw [miss_eq h hr hP] at hleft
  have hl1 : 0 ≤ lack (pth z r 1 (P / 1024)) ∧ (pth z r 1 (P / 1024) = none → lack (pth z r 1 (P / 1024)) = 1) := by
    unfold lack; constructor
    · split <;> omega
    · intro e; rw [e]; rfl
  have hl2 : 0 ≤ lack (pth z r 2 (P / 32)) ∧ (pth z r 2 (P / 32) = none → lack (pth z r 2 (P / 32)) = 1) := by
    unfold lack; constructor
    · split <;> omega
    · intro e; rw [e]; rfl
  have pk1 : pth z r 1 (P / 1024) = kid z r (P / 1024) := by have := pth_kid (z := z) (r := r) (d := 0) (m := 0) (k := P / 1024) (f := r) (by omega) rfl; rw [show 0 * 32 + P / 1024 = P / 1024 by omega] at this; exact this
  obtain ⟨t1, o1, n1, g1, q1, k1, f1⟩ := below_step h hr (d := 0) (m := 0) (f := r) (k := P / 1024) (by omega) (by decide) rfl (by omega) (pl2 r hP) (fun e => by rw [show 0 * 32 + P / 1024 = P / 1024 by omega] at e; have := hl1.2 e; omega)
  rw [show 0 * 32 + P / 1024 = P / 1024 by omega] at q1 k1 f1
  replace q1 : pth (belowX fi z r ((P : Int) * 256) 2) r 1 (P / 1024) = some t1 := q1
  replace f1 : leftX fi (belowX fi z r ((P : Int) * 256) 2) = leftX fi z - lack (pth z r 1 (P / 1024)) := f1
  have hr1 := g1.old _ _ hr
  have s2 : pth (belowX fi z r ((P : Int) * 256) 2) r 2 (P / 32) = pth z r 2 (P / 32) := k1 2 (P / 32) (by decide) (by omega) (by omega)
  obtain ⟨t0, o2, n2, g2, q2, k2, f2⟩ := below_step g1.wf hr1 (d := 1) (m := P / 1024) (f := t1) (k := P / 32 % 32) (by omega) (by omega) q1 (by omega) (pl1 t1 hP) (fun e => by
    rw [show P / 1024 * 32 + P / 32 % 32 = P / 32 by omega] at e
    replace e : pth (belowX fi z r ((P : Int) * 256) 2) r 2 (P / 32) = none := e
    rw [s2] at e
    have := hl2.2 e
    rw [f1]; omega)
  rw [show P / 1024 * 32 + P / 32 % 32 = P / 32 by omega] at q2 f2
  replace q2 : pth (belowX fi (belowX fi z r ((P : Int) * 256) 2) t1 ((P : Int) * 256) 1) r 2 (P / 32) = some t0 := q2
  replace f2 : leftX fi (belowX fi (belowX fi z r ((P : Int) * 256) 2) t1 ((P : Int) * 256) 1) = leftX fi (belowX fi z r ((P : Int) * 256) 2) - lack (pth (belowX fi z r ((P : Int) * 256) 2) r 2 (P / 32)) := f2
  rw [s2] at f2
  have hr2 := g2.old _ _ hr1
  have eZ : mapZ fi z r P = belowX fi (belowX fi z r ((P : Int) * 256) 2) t1 ((P : Int) * 256) 1 := by unfold mapZ; rw [n1]
  have eT : mapT fi z r P = t0 := by unfold mapT; rw [n1]; exact n2
  rw [eT, eZ, pl0 t0 hP] at eX
  obtain ⟨p1, j1, ho1⟩ := pth_high g1.wf hr1 (show 1 ≤ 3 by decide) q1
  obtain ⟨p2, j2, ho2⟩ := pth_high g2.wf hr2 (show 2 ≤ 3 by decide) q2
  have hk1 := pth_kid (z := belowX fi z r ((P : Int) * 256) 2) (r := r) (k := P / 32 % 32) (by omega) q1
  rw [show P / 1024 * 32 + P / 32 % 32 = P / 32 by omega, s2] at hk1
  have s3 : pth (belowX fi z r ((P : Int) * 256) 2) r 3 P = pth z r 3 P := k1 3 P (by decide) (by omega) (by omega)
  have u3 : pth (belowX fi (belowX fi z r ((P : Int) * 256) 2) t1 ((P : Int) * 256) 1) r 3 P = none := by rw [k2 3 P (by decide) (by omega) (by omega), s3, hno]
  have hlf : 0 < leftX fi (belowX fi (belowX fi z r ((P : Int) * 256) 2) t1 ((P : Int) * 256) 1) := by rw [f2, f1]; omega
  generalize belowX fi (belowX fi z r ((P : Int) * 256) 2) t1 ((P : Int) * 256) 1 = z2 at *
  have e5 := pth_kid (z := z2) (r := r) (k := P % 32) (by omega) q2
  rw [show P / 32 * 32 + P % 32 = P by omega, u3] at e5
  have htb := (left_take g2.wf.fle).2 hlf
  have ho3 : o2 t0 = some (0 + 1, p2, j2) := ho2
  obtain ⟨n, e0, lk⟩ := lk_of g2.wf htb ho3 (k := P % 32) (b := b) (by omega) (g2.wf.kid_none ho3 (by omega) e5.symm) hb hb2 (fun h => by omega)
  obtain ⟨c1, c2⟩ := lk.pth g2.wf ho3 hr2 (show 2 ≤ 2 by decide) (by omega) q2
  rw [show P / 32 * 32 + P % 32 = P by omega] at c1 c2
  have ht0 := g2.wf.lt ho2
  have hne : t0 ≠ n := fun e => by rw [e, lk.fresh] at ho2; cases ho2
  obtain ⟨n', w1, _, _, w2, _, w3, w4⟩ := take_b htb
  have hnn : n' = n := by have e : ((n' : Nat) : Int) = n := w2.symm.trans e0; omega
  subst hnn
  have hsz := g2.wf.sz
  have hen : entryI (takeN z2.L fi) b = ((n' * 1024 + b : Nat) : Int) := by rw [e0]; exact entryI_nat n' b (Nat.lt_of_lt_of_le w1 hsz.hi) hb2
  rw [eX]
  have hl : (putX (takeX fi z2) ((t0 * 256 + P % 32 * 8 : Nat) : Int) (entryI (takeN z2.L fi) b)).L.length = z2.L.length := by show (takeL z2.L fi).length = _; rw [w3, List.length_set]
  refine ⟨t0, n', ?_, ?_, by rw [hl]; exact w1, fun i hi => ?_⟩
  · rw [c2 2 (P / 32) (by decide) (by omega) (by omega)]; exact q2
  · rw [lk.T t0 (P % 32) ht0.2.1 (by omega), if_neg hne, if_pos ⟨rfl, rfl⟩]
  · show (storeS (takeS z2.L fi z2.s) ((t0 * 256 + P % 32 * 8 : Nat) : Int) 8 (entryI (takeN z2.L fi) b))[n' * 256 + i]? = some 0
    have hlen := hsz.len
    have htl := ht0.2.1
    have hk32 : P % 32 < 32 := Nat.mod_lt _ (by decide)
    rw [w4]
    exact zero_after z2.s z2.L.length n' t0 (P % 32) _ hlen w1 htl hne hk32 i hi
end Go.Proofs.YtdlglnoffpnonaaGreat.P
namespace Go.Proofs.YtdlglnoffpnonaaGreat.P
open Go.RowKit Go.MuLone Go.Maps
theorem o_qpoke {w0 w : World} {rp rb first : Nat} {L : List Bool} {s : List UInt8} {R : Asn} (h : Own w0 w (Star (rpA rp rb first L s) R)) (hR : Stable R) :
    ∃ vb, w.cell? ⟨rb, 0, none⟩ = some (.slice (some ⟨vb, 0, none⟩) s.length s.length) ∧ (∀ a (ha : a < s.length), w.cell? ⟨vb, a, none⟩ = some (bv s[a]) ∧ w.frozen? ⟨vb, a, none⟩ = false) ∧
      ∀ a (v : UInt8), a < s.length → Own w0 (w.setCell ⟨vb, a, none⟩ (bv v)) (Star (rpA rp rb first L (s.set a v)) R) := by
  obtain ⟨F, ib, vb, H, t, a, hr, _⟩ := h.left.get
  refine ⟨vb, blk_cell a.2.2.1.1 0 rfl, fun k hk => ⟨blk_cell a.2.2.1.2.2.1 k (bys_get _ _ hk), blk_frozen a.2.2.1.2.2.1 k⟩, fun k v hk => ?_⟩
  refine h.step hR (fun F hF => ?_)
  obtain ⟨ib', vb', H', t', a', hr', h1, h2, h3, h4⟩ := hF
  have hv : vb' = vb := by
    have e := a.2.2.1.1.symm.trans a'.2.2.1.1
    injection e with e
    injection e with e _
    have e2 := congrArg (fun c : Array Value => c[0]?) e
    simp at e2
    exact e2.symm
  subst hv
  have hset := blk_set a'.2.2.1.2.2.1 k (bv v)
  rw [bys_set] at hset
  have hl : (s.set k v).length = s.length := List.length_set
  have hc : Ch (· = vb') w (w.setCell ⟨vb', k, none⟩ (bv v)) := Ch.setCell (S := (· = vb')) (Ch.refl _ w) (.inl rfl) _
  exact rp_out (a'.turn (a'.2.2.1.bytes (z := s.set k v) hc hl hset) hl (hc.mono (fun x hx => .inr hx))) hr' (hc.mono (fun x hx => .inr (.inr hx))) h1 h2 h3 h4
theorem part_same5 {v : Int} {P : Nat} (hv : v < 8388608) (hP : P = (v / 256).toNat) (h0 : 0 ≤ v) : partI v 0 = partI ((P : Int) * 256) 0 ∧ partI v 1 = partI ((P : Int) * 256) 1 ∧ partI v 2 = partI ((P : Int) * 256) 2 := by
  have hb : (P : Int) * 256 < 8388608 := by omega
  refine ⟨?_, ?_, ?_⟩
  · rw [part0 _ hv, part0 _ hb]; omega
  · rw [part1 _ hv, part1 _ hb]; omega
  · rw [part2 _ hv, part2 _ hb]; omega
theorem leaf_same5 {fr : Nat} {s : List UInt8} {r v : Int} {P : Nat} (hv : v < 8388608) (hP : P = (v / 256).toNat) (h0 : 0 ≤ v) : leafR fr s r v = leafR fr s r ((P : Int) * 256) ∧ leafV fr s r v = leafV fr s r ((P : Int) * 256) := by
  obtain ⟨e0, e1, e2⟩ := part_same5 hv hP h0
  have hb : (P : Int) * 256 < 8388608 := by omega
  have eA : leafA s r v = leafA s r ((P : Int) * 256) := by unfold leafA; rw [e2]
  have eC : leafC s r v = leafC s r ((P : Int) * 256) := by unfold leafC; rw [eA, e1]
  have eR : leafR fr s r v = leafR fr s r ((P : Int) * 256) := by unfold leafR; rw [eA, eC, decide_eq_true hv, decide_eq_true hb]
  refine ⟨eR, ?_⟩
  unfold leafV; rw [eR, eC, e0]
/-- Where a page's bytes stand, whatever is in the pages. -/
theorem page_walk {fi : Nat} {z x : Sp} {own : Who} (hw : WF fi z own) (sx : StP z x own) {r p j P b t0 n : Nat} (hr : own r = some (3, p, j)) (hP : P < 32768) (hb : b % 2 = 1) (hb2 : b < 32) (hbr : b / 2 % 2 = 1) (hbu : b / 16 % 2 = 1)
    (q1 : pth z r 2 (P / 32) = some t0) (q2 : T z t0 (P % 32) = ((n * 1024 + b : Nat) : Int)) (hn : n < z.L.length) (o : Nat) (ho : o < 256) :
    walkR x.L.length x.s r ((P * 256 + o : Nat) : Int) 1 = 0 ∧ walkV x.L.length x.s r ((P * 256 + o : Nat) : Int) 1 = ((n * 256 + o : Nat) : Int) := by
  have hwx := sx.wf hw
  obtain ⟨p2, j2, ho2⟩ := pth_high hw hr (show 2 ≤ 3 by decide) q1
  have q1x : pth x r 2 (P / 32) = some t0 := by rw [sx.pth hw hr 2 _ (by decide)]; exact q1
  have q2x : T x t0 (P % 32) = ((n * 1024 + b : Nat) : Int) := by rw [sx.T t0 0 p2 j2 ho2 _ (by omega)]; exact q2
  have hLx : n < x.L.length := by rw [sx.L]; exact hn
  obtain ⟨e3, e4⟩ : leafR x.L.length x.s r ((P : Int) * 256) = 0 ∧ leafV x.L.length x.s r ((P : Int) * 256) = ((t0 * 256 + P % 32 * 8 : Nat) : Int) := by
    rcases leaf_tab hwx hr hP with ⟨e1, e2, e3⟩ | ⟨t1, e1, e2, e3, e4⟩ | ⟨t1, t0', e1, e2, e3, e4⟩
    · have := pth_pre' (m := P / 32) (d := 1) (z := x) (r := r) (by rw [show P / 32 / 32 = P / 1024 by omega]; exact e1)
      rw [q1x] at this; cases this
    · rw [q1x] at e2; cases e2
    · have : t0 = t0' := Option.some.inj (q1x.symm.trans e2)
      subst this
      exact ⟨e3, e4⟩
  obtain ⟨v, hv⟩ : ∃ v : Int, ((P * 256 + o : Nat) : Int) = v := ⟨_, rfl⟩
  have hv1 : v < 8388608 := by omega
  have hv2 : P = (v / 256).toNat := by omega
  have hv3 : 0 ≤ v := by omega
  obtain ⟨f1, f2⟩ := leaf_same5 (fr := x.L.length) (s := x.s) (r := (r : Int)) hv1 hv2 hv3
  rw [hv]
  have hE : walkE x.L.length x.s r v = ((n * 1024 + b : Nat) : Int) := by unfold walkE; rw [f2, e4]; exact q2x
  have hd : ((n * 1024 + b : Nat) : Int) / 1024 = (n : Int) := by omega
  have hR : walkR x.L.length x.s r v 1 = 0 := by
    unfold walkR
    rw [show neededI 1 = 2 from rfl, decide_eq_false (by decide), cond_false, f1, e3, decide_eq_true rfl, cond_true, hE, may_lay n b hb hb2 hbr hbu, hd, decide_eq_true (show (n : Int) < (x.L.length : Int) by omega), Bool.true_and, cond_true]
  refine ⟨hR, ?_⟩
  unfold walkV
  rw [hR, decide_eq_true rfl, cond_true, hE, hd]
  omega
/-- Noughts written where noughts stand. -/
theorem putL_zeros (s : List UInt8) (a m : Nat) (l : List UInt8) (h : a + (l.length + m) ≤ s.length) (hz : ∀ i, i < m → s[a + l.length + i]? = some 0) : putL s a (l ++ List.replicate m 0) = putL s a l := by
  apply List.ext_getElem?
  intro k
  rw [putL_get _ _ _ (by rw [List.length_append, List.length_replicate]; exact h), putL_get _ _ _ (by omega), List.length_append, List.length_replicate]
  by_cases h1 : k < a
  · rw [if_pos h1, if_pos h1]
  rw [if_neg h1, if_neg h1]
  by_cases h2 : k < a + l.length
  · rw [if_pos (by omega), if_pos h2, List.getElem?_append_left (by omega)]
  rw [if_neg h2]
  by_cases h3 : k < a + (l.length + m)
  · rw [if_pos h3, List.getElem?_append_right (by omega), List.getElem?_replicate, if_pos (by omega)]
    have := hz (k - a - l.length) (by omega)
    rw [show a + l.length + (k - a - l.length) = k by omega] at this
    exact this.symm
  · rw [if_neg h3]
end Go.Proofs.YtdlglnoffpnonaaGreat.P
namespace Go.Proofs.YtdlglnoffpnonaaGreat.P
open Go.RowKit Go.MuLone Go.Maps
def chunkL (s : ByteArray) (f : Nat) : List UInt8 := (s.data.toList.drop f).take 256
theorem chunk_len (s : ByteArray) (f : Nat) : (chunkL s f).length = min 256 (s.size - f) := by
  unfold chunkL; simp
theorem chunk_get (s : ByteArray) (f i : Nat) (hi : i < (chunkL s f).length) (h2 : f + i < s.size) : (chunkL s f)[i] = s[f + i] := by
  have hl := chunk_len s f
  have e : (chunkL s f)[i]? = some s[f + i] := by
    unfold chunkL
    have h3 : f + i < s.data.size := h2
    rw [List.getElem?_take, if_pos (by omega), List.getElem?_drop, Array.getElem?_toList, Array.getElem?_eq_getElem h3]
    rfl
  exact Option.some.inj ((List.getElem?_eq_getElem hi).symm.trans e)
def restB (s : ByteArray) (f : Nat) : ByteArray := s.extract f s.size
theorem restB_size (s : ByteArray) (f : Nat) : (restB s f).size = s.size - f := by unfold restB; rw [ByteArray.size_extract]; omega
theorem restB_zero (s : ByteArray) : restB s 0 = s := ByteArray.extract_zero_size
theorem restB_next (s : ByteArray) (f : Nat) : (restB s f).extract (min (restB s f).size 256) (restB s f).size = restB s (f + 256) := by
  rw [restB_size]
  unfold restB
  rw [ByteArray.extract_extract]
  by_cases h : f + 256 ≤ s.size
  · rw [show min (s.size - f) 256 = 256 by omega, show min (f + (s.size - f)) s.size = s.size by omega]
  · rw [ByteArray.extract_eq_empty_iff.2 (by omega), ByteArray.extract_eq_empty_iff.2 (by omega)]
theorem restB_chunk (s : ByteArray) (f : Nat) : ((restB s f).extract 0 (min (restB s f).size 256)).data.toList = chunkL s f := by
  rw [restB_size]
  unfold restB chunkL
  rw [ByteArray.extract_extract, ByteArray.data_extract, Array.toList_extract, List.extract_eq_take_drop]
  have hs : s.data.toList.length = s.size := by simp
  apply List.ext_getElem?
  intro k
  rw [List.getElem?_take, List.getElem?_take, Nat.add_zero]
  by_cases h : k < min (f + min (s.size - f) 256) s.size - f
  · rw [if_pos h, if_pos (by omega)]
  · rw [if_neg h]
    by_cases h2 : k < 256
    · rw [if_pos h2, List.getElem?_drop, List.getElem?_eq_none (by omega)]
    · rw [if_neg h2]
def zerB (n : Nat) : ByteArray := ⟨(List.replicate n (0 : UInt8)).toArray⟩
theorem zerB_size (n : Nat) : (zerB n).size = n := by
  show (List.replicate n (0 : UInt8)).toArray.size = n
  simp
/-- Data and the noughts behind it: a page of it. -/
theorem chunk_app (d : ByteArray) (n f : Nat) : ∃ m, chunkL (d ++ zerB n) f = chunkL d f ++ List.replicate m 0 ∧ (chunkL d f).length + m ≤ 256 := by
  unfold chunkL
  have e : (d ++ zerB n).data.toList = d.data.toList ++ List.replicate n 0 := by
    rw [ByteArray.data_append]; simp [zerB]
  rw [e, List.drop_append, List.take_append, List.drop_replicate, List.take_replicate]
  refine ⟨_, rfl, ?_⟩
  rw [List.length_take]
  omega
/-- A page laid by the document's bytes. -/
theorem page_laid {fi : Nat} {z : Sp} {own : Who} (h : WF fi z own) {r p j P b : Nat} (hr : own r = some (3, p, j)) (hP : P < 32768) (hb : b % 2 = 1) (hb2 : b < 32) (hbr : b / 2 % 2 = 1) (hbu : b / 16 % 2 = 1) (hno : pth z r 3 P = none) (hleft : mapMiss z r P < leftX fi z) :
    ∃ (n : Nat), n < 256 ∧ (mapX fi z r P b).s.length ≤ 65536 ∧ (∀ l : List UInt8, l.length ≤ 256 → n * 256 + l.length ≤ (mapX fi z r P b).s.length ∧ ∀ o, o < 256 →
        walkR (mapX fi z r P b).L.length (putL (mapX fi z r P b).s (n * 256) l) r ((P * 256 + o : Nat) : Int) 1 = 0 ∧ walkV (mapX fi z r P b).L.length (putL (mapX fi z r P b).s (n * 256) l) r ((P * 256 + o : Nat) : Int) 1 = ((n * 256 + o : Nat) : Int)) ∧
      (∀ (y : ByteArray) (m : Nat), y.size + m ≤ 256 → layZ fi r b P y z = ⟨(mapX fi z r P b).L, putL (mapX fi z r P b).s (n * 256) (y.data.toList ++ List.replicate m 0)⟩) := by
  obtain ⟨t0, n, q1, q2, q3, q4⟩ := map_zero h hr hP hb hb2 hno hleft
  obtain ⟨_, own', g, _, _, t0', gn, r1, r2, r3, r4⟩ := map_ok h hr hP hb hb2 hno hleft
  have ht : t0 = t0' := Option.some.inj (q1.symm.trans r1)
  subst ht
  have hng : n = gn := by
    have e := q2.symm.trans r2
    have e2 : n * 1024 + b = gn * 1024 + b := Int.ofNat_inj.1 e
    omega
  subst hng
  have hr' := g.old _ _ hr
  unfold layZ layAt
  generalize mapX fi z r P b = z1 at *
  have hw := g.wf
  have hlen := hw.sz.len
  have hhi := hw.sz.hi
  have hn256 : n < 256 := Nat.lt_of_lt_of_le q3 hhi
  have hin : ∀ l : List UInt8, l.length ≤ 256 → n * 256 + l.length ≤ z1.s.length := fun l hl => by rw [hlen]; omega
  have hst : ∀ l : List UInt8, l.length ≤ 256 → StP z1 ⟨z1.L, putL z1.s (n * 256) l⟩ own' := fun l hl => by
    obtain ⟨w1, w2, w3⟩ := write_step hw (StP.refl hw) r4 q3 0 ⟨l.toArray⟩ (by show 0 + l.toArray.size ≤ 256; simp; exact hl)
    have e : (⟨l.toArray⟩ : ByteArray).data.toList = l := by simp
    rw [w1, e, Nat.add_zero] at w3
    exact w3
  refine ⟨n, hn256, by rw [hlen]; omega, fun l hl => ⟨hin l hl, fun o ho => ?_⟩, fun y m hy => ?_⟩
  · exact page_walk hw (hst l hl) hr' hP hb hb2 hbr hbu q1 r2 q3 o ho
  · have hv := (page_walk hw (StP.refl hw) hr' hP hb hb2 hbr hbu q1 r2 q3 0 (by decide)).2
    have e0 : ((P * 256 + 0 : Nat) : Int) = (P : Int) * 256 := by omega
    rw [e0, Nat.add_zero] at hv
    rw [hv]
    have hyl : y.data.toList.length = y.size := by simp
    have hp : putS z1.s ((n * 256 : Nat) : Int) y = putL z1.s (n * 256) y.data.toList := by
      unfold putS
      rw [if_pos (inB_t (by have := hin y.data.toList (by omega); omega)), Int.toNat_natCast]
    rw [hp, putL_zeros _ _ _ _ (by have := hin (List.replicate 256 0) (by simp); rw [List.length_replicate] at this; omega) (fun i hi => by rw [Nat.add_assoc]; exact q4 _ (by omega))]
end Go.Proofs.YtdlglnoffpnonaaGreat.P
