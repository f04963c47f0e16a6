/- Stage 11: the document's calls, whatever comes; a space that there is. No condition. -/
import Derived.Test.YtbcnibnkojnpiaaGreatV9
import Derived.Test.YtbcnibnkojnpiaaGreatV5
set_option linter.unusedVariables false
set_option linter.unusedSimpArgs false
set_option maxRecDepth 100000
namespace Go.Proofs.YtbcnibnkojnpiaaGreat.P
open Go.RowKit Go.MuLone Go.Maps Go.Proofs.YtbcnibnkojnpiaaGreat.W
variable {w0 w : World} {rp rb fi : Nat} {z : Sp} {R : Asn} {own : Who}
set_option maxHeartbeats 1600000 in
theorem o_rcopy_no (h : Own w0 w (Star (rpA rp rb fi z.L z.s) R)) (hR : Stable R) (hw : WF fi z own) {r p j : Nat} (hr : own r = some (3, p, j)) (hge : ¬ ((ilR z r).length : Int) ≤ leftX fi z) :
    Calls Tryz.prog 30 #[.pointer (some ⟨rp, 0, none⟩), .int .i64 (r : Int)] w fun e w' => e = .returned (.tuple #[.int .i64 0, .int .i64 4]) ∧ Own w0 w' (Star (rpA rp rb fi z.L z.s) R) := by
  have HR := Lib.hid hR
  have PG := Lib.hid (o_rpages h hR hw hr)
  have hcnt := ilR_count z r
  obtain ⟨LF, hLF⟩ : ∃ x, leftX fi z = x := ⟨_, rfl⟩
  rw [hLF] at hge
  have hlen := rqA_len z r 32
  have htl := tbA_len z r 32
  obtain ⟨l, hl⟩ : ∃ l, rqA z r 32 = l := ⟨_, rfl⟩
  obtain ⟨tb, htb⟩ : ∃ l, tbA z r 32 = l := ⟨_, rfl⟩
  rw [hl] at PG hlen hcnt
  rw [htb] at PG htl hcnt
  have LFT : RowKit.Hid (∀ w1 Q, Own w0 w1 (Star (rpA rp rb fi z.L z.s) Q) → Calls Tryz.prog 10 #[.pointer (some ⟨rp, 0, none⟩)] w1 fun e w' => e = .returned (.int .i64 LF) ∧ w' = w1) := Lib.hid (fun w1 Q h => o_qleft h _ hLF)
  obtain ⟨LL, hLL⟩ : ∃ n, l.length = n := ⟨_, rfl⟩
  obtain ⟨TT, hTT⟩ : ∃ n, tb.length = n := ⟨_, rfl⟩
  rw [hLL] at hlen hcnt PG
  rw [hTT] at htl hcnt PG
  have k1 : IntKind.i64.wrap (1 + (LL : Int)) = 1 + (LL : Int) := wrapI _ (by omega) (by omega)
  have k2 : IntKind.i64.wrap (1 + (LL : Int) + (TT : Int)) = 1 + (LL : Int) + (TT : Int) := wrapI _ (by omega) (by omega)
  have k3 : LF < 1 + (LL : Int) + (TT : Int) := by omega
  clear h hR hw hr hcnt hge hLF htl hl htb hLL hTT
  go_enter Tryz.func30, Tryz.ntmps30
  go_upto_region 2 with (go_at_call 12; refine PG.out.mono ?_; rintro e w1 ⟨o6, c6, o7, c7, rfl, h1⟩; have H1 := Lib.hid h1; clear h1)
  clear PG
  go_wp2_with (go_at_call 10; refine (LFT.out _ _ H1.out).mono ?_; rintro e wk ⟨rfl, hwk⟩; rw [hwk]; clear hwk wk)
  go_ret2
  exact ⟨rfl, Own.drop2 (Own.drop2 H1.out)⟩
theorem copy_vals (hw : WF fi z own) {r p j : Nat} (hr : own r = some (3, p, j)) : (((ilR z r).length : Int) ≤ leftX fi z → copyE fi z r = 0 ∧ copyN fi z r = takeN z.L fi ∧ copyW fi z r = copyZ fi (takeX fi z) r (takeN z.L fi)) ∧ (¬ ((ilR z r).length : Int) ≤ leftX fi z → copyE fi z r = 4 ∧ copyN fi z r = 0 ∧ copyW fi z r = z) := by
  have hc := count_is hw hr
  constructor
  · intro h
    have e : copyE fi z r = 0 := by
      unfold copyE; rw [hw.tkn hr, cond_true, hc, decide_eq_false (by omega), cond_false]
    unfold copyN copyW; rw [e, decide_eq_true rfl, cond_true, cond_true]; exact ⟨rfl, rfl, rfl⟩
  · intro h
    have e : copyE fi z r = 4 := by
      unfold copyE; rw [hw.tkn hr, cond_true, hc, decide_eq_true (by omega), cond_true]
    unfold copyN copyW; rw [e, decide_eq_false (by decide), cond_false, cond_false]; exact ⟨rfl, rfl, rfl⟩
theorem o_rcopy (h : Own w0 w (Star (rpA rp rb fi z.L z.s) R)) (hR : Stable R) (hw : WF fi z own) {r p j : Nat} (hr : own r = some (3, p, j)) :
    Calls Tryz.prog 30 #[.pointer (some ⟨rp, 0, none⟩), .int .i64 (r : Int)] w fun e w' => e = .returned (.tuple #[.int .i64 (copyN fi z r), .int .i64 (copyE fi z r)]) ∧ Own w0 w' (Star (rpA rp rb fi (copyW fi z r).L (copyW fi z r).s) R) := by
  obtain ⟨v1, v2⟩ := copy_vals hw hr
  by_cases hge : ((ilR z r).length : Int) ≤ leftX fi z
  · obtain ⟨e1, e2, e3⟩ := v1 hge
    rw [e1, e2, e3]
    exact o_rcopy_yes h hR hw hr hge _ rfl _ rfl
  · obtain ⟨e1, e2, e3⟩ := v2 hge
    rw [e1, e2, e3]
    exact o_rcopy_no h hR hw hr hge
/-- A root that there is, or none. -/
def RootOk (own : Who) (r : Int) : Prop := (∃ n p j : Nat, r = (n : Int) ∧ own n = some (3, p, j)) ∨ r < 0
theorem root_neg (L : List Bool) (r : Int) (h : r < 0) : tknB L fi r = false := by
  unfold tknB; rw [decide_eq_false (show ¬ (fi : Int) ≤ r by omega)]; rfl
theorem moved_neg (r n : Int) (h : r < 0) : movedBad fi z r n = true := by
  unfold movedBad; rw [root_neg z.L r h]; rfl
theorem o_rin (h : Own w0 w (Star (rpA rp rb fi z.L z.s) R)) (hR : Stable R) (hw : WF fi z own) (r a n : Int) (hr : RootOk own r) (ha : u64 a) :
    Calls Tryz.prog 72 #[.pointer (some ⟨rp, 0, none⟩), .int .i64 r, .int .u64 a, .int .i64 n] w fun e w' => e = .returned (.tuple #[.string (inV fi z r a n), .int .i64 (inE fi z r a n)]) ∧ Own w0 w' (Star (rpA rp rb fi z.L z.s) R) := by
  cases hb : movedBad fi z r n with
  | true =>
    have e1 : inE fi z r a n = 1 := by unfold inE; rw [hb, cond_true]
    have e2 : inV fi z r a n = ⟨#[]⟩ := by unfold inV; rw [e1, decide_eq_false (by decide), cond_false]
    rw [e1, e2]
    refine (o_rin_bad h r a n hb).mono ?_
    rintro e w' ⟨rfl, rfl⟩
    exact ⟨rfl, h⟩
  | false =>
    rcases hr with ⟨m, p, j, rfl, ho⟩ | hr
    · have hn : 0 ≤ n ∧ n ≤ 4096 := by
        unfold movedBad at hb
        simp only [Bool.or_eq_false_iff, decide_eq_false_iff_not] at hb
        omega
      obtain ⟨N, rfl⟩ : ∃ N : Nat, n = (N : Int) := ⟨n.toNat, by omega⟩
      obtain ⟨e1, e2, e3⟩ := in_same hw ho a N (by omega)
      obtain ⟨l, hl⟩ : ∃ l, (rinF z m a N 0 []).1 = l := ⟨_, rfl⟩
      obtain ⟨E, hE⟩ : ∃ l, (rinF z m a N 0 []).2 = l := ⟨_, rfl⟩
      have hx : rinF z m a N 0 [] = (l, E) := by rw [← hl, ← hE]
      have hgo := o_rin_go h hR hw ho a N ha (by omega) l E hx
      have hz : ∀ (k i : Nat) (y : List UInt8), (rinF z m a k i y).2 ≠ 0 → (rinF z m a k i y).1 = [] := by
        intro k
        induction k with
        | zero => intro i y hh; exact absurd rfl hh
        | succ k ih =>
          intro i y hh
          rw [rinF] at hh ⊢
          cases q : okAt z m a 1 (i : Int) with
          | true => rw [q, cond_true] at hh; rw [cond_true]; exact ih _ _ hh
          | false => rw [cond_false]
      rw [e1, hE]
      by_cases h0 : E = 0
      · rw [e2 (hE.trans h0), hl]; exact hgo
      · have hl2 : l = [] := hl.symm.trans (hz _ _ _ (by rw [hE]; exact h0))
        rw [e3 (by rw [hE]; exact h0)]
        rw [hl2] at hgo
        exact hgo
    · rw [moved_neg r n hr] at hb; cases hb
theorem o_rout (h : Own w0 w (Star (rpA rp rb fi z.L z.s) R)) (hR : Stable R) (hw : WF fi z own) (r a : Int) (s : ByteArray) (hr : RootOk own r) (ha : u64 a) (hs : s.size ≤ maxLen) :
    Calls Tryz.prog 73 #[.pointer (some ⟨rp, 0, none⟩), .int .i64 r, .int .u64 a, .string s] w fun e w' => e = .returned (.int .i64 (outErr fi z r a s)) ∧ Own w0 w' (Star (rpA rp rb fi (outSt fi z r a s).L (outSt fi z r a s).s) R) := by
  cases hb : movedBad fi z r s.size with
  | true =>
    have e1 : outErr fi z r a s = 1 := by unfold outErr; rw [hb, cond_true]
    have e2 : outSt fi z r a s = z := by unfold outSt; rw [hb, cond_true]
    rw [e1, e2]
    refine (o_rout_bad h r a s hs hb).mono ?_
    rintro e w' ⟨rfl, rfl⟩
    exact ⟨rfl, h⟩
  | false =>
    rcases hr with ⟨m, p, j, rfl, ho⟩ | hr
    · have hn : s.size ≤ 4096 := by
        unfold movedBad at hb
        simp only [Bool.or_eq_false_iff, decide_eq_false_iff_not] at hb
        omega
      obtain ⟨e1, e2, e3⟩ := out_same hw ho a s hn
      rw [e1]
      exact o_rout_go h hR hw ho a s ha hn _ rfl _ (fun h0 => (e2 h0).1.symm) (fun h0 => e3 h0)
    · rw [moved_neg r _ hr] at hb; cases hb
theorem o_rtext (h : Own w0 w (Star (rpA rp rb fi z.L z.s) R)) (hR : Stable R) (hw : WF fi z own) (r a n : Int) (hr : RootOk own r) (ha : u64 a) :
    Calls Tryz.prog 74 #[.pointer (some ⟨rp, 0, none⟩), .int .i64 r, .int .u64 a, .int .i64 n] w fun e w' => e = .returned (.tuple #[.string (textV fi z r a n), .int .i64 (textE fi z r a n)]) ∧ Own w0 w' (Star (rpA rp rb fi z.L z.s) R) := by
  cases hb : movedBad fi z r n with
  | true =>
    have e1 : textE fi z r a n = 1 := by unfold textE; rw [hb, cond_true]
    have e2 : textV fi z r a n = ⟨#[]⟩ := by unfold textV; rw [hb, cond_true]
    rw [e1, e2]
    refine (o_rtext_bad h r a n hb).mono ?_
    rintro e w' ⟨rfl, rfl⟩
    exact ⟨rfl, h⟩
  | false =>
    rcases hr with ⟨m, p, j, rfl, ho⟩ | hr
    · have hn : 0 ≤ n ∧ n ≤ 4096 := by
        unfold movedBad at hb
        simp only [Bool.or_eq_false_iff, decide_eq_false_iff_not] at hb
        omega
      obtain ⟨N, rfl⟩ : ∃ N : Nat, n = (N : Int) := ⟨n.toNat, by omega⟩
      have e1 : textE fi z m a N = (textX z m a (N + 1) 0 []).2 := by unfold textE; rw [hb, cond_false, Int.toNat_natCast]
      have e2 : textV fi z m a N = (textX z m a (N + 1) 0 []).1 := by unfold textV; rw [hb, cond_false, Int.toNat_natCast]
      rw [e1, e2]
      exact o_rtext_go h hR hw ho a N ha (by omega) _ _ rfl
    · rw [moved_neg r n hr] at hb; cases hb
theorem o_rmapC (h : Own w0 w (Star (rpA rp rb fi z.L z.s) R)) (hR : Stable R) (hw : WF fi z own) (r pg bt : Int) (hr : RootOk own r) (hpg : i64 pg) (hbt : u64 bt) :
    Calls Tryz.prog 68 #[.pointer (some ⟨rp, 0, none⟩), .int .i64 r, .int .i64 pg, .int .u64 bt] w fun e w' => e = .returned (.int .i64 (mapE fi z r pg bt)) ∧ Own w0 w' (Star (rpA rp rb fi (mapX fi z r pg bt).L (mapX fi z r pg bt).s) R) := by
  cases hb : mapBad fi z r pg bt with
  | true =>
    have e1 : mapE fi z r pg bt = 1 := by unfold mapE; rw [hb, cond_true]
    have e2 : mapX fi z r pg bt = z := by unfold mapX; rw [hb, cond_true]
    rw [e1, e2]
    refine (o_rmap_bad h r pg bt hpg hbt hb).mono ?_
    rintro e w' ⟨rfl, rfl⟩
    exact ⟨rfl, h⟩
  | false =>
    have hb2 := hb
    unfold mapBad at hb2
    simp only [Bool.or_eq_false_iff, decide_eq_false_iff_not] at hb2
    rcases hr with ⟨m, p, j, rfl, ho⟩ | hr
    · have hb0 := hbt.1
      obtain ⟨P, rfl⟩ : ∃ P : Nat, pg = P := ⟨pg.toNat, by omega⟩
      obtain ⟨b, rfl⟩ : ∃ b : Nat, bt = b := ⟨bt.toNat, by omega⟩
      exact o_rmap h hR hw ho (by omega) (by omega) (by omega) _ _ rfl rfl
    · rw [root_neg z.L r hr] at hb2; exact absurd hb2.1 (by decide)
end Go.Proofs.YtbcnibnkojnpiaaGreat.P
namespace Go.Proofs.YtbcnibnkojnpiaaGreat.P
open Go.RowKit Go.MuLone Go.Maps Go.Proofs.YtbcnibnkojnpiaaGreat.W
structure SAct where
  kind : Int
  which : Int
  page : Int
  n : Int
  bits : Int
  at_ : Int
  s : ByteArray
def SAct.ok (a : SAct) : Prop := i64 a.kind ∧ i64 a.which ∧ i64 a.page ∧ i64 a.n ∧ u64 a.bits ∧ u64 a.at_ ∧ a.s.size ≤ maxLen
def doS (z : Sp) (r : Int) (a : SAct) : Sp := if a.kind = 2 then mapX 0 z r a.page a.bits else if a.kind = 6 then outSt 0 z r a.at_ a.s else z
theorem act_info : (Tryz.prog.info? 74).map (·.size) = some 7 := by kernel_rfl
theorem doS_wf {z : Sp} {own : Who} (hw : WF 0 z own) (r : Int) (hr : RootOk own r) (a : SAct) (ha : a.ok) : ∃ own', WF 0 (doS z r a) own' ∧ (∀ f v, own f = some v → own' f = some v) ∧ (doS z r a).L.length = z.L.length := by
  unfold doS
  by_cases h2 : a.kind = 2
  · rw [if_pos h2]
    rcases hr with ⟨m, p, j, rfl, ho⟩ | hr
    · rcases map_inv hw ho a.page a.bits ha.2.2.2.2.1.1 with e | ⟨P, b, hP, hb1, hb2, e1, e2, hno, hlt⟩
      · rw [e]; exact ⟨own, hw, fun _ _ h => h, rfl⟩
      · rw [e1, e2]
        obtain ⟨_, own', g, _⟩ := map_ok hw ho hP hb1 hb2 hno hlt
        exact ⟨own', g.wf, g.old, g.len⟩
    · have e : mapX 0 z r a.page a.bits = z := by
        unfold mapX mapBad; rw [root_neg z.L r hr]; rfl
      rw [e]; exact ⟨own, hw, fun _ _ h => h, rfl⟩
  · rw [if_neg h2]
    by_cases h6 : a.kind = 6
    · rw [if_pos h6]
      cases hb : movedBad 0 z r a.s.size with
      | true =>
        have e : outSt 0 z r a.at_ a.s = z := by unfold outSt; rw [hb, cond_true]
        rw [e]; exact ⟨own, hw, fun _ _ h => h, rfl⟩
      | false =>
        rcases hr with ⟨m, p, j, rfl, ho⟩ | hr
        · have hn : a.s.size ≤ 4096 := by
            unfold movedBad at hb
            simp only [Bool.or_eq_false_iff, decide_eq_false_iff_not] at hb
            omega
          obtain ⟨_, e2, e3⟩ := out_same hw ho a.at_ a.s hn
          by_cases h0 : rckF z m a.at_ a.s.size 0 = 0
          · have s := (e2 h0).2
            exact ⟨own, s.wf hw, fun _ _ h => h, by rw [s.L]⟩
          · rw [e3 h0]; exact ⟨own, hw, fun _ _ h => h, rfl⟩
        · rw [moved_neg r _ hr] at hb; cases hb
    · rw [if_neg h6]; exact ⟨own, hw, fun _ _ h => h, rfl⟩
set_option maxHeartbeats 1600000 in
theorem does_2 {w0 w : World} {pb b rp rb : Nat} {z : Sp} {own : Who} {R : Asn} (h : Own w0 w (Star (plA pb b 0 z.L z.s) (Star (rpA rp rb 0 z.L z.s) R))) (hR : Stable R) (hw : WF 0 z own) (r : Int) (hr : RootOk own r) (hri : i64 r) (wh pgn nn bts ata : Int) (ss : ByteArray) (h3 : i64 pgn) (h4 : i64 nn) (h5 : u64 bts) (h6 : u64 ata) (h7 : ss.size ≤ maxLen) :
    Calls Tryz.prog 31 #[.pointer (some ⟨pb, 0, none⟩), .pointer (some ⟨rp, 0, none⟩), .int .i64 r, .agg #[.int .i64 2, .int .i64 wh, .int .i64 pgn, .int .i64 nn, .int .u64 bts, .int .u64 ata, .string ss]] w fun e w' => e = .returned (.bool true) ∧ Own w0 w' (Star (plA pb b 0 (mapX 0 z r pgn bts).L (mapX 0 z r pgn bts).s) (Star (rpA rp rb 0 (mapX 0 z r pgn bts).L (mapX 0 z r pgn bts).s) R)) := by
  obtain ⟨zN, hzN⟩ : ∃ y, mapX 0 z r pgn bts = y := ⟨_, rfl⟩
  have SRP := Lib.hid (fun (x : Sp) => stable_rp rp rb 0 x.L x.s)
  have SPL := Lib.hid (fun (x : Sp) => stable_pl pb b 0 x.L x.s)
  have HR := Lib.hid hR
  rw [hzN]
  obtain ⟨E, hE⟩ : ∃ y, mapE 0 z r pgn bts = y := ⟨_, rfl⟩
  have K0 := Lib.hid ((h.alloc (stable_star (SPL.out z) (stable_star (SRP.out z) HR.out)) (.cells #[.int .i64 2, .int .i64 wh, .int .i64 pgn, .int .i64 nn, .int .u64 bts, .int .u64 ata, .string ss] 74)).rot3'.mono (fun F h => star_mono_r (fun F h => star_mono_r (fun F h => h) h) h))
  have C1 : RowKit.Hid (∀ w1 Q, Stable Q → Own w0 w1 (Star (plA pb b 0 z.L z.s) Q) → Calls Tryz.prog 21 #[.pointer (some ⟨pb, 0, none⟩), .int .i64 r, .int .i64 pgn, .int .u64 bts] w1 fun e w' => e = .returned (.int .i64 E) ∧ Own w0 w' (Star (plA pb b 0 zN.L zN.s) Q)) := Lib.hid (fun w1 Q hQ h => o_map h hQ r pgn bts hri h3 h5 E zN hE hzN)
  have C2 : RowKit.Hid (∀ w1 Q, Stable Q → Own w0 w1 (Star (rpA rp rb 0 z.L z.s) Q) → Calls Tryz.prog 68 #[.pointer (some ⟨rp, 0, none⟩), .int .i64 r, .int .i64 pgn, .int .u64 bts] w1 fun e w' => e = .returned (.int .i64 E) ∧ Own w0 w' (Star (rpA rp rb 0 zN.L zN.s) Q)) := Lib.hid (fun w1 Q hQ h => by have := o_rmapC h hQ hw r pgn bts hr h3 h5; rw [hE, hzN] at this; exact this)
  clear hE
  clear h hR hw hr hri h3 h4 h5 h6 h7 hzN
  go_enter Tryz.func31, Tryz.ntmps31
  go_upto_region 1 with fail
  obtain ⟨wa, hwa⟩ : ∃ wa, w.alloc (.cells #[.int .i64 2, .int .i64 wh, .int .i64 pgn, .int .i64 nn, .int .u64 bts, .int .u64 ata, .string ss] 74) = wa := ⟨_, rfl⟩
  rw [hwa] at K0
  rw [hwa]
  clear hwa
  obtain ⟨xb, hxb⟩ : ∃ n, w.heap.size = n := ⟨_, rfl⟩
  rw [hxb] at K0
  rw [hxb]
  clear hxb
  have SX := Lib.hid (stable_star (stable_blk xb (.cells #[.int .i64 2, .int .i64 wh, .int .i64 pgn, .int .i64 nn, .int .u64 bts, .int .u64 ata, .string ss] 74)) HR.out)
  have BX := Lib.hid K0.out.right.right.blk
  have c0 := blk_cell BX.out 0 rfl
  have c2 := blk_cell BX.out 2 rfl
  have c3 := blk_cell BX.out 3 rfl
  have c4 := blk_cell BX.out 4 rfl
  have c5 := blk_cell BX.out 5 rfl
  have c6 := blk_cell BX.out 6 rfl
  go_upto_region 4 with (go_at_call 21; refine (C1.out _ _ (stable_star (SRP.out z) SX.out) K0.out).mono ?_; rintro e w2 ⟨rfl, h2⟩; have H2 := Lib.hid h2.swap2; clear h2)
  clear K0 C1 c0 c2 c3 c4 c5 c6 BX
  have BX := Lib.hid H2.out.right.right.blk
  have c0 := blk_cell BX.out 0 rfl
  have c2 := blk_cell BX.out 2 rfl
  have c3 := blk_cell BX.out 3 rfl
  have c4 := blk_cell BX.out 4 rfl
  have c5 := blk_cell BX.out 5 rfl
  have c6 := blk_cell BX.out 6 rfl
  go_wp2_with (go_at_call 68; refine (C2.out _ _ (stable_star (SPL.out zN) SX.out) H2.out).mono ?_; rintro e w3 ⟨rfl, h3⟩; have H3 := Lib.hid h3.swap2; clear h3)
  go_ret
  exact ⟨rfl, (H3.out.rot3).right⟩
set_option maxHeartbeats 1600000 in
theorem does_5 {w0 w : World} {pb b rp rb : Nat} {z : Sp} {own : Who} {R : Asn} (h : Own w0 w (Star (plA pb b 0 z.L z.s) (Star (rpA rp rb 0 z.L z.s) R))) (hR : Stable R) (hw : WF 0 z own) (r : Int) (hr : RootOk own r) (hri : i64 r) (wh pgn nn bts ata : Int) (ss : ByteArray) (h3 : i64 pgn) (h4 : i64 nn) (h5 : u64 bts) (h6 : u64 ata) (h7 : ss.size ≤ maxLen) :
    Calls Tryz.prog 31 #[.pointer (some ⟨pb, 0, none⟩), .pointer (some ⟨rp, 0, none⟩), .int .i64 r, .agg #[.int .i64 5, .int .i64 wh, .int .i64 pgn, .int .i64 nn, .int .u64 bts, .int .u64 ata, .string ss]] w fun e w' => e = .returned (.bool true) ∧ Own w0 w' (Star (plA pb b 0 (z).L (z).s) (Star (rpA rp rb 0 (z).L (z).s) R)) := by
  obtain ⟨zN, hzN⟩ : ∃ y, z = y := ⟨_, rfl⟩
  have SRP := Lib.hid (fun (x : Sp) => stable_rp rp rb 0 x.L x.s)
  have SPL := Lib.hid (fun (x : Sp) => stable_pl pb b 0 x.L x.s)
  have HR := Lib.hid hR
  rw [hzN]
  obtain ⟨E, hE⟩ : ∃ y, inE 0 z r ata nn = y := ⟨_, rfl⟩
  obtain ⟨V, hV⟩ : ∃ y, inV 0 z r ata nn = y := ⟨_, rfl⟩
  have bV : (V.toList == V.toList) = true := beq_self_eq_true _
  have K0 := Lib.hid ((h.alloc (stable_star (SPL.out z) (stable_star (SRP.out z) HR.out)) (.cells #[.int .i64 5, .int .i64 wh, .int .i64 pgn, .int .i64 nn, .int .u64 bts, .int .u64 ata, .string ss] 74)).rot3'.mono (fun F h => star_mono_r (fun F h => star_mono_r (fun F h => h) h) h))
  have C1 : RowKit.Hid (∀ w1 Q, Stable Q → Own w0 w1 (Star (plA pb b 0 z.L z.s) Q) → Calls Tryz.prog 17 #[.pointer (some ⟨pb, 0, none⟩), .int .i64 r, .int .u64 ata, .int .i64 nn] w1 fun e w' => e = .returned (.tuple #[.string V, .int .i64 E]) ∧ Own w0 w' (Star (plA pb b 0 zN.L zN.s) Q)) := Lib.hid (fun w1 Q hQ h => by rw [← hzN]; exact o_in h hQ r ata nn hri h6 V E hV hE)
  have C2 : RowKit.Hid (∀ w1 Q, Stable Q → Own w0 w1 (Star (rpA rp rb 0 z.L z.s) Q) → Calls Tryz.prog 72 #[.pointer (some ⟨rp, 0, none⟩), .int .i64 r, .int .u64 ata, .int .i64 nn] w1 fun e w' => e = .returned (.tuple #[.string V, .int .i64 E]) ∧ Own w0 w' (Star (rpA rp rb 0 zN.L zN.s) Q)) := Lib.hid (fun w1 Q hQ h => by have := o_rin h hQ hw r ata nn hr h6; rw [hE, hV] at this; rw [← hzN]; exact this)
  clear hE hV
  clear h hR hw hr hri h3 h4 h5 h6 h7 hzN
  go_enter Tryz.func31, Tryz.ntmps31
  go_upto_region 1 with fail
  obtain ⟨wa, hwa⟩ : ∃ wa, w.alloc (.cells #[.int .i64 5, .int .i64 wh, .int .i64 pgn, .int .i64 nn, .int .u64 bts, .int .u64 ata, .string ss] 74) = wa := ⟨_, rfl⟩
  rw [hwa] at K0
  rw [hwa]
  clear hwa
  obtain ⟨xb, hxb⟩ : ∃ n, w.heap.size = n := ⟨_, rfl⟩
  rw [hxb] at K0
  rw [hxb]
  clear hxb
  have SX := Lib.hid (stable_star (stable_blk xb (.cells #[.int .i64 5, .int .i64 wh, .int .i64 pgn, .int .i64 nn, .int .u64 bts, .int .u64 ata, .string ss] 74)) HR.out)
  have BX := Lib.hid K0.out.right.right.blk
  have c0 := blk_cell BX.out 0 rfl
  have c2 := blk_cell BX.out 2 rfl
  have c3 := blk_cell BX.out 3 rfl
  have c4 := blk_cell BX.out 4 rfl
  have c5 := blk_cell BX.out 5 rfl
  have c6 := blk_cell BX.out 6 rfl
  go_upto_region 8 with (go_at_call 17; refine (C1.out _ _ (stable_star (SRP.out z) SX.out) K0.out).mono ?_; rintro e w2 ⟨rfl, h2⟩; have H2 := Lib.hid h2.swap2; clear h2)
  clear K0 C1 c0 c2 c3 c4 c5 c6 BX
  have BX := Lib.hid H2.out.right.right.blk
  have c0 := blk_cell BX.out 0 rfl
  have c2 := blk_cell BX.out 2 rfl
  have c3 := blk_cell BX.out 3 rfl
  have c4 := blk_cell BX.out 4 rfl
  have c5 := blk_cell BX.out 5 rfl
  have c6 := blk_cell BX.out 6 rfl
  go_wp2_with (go_at_call 72; refine (C2.out _ _ (stable_star (SPL.out zN) SX.out) H2.out).mono ?_; rintro e w3 ⟨rfl, h3⟩; have H3 := Lib.hid h3.swap2; clear h3)
  go_ret
  exact ⟨rfl, (H3.out.rot3).right⟩
set_option maxHeartbeats 1600000 in
theorem does_6 {w0 w : World} {pb b rp rb : Nat} {z : Sp} {own : Who} {R : Asn} (h : Own w0 w (Star (plA pb b 0 z.L z.s) (Star (rpA rp rb 0 z.L z.s) R))) (hR : Stable R) (hw : WF 0 z own) (r : Int) (hr : RootOk own r) (hri : i64 r) (wh pgn nn bts ata : Int) (ss : ByteArray) (h3 : i64 pgn) (h4 : i64 nn) (h5 : u64 bts) (h6 : u64 ata) (h7 : ss.size ≤ maxLen) :
    Calls Tryz.prog 31 #[.pointer (some ⟨pb, 0, none⟩), .pointer (some ⟨rp, 0, none⟩), .int .i64 r, .agg #[.int .i64 6, .int .i64 wh, .int .i64 pgn, .int .i64 nn, .int .u64 bts, .int .u64 ata, .string ss]] w fun e w' => e = .returned (.bool true) ∧ Own w0 w' (Star (plA pb b 0 (outSt 0 z r ata ss).L (outSt 0 z r ata ss).s) (Star (rpA rp rb 0 (outSt 0 z r ata ss).L (outSt 0 z r ata ss).s) R)) := by
  obtain ⟨zN, hzN⟩ : ∃ y, outSt 0 z r ata ss = y := ⟨_, rfl⟩
  have SRP := Lib.hid (fun (x : Sp) => stable_rp rp rb 0 x.L x.s)
  have SPL := Lib.hid (fun (x : Sp) => stable_pl pb b 0 x.L x.s)
  have HR := Lib.hid hR
  rw [hzN]
  obtain ⟨E, hE⟩ : ∃ y, outErr 0 z r ata ss = y := ⟨_, rfl⟩
  have K0 := Lib.hid ((h.alloc (stable_star (SPL.out z) (stable_star (SRP.out z) HR.out)) (.cells #[.int .i64 6, .int .i64 wh, .int .i64 pgn, .int .i64 nn, .int .u64 bts, .int .u64 ata, .string ss] 74)).rot3'.mono (fun F h => star_mono_r (fun F h => star_mono_r (fun F h => h) h) h))
  have C1 : RowKit.Hid (∀ w1 Q, Stable Q → Own w0 w1 (Star (plA pb b 0 z.L z.s) Q) → Calls Tryz.prog 15 #[.pointer (some ⟨pb, 0, none⟩), .int .i64 r, .int .u64 ata, .string ss] w1 fun e w' => e = .returned (.int .i64 E) ∧ Own w0 w' (Star (plA pb b 0 zN.L zN.s) Q)) := Lib.hid (fun w1 Q hQ h => o_out h hQ r ata ss hri h6 (by unfold maxLen at h7; omega) E zN hE hzN)
  have C2 : RowKit.Hid (∀ w1 Q, Stable Q → Own w0 w1 (Star (rpA rp rb 0 z.L z.s) Q) → Calls Tryz.prog 73 #[.pointer (some ⟨rp, 0, none⟩), .int .i64 r, .int .u64 ata, .string ss] w1 fun e w' => e = .returned (.int .i64 E) ∧ Own w0 w' (Star (rpA rp rb 0 zN.L zN.s) Q)) := Lib.hid (fun w1 Q hQ h => by have := o_rout h hQ hw r ata ss hr h6 h7; rw [hE, hzN] at this; exact this)
  clear hE
  clear h hR hw hr hri h3 h4 h5 h6 h7 hzN
  go_enter Tryz.func31, Tryz.ntmps31
  go_upto_region 1 with fail
  obtain ⟨wa, hwa⟩ : ∃ wa, w.alloc (.cells #[.int .i64 6, .int .i64 wh, .int .i64 pgn, .int .i64 nn, .int .u64 bts, .int .u64 ata, .string ss] 74) = wa := ⟨_, rfl⟩
  rw [hwa] at K0
  rw [hwa]
  clear hwa
  obtain ⟨xb, hxb⟩ : ∃ n, w.heap.size = n := ⟨_, rfl⟩
  rw [hxb] at K0
  rw [hxb]
  clear hxb
  have SX := Lib.hid (stable_star (stable_blk xb (.cells #[.int .i64 6, .int .i64 wh, .int .i64 pgn, .int .i64 nn, .int .u64 bts, .int .u64 ata, .string ss] 74)) HR.out)
  have BX := Lib.hid K0.out.right.right.blk
  have c0 := blk_cell BX.out 0 rfl
  have c2 := blk_cell BX.out 2 rfl
  have c3 := blk_cell BX.out 3 rfl
  have c4 := blk_cell BX.out 4 rfl
  have c5 := blk_cell BX.out 5 rfl
  have c6 := blk_cell BX.out 6 rfl
  go_upto_region 12 with (go_at_call 15; refine (C1.out _ _ (stable_star (SRP.out z) SX.out) K0.out).mono ?_; rintro e w2 ⟨rfl, h2⟩; have H2 := Lib.hid h2.swap2; clear h2)
  clear K0 C1 c0 c2 c3 c4 c5 c6 BX
  have BX := Lib.hid H2.out.right.right.blk
  have c0 := blk_cell BX.out 0 rfl
  have c2 := blk_cell BX.out 2 rfl
  have c3 := blk_cell BX.out 3 rfl
  have c4 := blk_cell BX.out 4 rfl
  have c5 := blk_cell BX.out 5 rfl
  have c6 := blk_cell BX.out 6 rfl
  go_wp2_with (go_at_call 73; refine (C2.out _ _ (stable_star (SPL.out zN) SX.out) H2.out).mono ?_; rintro e w3 ⟨rfl, h3⟩; have H3 := Lib.hid h3.swap2; clear h3)
  go_ret
  exact ⟨rfl, (H3.out.rot3).right⟩
set_option maxHeartbeats 1600000 in
theorem does_7 {w0 w : World} {pb b rp rb : Nat} {z : Sp} {own : Who} {R : Asn} (h : Own w0 w (Star (plA pb b 0 z.L z.s) (Star (rpA rp rb 0 z.L z.s) R))) (hR : Stable R) (hw : WF 0 z own) (r : Int) (hr : RootOk own r) (hri : i64 r) (wh pgn nn bts ata : Int) (ss : ByteArray) (h3 : i64 pgn) (h4 : i64 nn) (h5 : u64 bts) (h6 : u64 ata) (h7 : ss.size ≤ maxLen) :
    Calls Tryz.prog 31 #[.pointer (some ⟨pb, 0, none⟩), .pointer (some ⟨rp, 0, none⟩), .int .i64 r, .agg #[.int .i64 7, .int .i64 wh, .int .i64 pgn, .int .i64 nn, .int .u64 bts, .int .u64 ata, .string ss]] w fun e w' => e = .returned (.bool true) ∧ Own w0 w' (Star (plA pb b 0 (z).L (z).s) (Star (rpA rp rb 0 (z).L (z).s) R)) := by
  obtain ⟨zN, hzN⟩ : ∃ y, z = y := ⟨_, rfl⟩
  have SRP := Lib.hid (fun (x : Sp) => stable_rp rp rb 0 x.L x.s)
  have SPL := Lib.hid (fun (x : Sp) => stable_pl pb b 0 x.L x.s)
  have HR := Lib.hid hR
  rw [hzN]
  obtain ⟨E, hE⟩ : ∃ y, textE 0 z r ata nn = y := ⟨_, rfl⟩
  obtain ⟨V, hV⟩ : ∃ y, textV 0 z r ata nn = y := ⟨_, rfl⟩
  have bV : (V.toList == V.toList) = true := beq_self_eq_true _
  have K0 := Lib.hid ((h.alloc (stable_star (SPL.out z) (stable_star (SRP.out z) HR.out)) (.cells #[.int .i64 7, .int .i64 wh, .int .i64 pgn, .int .i64 nn, .int .u64 bts, .int .u64 ata, .string ss] 74)).rot3'.mono (fun F h => star_mono_r (fun F h => star_mono_r (fun F h => h) h) h))
  have C1 : RowKit.Hid (∀ w1 Q, Stable Q → Own w0 w1 (Star (plA pb b 0 z.L z.s) Q) → Calls Tryz.prog 16 #[.pointer (some ⟨pb, 0, none⟩), .int .i64 r, .int .u64 ata, .int .i64 nn] w1 fun e w' => e = .returned (.tuple #[.string V, .int .i64 E]) ∧ Own w0 w' (Star (plA pb b 0 zN.L zN.s) Q)) := Lib.hid (fun w1 Q hQ h => by rw [← hzN]; exact o_text h hQ r ata nn hri h6 V E hV hE)
  have C2 : RowKit.Hid (∀ w1 Q, Stable Q → Own w0 w1 (Star (rpA rp rb 0 z.L z.s) Q) → Calls Tryz.prog 74 #[.pointer (some ⟨rp, 0, none⟩), .int .i64 r, .int .u64 ata, .int .i64 nn] w1 fun e w' => e = .returned (.tuple #[.string V, .int .i64 E]) ∧ Own w0 w' (Star (rpA rp rb 0 zN.L zN.s) Q)) := Lib.hid (fun w1 Q hQ h => by have := o_rtext h hQ hw r ata nn hr h6; rw [hE, hV] at this; rw [← hzN]; exact this)
  clear hE hV
  clear h hR hw hr hri h3 h4 h5 h6 h7 hzN
  go_enter Tryz.func31, Tryz.ntmps31
  go_upto_region 1 with fail
  obtain ⟨wa, hwa⟩ : ∃ wa, w.alloc (.cells #[.int .i64 7, .int .i64 wh, .int .i64 pgn, .int .i64 nn, .int .u64 bts, .int .u64 ata, .string ss] 74) = wa := ⟨_, rfl⟩
  rw [hwa] at K0
  rw [hwa]
  clear hwa
  obtain ⟨xb, hxb⟩ : ∃ n, w.heap.size = n := ⟨_, rfl⟩
  rw [hxb] at K0
  rw [hxb]
  clear hxb
  have SX := Lib.hid (stable_star (stable_blk xb (.cells #[.int .i64 7, .int .i64 wh, .int .i64 pgn, .int .i64 nn, .int .u64 bts, .int .u64 ata, .string ss] 74)) HR.out)
  have BX := Lib.hid K0.out.right.right.blk
  have c0 := blk_cell BX.out 0 rfl
  have c2 := blk_cell BX.out 2 rfl
  have c3 := blk_cell BX.out 3 rfl
  have c4 := blk_cell BX.out 4 rfl
  have c5 := blk_cell BX.out 5 rfl
  have c6 := blk_cell BX.out 6 rfl
  go_upto_region 16 with (go_at_call 16; refine (C1.out _ _ (stable_star (SRP.out z) SX.out) K0.out).mono ?_; rintro e w2 ⟨rfl, h2⟩; have H2 := Lib.hid h2.swap2; clear h2)
  clear K0 C1 c0 c2 c3 c4 c5 c6 BX
  have BX := Lib.hid H2.out.right.right.blk
  have c0 := blk_cell BX.out 0 rfl
  have c2 := blk_cell BX.out 2 rfl
  have c3 := blk_cell BX.out 3 rfl
  have c4 := blk_cell BX.out 4 rfl
  have c5 := blk_cell BX.out 5 rfl
  have c6 := blk_cell BX.out 6 rfl
  go_wp2_with (go_at_call 74; refine (C2.out _ _ (stable_star (SPL.out zN) SX.out) H2.out).mono ?_; rintro e w3 ⟨rfl, h3⟩; have H3 := Lib.hid h3.swap2; clear h3)
  go_ret
  exact ⟨rfl, (H3.out.rot3).right⟩
theorem does_other {w0 w : World} {R : Asn} (h : Own w0 w R) (hR : Stable R) (vp vr : Value) (r : Int) (kk wh pgn nn bts ata : Int) (ss : ByteArray) (d2 : ¬ kk = 2) (d5 : ¬ kk = 5) (d6 : ¬ kk = 6) (d7 : ¬ kk = 7) :
    Calls Tryz.prog 31 #[vp, vr, .int .i64 r, .agg #[.int .i64 kk, .int .i64 wh, .int .i64 pgn, .int .i64 nn, .int .u64 bts, .int .u64 ata, .string ss]] w fun e w' => e = .returned (.bool true) ∧ Own w0 w' R := by
  have K0 := Lib.hid (h.alloc hR (.cells #[.int .i64 kk, .int .i64 wh, .int .i64 pgn, .int .i64 nn, .int .u64 bts, .int .u64 ata, .string ss] 74)).right
  have c0 : (w.alloc (.cells #[.int .i64 kk, .int .i64 wh, .int .i64 pgn, .int .i64 nn, .int .u64 bts, .int .u64 ata, .string ss] 74)).cell? ⟨w.heap.size, 0, none⟩ = some (.int .i64 kk) := blk_cell (blk_new _ _) 0 rfl
  have e2 : (kk == 2) = false := by simpa using d2
  have e5 : (kk == 5) = false := by simpa using d5
  have e6 : (kk == 6) = false := by simpa using d6
  have e7 : (kk == 7) = false := by simpa using d7
  clear h hR
  go_enter Tryz.func31, Tryz.ntmps31
  go_wp2_with fail
  go_ret
  exact ⟨rfl, K0.out⟩
theorem c_does11 {w0 w : World} {pb b rp rb : Nat} {z : Sp} {own : Who} {R : Asn} (h : Own w0 w (Star (plA pb b 0 z.L z.s) (Star (rpA rp rb 0 z.L z.s) R))) (hR : Stable R) (hw : WF 0 z own) (r : Int) (hr : RootOk own r) (hri : i64 r) (a : SAct) (ha : a.ok) :
    Calls Tryz.prog 31 #[.pointer (some ⟨pb, 0, none⟩), .pointer (some ⟨rp, 0, none⟩), .int .i64 r, .agg #[.int .i64 a.kind, .int .i64 a.which, .int .i64 a.page, .int .i64 a.n, .int .u64 a.bits, .int .u64 a.at_, .string a.s]] w fun e w' => e = .returned (.bool true) ∧ Own w0 w' (Star (plA pb b 0 (doS z r a).L (doS z r a).s) (Star (rpA rp rb 0 (doS z r a).L (doS z r a).s) R)) := by
  obtain ⟨kk, wh, pgn, nn, bts, ata, ss⟩ := a
  obtain ⟨_, _, h3, h4, h5, h6, h7⟩ := ha
  show Calls Tryz.prog 31 #[.pointer (some ⟨pb, 0, none⟩), .pointer (some ⟨rp, 0, none⟩), .int .i64 r, .agg #[.int .i64 kk, .int .i64 wh, .int .i64 pgn, .int .i64 nn, .int .u64 bts, .int .u64 ata, .string ss]] w _
  by_cases d2 : kk = 2
  · subst d2
    exact does_2 h hR hw r hr hri wh pgn nn bts ata ss h3 h4 h5 h6 h7
  · by_cases d6 : kk = 6
    · subst d6
      exact does_6 h hR hw r hr hri wh pgn nn bts ata ss h3 h4 h5 h6 h7
    · have e : doS z r ⟨kk, wh, pgn, nn, bts, ata, ss⟩ = z := by
        unfold doS; rw [if_neg d2, if_neg d6]
      rw [e]
      by_cases d5 : kk = 5
      · subst d5
        exact does_5 h hR hw r hr hri wh pgn nn bts ata ss h3 h4 h5 h6 h7
      · by_cases d7 : kk = 7
        · subst d7
          exact does_7 h hR hw r hr hri wh pgn nn bts ata ss h3 h4 h5 h6 h7
        · exact does_other h (stable_star (stable_pl pb b 0 z.L z.s) (stable_star (stable_rp rp rb 0 z.L z.s) hR)) _ _ r kk wh pgn nn bts ata ss d2 d5 d6 d7
end Go.Proofs.YtbcnibnkojnpiaaGreat.P
namespace Go.Proofs.YtbcnibnkojnpiaaGreat.P
open Go.RowKit Go.MuLone Go.Maps Go.Proofs.YtbcnibnkojnpiaaGreat.W
/-- The roots of the spaces that there are. -/
def Pl (N : Nat) (z : Sp) (rs : List Nat) : Prop := ∃ own, WF 0 z own ∧ (∀ r, r ∈ rs → ∃ p j, own r = some (3, p, j)) ∧ rs.Nodup ∧ z.L.length = N
theorem nodup_len : ∀ (n : Nat) (l : List Nat), l.Nodup → (∀ x, x ∈ l → x < n) → l.length ≤ n
  | 0, l, _, h => by
    cases l with
    | nil => exact Nat.le_refl _
    | cons a l => exact absurd (h a (by simp)) (Nat.not_lt_zero _)
  | n + 1, l, hn, h => by
    have h1 := nodup_len n (l.erase n) (hn.erase n) (fun x hx => by
      have h2 := (List.Nodup.mem_erase_iff hn).1 hx
      have := h x h2.2
      have := h2.1
      omega)
    by_cases e : n ∈ l
    · rw [List.length_erase_of_mem e] at h1; omega
    · rw [List.erase_of_not_mem e] at h1; omega
theorem Pl.len {N : Nat} {z : Sp} {rs : List Nat} (h : Pl N z rs) : rs.length ≤ 256 ∧ ∀ r, r ∈ rs → r < 256 := by
  obtain ⟨own, hw, hr, hn, _⟩ := h
  have hlt : ∀ r, r ∈ rs → r < 256 := fun r hm => by
    obtain ⟨p, j, ho⟩ := hr r hm
    exact Nat.lt_of_lt_of_le (hw.lt ho).2.1 hw.sz.hi
  exact ⟨nodup_len 256 rs hn hlt, hlt⟩
theorem Pl.take {N : Nat} {z : Sp} {rs : List Nat} (h : Pl N z rs) : (∃ n : Nat, takeN z.L 0 = (n : Int) ∧ takeE z.L 0 = 0 ∧ Pl N (takeX 0 z) (rs ++ [n])) ∨ (takeN z.L 0 = 0 ∧ takeE z.L 0 = 4 ∧ takeX 0 z = z) := by
  obtain ⟨own, hw, hr, hn, hl⟩ := h
  cases q : takeB z.L 0 with
  | true =>
    left
    obtain ⟨_, _, _, _, _, ete, _⟩ := take_b q
    obtain ⟨n, e0, hlt, hno, hw1, _⟩ := wf_new hw q
    refine ⟨n, e0, ete, upd own n (3, 0, 0), hw1, fun r hm => ?_, ?_, (take_sz 0 hw.sz).2.trans hl⟩
    · rcases List.mem_append.1 hm with hm | hm
      · obtain ⟨p, j, ho⟩ := hr r hm
        exact ⟨p, j, by unfold upd; rw [if_neg (fun e => by rw [e, hno] at ho; cases ho)]; exact ho⟩
      · rcases List.mem_singleton.1 hm with rfl
        exact ⟨0, 0, by unfold upd; rw [if_pos rfl]⟩
    · rw [List.nodup_append]
      refine ⟨hn, by simp, fun a ha b hb e => ?_⟩
      rcases List.mem_singleton.1 hb with rfl
      subst e
      obtain ⟨p, j, ho⟩ := hr a ha
      rw [hno] at ho; cases ho
  | false =>
    right
    obtain ⟨e1, e2, e3, e4⟩ := take_nb q
    refine ⟨e1, e2, ?_⟩
    unfold takeX; rw [e3, e4]
theorem Pl.free {N : Nat} {z : Sp} {rs : List Nat} (h : Pl N z rs) {i r : Nat} (hi : rs[i]? = some r) : (∃ own, WF 0 z own ∧ ∃ p j, own r = some (3, p, j)) ∧ Pl N (freeX 0 z r) (rs.eraseIdx i) := by
  obtain ⟨own, hw, hr, hn, hl⟩ := h
  have hm := List.mem_of_getElem? hi
  obtain ⟨p, j, ho⟩ := hr r hm
  refine ⟨⟨own, hw, p, j, ho⟩, ?_⟩
  obtain ⟨own', hw', h1, h2, h3, h4⟩ := free_wf hw ho
  obtain ⟨hlt, hv⟩ := List.getElem?_eq_some_iff.1 hi
  refine ⟨own', hw', fun r' hm' => ?_, hn.sublist (List.eraseIdx_sublist _ _), h4.trans hl⟩
  have hm2 : r' ∈ rs := (List.eraseIdx_sublist rs i).mem hm'
  have hne : r' ≠ r := fun e => by
    obtain ⟨i', hi', e1, e2⟩ := List.mem_eraseIdx_iff_getElem.1 hm'
    have hp := List.pairwise_iff_getElem.1 hn
    rcases Nat.lt_or_ge i' i with hlt2 | hge2
    · exact hp i' i hi' hlt hlt2 (e2.trans (e.trans hv.symm))
    · exact hp i i' hlt hi' (by omega) (hv.trans (e.symm.trans e2.symm))
  obtain ⟨p', j', ho'⟩ := hr r' hm2
  cases q : own' r' with
  | some v => exact ⟨p', j', (h2 r' v q ▸ rfl : some v = own r') ▸ ho'⟩
  | none =>
    rcases (h1 r').1 q with e | e
    · rw [e] at ho'; cases ho'
    · exact absurd (und_unique hw (.top ho') e) hne
theorem Pl.copy {N : Nat} {z : Sp} {rs : List Nat} (h : Pl N z rs) {r : Nat} (hm : r ∈ rs) : (∃ own, WF 0 z own ∧ ∃ p j, own r = some (3, p, j)) ∧ ((∃ n : Nat, copyN 0 z r = (n : Int) ∧ copyE 0 z r = 0 ∧ Pl N (copyW 0 z r) (rs ++ [n])) ∨ (copyN 0 z r = 0 ∧ copyE 0 z r = 4 ∧ copyW 0 z r = z)) := by
  obtain ⟨own, hw, hr, hn, hl⟩ := h
  obtain ⟨p, j, ho⟩ := hr r hm
  refine ⟨⟨own, hw, p, j, ho⟩, ?_⟩
  obtain ⟨v1, v2⟩ := copy_vals hw ho
  by_cases hge : ((ilR z r).length : Int) ≤ leftX 0 z
  · left
    obtain ⟨e1, e2, _⟩ := v1 hge
    obtain ⟨to_, own', a1, a2, a3, a4, a5, a6, a7, a8, a9, _⟩ := copy_wf hw ho e1
    refine ⟨to_, e2.trans a1, e1, own', a3, fun r' hm' => ?_, ?_, a9.trans hl⟩
    · rcases List.mem_append.1 hm' with hm' | hm'
      · obtain ⟨p', j', ho'⟩ := hr r' hm'
        exact ⟨p', j', a5 _ _ ho'⟩
      · rcases List.mem_singleton.1 hm' with rfl
        exact ⟨0, 0, a4⟩
    · rw [List.nodup_append]
      refine ⟨hn, by simp, fun a ha b hb e => ?_⟩
      rcases List.mem_singleton.1 hb with rfl
      subst e
      obtain ⟨p', j', ho'⟩ := hr a ha
      rw [a2] at ho'; cases ho'
  · right
    obtain ⟨e1, e2, e3⟩ := v2 hge
    exact ⟨e2, e1, e3⟩
theorem Pl.does {N : Nat} {z : Sp} {rs : List Nat} (h : Pl N z rs) (r : Int) (hr : (∃ n : Nat, r = (n : Int) ∧ n ∈ rs) ∨ r < 0) (a : SAct) (ha : a.ok) : (∃ own, WF 0 z own ∧ RootOk own r) ∧ Pl N (doS z r a) rs := by
  obtain ⟨own, hw, hrs, hn, hl⟩ := h
  have ok : RootOk own r := by
    rcases hr with ⟨n, rfl, hm⟩ | hr
    · obtain ⟨p, j, ho⟩ := hrs n hm
      exact .inl ⟨n, p, j, rfl, ho⟩
    · exact .inr hr
  refine ⟨⟨own, hw, ok⟩, ?_⟩
  obtain ⟨own', h1, h2, h3⟩ := doS_wf hw r ok a ha
  exact ⟨own', h1, fun r' hm => by obtain ⟨p, j, ho⟩ := hrs r' hm; exact ⟨p, j, h2 _ _ ho⟩, hn, h3.trans hl⟩
def ownF (rs : List Nat) (n : Int) : Bool := decide (0 ≤ n) && decide (n < rs.length)
def whichF (rs : List Nat) (n : Int) : Int := bif ownF rs n then ((rs.getD n.toNat 0 : Nat) : Int) else n
theorem which_own {rs : List Nat} {n : Int} (h : ownF rs n = true) : ∃ i r : Nat, n = (i : Int) ∧ i < rs.length ∧ rs[i]? = some r ∧ whichF rs n = (r : Int) := by
  have h2 := h
  unfold ownF at h2
  simp only [Bool.and_eq_true, decide_eq_true_eq] at h2
  obtain ⟨i, rfl⟩ : ∃ i : Nat, n = (i : Int) := ⟨n.toNat, by omega⟩
  have hi : i < rs.length := by omega
  refine ⟨i, rs[i], rfl, hi, List.getElem?_eq_getElem hi, ?_⟩
  unfold whichF
  rw [h, cond_true, Int.toNat_natCast, List.getD_eq_getElem?_getD, List.getElem?_eq_getElem hi]; rfl
theorem which_not {rs : List Nat} {n : Int} (h : ownF rs n = false) : whichF rs n = n := by unfold whichF; rw [h, cond_false]
theorem c_which (rs : List Nat) (o : Option Addr) (c : Nat) (n : Int) (hl : rs.length ≤ 256) (w : World) (hrow : w.ownsRow 0 3 1 (.slice o rs.length c) rs.length (tbI rs)) :
    Calls Tryz.prog 27 #[.slice o rs.length c, .int .i64 n] w fun e w' => e = .returned (.int .i64 (whichF rs n)) ∧ w' = w := by
  cases ho : ownF rs n with
  | true =>
    obtain ⟨i, r, rfl, hi, hr, hv⟩ := which_own ho
    rw [hv]
    obtain ⟨g, hg⟩ := row_some hrow (by omega)
    subst hg
    have c0 : w.cell? ⟨g, i, none⟩ = some (.int .i64 (r : Int)) := by
      rw [World.ownsRow.cellAt hrow i (by omega)]; exact tbI_of rs i r hr
    have m0 : (0 : Int) ≤ (i : Int) := by omega
    have m1 : (i : Int) < (rs.length : Int) := by omega
    have m4 : (i : Int).toNat = i := by omega
    clear hrow hr hv ho
    go_enter Tryz.func27, Tryz.ntmps27
    go_wp2_with fail
    go_ret
    exact ⟨rfl, rfl⟩
  | false =>
    rw [which_not ho]
    unfold ownF at ho
    have hn : ¬ 0 ≤ n ∨ (0 ≤ n ∧ ¬ n < (rs.length : Int)) := by
      rcases Int.lt_or_le n 0 with h | h
      · exact .inl (by omega)
      · right
        refine ⟨h, fun h2 => ?_⟩
        rw [decide_eq_true h, decide_eq_true h2] at ho; cases ho
    clear ho hrow
    rcases hn with h | ⟨h1, h2⟩
    all_goals
      go_enter Tryz.func27, Tryz.ntmps27
      go_wp2_with fail
      go_ret
      exact ⟨rfl, rfl⟩
theorem rest_next {rs : List Nat} {i j r : Nat} (hj : rs[j]? = some r) : (rs.take (j + 1)).eraseIdx i = if j = i then (rs.take j).eraseIdx i else (if j < i then (rs.take j).eraseIdx i ++ [r] else (rs.take j).eraseIdx i ++ [r]) := by
  obtain ⟨hlt, hv⟩ := List.getElem?_eq_some_iff.1 hj
  have e : rs.take (j + 1) = rs.take j ++ [r] := by rw [List.take_add_one, hj]; rfl
  have hl : (rs.take j).length = j := by rw [List.length_take]; omega
  rw [e]
  by_cases h1 : j = i
  · subst h1
    rw [if_pos rfl, List.eraseIdx_append_of_length_le (by omega), hl, Nat.sub_self, List.eraseIdx_of_length_le (l := rs.take j) (by omega)]
    simp
  · rw [if_neg h1]
    by_cases h2 : j < i
    · rw [if_pos h2, List.eraseIdx_append_of_length_le (by omega), hl, List.eraseIdx_of_length_le (l := rs.take j) (by omega), List.eraseIdx_of_length_le (by simp; omega)]
    · rw [if_neg h2, List.eraseIdx_append_of_lt_length (by omega)]
end Go.Proofs.YtbcnibnkojnpiaaGreat.P
