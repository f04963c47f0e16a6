/- Stage 11: the document's In. No condition. -/
import Derived.Test.YtbcnibnkojnpiaaGreatV2
import Derived.Test.YtbcnibnkojnpiaaGreatU2
import Derived.Deep.AppendLies
import Derived.Deep.LoopGhost
import Derived.Deep.DeepCutAuto
import Derived.StillTailTactics
set_option linter.unusedVariables false
set_option linter.unusedSimpArgs false
set_option maxRecDepth 100000
namespace Go.Proofs.YtbcnibnkojnpiaaGreat.P
open Go.RowKit Go.MuLone Go.Maps Go.Proofs.YtbcnibnkojnpiaaGreat.W
variable {w0 w : World} {rp rb fi : Nat} {z : Sp} {R : Asn} {own : Who}
/-- The bytes of the document's memory, each by itself. -/
theorem q_poke {first : Nat} {L : List Bool} {s : List UInt8} (h : Own w0 w (Star (rpA rp rb first L s) R)) (hR : Stable R) :
    ∃ vb, w.cell? ⟨rb, 0, none⟩ = some (.slice (some ⟨vb, 0, none⟩) s.length s.length) ∧ (∀ a (ha : a < s.length), w.cell? ⟨vb, a, none⟩ = some (bv s[a]) ∧ w.frozen? ⟨vb, a, none⟩ = false) ∧
      ∀ a (v : UInt8), a < s.length → Own w0 (w.setCell ⟨vb, a, none⟩ (bv v)) (Star (rpA rp rb first L (s.set a v)) R) := by
  obtain ⟨F, ib, vb, H, t, a, hr, _⟩ := h.left.get
  refine ⟨vb, blk_cell a.2.2.1.1 0 rfl, fun k hk => ⟨blk_cell a.2.2.1.2.2.1 k (bys_get _ _ hk), blk_frozen a.2.2.1.2.2.1 k⟩, fun k v hk => ?_⟩
  refine h.step hR (fun F hF => ?_)
  obtain ⟨ib', vb', H', t', a', hr', h1, h2, h3, h4⟩ := hF
  have hv : vb' = vb := by
    have e := a.2.2.1.1.symm.trans a'.2.2.1.1
    injection e with e
    injection e with e _
    have e2 := congrArg (fun c : Array Value => c[0]?) e
    simp at e2
    exact e2.symm
  subst hv
  have hset := blk_set a'.2.2.1.2.2.1 k (bv v)
  rw [bys_set] at hset
  have hl : (s.set k v).length = s.length := List.length_set
  have hc : Ch (· = vb') w (w.setCell ⟨vb', k, none⟩ (bv v)) := Ch.setCell (S := (· = vb')) (Ch.refl _ w) (.inl rfl) _
  exact rp_out (a'.turn (a'.2.2.1.bytes (z := s.set k v) hc hl hset) hl (hc.mono (fun x hx => .inr hx))) hr' (hc.mono (fun x hx => .inr (.inr hx))) h1 h2 h3 h4
theorem o_rin_bad (h : Own w0 w (Star (rpA rp rb fi z.L z.s) R)) (r a n : Int) (hbad : movedBad fi z r n = true) :
    Calls Tryz.prog 72 #[.pointer (some ⟨rp, 0, none⟩), .int .i64 r, .int .u64 a, .int .i64 n] w fun e w' => e = .returned (.tuple #[.string ⟨#[]⟩, .int .i64 1]) ∧ w' = w := by
  obtain ⟨tk, htk⟩ : ∃ t, tknB z.L fi r = t := ⟨_, rfl⟩
  have TK := Lib.hid (o_qtaken h r tk htk)
  unfold movedBad at hbad
  rw [htk] at hbad
  clear h htk
  rcases (show tk = false ∨ (tk = true ∧ n < 0) ∨ (tk = true ∧ ¬ n < 0 ∧ 4096 < n) by
    cases tk
    · exact .inl rfl
    · simp only [Bool.not_true, Bool.false_or, Bool.or_eq_true, decide_eq_true_eq] at hbad
      rcases hbad with e | e
      · exact .inr (.inl ⟨rfl, e⟩)
      · exact .inr (.inr ⟨rfl, by omega, e⟩)) with rfl | ⟨rfl, e⟩ | ⟨rfl, e, e2⟩
  all_goals
    clear hbad
    go_enter Tryz.func72, Tryz.ntmps72
    go_wp2_with (go_at_call 89; refine TK.out.mono ?_; rintro e w2 ⟨rfl, hw2⟩; rw [hw2]; clear hw2 w2)
    go_ret2
    exact ⟨rfl, rfl⟩
set_option maxHeartbeats 1600000 in
theorem o_rin_go (h : Own w0 w (Star (rpA rp rb fi z.L z.s) R)) (hR : Stable R) (hw : WF fi z own) {r p j : Nat} (hr : own r = some (3, p, j)) (a : Int) (n : Nat) (ha : u64 a) (hn : n ≤ 4096) (l : List UInt8) (E : Int) (hx : rinF z r a n 0 [] = (l, E)) :
    Calls Tryz.prog 72 #[.pointer (some ⟨rp, 0, none⟩), .int .i64 (r : Int), .int .u64 a, .int .i64 (n : Int)] w fun e w' => e = .returned (.tuple #[.string ⟨l.toArray⟩, .int .i64 E]) ∧ Own w0 w' (Star (rpA rp rb fi z.L z.s) R) := by
  obtain ⟨a0, a1⟩ := ha
  have hrl := hw.lt hr
  have hlen := hw.sz.len
  have hhi := hw.sz.hi
  have hri : i64 (r : Int) := ⟨by omega, by omega⟩
  have HR := Lib.hid hR
  have HRI := Lib.hid hri
  have TK := Lib.hid (o_qtaken h r true (hw.tkn hr))
  have WFU := Lib.hid (fun v h0 => walk_full hw hr v 1 h0 (.inl rfl))
  have HSP := Lib.hid (stable_rp rp rb fi z.L z.s)
  have HX := Lib.hid hx
  have HLEN := Lib.hid (show z.s.length = z.L.length * 256 ∧ z.L.length ≤ 256 from ⟨hlen, hhi⟩)
  have e1 : ¬ (n : Int) < 0 := by omega
  have e2 : ¬ 4096 < (n : Int) := by omega
  obtain ⟨i0, hi0, hz0, hz1, hz2⟩ := info_parts u8Info
  have A2 : RowKit.Hid (Own w0 w (Star (rpA rp rb fi z.L z.s) (Star (rowA 5 1 (.slice none 0 0) 0 []) R))) := Lib.hid ((h.add (stable_star HSP.out HR.out) (Gr.refl _) (A := rowA 5 1 (.slice none 0 0) 0 []) ⟨fun _ => False, ⟨⟨rfl, .inl ⟨rfl, rfl⟩⟩, fun b hb => by cases hb⟩, fun x hx => hx.elim⟩).swap2)
  clear h hR hr hx hrl hlen hhi hri hw
  go_enter Tryz.func72, Tryz.ntmps72
  go_upto_region 4 with (go_at_call 89; refine TK.out.mono ?_; rintro e w2 ⟨rfl, hw2⟩; rw [hw2]; clear hw2 w2)
  clear TK
  go_wp2_with fail
  go_loopg [11, 12] (n + 1) (fun t v11 v12 wr => ∃ (k : Nat) (row : List UInt8) (o : Option Addr) (c : Nat), k ≤ n ∧ t = n + 1 - k ∧ v12 = .int .i64 (k : Int) ∧ v11 = .slice o row.length c ∧ row.length = k ∧ rinF z r a (n - k) k row = (l, E) ∧ Own w0 wr (Star (rpA rp rb fi z.L z.s) (Star (rowA 5 1 (.slice o row.length c) row.length (Lib.byteCells row)) R)))
  case atStart => exact ⟨0, [], none, 0, by omega, rfl, rfl, rfl, rfl, HX.out, A2.out⟩
  case round =>
    clear A2 HX
    obtain ⟨_, row, o, c, hk, ht, rfl, rfl, rfl, hy, ho⟩ := hrel
    have HO := Lib.hid ho
    clear ho
    by_cases hlt : row.length < n
    · obtain ⟨F, hF⟩ : ∃ F, n - row.length = F + 1 := ⟨n - row.length - 1, by omega⟩
      rw [hF, rinF] at hy
      obtain ⟨V, hV⟩ : ∃ V, IntKind.u64.wrap (a + (row.length : Int)) = V := ⟨_, rfl⟩
      have hVa : vAt a (row.length : Int) = V := hV
      have hVb : 0 ≤ V ∧ V < 18446744073709551616 := by rw [← hV, IntKind.wrap_u64]; omega
      obtain ⟨v0, v1⟩ := hVb
      have k1 : IntKind.u64.wrap (row.length : Int) = row.length := wrapU _ (by omega) (by omega)
      have k2 : IntKind.i64.wrap ((row.length : Int) + 1) = (row.length : Int) + 1 := wrapI _ (by omega) (by omega)
      have l1 : (row.length : Int) < (n : Int) := by omega
      have SB := Lib.hid (stable_star (stable_row 5 1 (.slice o row.length c) row.length (Lib.byteCells row)) HR.out)
      have c0 := o_qM HO.out
      unfold okAt atAt at hy
      rw [hVa] at hy
      rcases WFU.out V v0 with ⟨q1, q2⟩ | ⟨f, t0, b, b0, b1, b2, b3, b4, b5, b6, q1, q2⟩
      · have WK := Lib.hid (o_qwalk HO.out SB.out r V 1 0 3 ⟨v0, by omega⟩ HRI.out q2 q1)
        rw [q1, decide_eq_false (by decide), cond_false] at hy
        injection hy with hy1 hy2
        subst hy1; subst hy2
        clear WFU q1 q2
        go_wp2_with (go_at_call 98; refine WK.out.mono ?_; rintro e w3 ⟨rfl, h3⟩; have H3 := Lib.hid h3; clear h3)
        go_ret2
        exact ⟨rfl, H3.out.drop2⟩
      · obtain ⟨q, hq⟩ : ∃ q : Nat, f * 256 + (V % 256).toNat = q := ⟨_, rfl⟩
        rw [hq] at q2
        have hqb : q < z.s.length := by have := HLEN.out; omega
        have q65 : z.s.length ≤ 65536 := by have := HLEN.out; omega
        have WK := Lib.hid (o_qwalk HO.out SB.out r V 1 (q : Int) 0 ⟨v0, by omega⟩ HRI.out q2 q1)
        rw [q1, q2, decide_eq_true rfl, cond_true, Int.toNat_natCast, List.getD_eq_getElem?_getD, List.getElem?_eq_getElem hqb, Option.getD_some] at hy
        obtain ⟨CB, hCB⟩ : ∃ x, z.s[q]'hqb = x := ⟨_, rfl⟩
        rw [hCB] at hy
        have hlen : row.length ≤ 5000 := by omega
        have HY := Lib.hid hy
        clear hy WFU q1 q2 b0 b1 b2 b3 b4 b5 b6 hq
        go_upto_region 11 with (go_at_call 98; refine WK.out.mono ?_; rintro e w3 ⟨rfl, h3⟩; have H3 := Lib.hid h3; clear h3)
        have c0 := o_qM H3.out
        obtain ⟨vb, s0, s1, _⟩ := q_poke H3.out SB.out
        have cc := (s1 q hqb).1
        rw [hCB] at cc
        have cc2 : w3.cell? ⟨vb, q, none⟩ = some (.int .u8 (CB.toNat : Int)) := cc
        have b5 : (0 : Int) ≤ (q : Int) := by omega
        have b6 : (q : Int) < (z.s.length : Int) := by omega
        have b7 : (q : Int).toNat = q := by omega
        clear s1 hCB cc
        have H5 := Lib.hid (H3.out.swap2.gr (stable_star (stable_row _ _ _ _ _) (stable_star HSP.out HR.out)) ((Gr.refl _).alloc (Nat.le_refl _) (.cells #[.int .u8 (CB.toNat : Int)] 5)))
        have HROW := Lib.hid H5.out.row
        have hbl : (Lib.byteCells row).length = row.length := Lib.byteCells_length row
        have hcb : (CB.toNat : Int) < 256 := by have := CB.toNat_lt; omega
        go_wp2_with (at_builtin; refine wpList_append_lies _ rfl _ _ _ rfl 0 5 i0 (.int .u8 0) 1 1 Tryz.underlying44 hi0 hz0 hz1 hz2 rfl (by omega) (.slice o row.length c) row.length (Lib.byteCells row) rfl HROW.out ⟨_, 0, none⟩ 1 1 [.int .u8 (CB.toNat : Int)] rfl rfl (World.news_of_block (cs := #[.int .u8 (CB.toNat : Int)]) (blk_new _ _)) (by simp [Value.oneCell']) (by omega) (by unfold maxLen; omega) (by omega) (by omega) (w3.heap.size + 1) (by simp) ?_; intro g2 cap2 w8 hown8 hgrow8 hat8 hlt8; have H9 := Lib.hid (H5.out.grown (g := g2) (stable_star HSP.out HR.out) hown8 rfl hgrow8 (hat8.elim .inl (fun e => .inr (by simp; omega))) hlt8); clear hown8 hgrow8 hat8 hlt8)
        have e5 : (row ++ [CB]).length = row.length + 1 := by simp
        go_roundg (n + 1 - (row.length + 1))
        case measure => omega
        case rel =>
          refine ⟨row.length + 1, row ++ [CB], some ⟨g2, 0, none⟩, cap2, by omega, rfl, by go_num, by rw [e5], by omega, ?_, ?_⟩
          · rw [show n - (row.length + 1) = F by omega]; exact HY.out
          · rw [e5, byteCells_app, show Lib.byteCells [CB] = [.int .u8 (CB.toNat : Int)] from rfl]; exact H9.out.swap2
    · have hrm : row.length = n := by omega
      rw [show n - row.length = 0 by omega, rinF] at hy
      injection hy with hy1 hy2
      subst hy1; subst hy2
      have l1 : ¬ (row.length : Int) < (n : Int) := by omega
      have hcv := conv_row HO.out.right.row
      clear hrm
      go_wp2_with fail
      go_ret2
      exact ⟨rfl, HO.out.drop2⟩
end Go.Proofs.YtbcnibnkojnpiaaGreat.P
namespace Go.Proofs.YtbcnibnkojnpiaaGreat.P
open Go.RowKit Go.MuLone Go.Maps Go.Proofs.YtbcnibnkojnpiaaGreat.W
variable {w0 w : World} {rp rb fi : Nat} {z : Sp} {R : Asn} {own : Who}
theorem o_rout_bad (h : Own w0 w (Star (rpA rp rb fi z.L z.s) R)) (r a : Int) (s : ByteArray) (hs : s.size ≤ maxLen) (hbad : movedBad fi z r s.size = true) :
    Calls Tryz.prog 73 #[.pointer (some ⟨rp, 0, none⟩), .int .i64 r, .int .u64 a, .string s] w fun e w' => e = .returned (.int .i64 1) ∧ w' = w := by
  obtain ⟨tk, htk⟩ : ∃ t, tknB z.L fi r = t := ⟨_, rfl⟩
  have TK := Lib.hid (o_qtaken h r tk htk)
  unfold maxLen at hs
  unfold movedBad at hbad
  rw [htk] at hbad
  clear h htk
  rcases (show tk = false ∨ (tk = true ∧ 4096 < (s.size : Int)) by
    cases tk
    · exact .inl rfl
    · simp only [Bool.not_true, Bool.false_or, Bool.or_eq_true, decide_eq_true_eq] at hbad
      rcases hbad with e | e
      · omega
      · exact .inr ⟨rfl, e⟩) with rfl | ⟨rfl, e⟩
  all_goals
    clear hbad
    go_enter Tryz.func73, Tryz.ntmps73
    go_wp2_with (go_at_call 89; refine TK.out.mono ?_; rintro e w2 ⟨rfl, hw2⟩; rw [hw2]; clear hw2 w2)
    go_ret
    exact ⟨rfl, rfl⟩
set_option maxHeartbeats 3200000 in
theorem o_rout_go (h : Own w0 w (Star (rpA rp rb fi z.L z.s) R)) (hR : Stable R) (hw : WF fi z own) {r p j : Nat} (hr : own r = some (3, p, j)) (a : Int) (s : ByteArray) (ha : u64 a) (hn : s.size ≤ 4096) (E : Int) (hx : rckF z r a s.size 0 = E) (z2 : Sp) (hz2 : E = 0 → rouF r a s s.size 0 z = z2) (hz3 : E ≠ 0 → z2 = z) :
    Calls Tryz.prog 73 #[.pointer (some ⟨rp, 0, none⟩), .int .i64 (r : Int), .int .u64 a, .string s] w fun e w' => e = .returned (.int .i64 E) ∧ Own w0 w' (Star (rpA rp rb fi z2.L z2.s) R) := by
  obtain ⟨a0, a1⟩ := ha
  have hrl := hw.lt hr
  have hlen := hw.sz.len
  have hhi := hw.sz.hi
  have hri : i64 (r : Int) := ⟨by omega, by omega⟩
  have HR := Lib.hid hR
  have HRI := Lib.hid hri
  have TK := Lib.hid (o_qtaken h r true (hw.tkn hr))
  have WFU := Lib.hid (fun v h0 => walk_full hw hr v 2 h0 (.inr rfl))
  have OKS := Lib.hid (fun e he (h0 : rckF z r a s.size 0 = 0) => rck_ok z r a s.size 0 h0 e he)
  have ATS := Lib.hid (fun (x : Sp) (st : StP z x own) (i : Int) => at_stp hw st hr a 2 i (.inr rfl))
  have STS := Lib.hid (fun (x : Sp) (st : StP z x own) (f p2 j2 : Nat) (hf : own f = some (0, p2, j2)) (o : Nat) (ho : o < 256) (v : UInt8) => stp_set hw st hf o ho v)
  have HSP := Lib.hid (fun (x : Sp) => stable_rp rp rb fi x.L x.s)
  have HX := Lib.hid hx
  have HZ2 := Lib.hid hz2
  have HZ3 := Lib.hid hz3
  have ST0 := Lib.hid (StP.refl hw)
  have HLEN := Lib.hid (show z.s.length = z.L.length * 256 ∧ z.L.length ≤ 256 from ⟨hlen, hhi⟩)
  have e2 : ¬ 4096 < (s.size : Int) := by omega
  have H0 := Lib.hid h
  clear h hR hr hx hrl hlen hhi hri hw hz2 hz3
  go_enter Tryz.func73, Tryz.ntmps73
  go_upto_region 4 with (go_at_call 89; refine TK.out.mono ?_; rintro e w2 ⟨rfl, hw2⟩; rw [hw2]; clear hw2 w2)
  clear TK
  go_wp2_with fail
  go_loopg [10] (s.size + 1) (fun t v10 wr => ∃ (k : Nat), k ≤ s.size ∧ t = s.size + 1 - k ∧ v10 = .int .i64 (k : Int) ∧ rckF z r a (s.size - k) k = E ∧ Own w0 wr (Star (rpA rp rb fi z.L z.s) R))
  case atStart => exact ⟨0, by omega, rfl, rfl, HX.out, H0.out⟩
  case round =>
    clear H0
    obtain ⟨k, hk, ht, rfl, hy, ho⟩ := hrel
    have HO := Lib.hid ho
    clear ho
    by_cases hlt : k < s.size
    · obtain ⟨F, hF⟩ : ∃ F, s.size - k = F + 1 := ⟨s.size - k - 1, by omega⟩
      rw [hF, rckF] at hy
      obtain ⟨V, hV⟩ : ∃ V, IntKind.u64.wrap (a + (k : Int)) = V := ⟨_, rfl⟩
      have hVa : vAt a (k : Int) = V := hV
      have hVb : 0 ≤ V ∧ V < 18446744073709551616 := by rw [← hV, IntKind.wrap_u64]; omega
      obtain ⟨v0, v1⟩ := hVb
      have k1 : IntKind.u64.wrap (k : Int) = k := wrapU _ (by omega) (by omega)
      have k2 : IntKind.i64.wrap ((k : Int) + 1) = (k : Int) + 1 := wrapI _ (by omega) (by omega)
      have l1 : (k : Int) < (s.size : Int) := by omega
      have c0 := o_qM HO.out
      unfold okAt at hy
      rw [hVa] at hy
      rcases WFU.out V v0 with ⟨q1, q2⟩ | ⟨f, t0, b, b0, b1, b2, b3, b4, b5, b6, q1, q2⟩
      · have WK := Lib.hid (o_qwalk HO.out HR.out r V 2 0 3 ⟨v0, by omega⟩ HRI.out q2 q1)
        rw [q1, decide_eq_false (by decide), cond_false] at hy
        subst hy
        have hz := HZ3.out (by decide)
        clear WFU q1 q2 HX HZ2 HZ3
        go_wp2_with (go_at_call 98; refine WK.out.mono ?_; rintro e w3 ⟨rfl, h3⟩; have H3 := Lib.hid h3; clear h3)
        go_ret
        rw [hz]
        exact ⟨rfl, H3.out⟩
      · have WK := Lib.hid (o_qwalk HO.out HR.out r V 2 _ 0 ⟨v0, by omega⟩ HRI.out q2 q1)
        rw [q1, decide_eq_true rfl, cond_true] at hy
        have HY := Lib.hid hy
        clear hy WFU q1 q2 b0 b1 b2 b3 b4 b5 b6
        generalize ((f * 256 + (V % 256).toNat : Nat) : Int) = wv at *
        go_wp2_with (go_at_call 98; refine WK.out.mono ?_; rintro e w3 ⟨rfl, h3⟩; have H3 := Lib.hid h3; clear h3)
        go_roundg (s.size + 1 - (k + 1))
        case measure => omega
        case rel =>
          refine ⟨k + 1, by omega, rfl, by go_num, ?_, H3.out⟩
          rw [show s.size - (k + 1) = F by omega]; exact HY.out
    · obtain rfl : k = s.size := by omega
      rw [Nat.sub_self, rckF] at hy
      subst hy
      have l1 : ¬ (s.size : Int) < (s.size : Int) := by omega
      have HZ := Lib.hid (HZ2.out rfl)
      have OK := Lib.hid (fun e he => OKS.out e he HX.out)
      clear HZ2 HZ3 OKS HX
      go_wp2_with fail
      go_loopg [13] (s.size + 1) (fun t v13 wr => ∃ (k : Nat) (x : Sp), k ≤ s.size ∧ t = s.size + 1 - k ∧ v13 = .int .i64 (k : Int) ∧ StP z x own ∧ rouF r a s (s.size - k) k x = z2 ∧ Own w0 wr (Star (rpA rp rb fi x.L x.s) R))
      case atStart => exact ⟨0, z, by omega, rfl, rfl, ST0.out, HZ.out, HO.out⟩
      case round =>
        clear HO HZ ST0
        obtain ⟨k, x, hk, ht, rfl, hst, hy, ho⟩ := hrel
        have HO := Lib.hid ho
        have HST := Lib.hid hst
        clear ho hst
        by_cases hlt : k < s.size
        · obtain ⟨F, hF⟩ : ∃ F, s.size - k = F + 1 := ⟨s.size - k - 1, by omega⟩
          rw [hF, rouF] at hy
          have ok := OK.out k hlt
          rw [Nat.zero_add] at ok
          obtain ⟨V, hV⟩ : ∃ V, IntKind.u64.wrap (a + (k : Int)) = V := ⟨_, rfl⟩
          have hVa : vAt a (k : Int) = V := hV
          have hVb : 0 ≤ V ∧ V < 18446744073709551616 := by rw [← hV, IntKind.wrap_u64]; omega
          obtain ⟨v0, v1⟩ := hVb
          have k1 : IntKind.u64.wrap (k : Int) = k := wrapU _ (by omega) (by omega)
          have k2 : IntKind.i64.wrap ((k : Int) + 1) = (k : Int) + 1 := wrapI _ (by omega) (by omega)
          have l1 : (k : Int) < (s.size : Int) := by omega
          have c0 := o_qM HO.out
          obtain ⟨u1, u2⟩ := ATS.out x HST.out (k : Int)
          rcases WFU.out V v0 with ⟨q1, q2⟩ | ⟨f, t0, b, b0, b1, b2, b3, b4, b5, b6, q1, q2⟩
          · exfalso
            unfold okAt at ok
            rw [hVa, q1] at ok
            exact absurd ok (by decide)
          · obtain ⟨o, ho⟩ : ∃ o : Nat, (V % 256).toNat = o := ⟨_, rfl⟩
            have ho2 : o < 256 := by omega
            rw [ho] at q2
            have hA : atAt x r a 2 (k : Int) = f * 256 + o := by
              rw [u2]; unfold atAt; rw [hVa, q2, Int.toNat_natCast]
            have hWR : walkR x.L.length x.s r V 2 = 0 := by
              have : okAt x r a 2 (k : Int) = true := by rw [u1]; exact ok
              unfold okAt at this; rw [hVa] at this; exact of_decide_eq_true this
            have hWV : walkV x.L.length x.s r V 2 = ((f * 256 + o : Nat) : Int) := by
              have e := hA
              unfold atAt at e; rw [hVa] at e
              rw [← e]
              have := (walkV_u64 x.L.length x.s r V 2 v0).1
              omega
            rw [hA] at hy
            have hxl := HST.out.sz.len
            have hxL := HST.out.L
            have hSN := STS.out x HST.out f _ _ b4 o ho2 (s.data.toList.getD k 0)
            obtain ⟨q, hq⟩ : ∃ q, f * 256 + o = q := ⟨_, rfl⟩
            have hqb : q < x.s.length := by rw [hxl, hxL]; omega
            rw [hq] at hy hWV hSN
            have q65 : x.s.length ≤ 65536 := by have := HLEN.out; rw [hxl, hxL]; omega
            have WK := Lib.hid (o_qwalk HO.out HR.out r V 2 (q : Int) 0 ⟨v0, by omega⟩ HRI.out hWV hWR)
            have hsk : s.data.toList.getD k 0 = s[k]'hlt := by
              rw [List.getD_eq_getElem?_getD, Array.getElem?_toList, Array.getElem?_eq_getElem hlt]; rfl
            rw [hsk] at hy hSN
            have HY := Lib.hid hy
            have HSN := Lib.hid hSN
            have b9 : (0 : Int) ≤ (k : Int) := by omega
            have b11 : (k : Int).toNat = k := by omega
            clear hy WFU q1 q2 b0 b1 b2 b3 b4 b5 b6 hq hxl hxL hSN u1 u2 hA hWR hWV ok hsk
            go_upto_region 14 with (go_at_call 98; refine WK.out.mono ?_; rintro e w3 ⟨rfl, h3⟩; have H3 := Lib.hid h3; clear h3)
            clear c0 WK
            have c0 := o_qM H3.out
            obtain ⟨vb, s0, s1, s2⟩ := q_poke H3.out HR.out
            have cc := (s1 q hqb).1
            have zz := (s1 q hqb).2
            have HN := Lib.hid (s2 q (s[k]'hlt) hqb)
            have b5 : (0 : Int) ≤ (q : Int) := by omega
            have b6 : (q : Int) < (x.s.length : Int) := by omega
            have b7 : (q : Int).toNat = q := by omega
            generalize x.s[q]'hqb = oldb at *
            have SN := Lib.hid (stable_star (HSP.out ⟨x.L, x.s.set q (s[k]'hlt)⟩) HR.out)
            clear s1 s2 H3 HO
            go_still_tail 12, (by kernel_rfl)
            go_wp2_with fail
            go_roundg (s.size + 1 - (k + 1))
            case measure => omega
            case rel =>
              refine ⟨k + 1, ⟨x.L, x.s.set q (s[k]'hlt)⟩, by omega, rfl, by go_num, HSN.out, ?_, by first | exact HN.out.drew SN.out | exact HN.out⟩
              rw [show s.size - (k + 1) = F by omega]; exact HY.out
        · obtain rfl : k = s.size := by omega
          rw [Nat.sub_self, rouF] at hy
          subst hy
          go_wp2_with fail
          go_ret
          exact ⟨rfl, HO.out⟩
end Go.Proofs.YtbcnibnkojnpiaaGreat.P
namespace Go.Proofs.YtbcnibnkojnpiaaGreat.P
open Go.RowKit Go.MuLone Go.Maps Go.Proofs.YtbcnibnkojnpiaaGreat.W
variable {w0 w : World} {rp rb fi : Nat} {z : Sp} {R : Asn} {own : Who}
theorem ofF_one (x : UInt8) : ofF ⟨#[x]⟩ = (x.toNat : Int) := by
  unfold ofF
  show ofN ⟨#[x]⟩ 1 = _
  simp [ofN]
  rfl
theorem load_byte (s : List UInt8) (q : Nat) (h : q < s.length) : loadV s (q : Int) 1 = ((s[q]'h).toNat : Int) := by
  unfold loadV
  rw [if_pos (show sizedB 1 = true from rfl), if_pos (inB_t (by omega)), Int.toNat_natCast]
  have : subB s q (1 : Int).toNat = ⟨#[s[q]'h]⟩ := by
    unfold subB
    show (⟨((s.drop q).take 1).toArray⟩ : ByteArray) = _
    rw [List.drop_eq_getElem_cons h]; rfl
  rw [this]; exact ofF_one _
theorem wrap_zero (v : Int) (h0 : 0 ≤ v) (h1 : v < 18446744073709551616) : vAt v 0 = v := by
  unfold vAt; rw [IntKind.wrap_u64]; omega
theorem o_rtext_bad (h : Own w0 w (Star (rpA rp rb fi z.L z.s) R)) (r a n : Int) (hbad : movedBad fi z r n = true) :
    Calls Tryz.prog 74 #[.pointer (some ⟨rp, 0, none⟩), .int .i64 r, .int .u64 a, .int .i64 n] w fun e w' => e = .returned (.tuple #[.string ⟨#[]⟩, .int .i64 1]) ∧ w' = w := by
  obtain ⟨tk, htk⟩ : ∃ t, tknB z.L fi r = t := ⟨_, rfl⟩
  have TK := Lib.hid (o_qtaken h r tk htk)
  unfold movedBad at hbad
  rw [htk] at hbad
  clear h htk
  rcases (show tk = false ∨ (tk = true ∧ n < 0) ∨ (tk = true ∧ ¬ n < 0 ∧ 4096 < n) by
    cases tk
    · exact .inl rfl
    · simp only [Bool.not_true, Bool.false_or, Bool.or_eq_true, decide_eq_true_eq] at hbad
      rcases hbad with e | e
      · exact .inr (.inl ⟨rfl, e⟩)
      · exact .inr (.inr ⟨rfl, by omega, e⟩)) with rfl | ⟨rfl, e⟩ | ⟨rfl, e, e2⟩
  all_goals
    clear hbad
    go_enter Tryz.func74, Tryz.ntmps74
    go_wp2_with (go_at_call 89; refine TK.out.mono ?_; rintro e w2 ⟨rfl, hw2⟩; rw [hw2]; clear hw2 w2)
    go_ret2
    exact ⟨rfl, rfl⟩
set_option maxHeartbeats 3200000 in
theorem o_rtext_go (h : Own w0 w (Star (rpA rp rb fi z.L z.s) R)) (hR : Stable R) (hw : WF fi z own) {r p j : Nat} (hr : own r = some (3, p, j)) (a : Int) (m : Nat) (ha : u64 a) (hm : m ≤ 4096) (T : ByteArray) (E : Int) (hx : textX z r a (m + 1) 0 [] = (T, E)) :
    Calls Tryz.prog 74 #[.pointer (some ⟨rp, 0, none⟩), .int .i64 (r : Int), .int .u64 a, .int .i64 (m : Int)] w fun e w' => e = .returned (.tuple #[.string T, .int .i64 E]) ∧ Own w0 w' (Star (rpA rp rb fi z.L z.s) R) := by
  obtain ⟨a0, a1⟩ := ha
  have hrl := hw.lt hr
  have hlen := hw.sz.len
  have hhi := hw.sz.hi
  have HR := Lib.hid hR
  have TK := Lib.hid (o_qtaken h r true (hw.tkn hr))
  have WFU := Lib.hid (fun v h0 => walk_full hw hr v 1 h0 (.inl rfl))
  have INN := Lib.hid (fun w1 (h : Own w0 w1 (Star (rpA rp rb fi z.L z.s) R)) (V : Int) (hV : u64 V) l E hx => o_rin_go h hR hw hr V 1 hV (by decide) l E hx)
  have HX := Lib.hid hx
  have HLEN := Lib.hid (show z.s.length = z.L.length * 256 ∧ z.L.length ≤ 256 from ⟨hlen, hhi⟩)
  have e1 : ¬ (m : Int) < 0 := by omega
  have e2 : ¬ 4096 < (m : Int) := by omega
  have H0 := Lib.hid h
  clear h hR hr hx hrl hlen hhi hw
  go_enter Tryz.func74, Tryz.ntmps74
  go_upto_region 4 with (go_at_call 89; refine TK.out.mono ?_; rintro e w2 ⟨rfl, hw2⟩; rw [hw2]; clear hw2 w2)
  clear TK
  go_wp2_with fail
  go_loopg [11] (m + 2) (fun t v11 wr => ∃ (X : ByteArray), X.size ≤ m ∧ t = m + 2 - X.size ∧ v11 = .string X ∧ textX z r a (m + 1 - X.size) X.size X.data.toList = (T, E) ∧ Own w0 wr (Star (rpA rp rb fi z.L z.s) R))
  case atStart => exact ⟨⟨#[]⟩, Nat.zero_le _, rfl, rfl, HX.out, H0.out⟩
  case round =>
    clear H0 HX
    obtain ⟨X, hk, ht, rfl, hy, ho⟩ := hrel
    have HO := Lib.hid ho
    clear ho
    obtain ⟨k, hX⟩ : ∃ k, X.size = k := ⟨_, rfl⟩
    rw [hX] at hk ht hy
    have HXS := Lib.hid hX
    obtain ⟨F, hF⟩ : ∃ F, m + 1 - k = F + 1 := ⟨m - k, by omega⟩
    rw [hF, textX] at hy
    obtain ⟨V, hV⟩ : ∃ V, IntKind.u64.wrap (a + (k : Int)) = V := ⟨_, rfl⟩
    have hVb : 0 ≤ V ∧ V < 18446744073709551616 := by rw [← hV, IntKind.wrap_u64]; omega
    obtain ⟨v0, v1⟩ := hVb
    rw [hV] at hy
    have k1 : IntKind.u64.wrap (k : Int) = k := wrapU _ (by omega) (by omega)
    rcases WFU.out V v0 with ⟨q1, q2⟩ | ⟨f, t0, b, b0, b1, b2, b3, b4, b5, b6, q1, q2⟩
    · have hin : rinF z r V 1 0 [] = ([], 3) := by
        rw [rinF]; unfold okAt
        rw [show ((0 : Nat) : Int) = 0 from rfl, wrap_zero V v0 v1, q1]; rfl
      have IN := Lib.hid (INN.out wr HO.out V ⟨v0, by omega⟩ _ _ hin)
      rw [q1, decide_eq_false (by decide), cond_false] at hy
      injection hy with hy1 hy2
      subst hy1; subst hy2
      clear WFU q1 q2 INN hin
      go_wp2_with (go_at_call 72; refine IN.out.mono ?_; rintro e w3 ⟨rfl, h3⟩; have H3 := Lib.hid h3; clear h3)
      go_ret2
      exact ⟨rfl, H3.out⟩
    · obtain ⟨q, hq⟩ : ∃ q : Nat, f * 256 + (V % 256).toNat = q := ⟨_, rfl⟩
      rw [hq] at q2
      have hqb : q < z.s.length := by have := HLEN.out; omega
      obtain ⟨CB, hCB⟩ : ∃ x, z.s[q]'hqb = x := ⟨_, rfl⟩
      have hin : rinF z r V 1 0 [] = ([CB], 0) := by
        rw [rinF]; unfold okAt atAt
        rw [show ((0 : Nat) : Int) = 0 from rfl, wrap_zero V v0 v1, q1, q2, decide_eq_true rfl, cond_true, Int.toNat_natCast, List.getD_eq_getElem?_getD, List.getElem?_eq_getElem hqb, Option.getD_some, hCB]; rfl
      have IN0 := INN.out wr HO.out V ⟨v0, by omega⟩ _ _ hin
      rw [q1, q2, decide_eq_true rfl, cond_true, load_byte _ _ hqb, hCB] at hy
      obtain ⟨S, hS⟩ : ∃ S : ByteArray, (⟨[CB].toArray⟩ : ByteArray) = S := ⟨_, rfl⟩
      have hS1 : S.size = 1 := by rw [← hS]; rfl
      have hS0 : S[0]'(by omega) = CB := by subst hS; rfl
      have hSX : RowKit.Hid ((X ++ S).data.toList = X.data.toList ++ [CB]) := Lib.hid (by rw [← hS, ByteArray.data_append, Array.toList_append])
      rw [hS] at IN0
      have IN := Lib.hid IN0
      clear WFU q1 q2 INN hin hCB b0 b1 b2 b3 b4 b5 b6 hq IN0 hS
      by_cases hc0 : CB = 0
      · have hz0 : ((CB.toNat : Int)) = 0 := by rw [hc0]; rfl
        have hcb : ((CB.toNat : Int) == 0) = true := by rw [hz0]; rfl
        rw [hz0, decide_eq_true rfl, cond_true] at hy
        injection hy with hy1 hy2
        have hy3 : (⟨X.data.toList.toArray⟩ : ByteArray) = X := by simp
        rw [hy3] at hy1
        subst hy1; subst hy2
        clear hc0 hz0 hy3 hSX
        go_upto_region 8 with (go_at_call 72; refine IN.out.mono ?_; rintro e w3 ⟨rfl, h3⟩; have H3 := Lib.hid h3; clear h3)
        clear IN
        go_wp2_with fail
        go_ret2
        exact ⟨rfl, H3.out⟩
      · have hcn : ¬ ((CB.toNat : Int) = 0) := fun e => hc0 (by
          have : CB.toNat = 0 := by omega
          exact UInt8.toNat_inj.1 this)
        rw [decide_eq_false hcn, cond_false, Int.toNat_natCast, UInt8.ofNat_toNat] at hy
        have HY := Lib.hid hy
        have hcb : ((CB.toNat : Int) == 0) = false := by simpa using hcn
        clear hc0 hcn hy
        by_cases hlast : k = m
        · have hE : F = 0 := by omega
          subst hE
          have hy2 := HY.out
          rw [textX] at hy2
          injection hy2 with hy1 hy2
          subst hy1; subst hy2
          have l1 : ((k : Int) == (m : Int)) = true := by simp [hlast]
          clear HY hSX hlast hF
          go_upto_region 8 with (go_at_call 72; refine IN.out.mono ?_; rintro e w3 ⟨rfl, h3⟩; have H3 := Lib.hid h3; clear h3)
          clear IN
          go_wp2_with fail
          go_ret2
          exact ⟨rfl, H3.out⟩
        · have l1 : ((k : Int) == (m : Int)) = false := by
            have : ¬ (k : Int) = m := by omega
            simpa using this
          have hsz : X.size ≤ 4096 := by omega
          have hss : X.size + S.size ≤ 5000 := by omega
          go_upto_region 8 with (go_at_call 72; refine IN.out.mono ?_; rintro e w3 ⟨rfl, h3⟩; have H3 := Lib.hid h3; clear h3)
          clear IN
          go_wp2_with fail
          go_roundg (m + 2 - (k + 1))
          case measure => omega
          case rel =>
            have hXS : (X ++ S).size = k + 1 := by rw [ByteArray.size_append, HXS.out, hS1]
            refine ⟨X ++ S, by omega, by rw [hXS], rfl, ?_, H3.out⟩
            rw [hXS, hSX.out, show m + 1 - (k + 1) = F by omega]; exact HY.out
end Go.Proofs.YtbcnibnkojnpiaaGreat.P
