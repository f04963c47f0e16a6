/- Stage 11: the document's list of pages and tables is the program's way through a space, in another order; frames given back in whatever order. No condition. -/
import Derived.Test.YtbcnibnkojnpiaaGreatUC
import Derived.Test.YtbcnibnkojnpiaaGreatEV
import Derived.Test.YtbcnibnkojnpiaaGreatV5
set_option linter.unusedVariables false
set_option linter.unusedSimpArgs false
set_option maxRecDepth 100000
namespace Go.Proofs.YtbcnibnkojnpiaaGreat.P
open Go.RowKit Go.MuLone Go.Maps
def toPgr (it : It) : Pgr := ⟨it.n, (it.b : Int), it.f⟩
def pgI (l : List It) : List Pgr := (l.filter (fun it => decide (it.h = 0))).map toPgr
def tbIt (l : List It) : List Nat := (l.filter (fun it => !decide (it.h = 0))).map It.f
theorem pgI_app (a b : List It) : pgI (a ++ b) = pgI a ++ pgI b := by unfold pgI; rw [List.filter_append, List.map_append]
theorem tbIt_app (a b : List It) : tbIt (a ++ b) = tbIt a ++ tbIt b := by unfold tbIt; rw [List.filter_append, List.map_append]
theorem bit_cast (z : Sp) (t c : Nat) : ((T z t c % 32).toNat : Int) = T z t c % 32 := by omega
theorem il0_pages (z : Sp) (t n : Nat) : ∀ c, pgI (ilpF z t n (fun g m b => il z 0 g m b) c) = rqC z t n c ∧ tbIt (ilpF z t n (fun g m b => il z 0 g m b) c) = []
  | 0 => ⟨rfl, rfl⟩
  | c + 1 => by
    obtain ⟨h1, h2⟩ := il0_pages z t n c
    rw [ilpF, pgI_app, tbIt_app, h1, h2, rqC]
    unfold kidL
    cases kid z t c with
    | none => exact ⟨rfl, rfl⟩
    | some g =>
      refine ⟨?_, rfl⟩
      congr 1
      show [toPgr ⟨0, n * 32 + c, g, (T z t c % 32).toNat⟩] = _
      unfold toPgr
      rw [bit_cast]
theorem il1_is (z : Sp) (f n b : Nat) : pgI (il z 1 f n b) = rqC z f n 32 ∧ tbIt (il z 1 f n b) = [f] := by
  obtain ⟨h1, h2⟩ := il0_pages z f n 32
  rw [il, pgI_app, tbIt_app, h1, h2]
  exact ⟨List.append_nil _, rfl⟩
theorem il1_pages (z : Sp) (t n : Nat) : ∀ c, pgI (ilpF z t n (fun g m b => il z 1 g m b) c) = rqB z t n c ∧ tbIt (ilpF z t n (fun g m b => il z 1 g m b) c) = tbB z t c
  | 0 => ⟨rfl, rfl⟩
  | c + 1 => by
    obtain ⟨h1, h2⟩ := il1_pages z t n c
    rw [ilpF, pgI_app, tbIt_app, h1, h2, rqB, tbB]
    unfold kidL
    cases kid z t c with
    | none => exact ⟨rfl, rfl⟩
    | some g =>
      obtain ⟨k1, k2⟩ := il1_is z g (n * 32 + c) (T z t c % 32).toNat
      exact ⟨congrArg (rqB z t n c ++ ·) k1, congrArg (tbB z t c ++ ·) k2⟩
theorem il2_is (z : Sp) (f n b : Nat) : pgI (il z 2 f n b) = rqB z f n 32 ∧ tbIt (il z 2 f n b) = tbB z f 32 ++ [f] := by
  obtain ⟨h1, h2⟩ := il1_pages z f n 32
  rw [il, pgI_app, tbIt_app, h1, h2]
  exact ⟨List.append_nil _, rfl⟩
theorem il2_pages (z : Sp) (r : Nat) : ∀ c, pgI (ilpF z r 0 (fun g m b => il z 2 g m b) c) = rqA z r c ∧ (tbIt (ilpF z r 0 (fun g m b => il z 2 g m b) c)).Perm (tbA z r c)
  | 0 => ⟨rfl, List.Perm.refl _⟩
  | c + 1 => by
    obtain ⟨h1, h2⟩ := il2_pages z r c
    rw [ilpF, pgI_app, tbIt_app, h1, rqA, tbA]
    unfold kidL
    cases kid z r c with
    | none => exact ⟨rfl, h2.append (List.Perm.refl _)⟩
    | some g =>
      obtain ⟨k1, k2⟩ := il2_is z g (0 * 32 + c) (T z r c % 32).toNat
      refine ⟨?_, ?_⟩
      · show rqA z r c ++ pgI (il z 2 g (0 * 32 + c) (T z r c % 32).toNat) = _
        rw [k1, Nat.zero_mul, Nat.zero_add]
      · show (_ ++ tbIt (il z 2 g (0 * 32 + c) (T z r c % 32).toNat)).Perm _
        rw [k2]
        exact h2.append (List.perm_append_singleton g (tbB z g 32))
theorem ilR_pages (z : Sp) (r : Nat) : pgI (ilR z r) = rqA z r 32 ∧ (tbIt (ilR z r)).Perm (tbA z r 32 ++ [r]) := by
  obtain ⟨h1, h2⟩ := il2_pages z r 32
  unfold ilR
  rw [il, pgI_app, tbIt_app, h1]
  exact ⟨List.append_nil _, h2.append (List.Perm.refl _)⟩
/-- The frames that the document gives back. -/
def docF (z : Sp) (r : Nat) : List Nat := (rqA z r 32).map Pgr.f ++ (tbA z r 32 ++ [r])
theorem docF_perm (z : Sp) (r : Nat) : ((ilR z r).map It.f).Perm (docF z r) := by
  obtain ⟨h1, h2⟩ := ilR_pages z r
  have h3 : (((ilR z r).filter (fun it => decide (it.h = 0)) ++ (ilR z r).filter (fun it => !decide (it.h = 0))).map It.f).Perm ((ilR z r).map It.f) := (List.filter_append_perm _ _).map _
  rw [List.map_append] at h3
  refine h3.symm.trans (List.Perm.append ?_ h2)
  have : (rqA z r 32).map Pgr.f = ((ilR z r).filter (fun it => decide (it.h = 0))).map It.f := by
    rw [← h1]; unfold pgI; rw [List.map_map]; rfl
  rw [this]
theorem ilR_count (z : Sp) (r : Nat) : (ilR z r).length = (rqA z r 32).length + (tbA z r 32).length + 1 := by
  have := (docF_perm z r).length_eq
  rw [List.length_map] at this
  rw [this]; unfold docF
  simp only [List.length_append, List.length_map, List.length_singleton]; omega
theorem clear_get (s : List UInt8) (L f : Nat) (hs : s.length = L * 256) (hf : f < L) (i : Nat) : (clearS L s f)[i]? = if i / 256 = f then some 0 else s[i]? := by
  unfold clearS
  rw [if_pos (frB_t ⟨Int.natCast_nonneg f, Int.ofNat_lt.2 hf⟩), Int.toNat_natCast, putL_get _ _ _ (by rw [List.length_replicate, hs]; omega), List.length_replicate]
  by_cases h1 : i < f * 256
  · rw [if_pos h1, if_neg (by omega)]
  · rw [if_neg h1]
    by_cases h2 : i < f * 256 + 256
    · rw [if_pos h2, if_pos (by omega), List.getElem?_replicate, if_pos (by omega)]
    · rw [if_neg h2, if_neg (by omega)]
theorem give_is {fi : Nat} {z : Sp} {f : Nat} (ht : tknB z.L fi (f : Int) = true) : giveX fi f z = ⟨z.L.set f true, clearS z.L.length z.s f⟩ := by
  have eL : giveL z.L fi (f : Int) = z.L.set f true := by unfold giveL; rw [ht, Int.toNat_natCast]; rfl
  have eS : giveS z.L fi (f : Int) z.s = clearS z.L.length z.s f := by unfold giveS; rw [ht, Int.toNat_natCast]; rfl
  unfold giveX; rw [eL, eS]
theorem tkn_give {fi : Nat} {z : Sp} (hz : Sz z) {f g : Nat} (hf : tknB z.L fi (f : Int) = true) (hg : tknB z.L fi (g : Int) = true) (hne : g ≠ f) : tknB (giveX fi f z).L fi (g : Int) = true := by
  obtain ⟨a1, a2, a3, _, _⟩ := give_one hz hf
  obtain ⟨q1, q2, q3⟩ := tkn_nat hg
  refine tkn_iff.2 ⟨q1, by rw [a2]; exact q2, ?_⟩
  rw [a3, if_neg hne]; exact q3
theorem gvs_pt (fi : Nat) : ∀ (G : List Nat) (z : Sp), Sz z → G.Nodup → (∀ f, f ∈ G → tknB z.L fi (f : Int) = true) →
    (∀ i, (gvs fi G z).s[i]? = if i / 256 ∈ G then some 0 else z.s[i]?) ∧ (∀ k, (gvs fi G z).L[k]? = if k ∈ G then some true else z.L[k]?)
  | [], z, _, _, _ => ⟨fun i => by show z.s[i]? = _; simp, fun k => by show z.L[k]? = _; simp⟩
  | f :: G, z, hz, hn, ht => by
    rw [List.nodup_cons] at hn
    have hf := ht f (by simp)
    obtain ⟨a1, a2, a3, a4, a5⟩ := give_one hz hf
    obtain ⟨h1, h2, h3⟩ := tkn_nat hf
    obtain ⟨b1, b2⟩ := gvs_pt fi G (giveX fi f z) a1 hn.2 (fun g hg => tkn_give hz hf (ht g (by simp [hg])) (fun e => hn.1 (by rw [← e]; exact hg)))
    have e0 : gvs fi (f :: G) z = gvs fi G (giveX fi f z) := rfl
    rw [e0]
    refine ⟨fun i => ?_, fun k => ?_⟩
    · rw [b1, give_is hf]
      show (if i / 256 ∈ G then some 0 else (clearS z.L.length z.s f)[i]?) = _
      rw [clear_get _ _ _ hz.len h2]
      by_cases e : i / 256 = f
      · rw [if_pos e, e, if_pos (show f ∈ f :: G by simp)]; split <;> rfl
      · rw [if_neg e]; simp [e]
    · rw [b2, give_is hf]
      show (if k ∈ G then some true else (z.L.set f true)[k]?) = _
      rw [List.getElem?_set]
      by_cases e : f = k
      · subst e
        rw [if_pos rfl, if_pos h2, if_pos (show f ∈ f :: G by simp)]; split <;> rfl
      · rw [if_neg e]
        have : (k ∈ f :: G) ↔ k ∈ G := by simp [Ne.symm e]
        by_cases hk : k ∈ G
        · rw [if_pos hk, if_pos (this.2 hk)]
        · rw [if_neg hk, if_neg (fun h => hk (this.1 h))]
theorem sp_ext {x y : Sp} (h1 : x.L = y.L) (h2 : x.s = y.s) : x = y := by
  cases x; cases y; cases h1; cases h2; rfl
theorem gvs_same {fi : Nat} {z : Sp} (hz : Sz z) {G H : List Nat} (hp : G.Perm H) (hn : G.Nodup) (ht : ∀ f, f ∈ G → tknB z.L fi (f : Int) = true) : gvs fi G z = gvs fi H z := by
  obtain ⟨a1, a2⟩ := gvs_pt fi G z hz hn ht
  obtain ⟨b1, b2⟩ := gvs_pt fi H z hz (hp.nodup_iff.1 hn) (fun f hf => ht f (hp.mem_iff.2 hf))
  refine sp_ext (List.ext_getElem? fun k => ?_) (List.ext_getElem? fun i => ?_)
  · rw [a2, b2]
    by_cases e : k ∈ G
    · rw [if_pos e, if_pos (hp.mem_iff.1 e)]
    · rw [if_neg e, if_neg (fun h => e (hp.mem_iff.2 h))]
  · rw [a1, b1]
    by_cases e : i / 256 ∈ G
    · rw [if_pos e, if_pos (hp.mem_iff.1 e)]
    · rw [if_neg e, if_neg (fun h => e (hp.mem_iff.2 h))]
theorem free_doc {fi : Nat} {z : Sp} {own : Who} (h : WF fi z own) {r p j : Nat} (hr : own r = some (3, p, j)) : freeX fi z r = gvs fi (docF z r) z := by
  rw [free_is h hr]
  refine gvs_same h.sz (docF_perm z r) (ilR_nodup h hr) (fun f hf => ?_)
  obtain ⟨it, hm, rfl⟩ := List.mem_map.1 hf
  obtain ⟨_, p', j', e⟩ := ilR_own h hr hm
  exact h.tkn e
theorem docF_lt {fi : Nat} {z : Sp} {own : Who} (h : WF fi z own) {r p j : Nat} (hr : own r = some (3, p, j)) {f : Nat} (hf : f ∈ docF z r) : f < 256 := by
  obtain ⟨it, hm, rfl⟩ := List.mem_map.1 ((docF_perm z r).mem_iff.2 hf)
  obtain ⟨_, p', j', e⟩ := ilR_own h hr hm
  exact Nat.lt_of_lt_of_le (h.lt e).2.1 h.sz.hi
end Go.Proofs.YtbcnibnkojnpiaaGreat.P
namespace Go.Proofs.YtbcnibnkojnpiaaGreat.P
open Go.RowKit Go.MuLone Go.Maps
variable {w0 w : World} {rp rb fi : Nat} {z : Sp} {R : Asn} {own : Who}
theorem pgCells_of : ∀ (l : List Pgr) (k : Nat) (p : Pgr), l[k]? = some p → (pgCells l)[k * 3]? = some (.int .i64 (p.n : Int)) ∧ (pgCells l)[k * 3 + 1]? = some (.int .u64 p.b) ∧ (pgCells l)[k * 3 + 2]? = some (.int .i64 (p.f : Int))
  | [], k, p, h => by cases h
  | a :: l, 0, p, h => by
    obtain rfl : a = p := Option.some.inj h
    exact ⟨rfl, rfl, rfl⟩
  | a :: l, k + 1, p, h => by
    obtain ⟨h1, h2, h3⟩ := pgCells_of l k p h
    refine ⟨?_, ?_, ?_⟩
    · show (_ :: _ :: _ :: pgCells l)[(k + 1) * 3]? = _
      rw [show (k + 1) * 3 = k * 3 + 1 + 1 + 1 by omega, List.getElem?_cons_succ, List.getElem?_cons_succ, List.getElem?_cons_succ]; exact h1
    · show (_ :: _ :: _ :: pgCells l)[(k + 1) * 3 + 1]? = _
      rw [show (k + 1) * 3 + 1 = k * 3 + 1 + 1 + 1 + 1 by omega, List.getElem?_cons_succ, List.getElem?_cons_succ, List.getElem?_cons_succ]; exact h2
    · show (_ :: _ :: _ :: pgCells l)[(k + 1) * 3 + 2]? = _
      rw [show (k + 1) * 3 + 2 = k * 3 + 2 + 1 + 1 + 1 by omega, List.getElem?_cons_succ, List.getElem?_cons_succ, List.getElem?_cons_succ]; exact h3
theorem tbI_of (l : List Nat) (k f : Nat) (h : l[k]? = some f) : (tbI l)[k]? = some (.int .i64 (f : Int)) := by
  unfold tbI; rw [List.getElem?_map, h]; rfl
theorem row_some {w : World} {e : TypeId} {size n c : Nat} {o : Option Addr} {xs : List Value} (h : w.ownsRow 0 e size (.slice o n c) n xs) (hn : 0 < n) : ∃ g, o = some ⟨g, 0, none⟩ := by
  rcases Joins.ownsRow_forms h with ⟨h, h0⟩ | ⟨g, cap, h⟩
  · omega
  · injection h with h _; exact ⟨g, h⟩
theorem give_eta (fi : Nat) (x : Sp) (f : Int) : giveX fi f x = ⟨giveL x.L fi f, giveS x.L fi f x.s⟩ := rfl
set_option maxHeartbeats 3200000 in
theorem o_rfree (h : Own w0 w (Star (rpA rp rb fi z.L z.s) R)) (hR : Stable R) (hw : WF fi z own) {r p j : Nat} (hr : own r = some (3, p, j)) :
    Calls Tryz.prog 29 #[.pointer (some ⟨rp, 0, none⟩), .int .i64 (r : Int)] w fun e w' => e = .returned (.tuple #[]) ∧ Own w0 w' (Star (rpA rp rb fi (freeX fi z r).L (freeX fi z r).s) R) := by
  have HR := Lib.hid hR
  have HSP := Lib.hid (fun (x : Sp) => stable_rp rp rb fi x.L x.s)
  have PG := Lib.hid (o_rpages h hR hw hr)
  have hlen := rqA_len z r 32
  have htl := tbA_len z r 32
  have hlt : ∀ f, f ∈ docF z r → f < 256 := fun f hf => docF_lt hw hr hf
  have hfin : gvs fi (docF z r) z = freeX fi z r := (free_doc hw hr).symm
  unfold docF at hlt hfin
  obtain ⟨zE, hzE⟩ : ∃ y, freeX fi z r = y := ⟨_, rfl⟩
  rw [hzE] at hfin ⊢
  obtain ⟨l, hl⟩ : ∃ l, rqA z r 32 = l := ⟨_, rfl⟩
  obtain ⟨tb, htb⟩ : ∃ l, tbA z r 32 = l := ⟨_, rfl⟩
  rw [hl] at PG hlen hlt hfin
  rw [htb] at PG htl hlt hfin
  have HLT := Lib.hid hlt
  have HF := Lib.hid hfin
  have HL := Lib.hid (show l.length ≤ 32768 ∧ tb.length ≤ 2000 by omega)
  have hr256 : r < 256 := hlt r (by simp)
  clear h hR hw hr hlen htl hlt hfin hzE hl htb
  go_enter Tryz.func29, Tryz.ntmps29
  go_upto_region 1 with (go_at_call 12; refine PG.out.mono ?_; rintro e w1 ⟨o6, c6, o7, c7, rfl, h1⟩; have H1 := Lib.hid h1; clear h1)
  clear PG
  go_wp2_with fail
  go_loopg [6] (l.length + 1) (fun t v6 wr => ∃ (k : Nat) (x : Sp), k ≤ l.length ∧ t = l.length + 1 - k ∧ v6 = .int .i64 (k : Int) ∧ gvs fi ((l.drop k).map Pgr.f ++ (tb ++ [r])) x = zE ∧ Own w0 wr (Star (rpA rp rb fi x.L x.s) (Star (rowA 41 3 (.slice o6 l.length c6) l.length (pgCells l)) (Star (rowA 3 1 (.slice o7 tb.length c7) tb.length (tbI tb)) R))))
  case atStart => exact ⟨0, z, by omega, rfl, rfl, HF.out, H1.out⟩
  case round =>
    clear H1 HF
    obtain ⟨k, x, hk, rfl, rfl, hy, ho⟩ := hrel
    have HO := Lib.hid ho
    clear ho
    obtain ⟨hL1, hL2⟩ := HL.out
    have SB := Lib.hid (stable_star (stable_row 41 3 (.slice o6 l.length c6) l.length (pgCells l)) (stable_star (stable_row 3 1 (.slice o7 tb.length c7) tb.length (tbI tb)) HR.out))
    by_cases hlt : k < l.length
    · have m1 : (k : Int) < (l.length : Int) := by omega
      have m3 : 0 ≤ (k : Int) := by omega
      have m4 : (k : Int).toNat = k := by omega
      have e5 : IntKind.i64.wrap ((k : Int) + 1) = (k : Int) + 1 := wrapI _ (by omega) (by omega)
      have HROW := Lib.hid HO.out.right.row
      obtain ⟨g, hg⟩ := row_some HROW.out (by omega)
      subst hg
      obtain ⟨q, hq⟩ : ∃ q, l[k]? = some q := ⟨_, List.getElem?_eq_getElem hlt⟩
      have c0 : wr.cell? ⟨g, k * 3 + 2, none⟩ = some (.int .i64 (q.f : Int)) := by
        rw [World.ownsRow.cellAt HROW.out (k * 3 + 2) (by omega)]
        exact (pgCells_of l k q hq).2.2
      have hqf : q.f < 256 := HLT.out q.f (by simp only [List.mem_append, List.mem_map]; exact .inl ⟨q, List.mem_of_getElem? hq, rfl⟩)
      rw [List.drop_eq_getElem?_toList_append, hq] at hy
      have HY := Lib.hid (show gvs fi ((l.drop (k + 1)).map Pgr.f ++ (tb ++ [r])) (giveX fi q.f x) = zE from hy)
      have GV := Lib.hid (o_qgive HO.out SB.out (q.f : Int) _ _ _ rfl rfl rfl)
      clear HROW hq hy
      generalize q.f = qf at *
      go_wp2_with (go_at_call 67; refine GV.out.mono ?_; rintro e w3 ⟨rfl, h3⟩; have H3 := Lib.hid h3; clear h3)
      go_roundg (l.length + 1 - (k + 1))
      case measure => omega
      case rel => exact ⟨k + 1, giveX fi qf x, by omega, rfl, by go_num, HY.out, H3.out⟩
    · have m1 : ¬ (k : Int) < (l.length : Int) := by omega
      rw [List.drop_eq_nil_of_le (by omega)] at hy
      have HF := Lib.hid (show gvs fi ((tb.drop 0) ++ [r]) x = zE from hy)
      clear hy
      go_wp2_with fail
      go_loopg [7] (tb.length + 1) (fun t v7 wr => ∃ (k : Nat) (x : Sp), k ≤ tb.length ∧ t = tb.length + 1 - k ∧ v7 = .int .i64 (k : Int) ∧ gvs fi (tb.drop k ++ [r]) x = zE ∧ Own w0 wr (Star (rpA rp rb fi x.L x.s) (Star (rowA 41 3 (.slice o6 l.length c6) l.length (pgCells l)) (Star (rowA 3 1 (.slice o7 tb.length c7) tb.length (tbI tb)) R))))
      case atStart => exact ⟨0, x, by omega, rfl, rfl, HF.out, HO.out⟩
      case round =>
        clear HO HF m1 hlt hk
        obtain ⟨k, x, hk, rfl, rfl, hy, ho⟩ := hrel
        have HO := Lib.hid ho
        clear ho
        by_cases hlt : k < tb.length
        · have m1 : (k : Int) < (tb.length : Int) := by omega
          have m3 : 0 ≤ (k : Int) := by omega
          have m4 : (k : Int).toNat = k := by omega
          have e5 : IntKind.i64.wrap ((k : Int) + 1) = (k : Int) + 1 := wrapI _ (by omega) (by omega)
          have HROW := Lib.hid HO.out.right.right.row
          obtain ⟨g, hg⟩ := row_some HROW.out (by omega)
          subst hg
          obtain ⟨q, hq⟩ : ∃ q, tb[k]? = some q := ⟨_, List.getElem?_eq_getElem hlt⟩
          have c0 : wr.cell? ⟨g, k, none⟩ = some (.int .i64 (q : Int)) := by
            rw [World.ownsRow.cellAt HROW.out k (by omega)]
            exact tbI_of tb k q hq
          have hqf : q < 256 := HLT.out q (by simp only [List.mem_append]; exact .inr (.inl (List.mem_of_getElem? hq)))
          rw [List.drop_eq_getElem?_toList_append, hq] at hy
          have HY := Lib.hid (show gvs fi (tb.drop (k + 1) ++ [r]) (giveX fi q x) = zE from hy)
          have GV := Lib.hid (o_qgive HO.out SB.out (q : Int) _ _ _ rfl rfl rfl)
          clear HROW hq hy
          go_wp2_with (go_at_call 67; refine GV.out.mono ?_; rintro e w3 ⟨rfl, h3⟩; have H3 := Lib.hid h3; clear h3)
          go_roundg (tb.length + 1 - (k + 1))
          case measure => omega
          case rel => exact ⟨k + 1, giveX fi q x, by omega, rfl, by go_num, HY.out, H3.out⟩
        · have m1 : ¬ (k : Int) < (tb.length : Int) := by omega
          rw [List.drop_eq_nil_of_le (by omega)] at hy
          have HY : giveX fi r x = zE := hy
          have GV := Lib.hid (o_qgive HO.out SB.out (r : Int) _ _ _ rfl rfl rfl)
          clear hy
          subst HY
          go_wp2_with (go_at_call 67; refine GV.out.mono ?_; rintro e w3 ⟨rfl, h3⟩; have H3 := Lib.hid h3; clear h3)
          go_end0
          exact ⟨rfl, H3.out.right.right.right |> fun _ => (Own.drop2 (Own.drop2 H3.out))⟩
end Go.Proofs.YtbcnibnkojnpiaaGreat.P
namespace Go.Proofs.YtbcnibnkojnpiaaGreat.P
open Go.RowKit Go.MuLone Go.Maps
/-- Where the entry of a page stands that was mapped just now. -/
theorem map_leaf {fi : Nat} {x : Sp} {ownx : Who} (h : WF fi x ownx) {to_ p j P b : Nat} (ht : ownx to_ = some (3, p, j)) (hE : mapE fi x to_ P b = 0) :
    P < 32768 ∧ b % 2 = 1 ∧ b < 32 ∧ ∃ (g : Nat) (leaf : Int), g < 256 ∧ leafV (mapX fi x to_ P b).L.length (mapX fi x to_ P b).s to_ ((P : Int) * 256) = leaf ∧ 0 ≤ leaf ∧ leaf < 65536 ∧ loadV (mapX fi x to_ P b).s leaf 8 = ((g * 1024 + b : Nat) : Int) ∧
      ∀ f : Int, copyPg fi to_ P f b x = ⟨(mapX fi x to_ P b).L, copyS (mapX fi x to_ P b).L.length (mapX fi x to_ P b).s (g : Int) f⟩ := by
  have hbad : mapBad fi x to_ P b = false := by
    cases q : mapBad fi x to_ P b with
    | false => rfl
    | true => unfold mapE at hE; rw [q, cond_true] at hE; cases hE
  have hth : mapThere x to_ P = false := by
    cases q : mapThere x to_ P with
    | false => rfl
    | true => unfold mapE at hE; rw [hbad, cond_false, q, cond_true] at hE; cases hE
  have hlf : mapMiss x to_ P < leftX fi x := by
    cases q : decide (leftX fi x ≤ mapMiss x to_ P) with
    | false => have := of_decide_eq_false q; omega
    | true => unfold mapE at hE; rw [hbad, cond_false, hth, cond_false, q, cond_true] at hE; cases hE
  obtain ⟨hP, hb1, hb2⟩ : P < 32768 ∧ b % 2 = 1 ∧ b < 32 := by
    unfold mapBad at hbad
    simp only [Bool.or_eq_false_iff, decide_eq_false_iff_not] at hbad
    omega
  have hno : pth x to_ 3 P = none := by
    rw [there_eq h ht hP] at hth
    cases q : pth x to_ 3 P with
    | none => rfl
    | some f => rw [q] at hth; cases hth
  obtain ⟨_, own', g1, is1, left1, t0, g, u1, u2, u3, u4⟩ := map_ok h ht hP hb1 hb2 hno hlf
  refine ⟨hP, hb1, hb2, ?_⟩
  have hox' := g1.old _ _ ht
  obtain ⟨leaf, hleaf⟩ : ∃ leaf, leafV (mapX fi x to_ P b).L.length (mapX fi x to_ P b).s to_ ((P : Int) * 256) = leaf := ⟨_, rfl⟩
  have hlv : leaf = ((t0 * 256 + P % 32 * 8 : Nat) : Int) := by
    rcases leaf_tab g1.wf hox' hP with ⟨w1, _⟩ | ⟨t1, _, w2, _⟩ | ⟨t1, t0', _, w2, _, w4⟩
    · have := pth_pre' (z := mapX fi x to_ P b) (r := to_) (d := 1) (m := P / 32) (by rw [show P / 32 / 32 = P / 1024 by omega]; exact w1)
      have this : pth (mapX fi x to_ P b) to_ 2 (P / 32) = none := this
      exact absurd (this.symm.trans u1) (by simp)
    · exact absurd (w2.symm.trans u1) (by simp)
    · have w5 : t0' = t0 := Option.some.inj (w2.symm.trans u1)
      rw [← hleaf, w4, w5]
  obtain ⟨c1, c2, hot⟩ := pth_high g1.wf hox' (show 2 ≤ 3 by decide) u1
  have htl := g1.wf.lt hot
  have hgl := g1.wf.lt u4
  have hhi := g1.wf.sz.hi
  have hent : entS (mapX fi x to_ P b).s leaf = ((g * 1024 + b : Nat) : Int) := by rw [hlv]; exact u2
  have hlen1 := g1.wf.sz.len
  have hin : leaf + 8 ≤ ((mapX fi x to_ P b).s.length : Int) := by
    rw [hlen1, hlv]; exact place_in t0 P _ htl.2.1
  have hval : validB (mapX fi x to_ P b).s leaf = true := by
    have hod : ((g * 1024 + b : Nat) : Int) % 2 = 1 := by omega
    unfold validB
    rw [hent, decide_eq_true hin, decide_eq_true hod]; rfl
  have hvf : validF (mapX fi x to_ P b).s leaf = (g : Int) := by
    unfold validF
    rw [hval, cond_true, hent]; omega
  refine ⟨g, leaf, by omega, hleaf, by omega, by rw [hlv]; omega, hent, fun f => ?_⟩
  unfold copyPg
  simp only [hleaf, hval, hvf, cond_true]
def cpF (fi to_ : Nat) (x : Sp) (it : It) : Sp := copyPg fi to_ it.n it.f it.b x
theorem copyJ_filter {fi : Nat} {z : Sp} {own : Who} {r to_ : Nat} {pre A : List It} {x : Sp} {ownx : Who} (h : CopyJ fi z own r to_ pre x ownx) (hA : ∀ i : It, i.h = 0 → (i ∈ pre ↔ i ∈ A)) : CopyJ fi z own r to_ A x ownx := by
  refine ⟨h.grw, fun d m h1 h2 h3 => ?_, h.left⟩
  rw [h.is d m h1 h2 h3]
  apply decide_eq_decide.2
  constructor
  · rintro ⟨i, hi, e1, e2⟩; exact ⟨i, (hA i e1).1 hi, e1, e2⟩
  · rintro ⟨i, hi, e1, e2⟩; exact ⟨i, (hA i e1).2 hi, e1, e2⟩
theorem pgs_split {z : Sp} {r : Nat} {A B : List It} {it : It} (h : pgs z r = A ++ it :: B) : it.h = 0 ∧ ∃ pre post, ilR z r = pre ++ it :: post ∧ ∀ i : It, i.h = 0 → (i ∈ pre ↔ i ∈ A) := by
  unfold pgs at h
  obtain ⟨l1, l2, e1, e2, e3⟩ := List.filter_eq_append_iff.1 h
  obtain ⟨m1, m2, f1, f2, f3, f4⟩ := List.filter_eq_cons_iff.1 e3
  refine ⟨of_decide_eq_true f3, l1 ++ m1, m2, by rw [e1, f1, List.append_assoc], fun i hi => ?_⟩
  rw [← e2, List.mem_append, List.mem_filter]
  constructor
  · rintro (q | q)
    · exact ⟨q, decide_eq_true hi⟩
    · exact absurd (decide_eq_true hi) (f2 i q)
  · rintro ⟨q, _⟩; exact .inl q
/-- The program's Copy is the pages copied one behind the other. -/
theorem copy_start {fi : Nat} {z : Sp} {own : Who} (h : WF fi z own) {r p j : Nat} (hr : own r = some (3, p, j)) (hge : ((ilR z r).length : Int) ≤ leftX fi z) :
    ∃ (to_ : Nat) (own1 : Who), takeN z.L fi = (to_ : Int) ∧ takeE z.L fi = 0 ∧ to_ < 256 ∧ WF fi (takeX fi z) own1 ∧ own1 to_ = some (3, 0, 0) ∧ own1 r = some (3, p, j) ∧ pgs (takeX fi z) r = pgs z r ∧
      CopyJ fi (takeX fi z) own1 r to_ [] (takeX fi z) own1 ∧ copyZ fi (takeX fi z) r to_ = (pgs z r).foldl (cpF fi to_) (takeX fi z) ∧ ((ilR (takeX fi z) r).length : Int) ≤ leftX fi (takeX fi z) + 1 ∧
      (∀ f v, own f = some v → own1 f = some v) ∧ own to_ = none ∧ (∀ f, own f = none → f ≠ to_ → own1 f = none) := by
  have hlen : 1 ≤ (ilR z r).length := by unfold ilR; rw [il, List.length_append]; simp
  have htb : takeB z.L fi = true := (left_take h.fle).2 (by omega)
  obtain ⟨to_, e0, hlt, hn, hw1, hT1⟩ := wf_new h htb
  obtain ⟨_, _, _, _, _, ete, _⟩ := take_b htb
  have hrt : r ≠ to_ := fun e => by rw [e, hn] at hr; cases hr
  have hr1 : upd own to_ (3, 0, 0) r = some (3, p, j) := by unfold upd; rw [if_neg hrt]; exact hr
  have hto : upd own to_ (3, 0, 0) to_ = some (3, 0, 0) := by unfold upd; rw [if_pos rfl]
  have hup : ∀ f v, own f = some v → upd own to_ (3, 0, 0) f = some v := fun f v e => by
    unfold upd; rw [if_neg (fun e2 => by rw [e2, hn] at e; cases e)]; exact e
  have hTt : ∀ f hh p j, own f = some (hh + 1, p, j) → ∀ k, k < 32 → T (takeX fi z) f k = T z f k := fun f hh p j e k hk => by
    rw [hT1 f k (h.lt e).2.1 hk, if_neg (fun e2 => by rw [e2, hn] at e; cases e)]
  have hil : ilR (takeX fi z) r = ilR z r := il_congr h hr (fun f hh p j e _ k hk => hTt f hh p j e k hk) 3 r 0 0 p j (Nat.le_refl _) hr (.top hr)
  have hl1 : leftX fi (takeX fi z) = leftX fi z - 1 := left_taken htb
  have hfresh : ∀ k, k < 32 → T (takeX fi z) to_ k = 0 := fun k hk => by rw [hT1 to_ k hlt hk, if_pos rfl]
  have start : CopyJ fi (takeX fi z) (upd own to_ (3, 0, 0)) r to_ [] (takeX fi z) (upd own to_ (3, 0, 0)) := by
    refine ⟨Grw.refl hw1 to_, fun d m h1 h2 h3 => ?_, ?_⟩
    · obtain ⟨d', rfl⟩ : ∃ d', d = d' + 1 := ⟨d - 1, by omega⟩
      rw [pth_fresh hfresh, decide_eq_false (by rintro ⟨i, hi, _⟩; cases hi)]; rfl
    · have : (ilR (takeX fi z) r).countP (pres (takeX fi z) to_) = 0 := by
        rw [List.countP_eq_zero]
        intro i _ hp
        unfold pres at hp
        by_cases e : i.h < 3
        · obtain ⟨d', hd'⟩ : ∃ d', 3 - i.h = d' + 1 := ⟨2 - i.h, by omega⟩
          rw [hd', pth_fresh hfresh] at hp
          simp at hp
        · rw [decide_eq_false e] at hp; simp at hp
      rw [this]; simp
  have hle2 : ((ilR (takeX fi z) r).length : Int) ≤ leftX fi (takeX fi z) + 1 := by rw [hil, hl1]; omega
  have key := fold_ilR (X := Sp) (rd := id) (pg := fun n f g x => copyPg fi (to_ : Int) n f g x) (tb := fun _ x => x) hw1 hr1 (fun pre x => ∃ ownx, CopyJ fi (takeX fi z) (upd own to_ (3, 0, 0)) r to_ pre x ownx) (fun pre it post x ha hj => by
    obtain ⟨ownx, hj⟩ := hj
    unfold actI
    by_cases e : it.h = 0
    · rw [if_pos e]
      exact (copy_step hw1 hr1 hto hle2 ha hj e).2
    · rw [if_neg e]
      refine ⟨ownx, copyJ_filter hj (fun i hi => ⟨fun q => List.mem_append_left _ q, fun q => ?_⟩)⟩
      rcases List.mem_append.1 q with q | q
      · exact q
      · rcases List.mem_singleton.1 q with rfl; exact absurd hi e) (fun pre post x ha hj => by
    obtain ⟨ownx, hj⟩ := hj
    refine ⟨by show x.s.length = _; rw [hj.grw.wf.sz.len, hj.grw.len, hw1.sz.len], fun it hm => ?_⟩
    obtain ⟨hu, p', j', e⟩ := ilR_own hw1 hr1 (it := it) (by rw [ha]; exact List.mem_append_right _ hm)
    refine ⟨fun h1 k hk => ?_, hj.grw.wf.tkn (hj.grw.old _ _ e)⟩
    refine hj.grw.tab it.f (it.h - 1) p' j' (by rw [show it.h - 1 + 1 = it.h by omega]; exact e) (fun hu2 => ?_) k hk
    exact hrt (und_unique hw1 hu hu2)) (takeX fi z) ⟨_, start⟩
  have hpg : pgs (takeX fi z) r = pgs z r := by unfold pgs; rw [hil]
  have hf : ∀ (l : List It) (x : Sp), l.foldl (actI (fun n f g x => copyPg fi (to_ : Int) n f g x) (fun _ x => x)) x = (l.filter fun it => decide (it.h = 0)).foldl (cpF fi to_) x := by
    intro l
    induction l with
    | nil => intro x; rfl
    | cons a l ih =>
      intro x
      rw [List.foldl_cons, List.filter_cons]
      by_cases e : a.h = 0
      · rw [if_pos (decide_eq_true e), List.foldl_cons, ih]
        unfold actI; rw [if_pos e]; rfl
      · rw [if_neg (by simp [e]), ih]
        unfold actI; rw [if_neg e]
  refine ⟨to_, upd own to_ (3, 0, 0), e0, ete, Nat.lt_of_lt_of_le hlt h.sz.hi, hw1, hto, hr1, hpg, start, ?_, hle2, hup, hn, fun f hf hne => by unfold upd; rw [if_neg hne]; exact hf⟩
  unfold copyZ
  rw [key.1, hf, ← hpg]; rfl
end Go.Proofs.YtbcnibnkojnpiaaGreat.P
