/- Stage 11: all bytes of a space that may be read. No condition. -/
import Derived.Test.YtbcnibnkojnpiaaGreatVH
set_option linter.unusedVariables false
set_option linter.unusedSimpArgs false
set_option maxRecDepth 100000
namespace Go.Proofs.YtbcnibnkojnpiaaGreat.P
open Go.RowKit Go.MuLone Go.Maps Go.Proofs.YtbcnibnkojnpiaaGreat.W
theorem pages_rq2 {fi : Nat} {z : Sp} {own : Who} (h : WF fi z own) {r p j : Nat} (hr : own r = some (3, p, j)) : (pagesX fi z r).2 = (rqA z r 32).map fun q => (q.n : Int) := by
  rw [pages_is h hr, rq_pgs, List.map_map]; rfl
theorem rq_lt (z : Sp) (r : Nat) : ∀ q, q ∈ rqA z r 32 → q.n < 32768 := fun q hq => by
  obtain ⟨a, b, c, g, t, f, ha, hb, hc, _, _, _, rfl⟩ := (page_mem z r q).1 hq
  show (a * 32 + b) * 32 + c < 32768
  omega
set_option maxHeartbeats 3200000 in
theorem c_allF {w0 w : World} {pb b : Nat} {z : Sp} {R : Asn} (h : Own w0 w (Star (plA pb b 0 z.L z.s) R)) (hR : Stable R) {own : Who} (hw : WF 0 z own) {r p j : Nat} (hr : own r = some (3, p, j)) :
    Calls Tryz.prog 14 #[.pointer (some ⟨pb, 0, none⟩), .int .i64 (r : Int)] w fun e w' => e = .returned (.string (allF z r)) ∧ Own w0 w' (Star (plA pb b 0 z.L z.s) R) := by
  have hrl := (hw.lt hr).2.1
  have hhi := hw.sz.hi
  have ri : i64 (r : Int) := ⟨by omega, by omega⟩
  have HR := Lib.hid hR
  have SPL := Lib.hid (stable_pl pb b 0 z.L z.s)
  have PG := Lib.hid (o_pages h hR (r : Int) ri (hw.tkn hr))
  have INN := Lib.hid (fun w1 Q (hQ : Stable Q) (h : Own w0 w1 (Star (plA pb b 0 z.L z.s) Q)) (V : Int) (hV : u64 V) v e hv he => o_in h hQ (r : Int) V 256 ri hV v e hv he)
  have ISZ := Lib.hid (fun a => inV_size hw hr a)
  have hpq := pages_rq2 hw hr
  have hlt := rq_lt z r
  have hlen := rqA_len z r 32
  have hfin : allK z r (rqA z r 32) ⟨#[]⟩ = allF z r := rfl
  obtain ⟨AF, hAF⟩ : ∃ x, allF z r = x := ⟨_, rfl⟩
  rw [hAF] at hfin ⊢
  obtain ⟨l, hl⟩ : ∃ l, rqA z r 32 = l := ⟨_, rfl⟩
  obtain ⟨al, hal⟩ : ∃ l, (pagesX 0 z r).2 = l := ⟨_, rfl⟩
  rw [hl] at hpq hlen hlt hfin
  rw [hal] at PG hpq
  have hall : al.length = l.length := by rw [hpq, List.length_map]
  unfold PagesP at PG
  rw [hall] at PG
  obtain ⟨LL, hLL⟩ : ∃ n, l.length = n := ⟨_, rfl⟩
  rw [hLL] at PG hlen
  have HLL := Lib.hid hLL
  have HAL := Lib.hid hpq
  have HF := Lib.hid hfin
  have HLT := Lib.hid hlt
  clear h hR hw hr hrl hhi ri hpq hlt hfin hAF hl hal hall hLL
  go_enter Tryz.func14, Tryz.ntmps14
  go_upto_region 2 with (go_at_call 11; refine PG.out.mono ?_; rintro e w5 ⟨o5, c5, rfl, h5⟩; have H5 := Lib.hid h5; clear h5)
  clear PG
  have SB := Lib.hid (stable_star (stable_row 3 1 (.slice o5 LL c5) LL (ints al)) HR.out)
  go_wp2_with fail
  go_loopg [7, 8] (LL + 1) (fun t v7 v8 wr => ∃ (k : Nat) (X : ByteArray), k ≤ LL ∧ X.size ≤ k * 256 ∧ t = LL + 1 - k ∧ v7 = .string X ∧ v8 = .int .i64 (k : Int) ∧ allK z r (l.drop k) X = AF ∧ Own w0 wr (Star (plA pb b 0 z.L z.s) (Star (rowA 3 1 (.slice o5 LL c5) LL (ints al)) R)))
  case atStart => exact ⟨0, ⟨#[]⟩, by omega, by decide, rfl, rfl, rfl, HF.out, H5.out⟩
  case round =>
    clear H5 HF
    obtain ⟨k, X, hk, hX, rfl, rfl, rfl, hy, ho⟩ := hrel
    have HO := Lib.hid ho
    clear ho
    by_cases hlt : k < LL
    · have m1 : (k : Int) < (LL : Int) := by omega
      have m3 : 0 ≤ (k : Int) := by omega
      have m4 : (k : Int).toNat = k := by omega
      have e5 : IntKind.i64.wrap ((k : Int) + 1) = (k : Int) + 1 := wrapI _ (by omega) (by omega)
      have HROW := Lib.hid HO.out.right.row
      obtain ⟨g, hg⟩ := row_some HROW.out (by omega)
      subst hg
      obtain ⟨q, hq⟩ : ∃ q, l[k]? = some q := ⟨_, List.getElem?_eq_getElem (by rw [HLL.out]; exact hlt)⟩
      have c0 : wr.cell? ⟨g, k, none⟩ = some (.int .i64 (q.n : Int)) := by
        rw [World.ownsRow.cellAt HROW.out k (by omega), HAL.out]
        unfold ints
        rw [List.getElem?_map, List.getElem?_map, hq]; rfl
      have hqn := HLT.out q (List.mem_of_getElem? hq)
      rw [List.drop_eq_getElem?_toList_append, hq] at hy
      have hy2 : allK z r (l.drop (k + 1)) (X ++ inV 0 z r ((q.n : Int) * 256) 256) = AF := hy
      obtain ⟨P, hP⟩ : ∃ P, q.n = P := ⟨_, rfl⟩
      rw [hP] at hy2 c0 hqn
      obtain ⟨Y, hY⟩ : ∃ Y, inV 0 z r ((P : Int) * 256) 256 = Y := ⟨_, rfl⟩
      have hYs : Y.size ≤ 256 := by rw [← hY]; exact ISZ.out _
      obtain ⟨E, hE⟩ : ∃ Y, inE 0 z r (256 * (P : Int)) 256 = Y := ⟨_, rfl⟩
      have IN := Lib.hid (INN.out wr _ SB.out HO.out (256 * (P : Int)) ⟨by omega, by omega⟩ Y E (by rw [Int.mul_comm]; exact hY) hE)
      rw [hY] at hy2
      have HY := Lib.hid hy2
      have e6 : IntKind.i64.wrap (256 * (P : Int)) = 256 * (P : Int) := wrapI _ (by omega) (by omega)
      have e7 : IntKind.u64.wrap (256 * (P : Int)) = 256 * (P : Int) := wrapU _ (by omega) (by omega)
      have hXY : X.size + Y.size ≤ 9000000 := by omega
      have hX9 : X.size ≤ 9000000 := by omega
      have HXY := Lib.hid (show X.size + Y.size ≤ (k + 1) * 256 by omega)
      clear hY hE hq hy hy2 HROW hP hYs hX
      go_wp2_with (go_at_call 17; refine IN.out.mono ?_; rintro e w6 ⟨rfl, h6⟩; have H6 := Lib.hid h6; clear h6)
      go_roundg (LL + 1 - (k + 1))
      case measure => omega
      case rel => exact ⟨k + 1, X ++ Y, by omega, by rw [ByteArray.size_append]; exact HXY.out, rfl, rfl, by go_num, HY.out, H6.out⟩
    · obtain rfl : k = LL := by omega
      rw [List.drop_eq_nil_of_le (by rw [HLL.out]; exact Nat.le_refl _)] at hy
      have hy2 : X = AF := hy
      subst hy2
      have m1 : ¬ (k : Int) < (k : Int) := by omega
      clear hy hX
      go_wp2_with fail
      go_ret
      exact ⟨rfl, HO.out.drop2⟩
end Go.Proofs.YtbcnibnkojnpiaaGreat.P
