/- Stage 8: what Read puts together. No condition. -/
import Derived.Test.YtlpcccpagmipnaaGreatWI
import Derived.Test.YtlpcccpagmipnaaGreatI8
import Derived.Deep.AppendLies
set_option linter.unusedVariables false
set_option linter.unusedSimpArgs false
set_option maxRecDepth 100000
namespace Go.Proofs.YtlpcccpagmipnaaGreat.P
open Go.RowKit Go.ChangeMaps Go.MapKept
/-- The first m bytes from off on. -/
def rdL (W : Nat → List UInt8) (secs : List Nat) (off m : Nat) : List UInt8 := (List.range m).map fun j => (W (secs.getD ((off + j) / 64) 0)).getD ((off + j) % 64) 0
theorem rdL_len (W : Nat → List UInt8) (secs : List Nat) (off m : Nat) : (rdL W secs off m).length = m := by unfold rdL; rw [List.length_map, List.length_range]
theorem rdL_app (W : Nat → List UInt8) (secs : List Nat) (off a b : Nat) : rdL W secs off (a + b) = rdL W secs off a ++ rdL W secs (off + a) b := by
  unfold rdL
  rw [List.range_add, List.map_append, List.map_map]
  congr 1
  apply List.map_congr_left
  intro j _
  show (W (secs.getD ((off + (a + j)) / 64) 0)).getD ((off + (a + j)) % 64) 0 = _
  rw [Nat.add_assoc]
theorem rdL_row {W : Nat → List UInt8} {secs : List Nat} {p fr t : Nat} (hl : (W (secs.getD p 0)).length = 64) (h1 : fr ≤ t) (h2 : t ≤ 64) : rdL W secs (64 * p + fr) (t - fr) = ((W (secs.getD p 0)).drop fr).take (t - fr) := by
  apply byL_ext
  · rw [rdL_len, List.length_take, List.length_drop, hl]; omega
  · intro j hj
    rw [rdL_len] at hj
    rw [byL_take hj, byL_drop]
    unfold byL rdL
    rw [List.getD_eq_getElem?_getD, List.getElem?_map, List.getElem?_range hj]
    show ((W (secs.getD ((64 * p + fr + j) / 64) 0)).getD ((64 * p + fr + j) % 64) 0).toNat = _
    rw [show (64 * p + fr + j) / 64 = p by omega, show (64 * p + fr + j) % 64 = fr + j by omega]
theorem rdL_step {W : Nat → List UInt8} {secs : List Nat} {off en p : Nat} (hl : (W (secs.getD p 0)).length = 64) (h1 : off / 64 ≤ p) (h2 : 64 * p < en) (h3 : off ≤ en) :
    rdL W secs off (min (64 * p) en - off) ++ ((W (secs.getD p 0)).drop (off - 64 * p)).take (min (en - 64 * p) 64 - (off - 64 * p)) = rdL W secs off (min (64 * (p + 1)) en - off) := by
  have hm : min (64 * (p + 1)) en - off = (min (64 * p) en - off) + (min (en - 64 * p) 64 - (off - 64 * p)) := by omega
  rw [hm, rdL_app, ← rdL_row hl (by omega) (by omega)]
  congr 2
  omega
theorem rdL_dat {V : Nat → List UInt8} {a : FA} {off m : Nat} (h : off + m ≤ a.size) : rdL V a.secs off m = ((datA V a).drop off).take m := by
  apply byL_ext
  · rw [rdL_len, List.length_take, List.length_drop, datA_len]; omega
  · intro j hj
    rw [rdL_len] at hj
    rw [byL_take hj, byL_drop, byL_datA V a (by omega)]
    unfold byL rdL
    rw [List.getD_eq_getElem?_getD, List.getElem?_map, List.getElem?_range hj]; rfl
theorem rdL_congr (W : Nat → List UInt8) {l m : List Nat} (h : ∀ j, l.getD j 0 = m.getD j 0) (off k : Nat) : rdL W l off k = rdL W m off k := by
  unfold rdL
  apply List.map_congr_left
  intro j _
  rw [h]
theorem conv_row {w : World} {o : Option Addr} {c : Nat} {l : List UInt8} (h : w.ownsRow 0 5 1 (.slice o l.length c) l.length (Lib.byteCells l)) :
    (convert 87 9 (.slice o l.length c)).run Tryz.prog w = .ok (.string ⟨l.toArray⟩) w := by
  rcases h.2 with ⟨hv, h0⟩ | ⟨g, cap, cur, hv, hb, hg, k⟩
  · have e0 := List.eq_nil_of_length_eq_zero h0
    subst e0
    injection hv with hv1 hv2 hv3
    subst hv1; subst hv3
    exact run_convert_bytes_nil (P := Tryz.prog) w 87 5 Tryz.underlying87 Tryz.underlying5 0 0 9 Tryz.underlying9
  · injection hv with hv1 hv2 hv3
    subst hv1; subst hv3
    have := Go.Lib.run_convert_whole (P := Tryz.prog) w 87 5 9 Tryz.underlying87 Tryz.underlying5 Tryz.underlying9 g 0 ⟨l.toArray⟩ (fun i hi => by
      have hi2 : i < l.length := by
        have e : (⟨l.toArray⟩ : ByteArray).size = l.length := List.size_toArray
        omega
      have h3 := h.cells (g := g) rfl i (.int .u8 (l[i]'hi2).toNat) (by
        rw [Lib.byteCells, List.getElem?_map, List.getElem?_eq_getElem hi2]; rfl)
      rw [show ((⟨l.toArray⟩ : ByteArray)[i]'hi) = l[i]'hi2 from rfl]
      rw [Addr.add_lit] at h3
      exact h3) c
    exact this
abbrev byA (o : Option Addr) (c : Nat) (l : List UInt8) : Asn := rowA 5 1 (.slice o l.length c) l.length (Lib.byteCells l)
/-- A variable that holds bytes. -/
def outA (K : Nat) (l : List UInt8) : Asn := fun w F => ∃ o c, Star (blkA K (.cells #[.slice o l.length c] 87)) (byA o c l) w F
theorem stable_out (K : Nat) (l : List UInt8) : Stable (outA K l) := fun w w' F G ⟨o, c, h⟩ hc hd => ⟨o, c, stable_star (stable_blk _ _) (stable_row _ _ _ _ _) w w' F G h hc hd⟩
theorem Own.outOpen {w0 w : World} {K : Nat} {l : List UInt8} {R : Asn} (h : Own w0 w (Star (outA K l) R)) : ∃ o c, Own w0 w (Star (blkA K (.cells #[.slice o l.length c] 87)) (Star (byA o c l) R)) := by
  obtain ⟨F, ⟨F1, F2, ⟨o, c, h1⟩, h2, hd, s1, s2⟩, hb, g⟩ := h
  refine ⟨o, c, ?_⟩
  rw [← star_assoc]
  exact ⟨F, ⟨F1, F2, h1, h2, hd, s1, s2⟩, hb, g⟩
theorem Own.outShut {w0 w : World} {K : Nat} {o : Option Addr} {c : Nat} {l : List UInt8} {R : Asn} (h : Own w0 w (Star (blkA K (.cells #[.slice o l.length c] 87)) (Star (byA o c l) R))) : Own w0 w (Star (outA K l) R) := by
  rw [← star_assoc] at h
  exact h.conv fun F hF => ⟨o, c, hF⟩
theorem run_append_empty8 {P : Program} (w : World) (t ty e : TypeId) (i : TypeInfo) (ht : P.underlying t = some (.slice e)) (hi : P.info? e = some i) (v : Value) (n : Nat) (xs : List Value) (size : Nat) (h : w.ownsRow 0 e size v n xs) (o : Option Addr) (c : Nat) :
    (Builtin.append_ #[t, t] ty #[v, .slice o 0 c]).run P w = .ok v w := by
  rcases h.2 with ⟨rfl, _⟩ | ⟨g, cap, cur, rfl, _, _, hc, _⟩
  · cases o <;> simp [Builtin.append_, run_underlying ht, sizeOf, typeInfo, hi, Builtin.lenOf, Builtin.firstCells, storeCells, loadCells, loadCellsFrom]
  · cases o <;> simp [Builtin.append_, run_underlying ht, sizeOf, typeInfo, hi, Builtin.lenOf, Builtin.firstCells, hc, storeCells, loadCells, loadCellsFrom]
theorem u8Info8 : (Tryz.prog.info? 5).map (fun i => (i.zero, i.size, i.bytes)) = some (some (.int .u8 0), 1, 1) := by kernel_rfl
end Go.Proofs.YtlpcccpagmipnaaGreat.P
