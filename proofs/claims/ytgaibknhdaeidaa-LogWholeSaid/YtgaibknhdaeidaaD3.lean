/- Stage 6: Write. No condition. -/
import Derived.Test.YtgaibknhdaeidaaD2
import Derived.Deep.AppendLies
set_option linter.unusedVariables false
namespace Go.Proofs.Ytgaibknhdaeidaa.P
open Go.RowKit
theorem info_parts {P : Program} {t : TypeId} {z : Option Value} {a b : Nat} (h : (P.info? t).map (fun i => (i.zero, i.size, i.bytes)) = some (z, a, b)) : ∃ i, P.info? t = some i ∧ i.zero = z ∧ i.size = a ∧ i.bytes = b := by
  cases hi : P.info? t with
  | none => rw [hi] at h; cases h
  | some i => rw [hi] at h; simp at h; exact ⟨i, rfl, h.1, h.2.1, h.2.2⟩
theorem writeInfo : (Try.prog.info? 94).map (fun i => (i.zero, i.size, i.bytes)) = some (some (.agg #[.int .i64 0, .string ⟨#[]⟩]), 2, 24) := by kernel_rfl
def writeR (z : DState) (i : Int) (s : ByteArray) : Int := bif z.off then 7 else bif hasB z i && decide (s.size = 64) then (bif actB z then 0 else 7) else 1
def writeZ (z : DState) (i : Int) (s : ByteArray) : DState := bif z.off then z else bif hasB z i && decide (s.size = 64) then (bif actB z then { actZ z with wait := (actZ z).wait ++ [(i, s)] } else actZ z) else z
def KeptD (d : Nat) (wb : Option Nat) (w w' : World) (wb' : Option Nat) : Prop := Ch (fun x => x = d ∨ wb = some x) w w' ∧ (wb' = wb ∨ ∃ g, wb' = some g ∧ w.heap.size ≤ g)
def DWriteP (d sb : Nat) (wb : Option Nat) (z : DState) (r : Int) (w : World) (e : Ending) (w' : World) : Prop := e = .returned (.int .i64 r) ∧ ∃ wb', DiskO w' d sb wb' z ∧ KeptD d wb w w' wb'
theorem c_dwrite_no (w : World) (d sb : Nat) (wb : Option Nat) (z : DState) (h : DiskO w d sb wb z) (i : Int) (s : ByteArray) (hn : z.off = true ∨ (hasB z i && decide (s.size = 64)) = false) :
    Calls Try.prog 52 #[.pointer (some ⟨d, 0, none⟩), .int .i64 i, .string s] w (DWriteP d sb wb z (writeR z i s) w) := by
  have H := Lib.hid h
  have CH := c_has w d sb wb z h i
  obtain ⟨sc, wo, wc, hb, hr⟩ := h
  have c2 := blk_cell hb 2 (v := .bool z.off) rfl
  clear hb hr
  cases ho : z.off with
  | true =>
    have e : writeR z i s = 7 := by unfold writeR; rw [ho]; rfl
    rw [e]
    rw [ho] at c2
    clear e hn ho
    go_enter Try.func52, Try.ntmps52
    go_wp2
    go_ret
    exact ⟨rfl, wb, H.out, Ch.refl _ _, .inl rfl⟩
  | false =>
    have hn2 : (hasB z i && decide (s.size = 64)) = false := by rcases hn with q | q; rw [ho] at q; cases q; exact q
    have e : writeR z i s = 1 := by unfold writeR; rw [ho, hn2]; rfl
    rw [e]
    rw [ho] at c2
    clear e hn ho
    cases hh : hasB z i with
    | false =>
      rw [hh] at CH
      clear hn2 hh
      go_enter Try.func52, Try.ntmps52
      go_wp2_with (go_at_call 48; refine CH.mono ?_; rintro e w' ⟨rfl, rfl⟩)
      go_ret
      exact ⟨rfl, wb, H.out, Ch.refl _ _, .inl rfl⟩
    | true =>
      rw [hh] at CH hn2
      have hs : ¬ s.size = 64 := of_decide_eq_false hn2
      have hs2 : decide (s.size = 64) = false := hn2
      have hs3 : ((s.size : Int) == 64) = false := beq_eq_false_iff_ne.2 (by omega)
      have hs4 : ¬ (s.size : Int) = 64 := by omega
      clear hn2 hh
      go_enter Try.func52, Try.ntmps52
      go_wp2_with (go_at_call 48; refine CH.mono ?_; rintro e w' ⟨rfl, rfl⟩)
      go_ret
      exact ⟨rfl, wb, H.out, Ch.refl _ _, .inl rfl⟩
theorem DiskO.cellsOf {w : World} {d sb : Nat} {wb : Option Nat} {z : DState} (h : DiskO w d sb wb z) : ∃ sv wv, w.heap[d]? = some (.cells #[sv, wv, .bool z.off, .bool z.counted, .int .i64 z.acts] 61) := by
  obtain ⟨sc, wo, wc, hb, hr⟩ := h
  exact ⟨_, _, hb⟩
theorem c_dwrite_dead (w : World) (d sb : Nat) (wb : Option Nat) (z : DState) (h : DiskO w d sb wb z) (h0 : 0 ≤ z.acts) (h1 : z.acts ≤ 9223372036854775807) (i : Int) (s : ByteArray) (ho : z.off = false) (hh : hasB z i = true) (hs : s.size = 64) (ha : actB z = false) :
    Calls Try.prog 52 #[.pointer (some ⟨d, 0, none⟩), .int .i64 i, .string s] w (DWriteP d sb wb (actZ z) 7 w) := by
  have CH := c_has w d sb wb z h i
  have CA := c_dact w d sb wb z h h0 h1
  obtain ⟨sc, wo, wc, hb, hr⟩ := h
  have c2 := blk_cell hb 2 (v := .bool z.off) rfl
  rw [ho] at c2
  rw [hh] at CH
  rw [ha] at CA
  have hs2 : (s.size : Int) = 64 := by omega
  clear hb hr h0 h1 ho hh ha
  go_enter Try.func52, Try.ntmps52
  go_wp2_with (go_at_call 48; refine CH.mono ?_; rintro e w' ⟨rfl, rfl⟩)
  refine CA.mono ?_; rintro e w2 ⟨rfl, h2, h3⟩
  have H2 := Lib.hid h2
  have H3 := Lib.hid h3
  clear h2 h3
  go_wp2_with fail
  go_ret
  exact ⟨rfl, wb, H2.out, H3.out.mono (fun x hx => .inl hx), .inl rfl⟩
end Go.Proofs.Ytgaibknhdaeidaa.P
