/- Stage 6: a disk in memory: the calls that make none; a disk that is nil. No condition. -/
import Derived.Test.YtlpcccpagmipnaaGreatM
import Derived.Laws.AppendOwn
import Derived.Deep.AppendLies
set_option linter.unusedVariables false
set_option maxRecDepth 50000
namespace Go.Proofs.YtlpcccpagmipnaaGreat.P
open Go.RowKit
structure DState where
  safe : List ByteArray
  wait : List (Int × ByteArray)
  off : Bool
  counted : Bool
  acts : Int
def strs (l : List ByteArray) : List Value := l.map Value.string
def wrs : List (Int × ByteArray) → List Value
  | [] => []
  | x :: l => .int .i64 x.1 :: .string x.2 :: wrs l
theorem wrs_length : ∀ l, (wrs l).length = l.length * 2
  | [] => rfl
  | x :: l => by rw [wrs, List.length_cons, List.length_cons, wrs_length l, List.length_cons]; omega
/-- A disk at d, its safe sectors in block sb, what waits in block wb (or nowhere). -/
def DiskO (w : World) (d sb : Nat) (wb : Option Nat) (z : DState) : Prop :=
  ∃ (sc : Nat) (wo : Option Addr) (wc : Nat), w.heap[d]? = some (.cells #[.slice (some ⟨sb, 0, none⟩) z.safe.length sc, .slice wo z.wait.length wc, .bool z.off, .bool z.counted, .int .i64 z.acts] 126) ∧
    w.ownsRow 0 9 1 (.slice (some ⟨sb, 0, none⟩) z.safe.length sc) z.safe.length (strs z.safe) ∧
    w.ownsRow 0 165 2 (.slice wo z.wait.length wc) z.wait.length (wrs z.wait) ∧ (Value.slice wo z.wait.length wc).ownBlock = wb ∧ sb ≠ d ∧ wb ≠ some d ∧ wb ≠ some sb
theorem c_sectors (w : World) (d sb : Nat) (wb : Option Nat) (z : DState) (h : DiskO w d sb wb z) :
    Calls Tryz.prog 49 #[.pointer (some ⟨d, 0, none⟩)] w fun e w' => e = .returned (.int .i64 z.safe.length) ∧ w' = w := by
  obtain ⟨sc, wo, wc, hb, hr⟩ := h
  have c0 := blk_cell hb 0 (v := .slice (some ⟨sb, 0, none⟩) z.safe.length sc) rfl
  clear hb hr
  go_enter Tryz.func49, Tryz.ntmps49
  go_wp2
  go_ret
  exact ⟨rfl, rfl⟩
def hasB (z : DState) (i : Int) : Bool := decide (0 ≤ i) && decide (i < z.safe.length)
theorem c_has (w : World) (d sb : Nat) (wb : Option Nat) (z : DState) (h : DiskO w d sb wb z) (i : Int) :
    Calls Tryz.prog 98 #[.pointer (some ⟨d, 0, none⟩), .int .i64 i] w fun e w' => e = .returned (.bool (hasB z i)) ∧ w' = w := by
  obtain ⟨sc, wo, wc, hb, hr⟩ := h
  have c0 := blk_cell hb 0 (v := .slice (some ⟨sb, 0, none⟩) z.safe.length sc) rfl
  clear hb hr
  unfold hasB
  by_cases h0 : 0 ≤ i
  · rw [decide_eq_true h0, Bool.true_and]
    go_enter Tryz.func98, Tryz.ntmps98
    go_wp2
    go_ret
    exact ⟨rfl, rfl⟩
  · rw [decide_eq_false h0, Bool.false_and]
    go_enter Tryz.func98, Tryz.ntmps98
    go_wp2
    go_ret
    exact ⟨rfl, rfl⟩
theorem n_dsectors (w : World) : Calls Tryz.prog 49 #[.pointer none] w fun e w' => e = .returned (.int .i64 0) ∧ w' = w := by
  go_enter Tryz.func49, Tryz.ntmps49
  go_wp2
  go_ret
  exact ⟨rfl, rfl⟩
theorem res_cc {fn : Func} {p q : Tmp} {ty uy : TypeId} (h : fn.results = #[.cell p ty, .cell q uy]) (tmps : Array Value) (P : Program) (w : World) (a b : Addr) (v0 v1 : Value)
    (hp : tmps.getD p undef = .pointer (some a)) (hq : tmps.getD q undef = .pointer (some b)) (l0 : (loadVar ty a).run P w = .ok v0 w) (l1 : (loadVar uy b).run P w = .ok v1 w) :
    (results fn tmps).run P w = .ok (.tuple #[v0, v1]) w := by
  have hp' : tmps[p]?.getD undef = .pointer (some a) := by simpa using hp
  have hq' : tmps[q]?.getD undef = .pointer (some b) := by simpa using hq
  simp [results, h, hp', hq', asAddr, l0, l1]
theorem n_dread (i : Int) (w : World) : Calls Tryz.prog 65 #[.pointer none, .int .i64 i] w fun e w' => e = .returned (.tuple #[.string ⟨#[]⟩, .int .i64 1]) ∧ Gr w w' := by
  go_enter Tryz.func65, Tryz.ntmps65
  go_wp2
  refine bodyPost_ret (res_cc rfl _ _ _ _ _ _ _ rfl rfl (by go_simp) (by go_simp)) rfl ⟨rfl, ?_⟩
  go_grown
theorem n_dwrite (i : Int) (s : ByteArray) (w : World) : Calls Tryz.prog 102 #[.pointer none, .int .i64 i, .string s] w fun e w' => e = .returned (.int .i64 1) ∧ w' = w := by
  go_enter Tryz.func102, Tryz.ntmps102
  go_wp2
  go_ret
  exact ⟨rfl, rfl⟩
theorem n_dflush (w : World) : Calls Tryz.prog 103 #[.pointer none] w fun e w' => e = .returned (.int .i64 1) ∧ w' = w := by
  go_enter Tryz.func103, Tryz.ntmps103
  go_wp2
  go_ret
  exact ⟨rfl, rfl⟩
theorem n_dimage (w : World) : Calls Tryz.prog 56 #[.pointer none] w fun e w' => e = .returned (.slice none 0 0) ∧ w' = w := by
  go_enter Tryz.func56, Tryz.ntmps56
  go_wp2
  go_ret
  exact ⟨rfl, rfl⟩
end Go.Proofs.YtlpcccpagmipnaaGreat.P
namespace Go.Proofs.YtlpcccpagmipnaaGreat.P
open Go.RowKit
theorem ownsRow_ch {S : Nat → Prop} {w w' : World} {base : Nat} {e : TypeId} {size : Nat} {v : Value} {n : Nat} {xs : List Value} (h : w.ownsRow base e size v n xs) (hc : Ch S w w') (hn : ∀ x, v.ownBlock = some x → ¬ S x) : w'.ownsRow base e size v n xs := by
  obtain ⟨h1, h2 | ⟨g, cap, cur, rfl, hb, hg, h3⟩⟩ := h
  · exact ⟨h1, .inl h2⟩
  · exact ⟨h1, .inr ⟨g, cap, cur, rfl, hb, hc.blk hg (hn g rfl), h3⟩⟩
theorem DiskO.keep {S : Nat → Prop} {w w' : World} {d sb : Nat} {wb : Option Nat} {z : DState} (h : DiskO w d sb wb z) (hc : Ch S w w') (h1 : ¬ S d) (h2 : ¬ S sb) (h3 : ∀ x, wb = some x → ¬ S x) : DiskO w' d sb wb z := by
  obtain ⟨sc, wo, wc, hb, hs, hw, hwb, hr⟩ := h
  exact ⟨sc, wo, wc, hc.blk hb h1, ownsRow_ch hs hc (fun x hx => by injection hx with hx; rw [← hx]; exact h2), ownsRow_ch hw hc (fun x hx => h3 x (by rw [← hwb, hx])), hwb, hr⟩
/-- Only its own cells turned. -/
theorem DiskO.cells {w w' : World} {d sb : Nat} {wb : Option Nat} {z : DState} (h : DiskO w d sb wb z) (hc : Ch (· = d) w w') (off counted : Bool) (acts : Int)
    (hb : ∀ a b, w.heap[d]? = some (.cells #[a, b, .bool z.off, .bool z.counted, .int .i64 z.acts] 126) → w'.heap[d]? = some (.cells #[a, b, .bool off, .bool counted, .int .i64 acts] 126)) :
    DiskO w' d sb wb { z with off := off, counted := counted, acts := acts } := by
  obtain ⟨sc, wo, wc, h0, hs, hw, hwb, h1, h2, h3⟩ := h
  exact ⟨sc, wo, wc, hb _ _ h0, ownsRow_ch hs hc (fun x hx e => by injection hx with hx; exact h1 (hx.trans e)), ownsRow_ch hw hc (fun x hx e => h2 (by rw [← hwb, hx, e])), hwb, h1, h2, h3⟩
def actB (z : DState) : Bool := !(z.counted && decide (z.acts = 0))
def actZ (z : DState) : DState := bif z.counted then (bif decide (z.acts = 0) then { z with off := true } else { z with acts := z.acts - 1 }) else z
theorem c_dact (w : World) (d sb : Nat) (wb : Option Nat) (z : DState) (h : DiskO w d sb wb z) (h0 : 0 ≤ z.acts) (h1 : z.acts ≤ 9223372036854775807) :
    Calls Tryz.prog 129 #[.pointer (some ⟨d, 0, none⟩)] w fun e w' => e = .returned (.bool (actB z)) ∧ DiskO w' d sb wb (actZ z) ∧ Ch (· = d) w w' := by
  have H := Lib.hid h
  obtain ⟨sc, wo, wc, hb, hr⟩ := h
  have c3 := blk_cell hb 3 (v := .bool z.counted) rfl
  have c4 := blk_cell hb 4 (v := .int .i64 z.acts) rfl
  have c2 := blk_cell hb 2 (v := .bool z.off) rfl
  have z2 := blk_frozen hb 2
  have z4 := blk_frozen hb 4
  have hchd := fun (p : Nat) (v : Value) => (Ch.setCell (S := (· = d)) (Ch.refl _ w) (p := ⟨d, p, none⟩) (.inl rfl) v)
  have HCH := Lib.hid hchd
  clear hb hr hchd
  unfold actB actZ
  cases hcn : z.counted with
  | false =>
    rw [hcn] at c3
    go_enter Tryz.func129, Tryz.ntmps129
    go_wp2
    go_ret
    exact ⟨rfl, H.out, Ch.refl _ _⟩
  | true =>
    rw [hcn] at c3
    by_cases ha : z.acts = 0
    · rw [ha] at c4
      rw [decide_eq_true ha]
      have HA := Lib.hid ha
      clear ha h0 h1
      go_enter Tryz.func129, Tryz.ntmps129
      go_wp2
      go_ret
      refine ⟨rfl, ?_, HCH.out 2 _⟩
      have := H.out.cells (HCH.out 2 (.bool true)) true z.counted z.acts (fun a b hb => by rw [blk_set hb 2 _]; rfl)
      rw [hcn] at this
      exact this
    · rw [decide_eq_false ha]
      have ha2 : (z.acts == 0) = false := by simpa using ha
      have ha3 : decide (z.acts = 0) = false := decide_eq_false ha
      have ha4 : 1 ≤ z.acts := by omega
      generalize hA : z.acts = A at *
      have HA := Lib.hid hA
      clear hA ha
      go_enter Tryz.func129, Tryz.ntmps129
      go_wp2
      go_ret
      refine ⟨rfl, ?_, HCH.out 4 _⟩
      have := H.out.cells (HCH.out 4 (.int .i64 (A - 1))) z.off z.counted (A - 1) (fun a b hb => by rw [blk_set hb 4 _]; rfl)
      rw [hcn] at this
      exact this
end Go.Proofs.YtlpcccpagmipnaaGreat.P
namespace Go.Proofs.YtlpcccpagmipnaaGreat.P
open Go.RowKit
theorem info_parts {P : Program} {t : TypeId} {z : Option Value} {a b : Nat} (h : (P.info? t).map (fun i => (i.zero, i.size, i.bytes)) = some (z, a, b)) : ∃ i, P.info? t = some i ∧ i.zero = z ∧ i.size = a ∧ i.bytes = b := by
  cases hi : P.info? t with
  | none => rw [hi] at h; cases h
  | some i => rw [hi] at h; simp at h; exact ⟨i, rfl, h.1, h.2.1, h.2.2⟩
theorem writeInfo : (Tryz.prog.info? 165).map (fun i => (i.zero, i.size, i.bytes)) = some (some (.agg #[.int .i64 0, .string ⟨#[]⟩]), 2, 24) := by kernel_rfl
def writeR (z : DState) (i : Int) (s : ByteArray) : Int := bif z.off then 7 else bif hasB z i && decide (s.size = 64) then (bif actB z then 0 else 7) else 1
def writeZ (z : DState) (i : Int) (s : ByteArray) : DState := bif z.off then z else bif hasB z i && decide (s.size = 64) then (bif actB z then { actZ z with wait := (actZ z).wait ++ [(i, s)] } else actZ z) else z
def KeptD (d : Nat) (wb : Option Nat) (w w' : World) (wb' : Option Nat) : Prop := Ch (fun x => x = d ∨ wb = some x) w w' ∧ (wb' = wb ∨ ∃ g, wb' = some g ∧ w.heap.size ≤ g)
def DWriteP (d sb : Nat) (wb : Option Nat) (z : DState) (r : Int) (w : World) (e : Ending) (w' : World) : Prop := e = .returned (.int .i64 r) ∧ ∃ wb', DiskO w' d sb wb' z ∧ KeptD d wb w w' wb'
theorem c_dwrite_no (w : World) (d sb : Nat) (wb : Option Nat) (z : DState) (h : DiskO w d sb wb z) (i : Int) (s : ByteArray) (hn : z.off = true ∨ (hasB z i && decide (s.size = 64)) = false) :
    Calls Tryz.prog 102 #[.pointer (some ⟨d, 0, none⟩), .int .i64 i, .string s] w (DWriteP d sb wb z (writeR z i s) w) := by
  have H := Lib.hid h
  have CH := c_has w d sb wb z h i
  obtain ⟨sc, wo, wc, hb, hr⟩ := h
  have c2 := blk_cell hb 2 (v := .bool z.off) rfl
  clear hb hr
  cases ho : z.off with
  | true =>
    have e : writeR z i s = 7 := by unfold writeR; rw [ho]; rfl
    rw [e]
    rw [ho] at c2
    clear e hn ho
    go_enter Tryz.func102, Tryz.ntmps102
    go_wp2
    go_ret
    exact ⟨rfl, wb, H.out, Ch.refl _ _, .inl rfl⟩
  | false =>
    have hn2 : (hasB z i && decide (s.size = 64)) = false := by rcases hn with q | q; rw [ho] at q; cases q; exact q
    have e : writeR z i s = 1 := by unfold writeR; rw [ho, hn2]; rfl
    rw [e]
    rw [ho] at c2
    clear e hn ho
    cases hh : hasB z i with
    | false =>
      rw [hh] at CH
      clear hn2 hh
      go_enter Tryz.func102, Tryz.ntmps102
      go_wp2_with (go_at_call 98; refine CH.mono ?_; rintro e w' ⟨rfl, rfl⟩)
      go_ret
      exact ⟨rfl, wb, H.out, Ch.refl _ _, .inl rfl⟩
    | true =>
      rw [hh] at CH hn2
      have hs : ¬ s.size = 64 := of_decide_eq_false hn2
      have hs2 : decide (s.size = 64) = false := hn2
      have hs3 : ((s.size : Int) == 64) = false := beq_eq_false_iff_ne.2 (by omega)
      have hs4 : ¬ (s.size : Int) = 64 := by omega
      clear hn2 hh
      go_enter Tryz.func102, Tryz.ntmps102
      go_wp2_with (go_at_call 98; refine CH.mono ?_; rintro e w' ⟨rfl, rfl⟩)
      go_ret
      exact ⟨rfl, wb, H.out, Ch.refl _ _, .inl rfl⟩
theorem DiskO.cellsOf {w : World} {d sb : Nat} {wb : Option Nat} {z : DState} (h : DiskO w d sb wb z) : ∃ sv wv, w.heap[d]? = some (.cells #[sv, wv, .bool z.off, .bool z.counted, .int .i64 z.acts] 126) := by
  obtain ⟨sc, wo, wc, hb, hr⟩ := h
  exact ⟨_, _, hb⟩
theorem c_dwrite_dead (w : World) (d sb : Nat) (wb : Option Nat) (z : DState) (h : DiskO w d sb wb z) (h0 : 0 ≤ z.acts) (h1 : z.acts ≤ 9223372036854775807) (i : Int) (s : ByteArray) (ho : z.off = false) (hh : hasB z i = true) (hs : s.size = 64) (ha : actB z = false) :
    Calls Tryz.prog 102 #[.pointer (some ⟨d, 0, none⟩), .int .i64 i, .string s] w (DWriteP d sb wb (actZ z) 7 w) := by
  have CH := c_has w d sb wb z h i
  have CA := c_dact w d sb wb z h h0 h1
  obtain ⟨sc, wo, wc, hb, hr⟩ := h
  have c2 := blk_cell hb 2 (v := .bool z.off) rfl
  rw [ho] at c2
  rw [hh] at CH
  rw [ha] at CA
  have hs2 : (s.size : Int) = 64 := by omega
  clear hb hr h0 h1 ho hh ha
  go_enter Tryz.func102, Tryz.ntmps102
  go_wp2_with (go_at_call 98; refine CH.mono ?_; rintro e w' ⟨rfl, rfl⟩)
  refine CA.mono ?_; rintro e w2 ⟨rfl, h2, h3⟩
  have H2 := Lib.hid h2
  have H3 := Lib.hid h3
  clear h2 h3
  go_wp2_with fail
  go_ret
  exact ⟨rfl, wb, H2.out, H3.out.mono (fun x hx => .inl hx), .inl rfl⟩
end Go.Proofs.YtlpcccpagmipnaaGreat.P
namespace Go.Proofs.YtlpcccpagmipnaaGreat.P
open Go.RowKit
theorem Ch.of_grown {w w' : World} {row : Option Nat} (h : w.grownBy w' row) : Ch (fun x => row = some x) w w' := ⟨h.os, h.tape, h.output, h.size, fun k hk hs => h.block k hk (fun e => hs e.symm)⟩
theorem ownsRow_lt {w : World} {base : Nat} {e : TypeId} {size g : Nat} {n c : Nat} {xs : List Value} (h : w.ownsRow base e size (.slice (some ⟨g, 0, none⟩) n c) n xs) : g < w.heap.size := by
  obtain ⟨h1, h2 | ⟨k, cap, cur, e1, hb, hg, h3⟩⟩ := h
  · exact absurd h2.1 (by simp)
  · injection e1 with e1 _ _
    injection e1 with e1
    injection e1 with e1 _ _
    rw [e1]; exact blk_lt hg
theorem wrs_append : ∀ l (x : Int × ByteArray), wrs (l ++ [x]) = wrs l ++ [.int .i64 x.1, .string x.2]
  | [], x => rfl
  | y :: l, x => by rw [List.cons_append, wrs, wrs_append l x, wrs]; rfl
set_option maxHeartbeats 800000 in
theorem c_dwrite_ok (w : World) (d sb : Nat) (wb : Option Nat) (z : DState) (h : DiskO w d sb wb z) (h0 : 0 ≤ z.acts) (h1 : z.acts ≤ 9223372036854775807) (i : Int) (s : ByteArray) (ho : z.off = false) (hh : hasB z i = true) (hs : s.size = 64) (ha : actB z = true) (hlen : z.wait.length ≤ 4000000000000) :
    Calls Tryz.prog 102 #[.pointer (some ⟨d, 0, none⟩), .int .i64 i, .string s] w (DWriteP d sb wb { actZ z with wait := (actZ z).wait ++ [(i, s)] } 0 w) := by
  have CH := c_has w d sb wb z h i
  have CA := c_dact w d sb wb z h h0 h1
  have e2 : (actZ z).wait = z.wait := by unfold actZ; cases z.counted <;> cases decide (z.acts = 0) <;> rfl
  obtain ⟨i0, hi, hz0, hz1, hz2⟩ := info_parts writeInfo
  obtain ⟨sc, wo, wc, hb, hr⟩ := h
  have c2 := blk_cell hb 2 (v := .bool z.off) rfl
  rw [ho] at c2
  rw [hh] at CH
  rw [ha] at CA
  rw [← e2] at hlen
  have hs2 : (s.size : Int) = 64 := by omega
  clear hb hr h0 h1 ho hh ha e2
  generalize actZ z = y at *
  go_enter Tryz.func102, Tryz.ntmps102
  go_wp2_with (go_at_call 98; refine CH.mono ?_; rintro e w' ⟨rfl, rfl⟩)
  refine CA.mono ?_; rintro e w2 ⟨rfl, h2, h3⟩
  have H3 := Lib.hid h3
  have H2 := Lib.hid h2
  obtain ⟨sc, wo, wc, hb, hs0, hown, hwb, n1, n2, n3⟩ := h2
  have HB := Lib.hid hb
  have HS := Lib.hid hs0
  have HOWN := Lib.hid hown
  have HVB := Lib.hid hwb
  have HN := Lib.hid (And.intro n1 (And.intro n2 n3))
  have c1w := blk_cell hb 1 (v := .slice wo y.wait.length wc) rfl
  have c1 := blk_cell (blk_alloc (.cells #[.int .i64 i, .string s] 165) hb) 1 (v := .slice wo y.wait.length wc) rfl
  clear hb hs0 hown hwb n1 n2 n3 h3 CA CH
  have hl2 : y.wait.length ≤ 4000000000000 := hlen
  go_wp2_with (at_builtin; refine wpList_append_lies _ rfl _ _ _ rfl 0 165 i0 (.agg #[.int .i64 0, .string ⟨#[]⟩]) 2 24 Tryz.underlying124 hi hz0 hz1 hz2 rfl (by omega) (.slice wo y.wait.length wc) y.wait.length (wrs y.wait) rfl (HOWN.out.alloc _) ⟨w2.heap.size, 0, none⟩ 1 1 [.int .i64 i, .string s] rfl rfl (World.news_of_block (cs := #[.int .i64 i, .string s]) (blk_new _ _)) (by simp [Value.oneCell']) (by omega) (by unfold maxLen; omega) (by omega) (by omega) (w2.heap.size + 1) (by simp) ?_; intro g cap' w3 hown' hgrow hat hlt; have B1 := Lib.hid ((Ch.of_grown hgrow).blk (blk_alloc (.cells #[.int .i64 i, .string s] 165) HB.out) (fun e => HN.out.2.1 (HVB.out.symm.trans e))); have d1 := blk_cell B1.out 1 rfl; have z1 := blk_frozen B1.out 1; have HO1 := Lib.hid hown'; have HG1 := Lib.hid hgrow; have HA1 := Lib.hid hat; clear hown' hgrow hat)
  go_ret
  have hdl : d < w2.heap.size := blk_lt HB.out
  have hsl : sb < w2.heap.size := ownsRow_lt HS.out
  have hgd : g ≠ d := by
    rcases HA1.out with e | e
    · exact fun h => HN.out.2.1 (by rw [← HVB.out, e, h])
    · omega
  have hgs : g ≠ sb := by
    rcases HA1.out with e | e
    · exact fun h => HN.out.2.2 (by rw [← HVB.out, e, h])
    · omega
  have hC0 : Ch (fun x => x = d ∨ wb = some x) w2 w3 := ((Ch.refl _ w2).alloc _).trans2 (Ch.of_grown HG1.out) (fun x hx _ => .inr (HVB.out.symm.trans hx))
  have hC := hC0.setCell (p := ⟨d, 1, none⟩) (.inl (.inl rfl)) (.slice (some ⟨g, 0, none⟩) (y.wait.length + 1) cap')
  refine ⟨rfl, some g, ⟨sc, some ⟨g, 0, none⟩, cap', ?_, ?_, ?_, rfl, HN.out.1, fun e => hgd (by injection e), fun e => hgs (by injection e)⟩, (H3.out.mono (fun x hx => .inl hx)).trans hC, ?_⟩
  · rw [blk_set B1.out 1 _]; simp
  · exact ownsRow_ch HS.out hC (fun x hx e => by
      injection hx with hx
      rcases e with e | e
      · exact HN.out.1 (hx.trans e)
      · exact HN.out.2.2 (by rw [e]; exact congrArg some hx.symm))
  · have h1 := ownsRow_ch (S := (· = d)) HO1.out (Ch.setCell (S := (· = d)) (Ch.refl _ w3) (p := ⟨d, 1, none⟩) (.inl rfl) (.slice (some ⟨g, 0, none⟩) (y.wait.length + 1) cap')) (fun x hx e => hgd (by injection hx with hx; exact hx.trans e))
    show World.ownsRow _ 0 165 2 (.slice (some ⟨g, 0, none⟩) (y.wait ++ [(i, s)]).length cap') (y.wait ++ [(i, s)]).length (wrs (y.wait ++ [(i, s)]))
    rw [wrs_append, List.length_append]
    exact h1
  · rcases HA1.out with e | e
    · exact .inl (by rw [← e, HVB.out])
    · exact .inr ⟨g, rfl, by have := H3.out.size; omega⟩
end Go.Proofs.YtlpcccpagmipnaaGreat.P
