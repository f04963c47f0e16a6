/- Stage 10: a pool beside the truths of what is had. No condition. -/
import Derived.Test.YtbcnibnkojnpiaaGreatF8
import Derived.Test.YtbcnibnkojnpiaaGreatS
import Derived.Deep.DeepCutAuto
import Derived.Deep.LoopGhost
set_option linter.unusedVariables false
namespace Go.Proofs.YtbcnibnkojnpiaaGreat.P
open Go.RowKit Go.MuLone Go.Maps
/-- Truths in memory: what is not in the list's. -/
def hadB (H : List Bool) : Array Value := (H.map fun b => Value.bool (!b)).toArray
theorem had_get (H : List Bool) (n : Nat) (h : n < H.length) : (hadB H)[n]? = some (.bool (!isL H n)) := by
  unfold hadB isL
  simp [h, List.getD]
theorem had_set (H : List Bool) (n : Nat) (v : Bool) : (hadB H).setIfInBounds n (.bool v) = hadB (H.set n (!v)) := by
  unfold hadB
  apply Array.toList_inj.1
  simp [List.map_set]
theorem boolInfo : (Tryz.prog.info? 4).map (fun i => (i.zero, i.size, i.bytes)) = some (some (.bool false), 1, 1) := by kernel_rfl
theorem made_bools (n : Nat) : madeCells #[Value.bool false] n = hadB (List.replicate n true) := by
  apply Array.toList_inj.1
  rw [toList_madeCells_one]
  simp only [hadB, List.map_replicate]; rfl
theorem mk_bools (n : Nat) (h : n ≤ 281474976710656) (w : World) : (Instr.makeSlice 48 (.int .i64 (n : Int)) (.int .i64 (n : Int))).run Tryz.prog w = .ok (.slice (some ⟨w.heap.size, 0, none⟩) n n) (w.alloc (.cells (hadB (List.replicate n true)) 4)) := by
  obtain ⟨i0, hi, hz0, hz1, hz2⟩ := info_parts boolInfo
  have := run_make (P := Tryz.prog) w 48 4 i0 (.bool false) Tryz.underlying48 hi hz0 .i64 .i64 n n (by omega) (Int.le_refl _) (by rw [hz2]; omega) (by omega)
  rw [this, hz1]
  simp only [Int.toNat_natCast, Nat.mul_one]
  rw [show (Value.bool false).cells = #[Value.bool false] from rfl, made_bools]
/-- A pool of all frames and, in another block, truths. -/
def AP (w0 w : World) (pb b hb : Nat) (L : List Bool) (s : List UInt8) (H : List Bool) : Prop :=
  Gr w0 w ∧ w0.heap.size ≤ hb ∧ w.heap[hb]? = some (.cells (hadB H) 4) ∧ ∃ S : Nat → Prop, PZ w S w pb b 0 L s ∧ (∀ x, S x → x < w.heap.size ∧ w0.heap.size ≤ x) ∧ ¬ S hb
theorem AP.out {w0 w : World} {pb b hb : Nat} {L : List Bool} {s : List UInt8} {H : List Bool} (h : AP w0 w pb b hb L s H) :
    ∃ S : Nat → Prop, PZ w S w pb b 0 L s ∧ ∀ w' L' s', PZ w S w' pb b 0 L' s' → AP w0 w' pb b hb L' s' H := by
  obtain ⟨g, h1, h2, S, hz, hS, hn⟩ := h
  refine ⟨S, hz, fun w' L' s' k => ?_⟩
  have hc := k.1
  obtain ⟨S', kz, kS⟩ := k.base
  have hlt := blk_lt h2
  have hsz := g.size
  refine ⟨gr_ch g hc (fun x hx => (hS x hx).2), h1, hc.blk h2 hn, S', kz, fun x hx => ⟨(kS x hx).1, ?_⟩, fun hx => ?_⟩
  · rcases (kS x hx).2 with e | e
    · exact (hS x e).2
    · omega
  · rcases (kS hb hx).2 with e | e
    · exact hn e
    · omega
theorem AP.set {w0 w : World} {pb b hb : Nat} {L : List Bool} {s : List UInt8} {H : List Bool} (h : AP w0 w pb b hb L s H) (n : Nat) (v : Bool) : AP w0 (w.setCell ⟨hb, n, none⟩ (.bool v)) pb b hb L s (H.set n (!v)) := by
  obtain ⟨g, h1, h2, S, hz, hS, hn⟩ := h
  have hc : Ch (· = hb) w (w.setCell ⟨hb, n, none⟩ (.bool v)) := Ch.setCell (S := (· = hb)) (Ch.refl _ w) (.inl rfl) _
  obtain ⟨S', kz, kS⟩ := hz.other hc (fun x hx e => hn (by rw [← e]; exact hx)) (fun x hx => (hS x hx).1)
  have hsz := hc.size
  exact ⟨gr_ch g hc (fun x hx => by rw [hx]; exact h1), h1, by rw [blk_set h2 n _, had_set], S', kz, fun x hx => ⟨by have := (hS x (kS x hx)).1; omega, (hS x (kS x hx)).2⟩, fun hx => hn (kS hb hx)⟩
theorem ap_take {w0 w : World} {pb b hb : Nat} {L : List Bool} {s : List UInt8} {H : List Bool} (h : AP w0 w pb b hb L s H) (n e : Int) (L' : List Bool) (s' : List UInt8) (hn : takeN L 0 = n) (he : takeE L 0 = e) (hL : takeL L 0 = L') (hs : takeS L 0 s = s') :
    Calls Tryz.prog 50 #[.pointer (some ⟨pb, 0, none⟩)] w fun x w' => x = .returned (.tuple #[.int .i64 n, .int .i64 e]) ∧ AP w0 w' pb b hb L' s' H := by
  obtain ⟨S, hz, k⟩ := h.out
  subst hn; subst he; subst hL; subst hs
  exact (pz_take hz).mono fun x w' q => ⟨q.1, k _ _ _ q.2⟩
theorem ap_give {w0 w : World} {pb b hb : Nat} {L : List Bool} {s : List UInt8} {H : List Bool} (h : AP w0 w pb b hb L s H) (i : Int) (hi : i64 i) (e : Int) (L' : List Bool) (s' : List UInt8) (he : giveE L 0 i = e) (hL : giveL L 0 i = L') (hs : giveS L 0 i s = s') :
    Calls Tryz.prog 64 #[.pointer (some ⟨pb, 0, none⟩), .int .i64 i] w fun x w' => x = .returned (.int .i64 e) ∧ AP w0 w' pb b hb L' s' H := by
  obtain ⟨S, hz, k⟩ := h.out
  subst he; subst hL; subst hs
  exact (pz_give hz i hi).mono fun x w' q => ⟨q.1, k _ _ _ q.2⟩
theorem ap_get {w0 w : World} {pb b hb : Nat} {L : List Bool} {s : List UInt8} {H : List Bool} (h : AP w0 w pb b hb L s H) (a n : Int) (ha0 : 0 ≤ a) (ha1 : a ≤ 18446744073709551615) (hn1 : n ≤ 9223372036854775807) (v : ByteArray) (r : Int) (hv : getV s a n = v) (hr : getR s a n = r) :
    Calls Tryz.prog 13 #[.pointer (some ⟨b, 0, none⟩), .int .u64 a, .int .i64 n] w fun x w' => x = .returned (.tuple #[.string v, .int .i64 r]) ∧ AP w0 w' pb b hb L s H := by
  obtain ⟨S, hz, k⟩ := h.out
  subst hv; subst hr
  exact (pz_get hz a n ha0 ha1 hn1).mono fun x w' q => ⟨q.1, k _ _ _ q.2⟩
theorem ap_put {w0 w : World} {pb b hb : Nat} {L : List Bool} {s : List UInt8} {H : List Bool} (h : AP w0 w pb b hb L s H) (a : Int) (x : ByteArray) (ha0 : 0 ≤ a) (ha1 : a ≤ 18446744073709551615) (hx : x.size ≤ maxLen) :
    Calls Tryz.prog 43 #[.pointer (some ⟨b, 0, none⟩), .int .u64 a, .string x] w fun e w' => e = .returned (.int .i64 (putR s a x)) ∧ AP w0 w' pb b hb L (putS s a x) H := by
  obtain ⟨S, hz, k⟩ := h.out
  exact (pz_put hz a x ha0 ha1 hx).mono fun x w' q => ⟨q.1, k _ _ _ q.2⟩
theorem ap_new {w0 w : World} {pb b : Nat} {L : List Bool} {s : List UInt8} (h : PG w0 w pb b 0 L s) (H : List Bool) : AP w0 (w.alloc (.cells (hadB H) 4)) pb b w.heap.size L s H := by
  obtain ⟨S, hz, hS⟩ := pz_of h
  have hal : Ch (fun _ => False) w (w.alloc (.cells (hadB H) 4)) := (Ch.refl _ _).alloc _
  obtain ⟨S', kz, kS⟩ := hz.other hal (fun _ _ e => e) (fun x hx => (hS x hx).1)
  have hsz := hal.size
  refine ⟨gr_ch h.1 hal (fun _ e => e.elim), h.1.size, blk_new w _, S', kz, fun x hx => ⟨by have := (hS x (kS x hx)).1; omega, (hS x (kS x hx)).2⟩, fun hx => ?_⟩
  have := (hS _ (kS _ hx)).1
  omega
end Go.Proofs.YtbcnibnkojnpiaaGreat.P
namespace Go.Proofs.YtbcnibnkojnpiaaGreat.P
open Go.RowKit Go.MuLone Go.Maps
structure FActV where
  kind : Int
  n : Int
  at_ : Int
def FActV.ok (x : FActV) : Prop := i64 x.kind ∧ i64 x.n ∧ u64 x.at_
/-- The acts lie there. -/
def FActs (w : World) (bl off len : Nat) (f : Nat → FActV) : Prop :=
  ∀ i, i < len → (f i).ok ∧ w.cell? ⟨bl, off + i * 3, none⟩ = some (.int .i64 (f i).kind) ∧ w.cell? ⟨bl, off + i * 3 + 1, none⟩ = some (.int .i64 (f i).n) ∧ w.cell? ⟨bl, off + i * 3 + 2, none⟩ = some (.int .u64 (f i).at_)
section
open Go.ChangeShapes Go.WideShapes Go.Deep
variable {H : Type} {enc : TypeId × Value → H} {w : World} {base : Nat} {spare : Nat → Bool} {held : Bool}
end
end Go.Proofs.YtbcnibnkojnpiaaGreat.P
namespace Go.Proofs.YtbcnibnkojnpiaaGreat.P
open Go.RowKit Go.MuLone Go.Maps
/-- Which are free, out of which are not taken. -/
def Rel (first : Nat) (L H : List Bool) : Prop := L.length = H.length ∧ ∀ k : Nat, isL L k = (decide (first ≤ k) && isL H k)
theorem Rel.set {first : Nat} {L H : List Bool} (h : Rel first L H) (n : Nat) (v : Bool) (h1 : first ≤ n) (h2 : n < L.length) : Rel first (L.set n v) (H.set n v) := by
  refine ⟨by rw [List.length_set, List.length_set]; exact h.1, fun k => ?_⟩
  rw [isL_set _ _ _ _ h2, isL_set _ _ _ _ (by rw [← h.1]; exact h2), h.2 k]
  by_cases e : k = n
  · subst e; rw [if_pos rfl, if_pos rfl, decide_eq_true h1, Bool.true_and]
  · rw [if_neg e, if_neg e]
theorem Rel.at {first : Nat} {L H : List Bool} (h : Rel first L H) (k : Nat) (h1 : first ≤ k) : isL H k = isL L k := by rw [h.2 k, decide_eq_true h1, Bool.true_and]
theorem fresh_rel (fr first : Nat) : Rel first (freshL fr first) (List.replicate fr true) := by
  refine ⟨by rw [fresh_len, List.length_replicate], fun k => ?_⟩
  rw [fresh_is]
  unfold isL
  by_cases h : k < fr
  · simp [List.getD, h]
  · simp [List.getD, h]
def RPO (w : World) (rp ib rb vb first : Nat) (H : List Bool) (s : List UInt8) (t : Int) : Prop :=
  w.heap[rp]? = some (.cells #[.pointer (some ⟨rb, 0, none⟩), .int .i64 first, .slice (some ⟨ib, 0, none⟩) H.length H.length] 50) ∧ w.heap[ib]? = some (.cells (hadB H) 4) ∧ RMemO w rb vb s t ∧
    (ib ≠ rp ∧ rb ≠ rp ∧ vb ≠ rp ∧ rb ≠ ib ∧ vb ≠ ib) ∧ s.length = H.length * 256 ∧ H.length ≤ 256 ∧ first ≤ H.length
theorem RPO.keep {S : Nat → Prop} {w w' : World} {rp ib rb vb first : Nat} {H : List Bool} {s : List UInt8} {t : Int} (h : RPO w rp ib rb vb first H s t) (hc : Ch S w w') (h1 : ¬ S rp) (h2 : ¬ S ib) (h3 : ¬ S rb) (h4 : ¬ S vb) : RPO w' rp ib rb vb first H s t := by
  obtain ⟨a1, a2, a3, a4⟩ := h
  exact ⟨hc.blk a1 h1, hc.blk a2 h2, a3.keep hc h3 h4, a4⟩
/-- What the document's call leaves. -/
def RPP (rp ib rb vb first : Nat) (H : List Bool) (s : List UInt8) (t : Int) (v : Value) (w : World) (e : Ending) (w' : World) : Prop :=
  e = .returned v ∧ RPO w' rp ib rb vb first H s t ∧ Ch (fun x => x = ib ∨ x = rb ∨ x = vb) w w'
def takeH (L H : List Bool) (first : Nat) : List Bool := bif takeB L first then H.set (nextL L first (L.length - first)) false else H
def giveH (L H : List Bool) (first : Nat) (k : Int) : List Bool := bif tknB L first k then H.set k.toNat true else H
theorem q_taken (rp ib rb vb first : Nat) (L H : List Bool) (s : List UInt8) (t : Int) (w : World) (h : RPO w rp ib rb vb first H s t) (hr : Rel first L H) (k : Int) :
    Calls Tryz.prog 89 #[.pointer (some ⟨rp, 0, none⟩), .int .i64 k] w fun e w' => e = .returned (.bool (tknB L first k)) ∧ w' = w := by
  have c1 := blk_cell h.1 1 (v := .int .i64 first) rfl
  have c2 := blk_cell h.1 2 (v := .slice (some ⟨ib, 0, none⟩) H.length H.length) rfl
  have hg := fun (j : Nat) (hj : j < H.length) => blk_cell h.2.1 j (had_get H j hj)
  have hfl := h.2.2.2.2.2.2
  have hfl2 := h.2.2.2.2.2.1
  have HG := Lib.hid hg
  clear h hg
  by_cases h1 : k < first
  · have e : tknB L first k = false := by unfold tknB; rw [decide_eq_false (by omega)]; rfl
    rw [e]
    have d1 : decide ((first : Int) ≤ k) = false := decide_eq_false (by omega)
    clear e
    generalize H.length = n at *
    go_enter Tryz.func89, Tryz.ntmps89
    go_wp2_with fail
    go_ret
    exact ⟨rfl, rfl⟩
  · obtain ⟨j, rfl⟩ : ∃ j : Nat, k = (j : Int) := ⟨k.toNat, by omega⟩
    have d1 : decide (first ≤ j) = true := decide_eq_true (by omega)
    by_cases h2 : j < H.length
    · have cj := HG.out j h2
      have e : tknB L first (j : Int) = !isL H j := by
        unfold tknB
        rw [decide_eq_true (show (first : Int) ≤ (j : Int) by omega), decide_eq_true (show (j : Int) < L.length by rw [hr.1]; omega), Int.toNat_natCast, hr.at j (by omega)]; rfl
      rw [e]
      have d2 : decide (j < H.length) = true := decide_eq_true h2
      clear e h1
      generalize isL H j = q at *
      generalize H.length = n at *
      go_enter Tryz.func89, Tryz.ntmps89
      go_wp2_with fail
      go_ret
      exact ⟨rfl, rfl⟩
    · have e : tknB L first (j : Int) = false := by unfold tknB; rw [decide_eq_false (show ¬ (j : Int) < L.length by rw [hr.1]; omega), Bool.and_false]; rfl
      rw [e]
      have d2 : decide (j < H.length) = false := decide_eq_false h2
      clear e h1
      generalize H.length = n at *
      go_enter Tryz.func89, Tryz.ntmps89
      go_wp2_with fail
      go_ret
      exact ⟨rfl, rfl⟩
theorem cntL_le (L : List Bool) (a : Nat) : ∀ n, cntL L a n ≤ n
  | 0 => Nat.le_refl _
  | n + 1 => by have := cntL_le L a n; unfold cntL; split <;> omega
theorem q_left (rp ib rb vb first : Nat) (L H : List Bool) (s : List UInt8) (t : Int) (w : World) (h : RPO w rp ib rb vb first H s t) (hr : Rel first L H) :
    Calls Tryz.prog 10 #[.pointer (some ⟨rp, 0, none⟩)] w fun e w' => e = .returned (.int .i64 (cntL L first (L.length - first) : Nat)) ∧ w' = w := by
  have c1 := blk_cell h.1 1 (v := .int .i64 first) rfl
  have c2 := blk_cell h.1 2 (v := .slice (some ⟨ib, 0, none⟩) H.length H.length) rfl
  have HG := Lib.hid (fun (j : Nat) (hj : j < H.length) => blk_cell h.2.1 j (had_get H j hj))
  have hfl := h.2.2.2.2.2.2
  have hfl2 := h.2.2.2.2.2.1
  have HR := Lib.hid hr
  rw [hr.1]
  clear h hr
  obtain ⟨N, hN⟩ : ∃ N, N = H.length := ⟨_, rfl⟩
  have HN := Lib.hid hN
  rw [← hN] at c2 hfl hfl2 ⊢
  clear hN
  go_enter Tryz.func10, Tryz.ntmps10
  go_wp2_with fail
  go_loopw [3, 4] (fun vn vf wr => ∃ j : Nat, first ≤ j ∧ j ≤ N ∧ vf = .int .i64 j ∧ vn = .int .i64 (cntL L first (j - first) : Nat) ∧ wr = w) (fun vn vf _ => N - (intOf vf).toNat)
  case atStart => exact ⟨first, Nat.le_refl _, hfl, rfl, by rw [Nat.sub_self]; rfl, rfl⟩
  case round =>
    obtain ⟨j, hj1, hj2, rfl, rfl, rfl⟩ := hrel
    have hcl := cntL_le L first (j - first)
    have hc256 : cntL L first (j - first) ≤ 256 := by omega
    have hst : cntL L first (j + 1 - first) = cntL L first (j - first) + (if isL L j = true then 1 else 0) := by
      rw [show j + 1 - first = (j - first) + 1 by omega, cntL, show first + (j - first) = j by omega]
    have HST := Lib.hid hst
    clear hst hcl
    by_cases hlt : j < N
    · have dl : decide (j < N) = true := decide_eq_true hlt
      have cj := HG.out j (by rw [← HN.out]; exact hlt)
      rw [HR.out.at j hj1] at cj
      cases hv : isL L j with
      | true =>
        rw [hv] at cj
        have HV := Lib.hid hv
        clear hv
        generalize hC : cntL L first (j - first) = C at *
        go_wp2_with fail
        go_roundw
        case rel => exact ⟨j + 1, by omega, by omega, by go_num, by rw [HST.out, HV.out, if_pos rfl]; go_num, by first | rfl | trivial⟩
        case measure => simp [intOf]; omega
      | false =>
        rw [hv] at cj
        have HV := Lib.hid hv
        clear hv
        generalize hC : cntL L first (j - first) = C at *
        go_wp2_with fail
        go_roundw
        case rel => exact ⟨j + 1, by omega, by omega, by go_num, by rw [HST.out, HV.out, if_neg (by decide)]; rfl, by first | rfl | trivial⟩
        case measure => simp [intOf]; omega
    · obtain rfl : j = N := by omega
      have dl : decide (j < j) = false := decide_eq_false (by omega)
      go_wp2_with fail
      go_ret
      exact ⟨rfl, rfl⟩
theorem RPO.set {w : World} {rp ib rb vb first : Nat} {H : List Bool} {s : List UInt8} {t : Int} (h : RPO w rp ib rb vb first H s t) (n : Nat) (v : Bool) : RPO (w.setCell ⟨ib, n, none⟩ (.bool v)) rp ib rb vb first (H.set n (!v)) s t := by
  have hc : Ch (· = ib) w (w.setCell ⟨ib, n, none⟩ (.bool v)) := Ch.setCell (S := (· = ib)) (Ch.refl _ w) (.inl rfl) _
  obtain ⟨a1, a2, a3, ⟨n1, n2, n3, n4, n5⟩, a5, a6, a7⟩ := h
  refine ⟨?_, by rw [blk_set a2 n _, had_set], a3.keep hc n4 n5, ⟨n1, n2, n3, n4, n5⟩, ?_, ?_, ?_⟩
  · rw [List.length_set]; exact hc.blk a1 (fun e => n1 e.symm)
  · rw [List.length_set]; exact a5
  · rw [List.length_set]; exact a6
  · rw [List.length_set]; exact a7
theorem RPO.copied {w w' : World} {rp ib rb vb first : Nat} {H : List Bool} {s s' : List UInt8} {t : Int} (h : RPO w rp ib rb vb first H s t) (hR : RMemO w' rb vb s' t) (hl : s'.length = s.length) (hc : Ch (fun x => x = rb ∨ some vb = some x) w w') : RPO w' rp ib rb vb first H s' t := by
  obtain ⟨a1, a2, a3, ⟨n1, n2, n3, n4, n5⟩, a5, a6, a7⟩ := h
  refine ⟨hc.blk a1 (fun e => ?_), hc.blk a2 (fun e => ?_), hR, ⟨n1, n2, n3, n4, n5⟩, by rw [hl]; exact a5, a6, a7⟩
  · rcases e with e | e
    · exact n2 e.symm
    · injection e with e; exact n3 e
  · rcases e with e | e
    · exact n4 e.symm
    · injection e with e; exact n5 e
theorem rcopy_clear (fr : Nat) (s : List UInt8) (n : Nat) (h : n < fr) : rcopyS fr s n (-1) = clearS fr s n ∧ rcopyR fr n (-1) = 0 := by
  unfold rcopyS rcopyR
  rw [if_pos (by decide), if_pos (frB_t ⟨by omega, by omega⟩), if_pos (by omega)]
  exact ⟨rfl, rfl⟩
theorem clear_len (fr : Nat) (s : List UInt8) (n : Nat) (h : n < fr) (hs : s.length = fr * 256) : (clearS fr s n).length = s.length := by
  unfold clearS; split
  · exact putL_len _ _ _ (by rw [List.length_replicate]; omega)
  · rfl
/-- One frame is cleared. -/
theorem q_clear (rp ib rb vb first : Nat) (H : List Bool) (s : List UInt8) (t : Int) (w : World) (h : RPO w rp ib rb vb first H s t) (n : Nat) (hn : n < H.length) :
    Calls Tryz.prog 66 #[.pointer (some ⟨rb, 0, none⟩), .int .i64 (n : Int), .int .i64 (-1)] w fun e w' => e = .returned (.int .i64 0) ∧ RPO w' rp ib rb vb first H (clearS H.length s n) t ∧ Ch (fun x => x = rb ∨ x = vb) w w' := by
  have h5 := h.2.2.2.2.1
  refine (r_copy rb vb H.length s t w h.2.2.1 h5 h.2.2.2.2.2.1 n (-1)).mono ?_
  rintro e w' ⟨rfl, hR, hc⟩
  rw [(rcopy_clear H.length s n hn).2]
  rw [(rcopy_clear H.length s n hn).1] at hR
  exact ⟨rfl, h.copied hR (clear_len _ s n hn h5) hc, hc.mono (fun x hx => by rcases hx with e | e; exact .inl e; injection e with e; exact .inr e.symm)⟩
end Go.Proofs.YtbcnibnkojnpiaaGreat.P
namespace Go.Proofs.YtbcnibnkojnpiaaGreat.P
open Go.RowKit Go.MuLone Go.Maps
theorem q_take (rp ib rb vb first : Nat) (L H : List Bool) (s : List UInt8) (t : Int) (w : World) (h : RPO w rp ib rb vb first H s t) (hr : Rel first L H) :
    Calls Tryz.prog 28 #[.pointer (some ⟨rp, 0, none⟩)] w (RPP rp ib rb vb first (takeH L H first) (takeS L first s) t (.tuple #[.int .i64 (takeN L first), .int .i64 (takeE L first)]) w) := by
  have c1 := blk_cell h.1 1 (v := .int .i64 first) rfl
  have hfl := h.2.2.2.2.2.2
  have hfl2 := h.2.2.2.2.2.1
  have hge := nextL_ge L (L.length - first) first
  have hle := nextL_le L (L.length - first) first
  have his := nextL_is L (L.length - first) first
  have hnot := nextL_not L (L.length - first) first
  have hB : takeB L first = decide (nextL L first (L.length - first) < L.length) := rfl
  have hM : takeB L first = true → takeN L first = (nextL L first (L.length - first) : Nat) ∧ takeE L first = 0 ∧ takeH L H first = H.set (nextL L first (L.length - first)) false ∧ takeS L first s = clearS L.length s (nextL L first (L.length - first) : Nat) := fun q => by
    unfold takeN takeE takeH takeS; rw [q]; exact ⟨rfl, rfl, rfl, rfl⟩
  have hM0 : takeB L first = false → takeN L first = 0 ∧ takeE L first = 4 ∧ takeH L H first = H ∧ takeS L first s = s := fun q => by
    unfold takeN takeE takeH takeS; rw [q]; exact ⟨rfl, rfl, rfl, rfl⟩
  have HX := Lib.hid h
  have HR := Lib.hid hr
  have c0 := blk_cell h.1 0 (v := .pointer (some ⟨rb, 0, none⟩)) rfl
  have c2 := blk_cell h.1 2 (v := .slice (some ⟨ib, 0, none⟩) H.length H.length) rfl
  have HG := Lib.hid (fun (j : Nat) (hj : j < H.length) => blk_cell h.2.1 j (had_get H j hj))
  have hf := fun j => blk_frozen h.2.1 j
  have hlen : L.length = H.length := hr.1
  have HSET := Lib.hid (fun (j : Nat) => h.set j true)
  rw [hlen] at hge hle his hnot hB hM
  clear h hr
  generalize nextL L first (H.length - first) = m at *
  obtain ⟨N, hN⟩ : ∃ N, N = H.length := ⟨_, rfl⟩
  have HN := Lib.hid hN
  rw [← hN] at c2 hfl hfl2 hle his hB hM
  clear hN hlen
  have HB := Lib.hid hB
  have HM := Lib.hid hM
  have HM0 := Lib.hid hM0
  have HIS := Lib.hid his
  have HNOT := Lib.hid hnot
  clear hB hM hM0 his hnot
  generalize takeN L first = tN at *
  generalize takeE L first = tE at *
  generalize takeH L H first = tH at *
  generalize takeS L first s = tS at *
  go_enter Tryz.func28, Tryz.ntmps28
  go_wp2_with fail
  go_loopw [4] (fun vf wr => ∃ j : Nat, first ≤ j ∧ j ≤ m ∧ vf = .int .i64 j ∧ wr = w) (fun vf _ => m - (intOf vf).toNat)
  case atStart => exact ⟨first, Nat.le_refl _, hge, rfl, rfl⟩
  case round =>
    obtain ⟨j, hj1, hj2, rfl, rfl⟩ := hrel
    by_cases hlt : j < m
    · have hjN : j < N := by omega
      have dl : decide (j < N) = true := decide_eq_true hjN
      have cj := HG.out j (by rw [← HN.out]; exact hjN)
      rw [HR.out.at j hj1, HNOT.out j hj1 hlt] at cj
      go_wp2_with fail
      go_roundw
      case rel => exact ⟨j + 1, by omega, by omega, by go_num, by first | rfl | trivial⟩
      case measure => simp [intOf]; omega
    · obtain rfl : j = m := by omega
      by_cases hjN : j < N
      · have dl : decide (j < N) = true := decide_eq_true hjN
        have hb : takeB L first = true := by rw [HB.out]; exact dl
        obtain ⟨e1, e2, e3, e4⟩ := HM.out hb
        have cj := HG.out j (by rw [← HN.out]; exact hjN)
        rw [HR.out.at j hj1, HIS.out (by omega)] at cj
        have fj := hf j
        have HP := Lib.hid (HSET.out j)
        subst e1; subst e2; subst e3; subst e4
        have HC := Lib.hid (fun w' (k : Ch (fun x => x = rb ∨ x = vb) (wr.setCell ⟨ib, j, none⟩ (.bool true)) w') => (show Ch (fun x => x = ib ∨ x = rb ∨ x = vb) wr w' from (Ch.setCell (S := fun x => x = ib ∨ x = rb ∨ x = vb) (Ch.refl _ wr) (.inl (.inl rfl)) _).trans (k.mono (fun x hx => .inr hx))))
        have cs0 := blk_cell (HP.out).1 0 (v := .pointer (some ⟨rb, 0, none⟩)) rfl
        have hl : (H.set j (!true)).length = H.length := List.length_set
        have HQ := q_clear rp ib rb vb first (H.set j (!true)) s t (wr.setCell ⟨ib, j, none⟩ (.bool true)) HP.out j (by rw [hl, ← HN.out]; exact hjN)
        rw [hl, ← HN.out] at HQ
        clear hl hb dl
        have dl : decide (j < N) = true := decide_eq_true hjN
        go_wp2_with fail
        refine HQ.mono ?_; rintro e w2 ⟨rfl, h2, h3⟩
        have H2 := Lib.hid h2
        have H3 := Lib.hid h3
        clear h2 h3
        go_wp2_with fail
        go_ret2
        exact ⟨rfl, H2.out, HC.out _ H3.out⟩
      · have dl : decide (j < N) = false := decide_eq_false hjN
        have hb : takeB L first = false := by rw [HB.out]; exact dl
        obtain ⟨e1, e2, e3, e4⟩ := HM0.out hb
        subst e1; subst e2; subst e3; subst e4
        clear hb
        go_wp2_with fail
        go_ret2
        exact ⟨rfl, HX.out, Ch.refl _ _⟩
theorem q_give (rp ib rb vb first : Nat) (L H : List Bool) (s : List UInt8) (t : Int) (w : World) (h : RPO w rp ib rb vb first H s t) (hr : Rel first L H) (k : Int) :
    Calls Tryz.prog 67 #[.pointer (some ⟨rp, 0, none⟩), .int .i64 k] w (RPP rp ib rb vb first (giveH L H first k) (giveS L first k s) t (.int .i64 (giveE L first k)) w) := by
  have CT := q_taken rp ib rb vb first L H s t w h hr k
  have HX := Lib.hid h
  cases hb : tknB L first k with
  | false =>
    have e1 : giveE L first k = 1 := by unfold giveE; rw [hb]; rfl
    have e2 : giveH L H first k = H := by unfold giveH; rw [hb]; rfl
    have e3 : giveS L first k s = s := by unfold giveS; rw [hb]; rfl
    rw [e1, e2, e3]
    rw [hb] at CT
    clear e1 e2 e3 hb h hr
    go_enter Tryz.func67, Tryz.ntmps67
    go_wp2_with (go_at_call 89; refine CT.mono ?_; rintro e w' ⟨rfl, rfl⟩)
    go_ret
    exact ⟨rfl, HX.out, Ch.refl _ _⟩
  | true =>
    have hb2 := hb
    unfold tknB at hb2
    simp only [Bool.and_eq_true, decide_eq_true_eq] at hb2
    obtain ⟨⟨b1, b2⟩, b3⟩ := hb2
    obtain ⟨j, rfl⟩ : ∃ j : Nat, k = (j : Int) := ⟨k.toNat, by omega⟩
    have e1 : giveE L first j = 0 := by unfold giveE; rw [hb]; rfl
    have e2 : giveH L H first j = H.set j (!false) := by unfold giveH; rw [hb, Int.toNat_natCast]; rfl
    have e3 : giveS L first j s = clearS H.length s j := by unfold giveS; rw [hb, hr.1, Int.toNat_natCast]; rfl
    rw [e1, e2, e3]
    rw [hb] at CT
    have hjN : j < H.length := by rw [← hr.1]; omega
    have HP := Lib.hid (h.set j false)
    have c0 := blk_cell h.1 0 (v := .pointer (some ⟨rb, 0, none⟩)) rfl
    have c2 := blk_cell h.1 2 (v := .slice (some ⟨ib, 0, none⟩) H.length H.length) rfl
    have cj := blk_cell h.2.1 j (had_get H j hjN)
    have fj := blk_frozen h.2.1 j
    have cs0 := blk_cell (HP.out).1 0 (v := .pointer (some ⟨rb, 0, none⟩)) rfl
    have hl : (H.set j (!false)).length = H.length := List.length_set
    have HQ := q_clear rp ib rb vb first (H.set j (!false)) s t (w.setCell ⟨ib, j, none⟩ (.bool false)) HP.out j (by rw [hl]; exact hjN)
    rw [hl] at HQ
    have HC := Lib.hid (fun w' (k : Ch (fun x => x = rb ∨ x = vb) (w.setCell ⟨ib, j, none⟩ (.bool false)) w') => (show Ch (fun x => x = ib ∨ x = rb ∨ x = vb) w w' from (Ch.setCell (S := fun x => x = ib ∨ x = rb ∨ x = vb) (Ch.refl _ w) (.inl (.inl rfl)) _).trans (k.mono (fun x hx => .inr hx))))
    have hN : H.length ≤ 256 := h.2.2.2.2.2.1
    clear e1 e2 e3 hb h hr hl b1 b2 b3
    generalize H.length = N at *
    go_enter Tryz.func67, Tryz.ntmps67
    go_wp2_with (go_at_call 89; refine CT.mono ?_; rintro e w' ⟨rfl, rfl⟩)
    refine HQ.mono ?_; rintro e w2 ⟨rfl, h2, h3⟩
    have H2 := Lib.hid h2
    have H3 := Lib.hid h3
    clear h2 h3
    go_wp2_with fail
    go_ret
    exact ⟨rfl, H2.out, HC.out _ H3.out⟩
theorem q_new_no (rb vb fr : Nat) (first : Int) (s : List UInt8) (t : Int) (w : World) (h : RMemO w rb vb s t) (hs : s.length = fr * 256) (hf : ¬ (0 ≤ first ∧ first ≤ fr)) :
    Calls Tryz.prog 25 #[.pointer (some ⟨rb, 0, none⟩), .int .i64 first] w fun e w' => e = .returned (.pointer none) ∧ w' = w := by
  have c0 := blk_cell h.1 0 (v := .slice (some ⟨vb, 0, none⟩) s.length s.length) rfl
  have hl := h.2.2.2
  have hd : ((s.length : Nat) : Int) / 256 = (fr : Int) := by omega
  have hc : first < 0 ∨ (0 ≤ first ∧ (fr : Int) < first) := by omega
  clear h hf hs
  generalize s.length = N at *
  rcases hc with h1 | ⟨h0, h1⟩
  · go_enter Tryz.func25, Tryz.ntmps25
    go_wp2_with fail
    go_ret
    exact ⟨rfl, rfl⟩
  · have d1 : decide (first < 0) = false := decide_eq_false (by omega)
    have d2 : decide ((fr : Int) < first) = true := decide_eq_true h1
    go_enter Tryz.func25, Tryz.ntmps25
    go_wp2_with fail
    go_ret
    exact ⟨rfl, rfl⟩
theorem q_new (rb vb fr first : Nat) (s : List UInt8) (t : Int) (w : World) (h : RMemO w rb vb s t) (hs : s.length = fr * 256) (hf : first ≤ fr) (hne : vb ≠ rb) :
    Calls Tryz.prog 25 #[.pointer (some ⟨rb, 0, none⟩), .int .i64 (first : Int)] w fun e w' => ∃ rp ib, e = .returned (.pointer (some ⟨rp, 0, none⟩)) ∧ RPO w' rp ib rb vb first (List.replicate fr true) s t ∧ w.heap.size ≤ rp ∧ w.heap.size ≤ ib ∧ Gr w w' := by
  have c0 := blk_cell h.1 0 (v := .slice (some ⟨vb, 0, none⟩) s.length s.length) rfl
  have hl := h.2.2.2
  have hd : ((s.length : Nat) : Int) / 256 = (fr : Int) := by omega
  have hfr : fr ≤ 256 := by omega
  have hmk := mk_bools fr (by omega)
  have HX := Lib.hid h
  have HS := Lib.hid hs
  clear h hs
  obtain ⟨N, hN⟩ : ∃ N, N = s.length := ⟨_, rfl⟩
  rw [← hN] at c0 hl hd
  clear hN
  have d1 : decide (fr < first) = false := decide_eq_false (by omega)
  go_enter Tryz.func25, Tryz.ntmps25
  go_wp2_with fail
  go_ret
  have hA := blk_alloc (.cells #[.pointer (some ⟨rb, 0, none⟩), .int .i64 first, .slice (some ⟨w.heap.size, 0, none⟩) fr fr] 50) (blk_new w (.cells (hadB (List.replicate fr true)) 4))
  have hB := blk_new (w.alloc (.cells (hadB (List.replicate fr true)) 4)) (.cells #[.pointer (some ⟨rb, 0, none⟩), .int .i64 first, .slice (some ⟨w.heap.size, 0, none⟩) fr fr] 50)
  have hsz : (w.alloc (.cells (hadB (List.replicate fr true)) 4)).heap.size = w.heap.size + 1 := by simp
  rw [hsz] at hB
  have hal : Gr w ((w.alloc (.cells (hadB (List.replicate fr true)) 4)).alloc (.cells #[.pointer (some ⟨rb, 0, none⟩), .int .i64 first, .slice (some ⟨w.heap.size, 0, none⟩) fr fr] 50)) := ((Gr.refl w).alloc (Nat.le_refl _) _).alloc (by omega) _
  have hR := HX.out.keep (S := fun _ => False) (Ch.of_gr hal) (fun h => h) (fun h => h)
  have l1 : rb < w.heap.size := blk_lt HX.out.1
  have l2 : vb < w.heap.size := blk_lt HX.out.2.2.1
  have hn : (List.replicate fr true).length = fr := List.length_replicate
  refine ⟨w.heap.size + 1, w.heap.size, by simp, ⟨by rw [hn]; exact hB, hA, hR, ⟨by omega, by omega, by omega, by omega, by omega⟩, by rw [hn]; exact HS.out, by rw [hn]; exact hfr, by rw [hn]; exact hf⟩, by omega, Nat.le_refl _, hal⟩
end Go.Proofs.YtbcnibnkojnpiaaGreat.P
