/- Stage 11: Out. No condition. -/
import Derived.Test.YtbcnibnkojnpiaaEJ
import Derived.Deep.DeepCutAuto
import Derived.Deep.RegionHeld3
set_option linter.unusedVariables false
set_option linter.unusedSimpArgs false
set_option maxRecDepth 100000
namespace Go.Proofs.Ytbcnibnkojnpiaa.P
open Go.RowKit Go.MuLone Go.Maps
variable {w0 w : World} {pb b first : Nat} {z : Sp} {R : Asn}
abbrev strB (sb : Nat) (s : ByteArray) : Asn := blkA sb (.cells #[.string s] 9)
abbrev outB (xq sb pb : Nat) (s : ByteArray) : Asn := Star (poolB xq pb) (strB sb s)
theorem stable_outB (xq sb pb : Nat) (s : ByteArray) : Stable (outB xq sb pb s) := stable_star (stable_blk _ _) (stable_blk _ _)
theorem outB_p {A : Asn} {xq sb : Nat} {s : ByteArray} (h : Own w0 w (Star A (Star (outB xq sb pb s) R))) : w.cell? ⟨xq, 0, none⟩ = some (.pointer (some ⟨pb, 0, none⟩)) :=
  blk_cell (h.mono (fun F h => star_assoc (star_swap2 h))).blk 0 rfl
theorem outB_s {A : Asn} {xq sb : Nat} {s : ByteArray} (h : Own w0 w (Star A (Star (outB xq sb pb s) R))) : w.cell? ⟨sb, 0, none⟩ = some (.string s) :=
  blk_cell (h.mono (fun F h => star_swap2 (star_assoc (star_swap2 h)))).blk 0 rfl
def putX2 (s : ByteArray) (p a c : Int) (x : Sp) : Sp := ⟨x.L, putS x.s p (s.extract a.toNat c.toNat)⟩
set_option maxHeartbeats 1600000 in
theorem o_out2 {xq sb : Nat} {s : ByteArray} (h : Own w0 w (Star (plA pb b first z.L z.s) (Star (outB xq sb pb s) R))) (hR : Stable R) (p a c : Int) (hp : u64 p) (ha : 0 ≤ a) (hc : a < c) (hc2 : c ≤ s.size) (hs : s.size ≤ 4096) :
    Calls Try.prog 50 #[.int .u64 p, .int .i64 a, .int .i64 c, .pointer (some ⟨xq, 0, none⟩), .pointer (some ⟨sb, 0, none⟩)] w fun e w' => e = .returned (.tuple #[]) ∧ Own w0 w' (Star (plA pb b first (putX2 s p a c z).L (putX2 s p a c z).s) (Star (outB xq sb pb s) R)) := by
  have SB := stable_star (stable_outB xq sb pb s) hR
  obtain ⟨A, rfl⟩ : ∃ A : Nat, a = (A : Int) := ⟨a.toNat, by omega⟩
  obtain ⟨C, rfl⟩ : ∃ C : Nat, c = (C : Int) := ⟨c.toNat, by omega⟩
  have c0 := outB_p h
  have c1 := outB_s h
  have HS := Lib.hid (stable_star (stable_pl pb b first z.L z.s) SB)
  have H0 := Lib.hid h
  have l1 : C ≤ s.size := by omega
  have l2 : A ≤ C := by omega
  obtain ⟨E, hE⟩ : ∃ E, putR z.s p (s.extract A C) = E := ⟨_, rfl⟩
  have hxs : (s.extract A C).size ≤ maxLen := by
    rw [ByteArray.size_extract]; unfold maxLen; omega
  have PT : RowKit.Hid (∀ w, Own w0 w (Star (plA pb b first z.L z.s) (Star (outB xq sb pb s) R)) → Calls Try.prog 51 #[.pointer (some ⟨b, 0, none⟩), .int .u64 p, .string (s.extract A C)] w fun e w' => e = .returned (.int .i64 E) ∧ Own w0 w' (Star (plA pb b first (putX2 s p A C z).L (putX2 s p A C z).s) (Star (outB xq sb pb s) R))) := Lib.hid (fun w h => o_pput h SB p _ E hp hxs _ rfl hE)
  generalize (putX2 s p A C z).L = L2 at *
  generalize (putX2 s p A C z).s = s2 at *
  clear h hR SB hp hE hxs
  go_enter Try.func50, Try.ntmps50
  go_wp2_with fail
  have hS : Own w0 w (Star (plA pb b first z.L z.s) (Star (outB xq sb pb s) R)) := H0.out
  have hS1 := hS.drew HS.out
  go_region_with (first
      | (go_at_call 25; refine (o_pmem (H0.out.drew HS.out)).mono ?_; rintro e w3 ⟨rfl, rfl⟩)
      | (go_at_call 51; refine (PT.out _ (H0.out.drew HS.out)).mono ?_; rintro e w3 ⟨rfl, h3⟩))
  all_goals
    go_wp2_with fail
    go_end0
    exact ⟨rfl, by assumption⟩
theorem o_out1 (w : World) (p a c : Int) : Calls Try.prog 49 #[.int .u64 p, .int .i64 a, .int .i64 c] w fun e w' => e = .returned (.tuple #[]) ∧ w' = w := by
  go_enter Try.func49, Try.ntmps49
  go_wp2_with fail
  go_end0
  exact ⟨rfl, rfl⟩
theorem cbd_out1 (w0 : World) (pb b fi : Nat) (z : Sp) (A : Asn) (hA : Stable A) (n : Int) : Cbd (X := Unit) (fun _ => z) (fun x => A) (fun a x => True) pb b fi n (fun _ _ _ u => u) 49 #[] w0 := by
  refine ⟨fun x => hA, fun _ _ _ _ _ _ _ _ _ => trivial, ?_, ?_⟩
  · intro p a c w; simp [go_sem]
  · intro x p a c w R hR hk hp h0 h1 h2 h3 h
    refine (o_out1 w p a c).mono ?_
    rintro e w' ⟨rfl, rfl⟩
    exact ⟨rfl, h⟩
theorem cbd_out2 (w0 : World) (pb b fi xq sb : Nat) (s : ByteArray) (hs : s.size ≤ 4096) : Cbd (X := Sp) id (fun x => outB xq sb pb s) (fun a x => True) pb b fi s.size (fun p a c x => putX2 s p a c x) 50 #[.pointer (some ⟨xq, 0, none⟩), .pointer (some ⟨sb, 0, none⟩)] w0 := by
  refine ⟨fun x => stable_outB _ _ _ _, fun _ _ _ _ _ _ _ _ _ => trivial, ?_, ?_⟩
  · intro p a c w; simp [go_sem]
  · intro x p a c w R hR hk hp h0 h1 h2 h3 h
    exact o_out2 h hR p a c hp h0 h1 h2 hs
/-- May all of them be written: then they are. -/
def outC (z : Sp) (root at_ n : Int) : Int := (chunkX (X := Unit) (fun _ => z) root at_ n 2 (fun _ _ _ u => u) (n.toNat + 1) 0 ()).2
def outW (z : Sp) (root at_ : Int) (s : ByteArray) : Sp × Int := chunkX (X := Sp) id root at_ s.size 2 (fun p a c x => putX2 s p a c x) (((s.size : Nat) : Int).toNat + 1) 0 z
theorem o_out_bad (h : Own w0 w (Star (plA pb b first z.L z.s) R)) (hR : Stable R) (r a : Int) (s : ByteArray) (hr : i64 r) (hs : s.size ≤ 9223372036854775807) (hbad : movedBad first z r s.size = true) :
    Calls Try.prog 15 #[.pointer (some ⟨pb, 0, none⟩), .int .i64 r, .int .u64 a, .string s] w fun e w' => e = .returned (.int .i64 1) ∧ Own w0 w' (Star (plA pb b first z.L z.s) R) := by
  have SP := stable_star (stable_pl pb b first z.L z.s) hR
  have K1 := h.alloc SP (.cells #[.pointer (some ⟨pb, 0, none⟩)] 26)
  have SB := stable_star (stable_blk w.heap.size (.cells #[.pointer (some ⟨pb, 0, none⟩)] 26)) SP
  have K2 := K1.alloc SB (.cells #[.string s] 9)
  rw [size_alloc] at K2
  have K3 : Own w0 ((w.alloc (.cells #[.pointer (some ⟨pb, 0, none⟩)] 26)).alloc (.cells #[.string s] 9)) (Star (plA pb b first z.L z.s) (Star (outB w.heap.size (w.heap.size + 1) pb s) R)) := K2.mono (fun F h => star_mono_r (fun F h => star_unassoc (star_swap2 h)) (st3 h))
  have SO := stable_star (stable_outB w.heap.size (w.heap.size + 1) pb s) hR
  obtain ⟨tk, htk⟩ : ∃ t, tknB z.L first r = t := ⟨_, rfl⟩
  have TK := Lib.hid (o_ptaken K3 SO r hr tk htk)
  unfold movedBad at hbad
  rw [htk] at hbad
  clear h hR SP SB hr htk K1 K2 SO K3
  rcases (show tk = false ∨ (tk = true ∧ 4096 < (s.size : Int)) by
    cases tk
    · exact .inl rfl
    · simp only [Bool.not_true, Bool.false_or, Bool.or_eq_true, decide_eq_true_eq] at hbad
      exact .inr ⟨rfl, by omega⟩) with rfl | ⟨rfl, e⟩
  all_goals
    clear hbad
    go_enter Try.func15, Try.ntmps15
    go_wp2_with (go_at_call 23; refine TK.out.mono ?_; rintro e w2 ⟨rfl, h2⟩; have H2 := Lib.hid h2; have c2 := outB_s h2; clear h2)
    go_ret
    exact ⟨rfl, H2.out.drop2⟩
set_option maxHeartbeats 1600000 in
theorem o_out_go (h : Own w0 w (Star (plA pb b first z.L z.s) R)) (hR : Stable R) (r a : Int) (s : ByteArray) (hr : i64 r) (ha : u64 a) (hbad : movedBad first z r s.size = false) (E1 E2 : Int) (z2 : Sp) (hx : outC z r a s.size = E1) (hx2 : E1 = 0 → outW z r a s = (z2, E2)) :
    Calls Try.prog 15 #[.pointer (some ⟨pb, 0, none⟩), .int .i64 r, .int .u64 a, .string s] w fun e w' => e = .returned (.int .i64 (bif decide (E1 = 0) then E2 else E1)) ∧ Own w0 w' (Star (plA pb b first (bif decide (E1 = 0) then z2 else z).L (bif decide (E1 = 0) then z2 else z).s) R) := by
  have hb : tknB z.L first r = true ∧ ¬ 4096 < (s.size : Int) := by
    unfold movedBad at hbad
    cases q : tknB z.L first r
    · rw [q] at hbad; cases hbad
    · rw [q] at hbad
      simp only [Bool.not_true, Bool.false_or, Bool.or_eq_false_iff, decide_eq_false_iff_not] at hbad
      exact ⟨rfl, hbad.2⟩
  obtain ⟨htk, e2⟩ := hb
  have SP := stable_star (stable_pl pb b first z.L z.s) hR
  have K1 := h.alloc SP (.cells #[.pointer (some ⟨pb, 0, none⟩)] 26)
  have SB := stable_star (stable_blk w.heap.size (.cells #[.pointer (some ⟨pb, 0, none⟩)] 26)) SP
  have K2 := K1.alloc SB (.cells #[.string s] 9)
  rw [size_alloc] at K2
  have K3 : Own w0 ((w.alloc (.cells #[.pointer (some ⟨pb, 0, none⟩)] 26)).alloc (.cells #[.string s] 9)) (Star (plA pb b first z.L z.s) (Star (outB w.heap.size (w.heap.size + 1) pb s) R)) := K2.mono (fun F h => star_mono_r (fun F h => star_unassoc (star_swap2 h)) (st3 h))
  have SO := stable_star (stable_outB w.heap.size (w.heap.size + 1) pb s) hR
  have TK := Lib.hid (o_ptaken K3 SO r hr true htk)
  have CH1 : RowKit.Hid (∀ (w : World) (xq sb : Nat), Own w0 w (Star (plA pb b first z.L z.s) (Star (outB xq sb pb s) R)) → Calls Try.prog 44 #[.pointer (some ⟨pb, 0, none⟩), .int .i64 r, .int .u64 a, .int .i64 s.size, .int .i64 2, .func (.func 49) #[] #[]] w fun e w' =>
      e = .returned (.int .i64 E1) ∧ Own w0 w' (Star (plA pb b first z.L z.s) (Star (outB xq sb pb s) R))) := Lib.hid (fun w xq sb h => by
    refine (o_chunks (cbd_out1 w0 pb b first z (outB xq sb pb s) (stable_outB _ _ _ _) s.size) () r a 2 w R hR trivial ⟨by omega, by omega⟩ hr ha h).mono ?_
    unfold outC at hx
    rw [hx]
    exact fun e w' h => h)
  have CH2 : RowKit.Hid (∀ (w : World) (xq sb : Nat), E1 = 0 → Own w0 w (Star (plA pb b first z.L z.s) (Star (outB xq sb pb s) R)) → Calls Try.prog 44 #[.pointer (some ⟨pb, 0, none⟩), .int .i64 r, .int .u64 a, .int .i64 s.size, .int .i64 2, .func (.func 50) #[] #[.pointer (some ⟨xq, 0, none⟩), .pointer (some ⟨sb, 0, none⟩)]] w fun e w' =>
      e = .returned (.int .i64 E2) ∧ Own w0 w' (Star (plA pb b first z2.L z2.s) (Star (outB xq sb pb s) R))) := Lib.hid (fun w xq sb he h => by
    refine (o_chunks (cbd_out2 w0 pb b first xq sb s (by omega)) z r a 2 w R hR trivial ⟨by omega, by omega⟩ hr ha h).mono ?_
    have hx3 := hx2 he
    unfold outW at hx3
    rw [hx3]
    exact fun e w' h => h)
  clear h hR SP SB hr ha htk K1 K2 K3 SO hx hx2 hbad
  go_enter Try.func15, Try.ntmps15
  go_upto_region 3 with (go_at_call 23; refine TK.out.mono ?_; rintro e w2 ⟨rfl, h2⟩; have H2 := Lib.hid h2; have c2 := outB_s h2; have c3 := outB_p h2; clear h2)
  clear TK
  generalize w.heap.size + 1 = sb at *
  generalize w.heap.size = xq at *
  have E3 := Lib.hid (CH1.out w2 xq sb H2.out)
  go_upto_region 4 with (go_at_call 44; refine E3.out.mono ?_; rintro e w4 ⟨rfl, h4⟩; have H4 := Lib.hid h4; have c4 := outB_s h4; have c5 := outB_p h4; clear h4)
  clear E3 H2 c2 c3
  by_cases h0 : E1 = 0
  · have E4 := Lib.hid (CH2.out w4 xq sb h0 H4.out)
    subst h0
    clear CH1 CH2
    go_wp2_with (go_at_call 44; refine E4.out.mono ?_; rintro e w5 ⟨rfl, h5⟩; have H5 := Lib.hid h5; clear h5)
    go_ret
    exact ⟨rfl, H5.out.drop2⟩
  · have hwb2 : (E1 != 0) = true := by simpa using h0
    clear CH1 CH2
    go_wp2_with fail
    go_ret
    rw [decide_eq_false h0]
    exact ⟨rfl, H4.out.drop2⟩
end Go.Proofs.Ytbcnibnkojnpiaa.P
