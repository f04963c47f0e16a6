/- Stage 7: the calls of LogWhole. No condition. -/
import Derived.Test.YtgaibknhdaeidaaA46
set_option linter.unusedVariables false
set_option maxRecDepth 50000
namespace Go.Proofs.Ytgaibknhdaeidaa.P
open Go.RowKit
theorem e_commK {w0 w : World} {d l mb : Nat} {z : DState} {st : List (Int × ByteArray)} {R : Asn} (h : Own w0 w (DL d z l mb st false R)) (hs : Stable R) (hst : okSt 60 st) (hw : z.wait.length ≤ 2000000000000) :
    Calls Try.prog 14 #[ptr l] w fun e w' => e = .returned (.int .i64 (commQ st z).1) ∧ Own w0 w' (DL d (commQ st z).2 l mb [] (!decide ((commQ st z).1 = 0)) R) := by
  unfold commQ
  by_cases he : st = []
  · subst he
    refine (o_commit_nil h).mono ?_
    rintro e w' ⟨rfl, rfl⟩
    exact ⟨rfl, h⟩
  · rw [if_neg he]
    exact o_commit h hs (List.length_pos_iff.2 he) hst.2.1 (fun x hx => by have := hst.2.2 x hx; omega) hw
theorem e_openK {w0 w : World} {d : Nat} {z : DState} {R : Asn} (h : Own w0 w (Star (dsk d z) R)) (hs : Stable R) (hz : SZ z) (hw : z.wait.length ≤ 2000000000000) :
    Calls Try.prog 12 #[ptr d] w fun e w' => (∃ (o : Option Addr) (r : Int), e = .returned (.tuple #[.pointer o, .int .i64 r])) ∧ Own w0 w' (Star (dsk d (openQ z).2) R) :=
  (o_open h hs hz hw).mono fun e w' k => by
    by_cases e0 : (openQ z).1 = 0
    · obtain ⟨l, mb, h1, h2⟩ := k.1 e0
      exact ⟨⟨_, _, h1⟩, h2.drop2⟩
    · obtain ⟨h1, h2⟩ := k.2 e0
      exact ⟨⟨_, _, h1⟩, h2⟩
theorem home_of {z : DState} {st : List (Int × ByteArray)} (hc : Clean z 60) (F : Nat → ByteArray) (h : ∀ i : Nat, 32 + i < 60 → (lookS (i : Int) st).getD (getS z.safe (32 + i)) = F i) : homeL false z st 28 = (List.range 28).map F := by
  unfold homeL
  refine List.map_congr_left fun i hi => ?_
  have hl : i < 28 := List.mem_range.1 hi
  rw [get_clean hc st i (by omega), h i (by omega)]
/-- What is found: what was ahead of it, or all that it made. -/
theorem whole_end {st : List (Int × ByteArray)} {z zf : DState} {won : Bool} (hc : Clean z 60) (hf : Clean zf 60)
    (h : (won = false ∧ ∀ i : Nat, 32 + i < 60 → getS zf.safe (32 + i) = getS z.safe (32 + i)) ∨ ∀ i : Nat, 32 + i < 60 → getS zf.safe (32 + i) = (lookS (i : Int) st).getD (getS z.safe (32 + i))) :
    (won = false ∧ sameB (homeL false zf [] 28) (homeL false z [] 28) = true) ∨ sameB (homeL false zf [] 28) (homeL false z st 28) = true := by
  rcases h with ⟨e, h⟩ | h
  · refine .inl ⟨e, decide_eq_true ?_⟩
    rw [home_of (st := []) hf (fun i => getS z.safe (32 + i)) (fun i hi => h i hi), home_of (st := []) hc (fun i => getS z.safe (32 + i)) (fun i hi => rfl)]
  · refine .inr (decide_eq_true ?_)
    rw [home_of (st := []) hf (fun i => (lookS (i : Int) st).getD (getS z.safe (32 + i))) (fun i hi => h i hi), home_of (st := st) hc (fun i => (lookS (i : Int) st).getD (getS z.safe (32 + i))) (fun i hi => rfl)]
/-- Two rows among the objects. -/
theorem e_sameR {w0 w : World} {ga ca gb cb : Nat} {LA LB : List ByteArray} (hla : LA.length = 28) (hlb : LB.length = 28) (ha : Own w0 w (Star (rowV (.slice (some ⟨ga, 0, none⟩) 28 ca) 28 LA) emp)) (hb : Own w0 w (Star (rowV (.slice (some ⟨gb, 0, none⟩) 28 cb) 28 LB) emp)) :
    Calls Try.prog 18 #[.slice (some ⟨ga, 0, none⟩) 28 ca, .slice (some ⟨gb, 0, none⟩) 28 cb] w fun e w' => e = .returned (.bool (sameB LA LB)) ∧ Gr w w' := by
  have h1 : RowS w (some ⟨ga, 0, none⟩) LA := rowS_own (c := ca) (by rw [hla]; exact ha.row)
  have h2 : RowS w (some ⟨gb, 0, none⟩) LB := rowS_own (c := cb) (by rw [hlb]; exact hb.row)
  have := e_same w _ _ ca cb LA LB h1 h2 (by rw [hla]; omega)
  rw [hla, hlb] at this
  exact this
theorem Own.top1 {w0 w : World} {A R : Asn} (h : Own w0 w (Star A R)) : Own w0 w (Star A emp) := h.mono fun F hF => star_mono_r (fun _ _ => trivial) hF
/-- The last opening. -/
theorem e_openL {w0 w : World} {d : Nat} {st : List (Int × ByteArray)} {A B : Nat → ByteArray} {won : Bool} {m : Nat} {z : DState} {R : Asn} (hm : m ≤ 1000000) (hx : KX 60 st A B won m z) (h : Own w0 w (Star (dsk d (crashZ z 0)) R)) (hs : Stable R) :
    Calls Try.prog 12 #[ptr d] w fun e w' => ∃ l mb, e = .returned (.tuple #[ptr l, .int .i64 0]) ∧ Own w0 w' (DL d (openQ (crashZ z 0)).2 l mb [] false R) := by
  have hk := kx_last (by omega) (by omega) hx
  exact o_open_ok h hs (sz_crash z (kx_sz hx) 0) (by show 0 ≤ _; omega) _ (Prod.ext hk.1 rfl)
theorem RowU.gr {w w' : World} {o : Option Addr} {A : List Int} (h : RowU w o A) (g : Gr w w') : RowU w' o A := fun j s hj => by
  obtain ⟨b, off, e, c⟩ := h j s hj
  exact ⟨b, off, e, kcell g c⟩
theorem TxAt.gr {w w' : World} {bl off k : Nat} (h : TxAt w bl off k) (g : Gr w w') : TxAt w' bl off k := by
  obtain ⟨oI, oS, cI, cS, I, S, q0, q1, hI, hS, r⟩ := h
  exact ⟨oI, oS, cI, cS, I, S, kcell g q0, kcell g q1, hI.gr g, hS.gr g, r⟩
end Go.Proofs.Ytgaibknhdaeidaa.P
