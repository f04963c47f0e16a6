/- Stage 7: a transaction that came in, opened. No condition. -/
import Derived.Test.YtlpcccpagmipnaaGreatA29
import Derived.Test.YtlpcccpagmipnaaGreatZ
import Derived.SliceStrings
import Derived.ChangeSlices
import Derived.Deep.QuietTactic
import Derived.BigQuiet
import Derived.Deep.AppendLies
set_option linter.unusedVariables false
set_option maxRecDepth 50000
namespace Go.Proofs.YtlpcccpagmipnaaGreat.P
open Go.RowKit
section
open Go.ChangeShapes Go.WideShapes Go.Deep
variable {H : Type} {enc : TypeId × Value → H} {w : World} {base : Nat} {spare : Nat → Bool} {held : Bool}
theorem add_at (bl off j : Nat) : (Addr.add ⟨bl, off, none⟩ j) = ⟨bl, off + j, none⟩ := by
  unfold Addr.add; split
  · rename_i hz; rw [hz]; rfl
  · rfl
theorem open_ints_c {n : Nat} {x : Value} {y : DataW H × List MemPlace} (h : DataW.trod enc Tryz.prog w base spare held n 77 [x] = some y) (HD : ∀ k ∈ y.1.weights Tryz.prog 77, k ≤ 140737488351232) :
    ∃ (o : Option Addr) (c : Nat) (A : List Int), x = .slice o A.length c ∧ A.length ≤ 4000000000000000 ∧ RowI w o A := by
  rcases open_ints Tryz.underlying77 Tryz.underlying3 (by kernel_rfl) h with ⟨hcs, _⟩ | ⟨a, len, cap, zs, hcs, hb, hl, hm, hzs, hx, hcell, hsz⟩
  · injection hcs with hcs _
    exact ⟨none, 0, [], hcs, by simp, rowI_nil _ _⟩
  · injection hcs with hcs _
    have ed := congrArg Prod.fst hx
    dsimp only at ed
    have hle : len ≤ zs.length := by rw [hzs]; split <;> omega
    refine ⟨some a, cap, zs.take len, by rw [List.length_take, Nat.min_eq_left hle]; exact hcs, ?_, fun j i hj => ?_⟩
    · have hby : Tryz.prog.bytesOf 3 = 8 := by kernel_rfl
      have := HD ((List.length (lits (H := H) .i64 (zs.take len)) + List.length (lits (H := H) .i64 (zs.drop len))) * Tryz.prog.bytesOf 3) (by
        rw [ed]
        simp only [DataW.weights, Tryz.underlying77, List.mem_cons]
        exact .inl trivial)
      rw [hby] at this
      have h2 : (lits (H := H) .i64 (zs.take len)).length = (zs.take len).length := by simp [lits]
      rw [h2] at this
      omega
    · have hjl : j < (zs.take len).length := (List.getElem?_eq_some_iff.1 hj).1
      rw [List.length_take, Nat.min_eq_left hle] at hjl
      have h1 := hcell j (by omega)
      have h2 : zs.getD j 0 = i := by
        rw [List.getElem?_take_of_lt hjl] at hj
        rw [List.getD_eq_getElem?_getD, hj]; rfl
      rw [h2] at h1
      have hsp : a.spot = none := by simpa [Addr.add] using World.cell?_spot (hcell 0 (by omega))
      obtain ⟨bl, off, sp⟩ := a
      dsimp only at hsp
      subst hsp
      exact ⟨bl, off, rfl, by rw [← add_at]; exact h1⟩
theorem open_strs_c {n : Nat} {x : Value} {y : DataW H × List MemPlace} (h : DataW.trod enc Tryz.prog w base spare held n 42 [x] = some y) (HD : ∀ k ∈ y.1.weights Tryz.prog 42, k ≤ 140737488351232) :
    ∃ (o : Option Addr) (c : Nat) (A : List ByteArray), x = .slice o A.length c ∧ A.length ≤ 4000000000000000 ∧ RowS w o A ∧ ∀ s ∈ A, s.size ≤ 9223372036854770000 := by
  rcases open_strings Tryz.underlying42 Tryz.underlying9 (by kernel_rfl) h with ⟨hcs, _⟩ | ⟨a, len, cap, ss, hcs, hb, hl, hm, hss, hx, hcell, hsz⟩
  · injection hcs with hcs _
    exact ⟨none, 0, [], hcs, by simp, fun j s hj => by simp at hj, fun s hs => by cases hs⟩
  · injection hcs with hcs _
    have ed := congrArg Prod.fst hx
    dsimp only at ed
    have hle : len ≤ ss.length := by rw [hss]; split <;> omega
    refine ⟨some a, cap, ss.take len, by rw [List.length_take, Nat.min_eq_left hle]; exact hcs, ?_, fun j s hj => ?_, fun s hs => ?_⟩
    · have hby : Tryz.prog.bytesOf 9 = 16 := by kernel_rfl
      have := HD ((List.length (Go.ChangeShapes.strs (ss.take len) : List (DataW H)) + List.length (Go.ChangeShapes.strs (ss.drop len) : List (DataW H))) * Tryz.prog.bytesOf 9) (by
        rw [ed]
        simp only [DataW.weights, Tryz.underlying42, List.mem_cons]
        exact .inl trivial)
      rw [hby] at this
      have h2 : (Go.ChangeShapes.strs (ss.take len) : List (DataW H)).length = (ss.take len).length := by simp [Go.ChangeShapes.strs]
      rw [h2] at this
      omega
    · have hjl : j < (ss.take len).length := (List.getElem?_eq_some_iff.1 hj).1
      rw [List.length_take, Nat.min_eq_left hle] at hjl
      have h1 := hcell j (by omega)
      have h2 : ss.getD j ByteArray.empty = s := by
        rw [List.getElem?_take_of_lt hjl] at hj
        rw [List.getD_eq_getElem?_getD, hj]; rfl
      rw [h2] at h1
      have hsp : a.spot = none := by simpa [Addr.add] using World.cell?_spot (hcell 0 (by omega))
      obtain ⟨bl, off, sp⟩ := a
      dsimp only at hsp
      subst hsp
      exact ⟨bl, off, rfl, by rw [← add_at]; exact h1⟩
    · have := HD s.size (by
        rw [ed]
        simp only [DataW.weights, Tryz.underlying42, List.mem_cons, List.mem_append]
        refine .inr (.inl (weightsAll_mem (d := .lit (.string s.data.toList)) ?_ ?_))
        · show s.size ∈ [s.data.toList.length]
          rw [Array.length_toList]; exact List.mem_singleton.2 rfl
        · unfold Go.ChangeShapes.strs
          exact List.mem_map.2 ⟨s, hs, rfl⟩)
      omega
end
end Go.Proofs.YtlpcccpagmipnaaGreat.P
namespace Go.Proofs.YtlpcccpagmipnaaGreat.P
open Go.RowKit
theorem rowS_own {w : World} {g c : Nat} {A : List ByteArray} (h : w.ownsRow 0 9 1 (.slice (some ⟨g, 0, none⟩) A.length c) A.length (strs A)) : RowS w (some ⟨g, 0, none⟩) A := fun j s hj => by
  refine ⟨g, 0, rfl, ?_⟩
  have hl : j < A.length := (List.getElem?_eq_some_iff.1 hj).1
  rw [Nat.zero_add, World.ownsRow.cellAt h j (by omega)]
  unfold strs; rw [List.getElem?_map, hj]; rfl
theorem beq_of {x s : ByteArray} (h : x = s) : (x.toList == s.toList) = true := by rw [h]; exact beq_self_eq_true _
def sameB (A B : List ByteArray) : Bool := decide (A = B)
theorem same_step (A B : List ByteArray) (hl : A.length = B.length) (h : ∀ j, j < A.length → A[j]? = B[j]?) : sameB A B = true := by
  unfold sameB
  refine decide_eq_true (List.ext_getElem? fun j => ?_)
  rcases Nat.lt_or_ge j A.length with hj | hj
  · exact h j hj
  · rw [List.getElem?_eq_none hj, List.getElem?_eq_none (by omega)]
end Go.Proofs.YtlpcccpagmipnaaGreat.P
namespace Go.Proofs.YtlpcccpagmipnaaGreat.P
open Go.RowKit
abbrev imgA (g c : Nat) : Asn := rowA 9 1 (.slice (some ⟨g, 0, none⟩) 60 c) 60 (strs zG.safe)
theorem e_img {w0 w : World} {d l mb : Nat} {st : List (Int × ByteArray)} {dead : Bool} {R : Asn} (h : Own w0 w (DL d zG l mb st dead R)) (hs : Stable R) :
    Calls Tryz.prog 56 #[ptr d] w fun e w' => ∃ g c, e = .returned (.slice (some ⟨g, 0, none⟩) 60 c) ∧ Own w0 w' (DL d zG l mb st dead (Star (imgA g c) R)) :=
  (o_image h (stable_star (stable_lg _ _ _ _ _) hs)).mono (by
    rintro e w' ⟨g, cap, rfl, k⟩
    rw [zG_len] at k ⊢
    exact ⟨g, cap, rfl, k.rot3'⟩)
theorem e_gety {w0 w : World} {d l mb : Nat} {R : Asn} (hs : Stable R) (i : Int) (h : Own w0 w (DL d zG l mb [] false R)) :
    Calls Tryz.prog 106 #[ptr l, .int .i64 i] w fun e w' => e = .returned (.tuple #[.string (getB false zG [] i), .int .i64 (getR false zG [] i)]) ∧ Own w0 w' (DL d zG l mb [] false R) := o_get h hs i (by show 0 ≤ _; omega)
theorem stable_img (g c : Nat) {R : Asn} (hs : Stable R) : Stable (Star (imgA g c) R) := stable_star (stable_row _ _ _ _ _) hs
end Go.Proofs.YtlpcccpagmipnaaGreat.P
namespace Go.Proofs.YtlpcccpagmipnaaGreat.P
open Go.RowKit
def homeL (dead : Bool) (z : DState) (st : List (Int × ByteArray)) (k : Nat) : List ByteArray := (List.range k).map fun (i : Nat) => getB dead z st (i : Int)
theorem homeL_len (dead : Bool) (z : DState) (st : List (Int × ByteArray)) (k : Nat) : (homeL dead z st k).length = k := by unfold homeL; rw [List.length_map, List.length_range]
theorem homeL_succ (dead : Bool) (z : DState) (st : List (Int × ByteArray)) (k : Nat) : strs (homeL dead z st (k + 1)) = strs (homeL dead z st k) ++ [.string (getB dead z st (k : Int))] := by
  unfold homeL strs; rw [List.range_succ, List.map_append, List.map_append]; rfl
abbrev rowV (v : Value) (n : Nat) (L : List ByteArray) : Asn := rowA 9 1 v n (strs L)
theorem own_nilrow {w0 w : World} {d : Nat} {z : DState} {l mb : Nat} {st : List (Int × ByteArray)} {dead : Bool} {R : Asn} (h : Own w0 w (DL d z l mb st dead R)) (hs : Stable R) : Own w0 w (DL d z l mb st dead (Star (rowV (.slice none 0 0) 0 []) R)) :=
  (h.add (stable_dl _ _ _ _ _ _ hs) (Gr.refl _) (A := rowV (.slice none 0 0) 0 []) ⟨fun _ => False, ⟨⟨rfl, .inl ⟨rfl, rfl⟩⟩, fun b hb => by cases hb⟩, fun x hx => hx.elim⟩).rot3'
def HomesP (w0 : World) (d : Nat) (z : DState) (l mb : Nat) (st : List (Int × ByteArray)) (dead : Bool) (R : Asn) (m : Nat) (e : Ending) (w' : World) : Prop :=
  ∃ g c, e = .returned (.slice (some ⟨g, 0, none⟩) m c) ∧ Own w0 w' (DL d z l mb st dead (Star (rowV (.slice (some ⟨g, 0, none⟩) m c) m (homeL dead z st m)) R))
end Go.Proofs.YtlpcccpagmipnaaGreat.P
namespace Go.Proofs.YtlpcccpagmipnaaGreat.P
open Go.RowKit
/-- A disk with power, on which nothing waits and no commit was cut off. -/
structure Clean (z : DState) (n : Nat) : Prop where
  live : Live z
  still : z.wait = []
  len : z.safe.length = n
  head : getS z.safe 1 = z64
  sz : SZ z
  wz : WZ z
theorem clean_new (n : Nat) (h1 : 48 ≤ n) (h2 : n ≤ 544) : Clean (newZ (List.replicate n z64)) n :=
  ⟨⟨rfl, rfl⟩, rfl, List.length_replicate, by
    unfold getS
    show ((List.replicate n z64)[1]?).getD ⟨#[]⟩ = z64
    rw [List.getElem?_replicate, if_pos (by omega)]; rfl, sz_new n, newZ_wz _ (by rw [List.length_replicate]; exact h1) (by rw [List.length_replicate]; exact h2)⟩
theorem sz_exec : ∀ (l : List DOp) (z : DState), Live z → SZ z → (∀ o ∈ l, okOp z.safe.length o) → SZ (exec l z).2
  | [], z, _, h, _ => h
  | o :: l, z, hl, h, hok => by
    have hs := live_step z hl o (fun i s e => by have := hok o (List.mem_cons_self ..); rw [e] at this; exact this)
    rw [exec_ok hs.1]
    refine sz_exec l _ hs.2 ?_ (fun p hp => by rw [step_len]; exact hok p (List.mem_cons_of_mem _ hp))
    cases o with
    | wr i s => exact sz_write z hl h i s
    | fl => exact sz_flush z hl h
def commZ (st : List (Int × ByteArray)) (z : DState) : DState := if st = [] then z else (exec (commitOps st) z).2
theorem comm_clean {n : Nat} {z : DState} {st : List (Int × ByteArray)} (hc : Clean z n) (hn : 48 ≤ n) (h : okSt n st) :
    Clean (commZ st z) n ∧ (st ≠ [] → (exec (commitOps st) z).1 = 0) ∧ ∀ i : Nat, 32 + i < n → getS (commZ st z).safe (32 + i) = (lookS (i : Int) st).getD (getS z.safe (32 + i)) := by
  unfold commZ
  by_cases hs : st = []
  · rw [if_pos hs]
    exact ⟨hc, fun k => absurd hs k, fun i _ => by rw [hs]; rfl⟩
  · rw [if_neg hs]
    have hok : ∀ o ∈ commitOps st, okOp z.safe.length o := by rw [hc.len]; exact ok_commit hn h
    obtain ⟨e1, e2⟩ := live_exec (commitOps st) z hc.live hok
    have T : Tran n st (fun i => getS z.safe (32 + i)) (fun i => (lookS (i : Int) st).getD (getS z.safe (32 + i))) := ⟨h.1, h.2.1, hs, fun x hx => by have := h.2.2 x hx; omega, hn, fun i _ => rfl⟩
    have hj := (commit_inv T z hc.live.1 hc.len hc.wz ⟨hc.head, fun i _ => rfl, fun x hx => by cases hx⟩ hc.still).2 e1
    exact ⟨⟨e2, hj.2.2, by rw [exec_len]; exact hc.len, hj.1, sz_exec _ z hc.live hc.sz hok, wz_exec _ z hc.wz⟩, fun _ => e1, hj.2.1⟩
theorem read_clean {n : Nat} {z : DState} (hc : Clean z n) (q : Nat) (hq : q < n) : readR z (q : Int) = 0 ∧ readB z (q : Int) = getS z.safe q := by
  have hh : hasB z (q : Int) = true := by
    unfold hasB; rw [hc.len, decide_eq_true (by omega : (0 : Int) ≤ q), decide_eq_true (by omega : (q : Int) < n)]; rfl
  unfold readR readB
  rw [hc.live.1, hh]
  refine ⟨rfl, ?_⟩
  show readS z (q : Int).toNat = _
  rw [Int.toNat_natCast]
  unfold readS getS
  rw [hc.still]; rfl
theorem get_clean {n : Nat} {z : DState} (hc : Clean z n) (st : List (Int × ByteArray)) (i : Nat) (hi : 32 + i < n) : getB false z st (i : Int) = (lookS (i : Int) st).getD (getS z.safe (32 + i)) := by
  have hr : refF false z.safe.length (i : Int) = 0 := by
    unfold refF
    rw [cond_false, hc.len, decide_eq_true (by omega : (0 : Int) ≤ i), decide_eq_true (by omega : (i : Int) < (n : Int) - 32)]; rfl
  unfold getB
  rw [hr, decide_eq_true rfl, cond_true]
  cases hl : lookS (i : Int) st with
  | some s => rfl
  | none =>
    show readB z (32 + (i : Int)) = _
    rw [show (32 + (i : Int)) = ((32 + i : Nat) : Int) by omega, (read_clean hc (32 + i) hi).2]; rfl
theorem open_clean {n : Nat} {z : DState} (hc : Clean z n) (hn : 48 ≤ n) : openQ z = (0, z) := by
  have h1 := read_clean hc 1 (by omega)
  unfold openQ
  have e1 : readR z 1 = 0 := h1.1
  have e2 : readB z 1 = z64 := h1.2.trans hc.head
  rw [e1, e2, parse_nil]; rfl
theorem o_comm {w0 w : World} {d l mb n : Nat} {z : DState} {st : List (Int × ByteArray)} {R : Asn} (h : Own w0 w (DL d z l mb st false R)) (hs : Stable R) (hc : Clean z n) (hn : 48 ≤ n) (hn2 : n ≤ 544) (hst : okSt n st) :
    Calls Tryz.prog 14 #[ptr l] w fun e w' => e = .returned (.int .i64 0) ∧ Own w0 w' (DL d (commZ st z) l mb [] false R) := by
  by_cases he : st = []
  · subst he
    refine (o_commit_nil h).mono ?_
    rintro e w' ⟨rfl, rfl⟩
    exact ⟨rfl, h⟩
  · have hpos : 0 < st.length := List.length_pos_iff.2 he
    refine (o_commit h hs hpos hst.2.1 (fun x hx => by have := hst.2.2 x hx; omega) (by rw [hc.still]; simp)).mono ?_
    rintro e w' ⟨rfl, k⟩
    have e0 := (comm_clean hc hn hst).2.1 he
    rw [e0] at k ⊢
    unfold commZ
    rw [if_neg he]
    exact ⟨rfl, k⟩
end Go.Proofs.YtlpcccpagmipnaaGreat.P
