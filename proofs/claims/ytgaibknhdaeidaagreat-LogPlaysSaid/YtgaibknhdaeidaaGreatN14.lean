/- Stage 7: one act on both logs. No condition. -/
import Derived.Test.YtgaibknhdaeidaaGreatN12
import Derived.Test.YtgaibknhdaeidaaGreatA10
import Derived.Test.YtgaibknhdaeidaaGreatA21
import Derived.Test.YtgaibknhdaeidaaGreatE3
set_option linter.unusedVariables false
set_option linter.unusedSimpArgs false
set_option maxRecDepth 100000
namespace Go.Proofs.YtgaibknhdaeidaaGreat.P
open Go.RowKit
theorem star_rot3' {A B C D : Asn} {w : World} {F : Nat → Prop} (h : Star A (Star B (Star C D)) w F) : Star B (Star C (Star A D)) w F := star_mono_r (fun F h => star_swap2 h) (star_swap2 h)
theorem star_rot3 {A B C D : Asn} {w : World} {F : Nat → Prop} (h : Star A (Star B (Star C D)) w F) : Star C (Star A (Star B D)) w F := star_swap2 (star_mono_r (fun F h => star_swap2 h) h)
theorem star_drop2 {A B C : Asn} {w : World} {F : Nat → Prop} (h : Star A (Star B C) w F) : Star A C w F := by
  obtain ⟨F1, F2, h1, ⟨G1, G2, k1, k2, kd, t1, t2⟩, hd, s1, s2⟩ := h
  exact ⟨F1, G2, h1, k2, fun x hx hy => hd x hx (t2 x hy), s1, fun x hx => s2 x (t2 x hx)⟩
section
variable {w0 w : World} {A B C D X R : Asn}
/-- Two and two change places. -/
theorem Own.flip4 (h : Own w0 w (Star A (Star B (Star C (Star D R))))) : Own w0 w (Star C (Star D (Star A (Star B R)))) :=
  h.rot3.mono fun F hF => star_mono_r (fun F h => star_rot3 h) hF
theorem Own.box4 (h : Own w0 w (Star A (Star B (Star C (Star D R))))) (hs : Stable (Star A (Star B (Star C (Star D R))))) (o : Obj) : Own w0 (w.alloc o) (Star A (Star B (Star C (Star D (Star (blkA w.heap.size o) R))))) :=
  (h.alloc hs o).rot3'.mono fun F hF => star_mono_r (fun F h => star_mono_r (fun F h => star_rot3' h) h) hF
theorem Own.unbox4 (h : Own w0 w (Star A (Star B (Star C (Star D (Star X R)))))) : Own w0 w (Star A (Star B (Star C (Star D R)))) :=
  h.mono fun F hF => star_mono_r (fun F h => star_mono_r (fun F h => star_mono_r (fun F h => star_drop2 h) h) h) hF
end
/-- What holds of both logs between two acts. -/
def Inv7 (n : Nat) (z : DState) (st st2 : List (Int × ByteArray)) (dead : Bool) : Prop :=
  SZ z ∧ WZ z ∧ z.safe.length = n ∧ z.wait.length ≤ 100 ∧ (dead = false → z.wait = [] ∧ st2 = st) ∧ (dead = true → st = []) ∧ st.length ≤ 30 ∧ st2.length ≤ 30 ∧ ∀ x ∈ st, 0 ≤ x.1 ∧ x.1 < 65536
abbrev BL (d r : Nat) (z : DState) (l mb l2 : Nat) (st st2 : List (Int × ByteArray)) (dead : Bool) (R : Asn) : Asn := DL d z l mb st dead (RDL r z l2 st2 dead R)
theorem stable_bl (d r : Nat) (z z2 : DState) (l mb l2 : Nat) (st st2 : List (Int × ByteArray)) (dead dead2 : Bool) {R : Asn} (hs : Stable R) : Stable (DL d z l mb st dead (RDL r z2 l2 st2 dead2 R)) := stable_dl _ _ _ _ _ _ (stable_rdl _ _ _ _ _ hs)
def DoneP (w0 : World) (d r n : Nat) (l mb l2 : Nat) (R : Asn) (e : Ending) (w' : World) : Prop := e = .returned (.bool true) ∧ ∃ z st st2 dead, Inv7 n z st st2 dead ∧ Own w0 w' (BL d r z l mb l2 st st2 dead R)
theorem get_eq {dead : Bool} {n : Nat} {z : DState} {st st2 : List (Int × ByteArray)} (h : Inv7 n z st st2 dead) (i : Int) : getB dead z st2 i = getB dead z st i ∧ getR dead z st2 i = getR dead z st i ∧ ∀ s, setR dead z.safe.length st2 i s = setR dead z.safe.length st i s := by
  cases dead with
  | true => exact ⟨rfl, rfl, fun s => rfl⟩
  | false => rw [(h.2.2.2.2.1 rfl).2]; exact ⟨rfl, rfl, fun s => rfl⟩
theorem inv_set {dead : Bool} {n : Nat} {z : DState} {st st2 : List (Int × ByteArray)} (h : Inv7 n z st st2 dead) (hn : n ≤ 544) (hr : Rising st) (i : Int) (s : ByteArray) : Inv7 n z (setSt (setR dead z.safe.length st i s) st i s) (setSt (setR dead z.safe.length st i s) st2 i s) dead := by
  by_cases h0 : setR dead z.safe.length st i s = 0
  · have hd : refF dead z.safe.length i = 0 := by
      by_cases hf : refF dead z.safe.length i = 0
      · exact hf
      · unfold setR at h0; rw [decide_eq_false hf, cond_false] at h0; exact absurd h0 hf
    obtain ⟨rfl, i0, i1⟩ := refF_ok hd
    obtain ⟨k1, k2, k3, k4, k5, k6, k7, k8, k9⟩ := h
    obtain ⟨k55, rfl⟩ := k5 rfl
    have hs : s.size = 64 := by
      by_cases h64 : s.size = 64
      · exact h64
      · unfold setR at h0; rw [decide_eq_true hd, cond_true, decide_eq_false h64, cond_false] at h0; cases h0
    have hlen : (putS i s st2).length ≤ 30 := by
      rw [put_len i s st2 hr]
      cases hl : (lookS i st2).isSome with
      | true => exact k7
      | false =>
        unfold setR at h0
        rw [decide_eq_true hd, cond_true, decide_eq_true hs, cond_true, hl, cond_false] at h0
        by_cases h30 : 30 ≤ st2.length
        · rw [decide_eq_true h30, cond_true] at h0; cases h0
        · rw [cond_false]; omega
    rw [h0]
    refine ⟨k1, k2, k3, k4, fun _ => ⟨k55, rfl⟩, fun e => (by cases e), hlen, hlen, fun y hy => ?_⟩
    rcases mem_putS hy with e | e
    · rw [e]
      show 0 ≤ i ∧ i < 65536
      rw [k3] at i1
      omega
    · exact k9 y e
  · have e : ∀ st', setSt (setR dead z.safe.length st i s) st' i s = st' := fun st' => by unfold setSt; rw [decide_eq_false h0]; rfl
    rw [e, e]
    exact h
theorem inv_comm {n : Nat} {z : DState} {st : List (Int × ByteArray)} (h : Inv7 n z st st false) :
    ((exec (commitOps st) z).1 = 0 → Inv7 n (exec (commitOps st) z).2 [] [] false) ∧ ((exec (commitOps st) z).1 ≠ 0 → Inv7 n (exec (commitOps st) z).2 [] st true) := by
  obtain ⟨k1, k2, k3, k4, k5, k6, k7, k8, k9⟩ := h
  obtain ⟨c1, c2, c3, c4, c5⟩ := comm_keeps st z k1 k2 (k5 rfl).1 k7
  have hni : ∀ x ∈ ([] : List (Int × ByteArray)), 0 ≤ x.1 ∧ x.1 < 65536 := fun x hx => by cases hx
  exact ⟨fun e => ⟨c1, c2, by rw [c3]; exact k3, c4, fun _ => ⟨c5 e, rfl⟩, fun e => (by cases e), Nat.zero_le _, Nat.zero_le _, hni⟩,
    fun e => ⟨c1, c2, by rw [c3]; exact k3, c4, fun e => (by cases e), fun _ => rfl, Nat.zero_le _, k8, hni⟩⟩
theorem inv_abort {dead : Bool} {n : Nat} {z : DState} {st st2 : List (Int × ByteArray)} (h : Inv7 n z st st2 dead) : Inv7 n z [] [] dead := by
  obtain ⟨k1, k2, k3, k4, k5, k6, k7, k8, k9⟩ := h
  exact ⟨k1, k2, k3, k4, fun e => ⟨(k5 e).1, rfl⟩, fun _ => rfl, Nat.zero_le _, Nat.zero_le _, fun x hx => by cases hx⟩
variable {w0 w : World} {d r l mb l2 n : Nat} {z : DState} {st st2 : List (Int × ByteArray)} {dead : Bool} {R : Asn}
abbrev actC (kind i : Int) (s : ByteArray) (keep : Int) : Array Value := #[.int .i64 kind, .int .i64 i, .string s, .int .u64 keep]
theorem Own.boxed {A B C D R : Asn} {b : Nat} {o : Obj} (h : Own w0 w (Star A (Star B (Star C (Star D (Star (blkA b o) R)))))) : w.heap[b]? = some o := h.right.right.right.right.blk
theorem own_acts {R : Asn} (h : Own w0 w (BL d r z l mb l2 st st2 dead R)) (hs : Stable R) (kind i : Int) (s : ByteArray) (keep : Int) :
    Own w0 (w.alloc (.cells (actC kind i s keep) 38)) (BL d r z l mb l2 st st2 dead (Star (blkA w.heap.size (.cells (actC kind i s keep) 38)) R)) :=
  h.box4 (stable_bl _ _ _ _ _ _ _ _ _ _ _ hs) _
theorem act_cells {B : Nat} {kind i : Int} {s : ByteArray} {keep : Int} (h : w.heap[B]? = some (.cells (actC kind i s keep) 38)) :
    w.cell? ⟨B, 0, none⟩ = some (.int .i64 kind) ∧ w.cell? ⟨B, 1, none⟩ = some (.int .i64 i) ∧ w.cell? ⟨B, 2, none⟩ = some (.string s) := ⟨blk_cell h 0 rfl, blk_cell h 1 rfl, blk_cell h 2 rfl⟩
/-- Get. -/
theorem does_1 (h : Own w0 w (BL d r z l mb l2 st st2 dead R)) (hs : Stable R) (hi : Inv7 n z st st2 dead) (i : Int) (s : ByteArray) (keep : Int) :
    Calls Tryz.prog 12 #[.pointer (some ⟨l, 0, none⟩), .pointer (some ⟨l2, 0, none⟩), .agg (actC 1 i s keep)] w (DoneP w0 d r n l mb l2 R) := by
  have H0 := Lib.hid (own_acts h hs 1 i s keep)
  have SR : Hid (Stable (RDL r z l2 st2 dead (Star (blkA w.heap.size (.cells (actC 1 i s keep) 38)) R))) := Lib.hid (stable_rdl _ _ _ _ _ (stable_star (stable_blk _ _) hs))
  have h100 := hi.2.2.2.1
  have CG := Lib.hid (o_get H0.out SR.out i (by omega))
  have CQ : Hid (∀ w1, Own w0 w1 (BL d r z l mb l2 st st2 dead (Star (blkA w.heap.size (.cells (actC 1 i s keep) 38)) R)) → (w1.cell? ⟨w.heap.size, 1, none⟩ = some (.int .i64 i) ∧ Calls Tryz.prog 36 #[.pointer (some ⟨l2, 0, none⟩), .int .i64 i] w1 fun e w' => e = .returned (.tuple #[.string (getB dead z st i), .int .i64 (getR dead z st i)]) ∧ w' = w1)) := Lib.hid (fun w1 h1 => by
    have := q_get h1.flip4 i (by omega) (by have := hi.2.2.2.2.2.2.2.1; omega)
    rw [(get_eq hi i).1, (get_eq hi i).2.1] at this
    exact ⟨(act_cells h1.boxed).2.1, this⟩)
  have DN : Hid (∀ w1, Own w0 w1 (BL d r z l mb l2 st st2 dead (Star (blkA w.heap.size (.cells (actC 1 i s keep) 38)) R)) → DoneP w0 d r n l mb l2 R (.returned (.bool true)) w1) := Lib.hid (fun w1 h1 => ⟨rfl, z, st, st2, dead, hi, h1.unbox4⟩)
  obtain ⟨c0, c1, c2⟩ := act_cells H0.out.boxed
  have hbq : ∀ b : ByteArray, (b.toList == b.toList) = true := fun b => beq_self_eq_true _
  clear h hs hi
  generalize getB dead z st i = gb at *
  generalize getR dead z st i = gr at *
  have hb1 := hbq gb
  go_enter Tryz.func12, Tryz.ntmps12
  go_upto_region 4 with (go_at_call 24; refine CG.out.mono ?_; rintro e w1 ⟨rfl, h1⟩; have H1 := Lib.hid h1; clear h1)
  obtain ⟨d1, q1⟩ := CQ.out _ H1.out
  have Q1 := Lib.hid q1
  clear q1 c0 c1 c2 CG CQ
  go_wp2_with (go_at_call 36; refine Q1.out.mono ?_; rintro e w2 ⟨rfl, hw2⟩; rw [hw2]; clear hw2 w2)
  go_ret
  exact DN.out _ H1.out
/-- Abort. -/
theorem does_4 (h : Own w0 w (BL d r z l mb l2 st st2 dead R)) (hs : Stable R) (hi : Inv7 n z st st2 dead) (i : Int) (s : ByteArray) (keep : Int) :
    Calls Tryz.prog 12 #[.pointer (some ⟨l, 0, none⟩), .pointer (some ⟨l2, 0, none⟩), .agg (actC 4 i s keep)] w (DoneP w0 d r n l mb l2 R) := by
  have H0 := Lib.hid (own_acts h hs 4 i s keep)
  have HSB : Hid (Stable (Star (blkA w.heap.size (.cells (actC 4 i s keep) 38)) R)) := Lib.hid (stable_star (stable_blk _ _) hs)
  have CG := Lib.hid (o_abort H0.out (stable_rdl _ _ _ _ _ HSB.out))
  have CQ : Hid (∀ w1, Own w0 w1 (BL d r z l mb l2 [] st2 dead (Star (blkA w.heap.size (.cells (actC 4 i s keep) 38)) R)) → Calls Tryz.prog 40 #[.pointer (some ⟨l2, 0, none⟩)] w1 fun e w' => e = .returned (.tuple #[]) ∧ DoneP w0 d r n l mb l2 R (.returned (.bool true)) w') := Lib.hid (fun w1 h1 => by
    refine (q_abort h1.flip4 (stable_star (stable_dsk _ _) (stable_star (stable_lg _ _ _ _ _) HSB.out))).mono ?_
    rintro e w' ⟨rfl, h2⟩
    exact ⟨rfl, rfl, z, [], [], dead, inv_abort hi, h2.flip4.unbox4⟩)
  obtain ⟨c0, c1, c2⟩ := act_cells H0.out.boxed
  clear h hs hi
  go_enter Tryz.func12, Tryz.ntmps12
  go_wp2_with (first
    | (go_at_call 39; refine CG.out.mono ?_; rintro e w1 ⟨rfl, h1⟩; have H1 := Lib.hid h1; clear h1)
    | (go_at_call 40; refine (CQ.out _ H1.out).mono ?_; rintro e w2 ⟨rfl, h2⟩; have H2 := Lib.hid h2; clear h2))
  go_ret
  exact H2.out
/-- Others. -/
theorem does_0 (h : Own w0 w (BL d r z l mb l2 st st2 dead R)) (hs : Stable R) (hi : Inv7 n z st st2 dead) (kind i : Int) (s : ByteArray) (keep : Int) (hk : kind ≠ 1 ∧ kind ≠ 2 ∧ kind ≠ 3 ∧ kind ≠ 4 ∧ kind ≠ 7) :
    Calls Tryz.prog 12 #[.pointer (some ⟨l, 0, none⟩), .pointer (some ⟨l2, 0, none⟩), .agg (actC kind i s keep)] w (DoneP w0 d r n l mb l2 R) := by
  have H0 := Lib.hid (own_acts h hs kind i s keep)
  have DN : Hid (∀ w1, Own w0 w1 (BL d r z l mb l2 st st2 dead (Star (blkA w.heap.size (.cells (actC kind i s keep) 38)) R)) → DoneP w0 d r n l mb l2 R (.returned (.bool true)) w1) := Lib.hid (fun w1 h1 => ⟨rfl, z, st, st2, dead, hi, h1.unbox4⟩)
  obtain ⟨c0, c1, c2⟩ := act_cells H0.out.boxed
  obtain ⟨k1, k2, k3, k4, k5⟩ := hk
  have e1 : (kind == 1) = false := beq_eq_false_iff_ne.2 k1
  have e2 : (kind == 2) = false := beq_eq_false_iff_ne.2 k2
  have e3 : (kind == 3) = false := beq_eq_false_iff_ne.2 k3
  have e4 : (kind == 4) = false := beq_eq_false_iff_ne.2 k4
  have e5 : (kind == 7) = false := beq_eq_false_iff_ne.2 k5
  clear h hs hi k1 k2 k3 k4 k5
  go_enter Tryz.func12, Tryz.ntmps12
  go_wp2_with fail
  go_ret
  exact DN.out _ H0.out
end Go.Proofs.YtgaibknhdaeidaaGreat.P
namespace Go.Proofs.YtgaibknhdaeidaaGreat.P
open Go.RowKit
variable {w0 w : World} {d r l mb l2 n : Nat} {z : DState} {st st2 : List (Int × ByteArray)} {dead : Bool} {R : Asn}
/-- The document's Set behind the program's. -/
theorem both_set {R : Asn} {st1 : List (Int × ByteArray)} (h : Own w0 w (DL d z l mb st1 dead (RDL r z l2 st2 dead R))) (hs : Stable R) (hi : Inv7 n z st st2 dead) (i : Int) (s : ByteArray) :
    Calls Tryz.prog 37 #[.pointer (some ⟨l2, 0, none⟩), .int .i64 i, .string s] w fun e w' => e = .returned (.int .i64 (setR dead z.safe.length st i s)) ∧ Own w0 w' (DL d z l mb st1 dead (RDL r z l2 (setSt (setR dead z.safe.length st i s) st2 i s) dead R)) := by
  have := q_set h.flip4 (stable_star (stable_dsk _ _) (stable_star (stable_lg _ _ _ _ _) hs)) i s hi.2.2.2.2.2.2.2.1
  rw [(get_eq hi i).2.2] at this
  exact this.mono (fun e w' k => ⟨k.1, k.2.flip4⟩)
abbrev bxA (B : Nat) (kind i : Int) (s : ByteArray) (keep : Int) (R : Asn) : Asn := Star (blkA B (.cells (actC kind i s keep) 38)) R
set_option maxHeartbeats 1600000 in
theorem does_7 (h : Own w0 w (BL d r z l mb l2 st st2 dead R)) (hs : Stable R) (hi : Inv7 n z st st2 dead) (hn : n ≤ 544) (i : Int) (s : ByteArray) (keep : Int) :
    Calls Tryz.prog 12 #[.pointer (some ⟨l, 0, none⟩), .pointer (some ⟨l2, 0, none⟩), .agg (actC 7 i s keep)] w (DoneP w0 d r n l mb l2 R) := by
  have H0 : Hid (Own w0 (w.alloc (.cells (actC 7 i s keep) 38)) (BL d r z l mb l2 st st2 dead (bxA w.heap.size 7 i s keep R))) := Lib.hid (own_acts h hs 7 i s keep)
  have HSB : Hid (∀ B, Stable (bxA B 7 i s keep R)) := Lib.hid (fun B => stable_star (stable_blk _ _) hs)
  have h30 := hi.2.2.2.2.2.2.1
  have hr := h.log.2.2.1
  have CG := Lib.hid (o_set H0.out (stable_rdl _ _ _ _ _ (HSB.out _)) i s (by omega))
  have CQ : Hid (∀ B w1 st1, Own w0 w1 (DL d z l mb st1 dead (RDL r z l2 st2 dead (bxA B 7 i s keep R))) → (w1.cell? ⟨B, 1, none⟩ = some (.int .i64 i) ∧ w1.cell? ⟨B, 2, none⟩ = some (.string s) ∧ Calls Tryz.prog 37 #[.pointer (some ⟨l2, 0, none⟩), .int .i64 i, .string s] w1 fun e w' => e = .returned (.int .i64 (setR dead z.safe.length st i s)) ∧ Own w0 w' (DL d z l mb st1 dead (RDL r z l2 (setSt (setR dead z.safe.length st i s) st2 i s) dead (bxA B 7 i s keep R))))) := Lib.hid (fun B w1 st1 h1 => ⟨(act_cells h1.boxed).2.1, (act_cells h1.boxed).2.2, both_set h1 (HSB.out _) hi i s⟩)
  have DN : Hid (∀ B w1, Own w0 w1 (DL d z l mb (setSt (setR dead z.safe.length st i s) st i s) dead (RDL r z l2 (setSt (setR dead z.safe.length st i s) st2 i s) dead (bxA B 7 i s keep R))) → DoneP w0 d r n l mb l2 R (.returned (.bool true)) w1) := Lib.hid (fun B w1 h1 => ⟨rfl, z, _, _, dead, inv_set hi hn hr i s, h1.unbox4⟩)
  obtain ⟨c0, c1, c2⟩ := act_cells H0.out.boxed
  clear h hs hi hr
  generalize setSt (setR dead z.safe.length st i s) st i s = sp at *
  generalize setSt (setR dead z.safe.length st i s) st2 i s = sq at *
  generalize setR dead z.safe.length st i s = rr at *
  go_enter Tryz.func12, Tryz.ntmps12
  go_upto_region 19 with (go_at_call 21; refine CG.out.mono ?_; rintro e w1 ⟨rfl, h1⟩; have H1 := Lib.hid h1; clear h1)
  obtain ⟨d1, d2, q1⟩ := CQ.out _ _ _ H1.out
  have Q1 := Lib.hid q1
  clear q1 c0 c1 c2 CG CQ
  go_wp2_with (go_at_call 37; refine Q1.out.mono ?_; rintro e w2 ⟨rfl, h2⟩; have H2 := Lib.hid h2; clear h2)
  go_ret
  have := DN.out _ _ H2.out
  simpa using this
set_option maxHeartbeats 3200000 in
theorem does_2 (h : Own w0 w (BL d r z l mb l2 st st2 dead R)) (hs : Stable R) (hi : Inv7 n z st st2 dead) (hn : n ≤ 544) (i : Int) (s : ByteArray) (keep : Int) (hsz : s.size ≤ 9223372036854770000) :
    Calls Tryz.prog 12 #[.pointer (some ⟨l, 0, none⟩), .pointer (some ⟨l2, 0, none⟩), .agg (actC 2 i s keep)] w (DoneP w0 d r n l mb l2 R) := by
  have H0 : Hid (Own w0 (w.alloc (.cells (actC 2 i s keep) 38)) (BL d r z l mb l2 st st2 dead (bxA w.heap.size 2 i s keep R))) := Lib.hid (own_acts h hs 2 i s keep)
  have HSB : Hid (∀ B, Stable (bxA B 2 i s keep R)) := Lib.hid (fun B => stable_star (stable_blk _ _) hs)
  have SBL : Hid (∀ B st1, Stable (DL d z l mb st1 dead (RDL r z l2 st2 dead (bxA B 2 i s keep R)))) := Lib.hid (fun B st1 => stable_bl _ _ _ _ _ _ _ _ _ _ _ (HSB.out _))
  have h30 := hi.2.2.2.2.2.2.1
  have hr := h.log.2.2.1
  have CS := Lib.hid (c_sector s hsz)
  have CP : Hid (∀ B w1, Own w0 w1 (DL d z l mb st dead (RDL r z l2 st2 dead (bxA B 2 i s keep R))) → (w1.cell? ⟨B, 1, none⟩ = some (.int .i64 i) ∧ w1.cell? ⟨B, 2, none⟩ = some (.string s) ∧ Calls Tryz.prog 21 #[.pointer (some ⟨l, 0, none⟩), .int .i64 i, .string (secF s)] w1 fun e w' => e = .returned (.int .i64 (setR dead z.safe.length st i (secF s))) ∧ Own w0 w' (DL d z l mb (setSt (setR dead z.safe.length st i (secF s)) st i (secF s)) dead (RDL r z l2 st2 dead (bxA B 2 i s keep R))))) := Lib.hid (fun B w1 h1 => ⟨(act_cells h1.boxed).2.1, (act_cells h1.boxed).2.2, o_set h1 (stable_rdl _ _ _ _ _ (HSB.out _)) i (secF s) (by omega)⟩)
  have CQ : Hid (∀ B w1 st1, Own w0 w1 (DL d z l mb st1 dead (RDL r z l2 st2 dead (bxA B 2 i s keep R))) → (w1.cell? ⟨B, 1, none⟩ = some (.int .i64 i) ∧ w1.cell? ⟨B, 2, none⟩ = some (.string s) ∧ Calls Tryz.prog 37 #[.pointer (some ⟨l2, 0, none⟩), .int .i64 i, .string (secF s)] w1 fun e w' => e = .returned (.int .i64 (setR dead z.safe.length st i (secF s))) ∧ Own w0 w' (DL d z l mb st1 dead (RDL r z l2 (setSt (setR dead z.safe.length st i (secF s)) st2 i (secF s)) dead (bxA B 2 i s keep R))))) := Lib.hid (fun B w1 st1 h1 => ⟨(act_cells h1.boxed).2.1, (act_cells h1.boxed).2.2, both_set h1 (HSB.out _) hi i (secF s)⟩)
  have DN : Hid (∀ B w1, Own w0 w1 (DL d z l mb (setSt (setR dead z.safe.length st i (secF s)) st i (secF s)) dead (RDL r z l2 (setSt (setR dead z.safe.length st i (secF s)) st2 i (secF s)) dead (bxA B 2 i s keep R))) → DoneP w0 d r n l mb l2 R (.returned (.bool true)) w1) := Lib.hid (fun B w1 h1 => ⟨rfl, z, _, _, dead, inv_set hi hn hr i (secF s), h1.unbox4⟩)
  obtain ⟨c0, c1, c2⟩ := act_cells H0.out.boxed
  clear h hs hi hr
  generalize setSt (setR dead z.safe.length st i (secF s)) st i (secF s) = sp at *
  generalize setSt (setR dead z.safe.length st i (secF s)) st2 i (secF s) = sq at *
  generalize setR dead z.safe.length st i (secF s) = rr at *
  generalize secF s = ss at *
  go_enter Tryz.func12, Tryz.ntmps12
  go_upto_region 7 with fail
  generalize (World.alloc w _) = wA at *
  generalize w.heap.size = B at *
  have HD := Lib.hid (H0.out.drew (SBL.out _ _))
  obtain ⟨b1, b2, _⟩ := CP.out _ _ HD.out
  go_region_with (first
    | (go_at_call 22; refine (CS.out _).mono ?_; rintro e w2 ⟨rfl, g2⟩; have H2 := Lib.hid (HD.out.gr (SBL.out _ _) g2); have e1 := (CP.out _ _ H2.out).1; have CP2 := Lib.hid (CP.out _ _ H2.out).2.2; clear g2)
    | (go_at_call 21; refine CP2.out.mono ?_; rintro e w3 ⟨rfl, h3⟩; have H3 := Lib.hid h3; clear h3))
  all_goals
    go_upto_region 8 with fail
    have HD3 := Lib.hid (H3.out.drew (SBL.out _ _))
    obtain ⟨b3, b4, _⟩ := CQ.out _ _ _ HD3.out
    clear b1 b2 HD H2 CP2 H3
    go_region_with (first
      | (go_at_call 22; refine (CS.out _).mono ?_; rintro e w4 ⟨rfl, g4⟩; have H4 := Lib.hid (HD3.out.gr (SBL.out _ _) g4); have e4 := (CQ.out _ _ _ H4.out).1; have CQ2 := Lib.hid (CQ.out _ _ _ H4.out).2.2; clear g4)
      | (go_at_call 37; refine CQ2.out.mono ?_; rintro e w5 ⟨rfl, h5⟩; have H5 := Lib.hid h5; clear h5))
  all_goals
    go_wp2_with fail
    go_ret
    have := DN.out _ _ H5.out
    simpa using this
/-- Commit. -/
theorem does_3 (h : Own w0 w (BL d r z l mb l2 st st2 dead R)) (hs : Stable R) (hi : Inv7 n z st st2 dead) (i : Int) (s : ByteArray) (keep : Int) :
    Calls Tryz.prog 12 #[.pointer (some ⟨l, 0, none⟩), .pointer (some ⟨l2, 0, none⟩), .agg (actC 3 i s keep)] w (DoneP w0 d r n l mb l2 R) := by
  have H0 : Hid (Own w0 (w.alloc (.cells (actC 3 i s keep) 38)) (BL d r z l mb l2 st st2 dead (bxA w.heap.size 3 i s keep R))) := Lib.hid (own_acts h hs 3 i s keep)
  have HSB : Hid (∀ B, Stable (bxA B 3 i s keep R)) := Lib.hid (fun B => stable_star (stable_blk _ _) hs)
  obtain ⟨c0, c1, c2⟩ := act_cells H0.out.boxed
  have CC : ∃ (rr : Int) (Q : World → Prop), Calls Tryz.prog 23 #[.pointer (some ⟨l, 0, none⟩)] (w.alloc (.cells (actC 3 i s keep) 38)) (fun e w' => e = .returned (.int .i64 rr) ∧ Q w') ∧ ∀ w1, Q w1 → Calls Tryz.prog 38 #[.pointer (some ⟨l2, 0, none⟩)] w1 (fun e w' => e = .returned (.int .i64 rr) ∧ DoneP w0 d r n l mb l2 R (.returned (.bool true)) w') := by
    cases dead with
    | true =>
      refine ⟨7, fun w' => w' = _, o_commit_dead H0.out, ?_⟩
      rintro w1 rfl
      refine (q_commit_dead H0.out.flip4).mono ?_
      rintro e w' ⟨rfl, rfl⟩
      exact ⟨rfl, rfl, z, st, st2, true, hi, H0.out.unbox4⟩
    | false =>
      obtain ⟨k5, rfl⟩ := hi.2.2.2.2.1 rfl
      by_cases h0 : 0 < st2.length
      · have hic := inv_comm hi
        refine ⟨(exec (commitOps st2) z).1, fun w' => Own w0 w' (DL d (exec (commitOps st2) z).2 l mb [] (!decide ((exec (commitOps st2) z).1 = 0)) (RDL r z l2 st2 false (bxA w.heap.size 3 i s keep R))), o_commit H0.out (stable_rdl _ _ _ _ _ (HSB.out _)) h0 hi.2.2.2.2.2.2.1 hi.2.2.2.2.2.2.2.2 (by rw [k5]; show 0 ≤ _; omega), fun w1 h1 => ?_⟩
        have := q_commit h1.flip4 (stable_star (stable_dsk _ _) (stable_star (stable_lg _ _ _ _ _) (HSB.out _))) h0 hi.2.2.2.2.2.2.1 hi.2.2.2.2.2.2.2.2 (by rw [k5]; show 0 ≤ _; omega)
        refine this.mono ?_
        rintro e w' ⟨rfl, m1, m2⟩
        refine ⟨rfl, rfl, ?_⟩
        by_cases e0 : (exec (commitOps st2) z).1 = 0
        · have m := (m1 e0).flip4
          rw [decide_eq_true e0] at m
          exact ⟨_, [], [], false, hic.1 e0, m.unbox4⟩
        · have m := (m2 e0).flip4
          rw [decide_eq_false e0] at m
          exact ⟨_, [], st2, true, hic.2 e0, m.unbox4⟩
      · obtain rfl : st2 = [] := List.eq_nil_of_length_eq_zero (by omega)
        refine ⟨0, fun w' => w' = _, o_commit_nil H0.out, ?_⟩
        rintro w1 rfl
        refine (q_commit_nil H0.out.flip4).mono ?_
        rintro e w' ⟨rfl, rfl⟩
        exact ⟨rfl, rfl, z, [], [], false, hi, H0.out.unbox4⟩
  obtain ⟨rr, Q, C1, C2⟩ := CC
  have CP := Lib.hid C1
  have CQ := Lib.hid C2
  clear h hs hi C1 C2 H0 HSB
  go_enter Tryz.func12, Tryz.ntmps12
  go_wp2_with (first
    | (go_at_call 23; refine CP.out.mono ?_; rintro e w1 ⟨rfl, h1⟩; have H1 := Lib.hid h1; clear h1)
    | (go_at_call 38; refine (CQ.out _ H1.out).mono ?_; rintro e w2 ⟨rfl, h2⟩; have H2 := Lib.hid h2; clear h2))
  go_ret
  have := H2.out
  simpa using this
end Go.Proofs.YtgaibknhdaeidaaGreat.P
