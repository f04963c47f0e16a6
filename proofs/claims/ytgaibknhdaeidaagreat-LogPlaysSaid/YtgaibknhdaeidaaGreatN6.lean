/- Stage 7: the document's log in memory beside its disk: Home, may. No condition. -/
import Derived.Test.YtgaibknhdaeidaaGreatN2
import Derived.Test.YtgaibknhdaeidaaGreatA10
import Derived.Test.YtgaibknhdaeidaaGreatJ5
set_option linter.unusedVariables false
set_option linter.unusedSimpArgs false
set_option maxRecDepth 100000
namespace Go.Proofs.YtgaibknhdaeidaaGreat.P
open Go.RowKit
def stR (st : List (Int × ByteArray)) : List Value := st.flatMap fun p => [.int .i64 p.1, .string p.2]
theorem stR_length (st : List (Int × ByteArray)) : (stR st).length = st.length * 2 := by
  induction st with
  | nil => rfl
  | cons a l ih => show (stR l).length + 1 + 1 = (l.length + 1) * 2; omega
/-- The document's log at l of its disk d, with what is staged in its slice. -/
def rlA (l d : Nat) (st : List (Int × ByteArray)) (dead : Bool) : Asn := fun w F => F l ∧ Rising st ∧ ∃ v, w.heap[l]? = some (.cells #[.pointer (some ⟨d, 0, none⟩), v, .bool dead] 72) ∧ w.ownsRow 0 100 2 v st.length (stR st) ∧ ∀ b, v.ownBlock = some b → F b ∧ b ≠ l
theorem stable_rl (l d : Nat) (st : List (Int × ByteArray)) (dead : Bool) : Stable (rlA l d st dead) := by
  rintro w w' F G ⟨h1, h2, v, h3, h4, h5⟩ hc hd
  exact ⟨h1, h2, v, hc.blk h3 (hd l h1), ownsRow_ch h4 hc (fun x hx => hd x (h5 x hx).1), h5⟩
abbrev RDL (d : Nat) (z : DState) (l : Nat) (st : List (Int × ByteArray)) (dead : Bool) (R : Asn) : Asn := Star (rdk d z) (Star (rlA l d st dead) R)
theorem stable_rdl (d : Nat) (z : DState) (l : Nat) (st : List (Int × ByteArray)) (dead : Bool) {R : Asn} (hs : Stable R) : Stable (RDL d z l st dead R) := stable_star (stable_rdk _ _) (stable_star (stable_rl _ _ _ _) hs)
variable {w0 w : World} {d l : Nat} {z : DState} {st : List (Int × ByteArray)} {dead : Bool} {R : Asn}
theorem Own.rlog (h : Own w0 w (RDL d z l st dead R)) : Rising st ∧ ∃ v, w.heap[l]? = some (.cells #[.pointer (some ⟨d, 0, none⟩), v, .bool dead] 72) ∧ w.ownsRow 0 100 2 v st.length (stR st) := by
  obtain ⟨F, k1, k2, v, k3, k4, k5⟩ := h.right.left.get
  exact ⟨k2, v, k3, k4⟩
theorem Own.rsafe (h : Own w0 w (RDL d z l st dead R)) : WZ z ∧ ∃ sb sc, w.cell? ⟨d, 0, none⟩ = some (.slice (some ⟨sb, 0, none⟩) z.safe.length sc) := by
  obtain ⟨F, k1, sb, wb, ⟨sc, wo, wc, k2, _⟩, _⟩ := h.left.get
  exact ⟨k1, sb, sc, blk_cell k2 0 rfl⟩
theorem q_home (h : Own w0 w (RDL d z l st dead R)) :
    Calls Tryz.prog 18 #[.pointer (some ⟨l, 0, none⟩)] w fun e w' => e = .returned (.int .i64 ((z.safe.length : Int) - 32)) ∧ w' = w := by
  obtain ⟨hw, sb, sc, c1⟩ := h.rsafe
  obtain ⟨_, v, hb, _⟩ := h.rlog
  have h1 := hw.1
  have h2 := hw.2.1
  have c0 := blk_cell hb 0 (v := .pointer (some ⟨d, 0, none⟩)) rfl
  have k1 : IntKind.i64.wrap ((z.safe.length : Int) - 32) = (z.safe.length : Int) - 32 := IntWalk.i64_in _ (by omega)
  clear hw h hb
  go_enter Tryz.func18, Tryz.ntmps18
  go_wp2_with fail
  go_ret
  exact ⟨rfl, rfl⟩
theorem q_may (h : Own w0 w (RDL d z l st dead R)) (i : Int) :
    Calls Tryz.prog 62 #[.pointer (some ⟨l, 0, none⟩), .int .i64 i] w fun e w' => e = .returned (.int .i64 (refF dead z.safe.length i)) ∧ w' = w := by
  have HH := Lib.hid (q_home h)
  obtain ⟨_, v, hb, _⟩ := h.rlog
  have c2 := blk_cell hb 2 (v := .bool dead) rfl
  clear h hb
  unfold refF
  cases dead with
  | true =>
    go_enter Tryz.func62, Tryz.ntmps62
    go_wp2
    go_ret
    exact ⟨rfl, rfl⟩
  | false =>
    rw [cond_false]
    by_cases h0 : 0 ≤ i
    · have h3 : ¬ i < 0 := by omega
      rw [decide_eq_true h0, Bool.true_and]
      by_cases h1 : i < (z.safe.length : Int) - 32
      · rw [decide_eq_true h1, cond_true]
        have h4 : ¬ (z.safe.length : Int) - 32 ≤ i := by omega
        go_enter Tryz.func62, Tryz.ntmps62
        go_wp2_with (go_at_call 18; refine HH.out.mono ?_; rintro e w' ⟨rfl, rfl⟩)
        go_ret
        exact ⟨rfl, rfl⟩
      · rw [decide_eq_false h1, cond_false]
        have h4 : (z.safe.length : Int) - 32 ≤ i := by omega
        go_enter Tryz.func62, Tryz.ntmps62
        go_wp2_with (go_at_call 18; refine HH.out.mono ?_; rintro e w' ⟨rfl, rfl⟩)
        go_ret
        exact ⟨rfl, rfl⟩
    · have h3 : i < 0 := by omega
      rw [decide_eq_false h0, Bool.false_and, cond_false]
      go_enter Tryz.func62, Tryz.ntmps62
      go_wp2_with fail
      go_ret
      exact ⟨rfl, rfl⟩
end Go.Proofs.YtgaibknhdaeidaaGreat.P
namespace Go.Proofs.YtgaibknhdaeidaaGreat.P
open Go.RowKit
variable {w0 w : World} {d l : Nat} {z : DState} {st : List (Int × ByteArray)} {dead : Bool} {R : Asn}
theorem stR_at : ∀ (st : List (Int × ByteArray)) (k : Nat) (p : Int × ByteArray), st[k]? = some p → (stR st)[k * 2]? = some (.int .i64 p.1) ∧ (stR st)[k * 2 + 1]? = some (.string p.2)
  | [], k, p, h => by simp at h
  | a :: l, 0, p, h => by injection h with h; subst h; exact ⟨rfl, rfl⟩
  | a :: l, k + 1, p, h => by
    obtain ⟨h1, h2⟩ := stR_at l k p h
    exact ⟨by rw [show (k + 1) * 2 = k * 2 + 1 + 1 by omega]; exact h1, by rw [show (k + 1) * 2 + 1 = k * 2 + 1 + 1 + 1 by omega]; exact h2⟩
theorem rows_at {v : Value} (h : w.ownsRow 0 100 2 v st.length (stR st)) (k : Nat) (p : Int × ByteArray) (hp : st[k]? = some p) :
    ∃ b c, v = .slice (some ⟨b, 0, none⟩) st.length c ∧ w.cell? ⟨b, k * 2, none⟩ = some (.int .i64 p.1) ∧ w.cell? ⟨b, k * 2 + 1, none⟩ = some (.string p.2) := by
  have hl := (List.getElem?_eq_some_iff.1 hp).1
  obtain ⟨g, c, rfl, _, _⟩ := h.form (by omega)
  obtain ⟨h1, h2⟩ := stR_at st k p hp
  have a1 := h.cells (g := g) rfl (k * 2) _ h1
  have a2 := h.cells (g := g) rfl (k * 2 + 1) _ h2
  rw [Addr.add_lit] at a1 a2
  rw [Nat.zero_add] at a1 a2
  exact ⟨g, c, rfl, a1, a2⟩
theorem rowv_form {base : Nat} {e : TypeId} {size n : Nat} {v : Value} {xs : List Value} (h : w.ownsRow base e size v n xs) : ∃ o c, v = .slice o n c := by
  rcases h.2 with ⟨hv, h0⟩ | ⟨g, cap, cur, hv, _⟩
  · exact ⟨none, 0, by rw [hv, h0]⟩
  · exact ⟨_, _, hv⟩
set_option maxHeartbeats 1600000 in
theorem q_get (h : Own w0 w (RDL d z l st dead R)) (i : Int) (hl : z.wait.length ≤ 4000000000000) (hn : st.length ≤ 1000000) :
    Calls Tryz.prog 36 #[.pointer (some ⟨l, 0, none⟩), .int .i64 i] w fun e w' => e = .returned (.tuple #[.string (getB dead z st i), .int .i64 (getR dead z st i)]) ∧ w' = w := by
  have HM := Lib.hid (q_may h i)
  unfold getB getR
  by_cases hr : refF dead z.safe.length i = 0
  · obtain ⟨hd, i0, i1⟩ := refF_ok hr
    have hz2 := h.rsafe.1.2.1
    have HX := Lib.hid (r_read h (32 + i) hl)
    rw [hr] at HM ⊢
    rw [decide_eq_true rfl, cond_true, cond_true]
    obtain ⟨_, v, hb, hrow⟩ := h.rlog
    have c0 := blk_cell hb 0 (v := .pointer (some ⟨d, 0, none⟩)) rfl
    obtain ⟨o, c, rfl⟩ := rowv_form hrow
    have c1 := blk_cell hb 1 rfl
    have HR := Lib.hid (fun k p => rows_at hrow k p)
    have k1 : IntKind.i64.wrap (32 + i) = 32 + i := IntWalk.i64_in _ (by omega)
    clear h hb hrow hr
    obtain ⟨m, hm⟩ : ∃ m, st.length = m := ⟨_, rfl⟩
    have HLN := Lib.hid hm
    rw [hm] at c1 hn
    clear hm
    go_enter Tryz.func36, Tryz.ntmps36
    go_wp2_with (go_at_call 62; refine HM.out.mono ?_; rintro e w' ⟨rfl, rfl⟩)
    go_loopw [7] (fun v7 wr => ∃ k : Nat, k ≤ m ∧ v7 = .int .i64 k ∧ lookS i st = lookS i (st.drop k) ∧ wr = w') (fun v _ => m - (intOf v).toNat)
    case atStart => exact ⟨0, Nat.zero_le _, rfl, rfl, rfl⟩
    case round =>
      obtain ⟨k, hk, rfl, hlk, rfl⟩ := hrel
      have HLK := Lib.hid hlk
      clear hlk
      by_cases hlt : k < m
      · have dl : decide (k < m) = true := decide_eq_true hlt
        obtain ⟨p, hp⟩ : ∃ p, st[k]? = some p := ⟨_, List.getElem?_eq_getElem (by have := HLN.out; omega)⟩
        obtain ⟨b, c2, e, a1, a2⟩ := HR.out k p hp
        injection e with e1 e2 e3
        subst e1
        have n5 : IntKind.i64.wrap ((k : Int) + 1) = (k : Int) + 1 := IntWalk.i64_in _ (by omega)
        have hdr : st.drop k = p :: st.drop (k + 1) := by
          obtain ⟨q1, q2⟩ := List.getElem?_eq_some_iff.1 hp
          rw [List.drop_eq_getElem_cons q1, q2]
        by_cases hpi : p.1 = i
        · have HS : Hid (lookS i st = some p.2) := Lib.hid (by rw [HLK.out, hdr, lookS, if_pos hpi])
          rw [hpi] at a1
          clear hdr hp e2 e3 hpi
          go_wp2_with fail
          go_ret2
          exact ⟨by rw [HS.out]; rfl, rfl⟩
        · have HS : Hid (lookS i st = lookS i (st.drop (k + 1))) := Lib.hid (by rw [HLK.out, hdr, lookS, if_neg hpi])
          have hpb : (p.1 == i) = false := by simpa using hpi
          clear hdr hp e2 e3
          go_wp2_with fail
          go_roundw
          case rel => exact ⟨k + 1, by omega, by go_num, HS.out, trivial⟩
          case measure => simp [intOf]; omega
      · obtain rfl : k = m := by omega
        have dl : decide (k < k) = false := decide_eq_false (by omega)
        have HS : Hid (lookS i st = none) := Lib.hid (by rw [HLK.out, ← HLN.out, List.drop_length]; rfl)
        go_wp2_with (go_at_call 31; refine HX.out.mono ?_; rintro e w' ⟨rfl, rfl⟩)
        go_ret2
        exact ⟨by rw [HS.out]; rfl, rfl⟩
  · have hrb : (refF dead z.safe.length i == 0) = false := by simpa using hr
    rw [decide_eq_false hr, cond_false, cond_false]
    clear h
    generalize refF dead z.safe.length i = r at *
    go_enter Tryz.func36, Tryz.ntmps36
    go_wp2_with (go_at_call 62; refine HM.out.mono ?_; rintro e w' ⟨rfl, rfl⟩)
    go_ret2
    exact ⟨rfl, rfl⟩
end Go.Proofs.YtgaibknhdaeidaaGreat.P
namespace Go.Proofs.YtgaibknhdaeidaaGreat.P
open Go.RowKit
variable {w0 w : World} {d l : Nat} {z : DState} {st : List (Int × ByteArray)} {dead : Bool} {R : Asn}
theorem q_staged (h : Own w0 w (RDL d z l st dead R)) (hn : st.length ≤ 1000000) :
    Calls Tryz.prog 16 #[.pointer (some ⟨l, 0, none⟩)] w fun e w' => e = .returned (.int .i64 (bif dead then 0 else (st.length : Int))) ∧ w' = w := by
  obtain ⟨_, v, hb, hrow⟩ := h.rlog
  have c2 := blk_cell hb 2 (v := .bool dead) rfl
  obtain ⟨o, c, rfl⟩ := rowv_form hrow
  have c1 := blk_cell hb 1 rfl
  clear h hb hrow
  generalize st.length = m at *
  cases dead with
  | true =>
    go_enter Tryz.func16, Tryz.ntmps16
    go_wp2
    go_ret
    exact ⟨rfl, rfl⟩
  | false =>
    go_enter Tryz.func16, Tryz.ntmps16
    go_wp2
    go_ret
    exact ⟨rfl, rfl⟩
/-- Another slice put in the log's second cell. -/
theorem Own.putL (h : Own w0 w (RDL d z l st dead R)) (hs : Stable R) : Own w0 (w.setCell ⟨l, 1, none⟩ (.slice none 0 0)) (RDL d z l [] dead R) := by
  have h2 := h.swap2
  refine (Own.step h2 (stable_star (stable_rdk _ _) hs) (A' := rlA l d [] dead) ?_).swap2
  rintro F ⟨k1, k2, v, k3, k4, k5⟩
  have hl := blk_lt k3
  refine ⟨fun x => x = l, ⟨rfl, trivial, .slice none 0 0, by rw [blk_set k3 1 _]; rfl, World.ownsRow_nil _ _ _ _, fun b hb => by cases hb⟩, fun x hx => ?_, Ch.setCell (S := F) (Ch.refl _ w) (p := ⟨l, 1, none⟩) (.inl k1) _⟩
  subst hx
  exact ⟨.inl k1, by rw [World.size_setCell]; exact hl⟩
theorem q_abort (h : Own w0 w (RDL d z l st dead R)) (hs : Stable R) :
    Calls Tryz.prog 40 #[.pointer (some ⟨l, 0, none⟩)] w fun e w' => e = .returned (.tuple #[]) ∧ Own w0 w' (RDL d z l [] dead R) := by
  obtain ⟨_, v, hb, hrow⟩ := h.rlog
  have c1 := blk_cell hb 1 (v := v) rfl
  have z1 := blk_frozen hb 1
  have HN := Lib.hid (h.putL hs)
  clear h hb hrow
  go_enter Tryz.func40, Tryz.ntmps40
  go_wp2
  exact bodyPost_end (results_none rfl _ _ _) rfl ⟨rfl, HN.out⟩
end Go.Proofs.YtgaibknhdaeidaaGreat.P
namespace Go.Proofs.YtgaibknhdaeidaaGreat.P
theorem putS_low (i : Int) (s : ByteArray) : ∀ (A B : List (Int × ByteArray)), (∀ y ∈ A, y.1 < i) → putS i s (A ++ B) = A ++ putS i s B
  | [], B, _ => rfl
  | a :: A, B, h => by
    show putS i s (a :: (A ++ B)) = a :: (A ++ putS i s B)
    rw [putS, if_pos (h a (List.mem_cons_self ..)), putS_low i s A B (fun y hy => h y (List.mem_cons_of_mem _ hy))]
theorem putS_high (i : Int) (s : ByteArray) : ∀ (A B : List (Int × ByteArray)), (∃ y ∈ A, i ≤ y.1) → putS i s (A ++ B) = putS i s A ++ B
  | [], B, h => by obtain ⟨y, hy, _⟩ := h; cases hy
  | a :: A, B, h => by
    show putS i s (a :: (A ++ B)) = _
    rw [putS, putS]
    by_cases h1 : a.1 < i
    · rw [if_pos h1, if_pos h1, putS_high i s A B]
      · rfl
      · obtain ⟨y, hy, hi⟩ := h
        rcases List.mem_cons.1 hy with rfl | hy
        · omega
        · exact ⟨y, hy, hi⟩
    · rw [if_neg h1, if_neg h1]
      by_cases h2 : a.1 = i
      · rw [if_pos h2, if_pos h2]; rfl
      · rw [if_neg h2, if_neg h2]; rfl
/-- What the document's Set has made of the rows that it has passed. -/
def outK (i : Int) (s : ByteArray) (done : Bool) (A : List (Int × ByteArray)) : List (Int × ByteArray) := bif done then putS i s A else A
def DoneK (i : Int) (done : Bool) (A : List (Int × ByteArray)) : Prop := (done = false → ∀ y ∈ A, y.1 < i) ∧ (done = true → ∃ y ∈ A, i ≤ y.1)
theorem outK_low {i : Int} {s : ByteArray} {A : List (Int × ByteArray)} (p : Int × ByteArray) (h : DoneK i false A) (hp : p.1 < i) : outK i s false (A ++ [p]) = outK i s false A ++ [p] ∧ DoneK i false (A ++ [p]) := by
  refine ⟨rfl, fun _ y hy => ?_, fun e => by cases e⟩
  rcases List.mem_append.1 hy with h1 | h1
  · exact h.1 rfl y h1
  · rw [List.mem_singleton.1 h1]; exact hp
theorem outK_now {i : Int} {s : ByteArray} {A : List (Int × ByteArray)} (p : Int × ByteArray) (h : DoneK i false A) (hp : i ≤ p.1) : outK i s true (A ++ [p]) = outK i s false A ++ ((i, s) :: (bif decide (p.1 = i) then [] else [p])) ∧ DoneK i true (A ++ [p]) := by
  refine ⟨?_, fun e => (by cases e), fun _ => ⟨p, List.mem_append_right _ (List.mem_singleton.2 rfl), hp⟩⟩
  show putS i s (A ++ [p]) = A ++ _
  rw [putS_low i s A [p] (h.1 rfl), putS, if_neg (by omega)]
  by_cases e : p.1 = i
  · rw [if_pos e, decide_eq_true e]; rfl
  · rw [if_neg e, decide_eq_false e]; rfl
theorem outK_past {i : Int} {s : ByteArray} {A : List (Int × ByteArray)} (p : Int × ByteArray) (h : DoneK i true A) : outK i s true (A ++ [p]) = outK i s true A ++ [p] ∧ DoneK i true (A ++ [p]) := by
  refine ⟨putS_high i s A [p] (h.2 rfl), fun e => (by cases e), fun _ => ?_⟩
  obtain ⟨y, hy, hi⟩ := h.2 rfl
  exact ⟨y, List.mem_append_left _ hy, hi⟩
theorem outK_end {i : Int} {s : ByteArray} {A : List (Int × ByteArray)} (h : DoneK i false A) : outK i s false A ++ [(i, s)] = putS i s A := by
  have := putS_low i s A [] (h.1 rfl)
  rw [List.append_nil] at this
  exact this.symm
theorem stR_app (A B : List (Int × ByteArray)) : stR (A ++ B) = stR A ++ stR B := by unfold stR; rw [List.flatMap_append]
/-- Behind a row that is not below i a rising list has no i. -/
theorem rising_past {i : Int} : ∀ (A B : List (Int × ByteArray)) (p : Int × ByteArray), Rising (A ++ p :: B) → (∃ y ∈ A, i ≤ y.1) → i < p.1
  | [], B, p, _, h => by obtain ⟨y, hy, _⟩ := h; cases hy
  | a :: A, B, p, hr, h => by
    obtain ⟨y, hy, hi⟩ := h
    rcases List.mem_cons.1 hy with rfl | hy
    · have := hr.1 p (List.mem_append_right _ (List.mem_cons_self ..)); omega
    · exact rising_past A B p hr.2 ⟨y, hy, hi⟩
end Go.Proofs.YtgaibknhdaeidaaGreat.P
