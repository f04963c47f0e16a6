/- Stage 2: the document's parts of a text. No condition but the text's length. -/
import Derived.Test.YthcfobefpknjeaaDoorRA
import Derived.Laws.AppendOwn
import Derived.Deep.AppendLies
import Derived.Lib.SmallJoins
set_option linter.unusedVariables false
set_option linter.unusedSimpArgs false
set_option maxRecDepth 100000
namespace Go.Proofs.YthcfobefpknjeaaDoor.P
open Go.RowKit
theorem info_parts {P : Program} {t : TypeId} {z : Option Value} {a b : Nat} (h : (P.info? t).map (fun i => (i.zero, i.size, i.bytes)) = some (z, a, b)) : ∃ i, P.info? t = some i ∧ i.zero = z ∧ i.size = a ∧ i.bytes = b := by
  cases hi : P.info? t with
  | none => rw [hi] at h; cases h
  | some i => rw [hi] at h; simp at h; exact ⟨i, rfl, h.1, h.2.1, h.2.2⟩
theorem strInfo : (Tryd.prog.info? 9).map (fun i => (i.zero, i.size, i.bytes)) = some (some (.string ⟨#[]⟩), 1, 16) := by kernel_rfl
theorem row_formS {w : World} {base n : Nat} {v : Value} {xs : List Value} (h : w.ownsRow base 9 1 v n xs) : ∃ o c, v = .slice o n c := by
  rcases Joins.ownsRow_forms h with ⟨rfl, rfl⟩ | ⟨g, cap, rfl⟩
  · exact ⟨none, 0, rfl⟩
  · exact ⟨_, cap, rfl⟩
def inC (c : UInt8) : Bool := (decide (97 ≤ c.toNat) && decide (c.toNat ≤ 122)) || (decide (48 ≤ c.toNat) && decide (c.toNat ≤ 57)) || decide (c.toNat = 46) || decide (c.toNat = 45)
def inP (l : List UInt8) (i : Nat) : Bool := match l[i]? with | some c => inC c | none => false
def pS (l : List UInt8) : Nat → List (List UInt8) × Nat
  | 0 => ([], 0)
  | i + 1 => bif inP l i then pS l i else (bif decide ((pS l i).2 < i) then (pS l i).1 ++ [(l.take i).drop (pS l i).2] else (pS l i).1, i + 1)
def partsL (l : List UInt8) : List (List UInt8) := (pS l (l.length + 1)).1
def strsL (L : List (List UInt8)) : List Value := L.map (fun x => .string (bL x))
theorem pS_from (l : List UInt8) : ∀ i, (pS l i).2 ≤ i
  | 0 => Nat.le_refl _
  | i + 1 => by
    unfold pS
    cases inP l i
    · exact Nat.le_refl _
    · exact Nat.le_trans (pS_from l i) (Nat.le_succ _)
theorem pS_len (l : List UInt8) : ∀ i, (pS l i).1.length ≤ i
  | 0 => Nat.le_refl _
  | i + 1 => by
    have h := pS_len l i
    unfold pS
    cases inP l i
    · rw [cond_false]
      cases decide ((pS l i).2 < i)
      · exact Nat.le_trans h (Nat.le_succ _)
      · rw [cond_true]; show ((pS l i).1 ++ [_]).length ≤ i + 1; rw [List.length_append]; simp; exact h
    · exact Nat.le_trans h (Nat.le_succ _)
theorem strs_snoc (L : List (List UInt8)) (x : List UInt8) : strsL (L ++ [x]) = strsL L ++ [.string (bL x)] := by unfold strsL; rw [List.map_append]; rfl
theorem strs_lenS (L : List (List UInt8)) : (strsL L).length = L.length := List.length_map _
set_option maxHeartbeats 6400000 in
theorem r_parts (l : List UInt8) (hl : l.length ≤ 1048576) (w : World) : Calls Tryd.prog 42 #[.string (bL l)] w fun e w' => ∃ o c, e = .returned (.slice o (partsL l).length c) ∧ w'.ownsRow w.heap.size 9 1 (.slice o (partsL l).length c) (partsL l).length (strsL (partsL l)) ∧ Gr w w' := by
  obtain ⟨i0, hi0, hz0, hz1, hz2⟩ := info_parts strInfo
  have hz : (bL l).size = l.length := bL_size l
  have AT := Lib.hid (fun j (hj : j < l.length) => atj l j hj)
  go_enter Tryd.func42, Tryd.ntmps42
  go_wp2_with fail
  go_loopg [3, 4, 5] (l.length + 2) (fun g v3 v4 v5 wr => ∃ (i : Nat) (o : Option Addr) (c : Nat), i ≤ l.length + 1 ∧ g = l.length + 2 - i ∧ v3 = .slice o (pS l i).1.length c ∧ v4 = .int .i64 ((pS l i).2 : Int) ∧ v5 = .int .i64 (i : Int) ∧ wr.ownsRow w.heap.size 9 1 (.slice o (pS l i).1.length c) (pS l i).1.length (strsL (pS l i).1) ∧ Gr w wr)
  case atStart => exact ⟨0, none, 0, Nat.zero_le _, rfl, rfl, rfl, rfl, ⟨rfl, .inl ⟨rfl, rfl⟩⟩, Gr.refl _⟩
  case round =>
    obtain ⟨i, o, c, hi, rfl, rfl, rfl, rfl, hown, hg⟩ := hrel
    have HO := Lib.hid hown
    have HG := Lib.hid hg
    clear hown hg
    by_cases hlt : i ≤ l.length
    · have dl : decide (i ≤ l.length) = true := decide_eq_true hlt
      have hfr := pS_from l i
      have hln := pS_len l i
      have hstep : pS l (i + 1) = (bif inP l i then pS l i else (bif decide ((pS l i).2 < i) then (pS l i).1 ++ [(l.take i).drop (pS l i).2] else (pS l i).1, i + 1)) := rfl
      have HS := Lib.hid hstep
      clear hstep
      go_upto_region 6 with fail
      go_cut [6] from 7 to 52 (fun s6 wx => s6 = .bool (inP l i) ∧ wx = wr)
      case first =>
        by_cases h2 : i < l.length
        · have d2 : decide (i < l.length) = true := decide_eq_true h2
          have hat := AT.out i h2
          have hin : inP l i = inC l[i] := by unfold inP; rw [List.getElem?_eq_getElem h2]
          have HIN := Lib.hid hin
          clear hin
          generalize l[i] = ch at *
          go_wp2_with fail
          all_goals
            go_meet
            exact ⟨by rw [HIN.out]; exact congrArg Value.bool (by rw [Bool.eq_iff_iff]; simp [inC]; try omega), rfl⟩
        · have d2 : decide (i < l.length) = false := decide_eq_false h2
          have hin : inP l i = false := by unfold inP; rw [List.getElem?_eq_none (by omega)]
          have HIN := Lib.hid hin
          clear hin
          go_wp2_with fail
          go_meet
          exact ⟨by rw [HIN.out], rfl⟩
      case rest =>
        obtain ⟨rfl, rfl⟩ := hcut
        cases hin : inP l i with
        | true =>
          have e : pS l (i + 1) = pS l i := by rw [HS.out, hin]; rfl
          have E := Lib.hid e
          clear hin e
          go_wp2_with fail
          go_roundg (l.length + 1 - i)
          case measure => omega
          case rel => exact ⟨i + 1, o, c, by omega, by omega, by rw [E.out], by rw [E.out], by go_num, by rw [E.out]; exact HO.out, HG.out⟩
        | false =>
          by_cases h3 : (pS l i).2 < i
          · have e : pS l (i + 1) = ((pS l i).1 ++ [(l.take i).drop (pS l i).2], i + 1) := by rw [HS.out, hin, decide_eq_true h3]; rfl
            have hsl : (Instr.slice 9 (.string (bL l)) (some (.int .i64 ((pS l i).2 : Int))) (some (.int .i64 (i : Int))) none).run Tryd.prog wc = .ok (.string (bL ((l.take i).drop (pS l i).2))) wc := by
              rw [run_slice_string (P := Tryd.prog) wc 9 (bL l) .i64 .i64 ((pS l i).2 : Int) (i : Int) Tryd.underlying9 (by omega) (by omega) (by rw [bL_size]; omega), Int.toNat_natCast, Int.toNat_natCast, bL_ext]
            have e1 : strsL ((pS l i).1 ++ [(l.take i).drop (pS l i).2]) = strsL (pS l i).1 ++ [.string (bL ((l.take i).drop (pS l i).2))] := strs_snoc _ _
            have hlE : ((pS l i).1 ++ [(l.take i).drop (pS l i).2]).length = (pS l i).1.length + 1 := by rw [List.length_append]; rfl
            have E := Lib.hid e
            have E1 := Lib.hid e1
            have EL := Lib.hid hlE
            have d3 : decide ((pS l i).2 < i) = true := decide_eq_true h3
            clear hin e e1 hlE HS
            generalize bL ((l.take i).drop (pS l i).2) = piece at *
            generalize (pS l i).1 ++ [(l.take i).drop (pS l i).2] = L2 at *
            generalize strsL (pS l i).1 = xs at *
            generalize (pS l i).1.length = n at *
            generalize (pS l i).2 = fr at *
            go_wp2_with (at_builtin; refine wpList_append_own _ rfl _ _ 70 rfl w.heap.size 9 i0 (.string ⟨#[]⟩) 1 16 Tryd.underlying70 hi0 hz0 hz1 hz2 rfl (by decide) (.slice o n c) n xs rfl (HO.out.alloc _) ⟨_, 0, none⟩ 1 1 [.string piece] rfl rfl (World.news_of_block (cs := #[.string piece]) (blk_new _ _)) (by simp [Value.oneCell']) (by unfold maxLen; omega) (by omega) (by have := HG.out.size; simp; omega) ?_; intro v' w3 hown' hgrow hnil; obtain ⟨o', c', rfl⟩ := row_formS hown'; have HO1 := Lib.hid hown'; have HG1 := Lib.hid hgrow; clear hown' hgrow hnil)
            go_roundg (l.length + 1 - i)
            case measure => omega
            case rel =>
              refine ⟨i + 1, o', c', by omega, by omega, by rw [E.out, EL.out], by rw [E.out]; go_num, by go_num, by rw [E.out, E1.out, EL.out]; exact HO1.out, ?_⟩
              have hb := HG.out.alloc HG.out.size (.cells #[.string piece] 9)
              exact Below.grown hb HG1.out hb.size (fun q e => (HO.out.lt q e).1)
          · have e : pS l (i + 1) = ((pS l i).1, i + 1) := by rw [HS.out, hin, decide_eq_false h3]; rfl
            have E := Lib.hid e
            have d3 : decide ((pS l i).2 < i) = false := decide_eq_false h3
            clear hin e
            go_wp2_with fail
            go_roundg (l.length + 1 - i)
            case measure => omega
            case rel => exact ⟨i + 1, o, c, by omega, by omega, by rw [E.out], by rw [E.out]; go_num, by go_num, by rw [E.out]; exact HO.out, HG.out⟩
    · have dl : decide (i ≤ l.length) = false := decide_eq_false hlt
      have ei : i = l.length + 1 := by omega
      subst ei
      go_wp2_with fail
      go_ret
      exact ⟨o, c, rfl, HO.out, HG.out⟩
end Go.Proofs.YthcfobefpknjeaaDoor.P
