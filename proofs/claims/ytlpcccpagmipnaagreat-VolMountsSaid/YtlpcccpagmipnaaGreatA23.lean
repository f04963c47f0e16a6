/- Stage 7: the example's facts. No condition. -/
import Derived.Test.YtlpcccpagmipnaaGreatA21
set_option linter.unusedVariables false
set_option maxRecDepth 50000
namespace Go.Proofs.YtlpcccpagmipnaaGreat.P
open Go.RowKit
def sA : ByteArray := secF ⟨#[97]⟩
def sB : ByteArray := secF ⟨#[98]⟩
def z0E : DState := newZ (List.replicate 48 z64)
def stE : List (Int × ByteArray) := [(0, sA), (5, sB)]
def q1E : Int × DState := exec (commitOps stE) (powZ z0E 4)
def z3E : DState := crashZ q1E.2 1
def q4E : Int × DState := openQ z3E
theorem ex_new (n : Nat) (h : 48 ≤ n) : openQ (newZ (List.replicate n z64)) = (0, newZ (List.replicate n z64)) := by
  have hl : (newZ (List.replicate n z64)).safe.length = n := List.length_replicate
  have hr : readR (newZ (List.replicate n z64)) 1 = 0 := by
    unfold readR hasB
    rw [hl, decide_eq_true (by omega : (0 : Int) ≤ 1), decide_eq_true (by omega : (1 : Int) < n)]; rfl
  have hb : readB (newZ (List.replicate n z64)) 1 = z64 := by
    unfold readB hasB
    rw [hl, decide_eq_true (by omega : (0 : Int) ≤ 1), decide_eq_true (by omega : (1 : Int) < n)]
    show ((List.replicate n z64)[1]?).getD ⟨#[]⟩ = z64
    rw [List.getElem?_replicate, if_pos (by omega)]; rfl
  unfold openQ
  rw [hr, hb, parse_nil]; rfl
theorem ex_sets : setSt (setR false 48 [] 0 sA) [] 0 sA = [(0, sA)] ∧ setSt (setR false 48 [(0, sA)] 5 sB) [(0, sA)] 5 sB = stE := by
  have h1 : sA.size = 64 := secF_size _
  have h2 : sB.size = 64 := secF_size _
  constructor
  · have : setR false 48 [] 0 sA = 0 := by unfold setR; rw [decide_eq_true h1]; rfl
    rw [this]; rfl
  · have : setR false 48 [(0, sA)] 5 sB = 0 := by unfold setR; rw [decide_eq_true h2]; rfl
    rw [this]; rfl
theorem ex_commit : q1E.1 = 7 := by decide +kernel
theorem ex_open : q4E.1 = 0 := by decide +kernel
theorem ex_get : getB false q4E.2 [] 0 = sA ∧ getB false q4E.2 [] 5 = sB := by decide +kernel
theorem ex_size : (∀ s ∈ z3E.safe, s.size = 64) ∧ z3E.wait = [] := by
  refine ⟨by decide +kernel, rfl⟩
theorem ex_wait : q1E.2.wait.length ≤ 100 ∧ q4E.2.wait.length ≤ 100 := by decide +kernel
end Go.Proofs.YtlpcccpagmipnaaGreat.P
namespace Go.Proofs.YtlpcccpagmipnaaGreat.P
open Go.RowKit
abbrev ptr (b : Nat) : Value := .pointer (some ⟨b, 0, none⟩)
theorem o_open_ok {w0 w : World} {d : Nat} {z : DState} {R : Asn} (h : Own w0 w (Star (dsk d z) R)) (hs : Stable R) (hz : SZ z) (hw : z.wait.length ≤ 2000000000000) (q : DState) (hq : openQ z = (0, q)) :
    Calls Tryz.prog 30 #[ptr d] w fun e w' => ∃ l mb, e = .returned (.tuple #[ptr l, .int .i64 0]) ∧ Own w0 w' (DL d q l mb [] false R) :=
  (o_open h hs hz hw).mono fun e w' k => by
    rw [hq] at k
    exact k.1 rfl
theorem zE_len : z0E.safe.length = 48 := List.length_replicate
theorem ex_set1 {w0 w : World} {d l mb : Nat} (h : Own w0 w (DL d z0E l mb [] false emp)) : Calls Tryz.prog 45 #[ptr l, .int .i64 0, .string sA] w fun e w' => (∃ r, e = .returned (.int .i64 r)) ∧ Own w0 w' (DL d z0E l mb [(0, sA)] false emp) :=
  (o_set h stable_emp 0 sA (by simp)).mono (by
    rintro e w' ⟨rfl, k⟩
    rw [zE_len, ex_sets.1] at k
    exact ⟨⟨_, rfl⟩, k⟩)
theorem ex_set2 {w0 w : World} {d l mb : Nat} (h : Own w0 w (DL d z0E l mb [(0, sA)] false emp)) : Calls Tryz.prog 45 #[ptr l, .int .i64 5, .string sB] w fun e w' => (∃ r, e = .returned (.int .i64 r)) ∧ Own w0 w' (DL d z0E l mb stE false emp) :=
  (o_set h stable_emp 5 sB (by simp)).mono (by
    rintro e w' ⟨rfl, k⟩
    rw [zE_len, ex_sets.2] at k
    exact ⟨⟨_, rfl⟩, k⟩)
theorem ex_comm {w0 w : World} {d l mb : Nat} (h : Own w0 w (DL d (powZ z0E 4) l mb stE false emp)) : Calls Tryz.prog 14 #[ptr l] w fun e w' => e = .returned (.int .i64 7) ∧ Own w0 w' (DL d q1E.2 l mb [] true emp) :=
  (o_commit h stable_emp (by decide) (by decide) (fun x hx => by
    rcases List.mem_cons.1 hx with e | e
    · rw [e]; decide
    · rcases List.mem_cons.1 e with e | e
      · rw [e]; decide
      · cases e) (by show 0 ≤ _; omega)).mono (by
    rintro e w' ⟨rfl, k⟩
    have k2 : Own w0 w' (DL d q1E.2 l mb [] (!decide (q1E.1 = 0)) emp) := k
    rw [ex_commit] at k2
    exact ⟨congrArg (fun x => Ending.returned (.int .i64 x)) ex_commit, k2⟩)
abbrev RE (l d mb : Nat) : Asn := Star (lgA l d mb [] true) emp
theorem stable_RE (l d mb : Nat) : Stable (RE l d mb) := stable_star (stable_lg _ _ _ _ _) stable_emp
theorem ex_open2 {w0 w : World} {d l mb : Nat} (h : Own w0 w (DL d z3E l mb [] true emp)) : Calls Tryz.prog 30 #[ptr d] w fun e w' => ∃ m mc, e = .returned (.tuple #[ptr m, .int .i64 0]) ∧ Own w0 w' (DL d q4E.2 m mc [] false (RE l d mb)) :=
  o_open_ok h (stable_RE l d mb) ⟨ex_size.1, fun x hx => by rw [ex_size.2] at hx; cases hx⟩ (by rw [ex_size.2]; simp) q4E.2 (by
    show q4E = _
    rw [← ex_open])
theorem ex_get0 {w0 w : World} {d l mb m mc : Nat} (h : Own w0 w (DL d q4E.2 m mc [] false (RE l d mb))) : Calls Tryz.prog 106 #[ptr m, .int .i64 0] w fun e w' => (∃ r, e = .returned (.tuple #[.string (secF ⟨#[97]⟩), .int .i64 r])) ∧ Own w0 w' (DL d q4E.2 m mc [] false (RE l d mb)) :=
  (o_get h (stable_RE l d mb) 0 (by have := ex_wait.2; omega)).mono (by
    rintro e w' ⟨rfl, k⟩
    rw [ex_get.1]
    exact ⟨⟨_, rfl⟩, k⟩)
theorem ex_get5 {w0 w : World} {d l mb m mc : Nat} (h : Own w0 w (DL d q4E.2 m mc [] false (RE l d mb))) : Calls Tryz.prog 106 #[ptr m, .int .i64 5] w fun e w' => (∃ r, e = .returned (.tuple #[.string (secF ⟨#[98]⟩), .int .i64 r])) ∧ Own w0 w' (DL d q4E.2 m mc [] false (RE l d mb)) :=
  (o_get h (stable_RE l d mb) 5 (by have := ex_wait.2; omega)).mono (by
    rintro e w' ⟨rfl, k⟩
    rw [ex_get.2]
    exact ⟨⟨_, rfl⟩, k⟩)
theorem ex_szE : SZ z0E := sz_new 48
end Go.Proofs.YtlpcccpagmipnaaGreat.P
