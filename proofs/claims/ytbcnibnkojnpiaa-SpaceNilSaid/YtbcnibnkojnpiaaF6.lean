/- Stage 10: the example; nil. No condition. -/
import Derived.Test.YtbcnibnkojnpiaaF5
set_option linter.unusedVariables false
namespace Go.Proofs.Ytbcnibnkojnpiaa.P
open Go.RowKit Go.MuLone Go.Maps
def freshL (fr first : Nat) : List Bool := (List.range fr).map fun k => decide (first ≤ k)
theorem fresh_len (fr first : Nat) : (freshL fr first).length = fr := by simp [freshL]
theorem fresh_is (fr first k : Nat) : isL (freshL fr first) k = decide (first ≤ k ∧ k < fr) := by
  unfold isL freshL
  by_cases h : k < fr
  · simp [List.getD, h]
  · simp [List.getD, h]
theorem mem_new (w0 w : World) (g : Gr w0 w) (fr : Nat) (h1 : 1 ≤ fr) (h2 : fr ≤ 256) :
    Calls Try.prog 17 #[.int .i64 fr] w fun e w' => ∃ b, e = .returned (.tuple #[.pointer (some ⟨b, 0, none⟩), .int .i64 0]) ∧ MG w0 w' b fr (List.replicate (fr * 256) 0) 0 := by
  refine (c_new fr h1 h2 w).mono ?_
  rintro e w' ⟨b, rfl, hm, hb, g2⟩
  exact ⟨b, rfl, gr_ch g (Ch.of_gr (S := fun _ => False) g2) (fun _ h => h.elim), by have := g.size; omega, none, (fun x hx => by cases hx), hm⟩
theorem pg_new (w0 w : World) (b fr first : Nat) (s : List UInt8) (t : Int) (h : MG w0 w b fr s t) (hf : first ≤ fr) :
    Calls Try.prog 18 #[.pointer (some ⟨b, 0, none⟩), .int .i64 first] w fun e w' => ∃ pb, e = .returned (.tuple #[.pointer (some ⟨pb, 0, none⟩), .int .i64 0]) ∧ PG w0 w' pb b first (freshL fr first) s := by
  obtain ⟨g, hb, y, hy, hm⟩ := h
  refine (c_pool b y fr first s t w hm hf).mono ?_
  rintro e w' ⟨pb, mb, D, rfl, hp, h1, h2, g2, hd⟩
  have := g.size
  exact ⟨pb, rfl, gr_ch g (Ch.of_gr (S := fun _ => False) g2) (fun _ h => h.elim), mb, y, D, t, by omega, by omega, hb, hy, by rw [fresh_len]; exact hp, fun k => by rw [hd, fresh_is]⟩
/-- The memory's bytes left out. -/
def PS (w0 w : World) (pb b first : Nat) (L : List Bool) : Prop := ∃ s, PG w0 w pb b first L s
theorem ps_take {w0 w : World} {pb b first : Nat} {L : List Bool} (h : PS w0 w pb b first L) (n e : Int) (L' : List Bool) (hn : takeN L first = n) (he : takeE L first = e) (hL : takeL L first = L') :
    Calls Try.prog 22 #[.pointer (some ⟨pb, 0, none⟩)] w fun x w' => x = .returned (.tuple #[.int .i64 n, .int .i64 e]) ∧ PS w0 w' pb b first L' := by
  obtain ⟨s, h⟩ := h
  subst hn; subst he; subst hL
  exact (pg_take w0 w pb b first L s h).mono fun x w' h => ⟨h.1, _, h.2⟩
theorem ps_give {w0 w : World} {pb b first : Nat} {L : List Bool} (h : PS w0 w pb b first L) (k : Int) (hk : i64 k) (e : Int) (L' : List Bool) (he : giveE L first k = e) (hL : giveL L first k = L') :
    Calls Try.prog 40 #[.pointer (some ⟨pb, 0, none⟩), .int .i64 k] w fun x w' => x = .returned (.int .i64 e) ∧ PS w0 w' pb b first L' := by
  obtain ⟨s, h⟩ := h
  subst he; subst hL
  exact (pg_give w0 w pb b first L s h k hk).mono fun x w' h => ⟨h.1, _, h.2⟩
theorem ps_taken {w0 w : World} {pb b first : Nat} {L : List Bool} (h : PS w0 w pb b first L) (k : Int) (hk : i64 k) (v : Bool) (hv : tknB L first k = v) :
    Calls Try.prog 23 #[.pointer (some ⟨pb, 0, none⟩), .int .i64 k] w fun x w' => x = .returned (.bool v) ∧ PS w0 w' pb b first L := by
  obtain ⟨s, h⟩ := h
  subst hv
  exact (pg_taken w0 w pb b first L s h k hk).mono fun x w' h => ⟨h.1, _, h.2⟩
theorem ps_left {w0 w : World} {pb b first : Nat} {L : List Bool} (h : PS w0 w pb b first L) (n : Int) (hn : (cntL L first (L.length - first) : Int) = n) :
    Calls Try.prog 8 #[.pointer (some ⟨pb, 0, none⟩)] w fun x w' => x = .returned (.int .i64 n) ∧ w' = w := by
  obtain ⟨s, h⟩ := h
  subst hn
  exact pg_left w0 w pb b first L s h
theorem ps_new (w0 w : World) (b fr first : Nat) (s : List UInt8) (t : Int) (h : MG w0 w b fr s t) (hf : first ≤ fr) (L : List Bool) (hL : freshL fr first = L) :
    Calls Try.prog 18 #[.pointer (some ⟨b, 0, none⟩), .int .i64 first] w fun e w' => ∃ pb, e = .returned (.tuple #[.pointer (some ⟨pb, 0, none⟩), .int .i64 0]) ∧ PS w0 w' pb b first L := by
  subst hL
  exact (pg_new w0 w b fr first s t h hf).mono fun e w' ⟨pb, h1, h2⟩ => ⟨pb, h1, _, h2⟩
def k0 : List Bool := [false, true, true, true]
def k1 : List Bool := [false, false, true, true]
def k2 : List Bool := [false, false, false, true]
def k3 : List Bool := [false, false, false, false]
def k4 : List Bool := [false, false, true, false]
end Go.Proofs.Ytbcnibnkojnpiaa.P
