/- Stage 10: the example; nil. No condition. -/
import Derived.Test.YtklkgjaljfkjbaaF5
set_option linter.unusedVariables false
namespace Go.Proofs.Ytklkgjaljfkjbaa.P
open Go.RowKit Go.MuLone Go.Maps
def freshL (fr first : Nat) : List Bool := (List.range fr).map fun k => decide (first ≤ k)
theorem fresh_len (fr first : Nat) : (freshL fr first).length = fr := by simp [freshL]
theorem fresh_is (fr first k : Nat) : isL (freshL fr first) k = decide (first ≤ k ∧ k < fr) := by
  unfold isL freshL
  by_cases h : k < fr
  · simp [List.getD, h]
  · simp [List.getD, h]
theorem mem_new (w0 w : World) (g : Gr w0 w) (fr : Nat) (h1 : 1 ≤ fr) (h2 : fr ≤ 256) :
    Calls Try.prog 10 #[.int .i64 fr] w fun e w' => ∃ b, e = .returned (.tuple #[.pointer (some ⟨b, 0, none⟩), .int .i64 0]) ∧ MG w0 w' b fr (List.replicate (fr * 256) 0) 0 := by
  refine (c_new fr h1 h2 w).mono ?_
  rintro e w' ⟨b, rfl, hm, hb, g2⟩
  exact ⟨b, rfl, gr_ch g (Ch.of_gr (S := fun _ => False) g2) (fun _ h => h.elim), by have := g.size; omega, none, (fun x hx => by cases hx), hm⟩
theorem pg_new (w0 w : World) (b fr first : Nat) (s : List UInt8) (t : Int) (h : MG w0 w b fr s t) (hf : first ≤ fr) :
    Calls Try.prog 9 #[.pointer (some ⟨b, 0, none⟩), .int .i64 first] w fun e w' => ∃ pb, e = .returned (.tuple #[.pointer (some ⟨pb, 0, none⟩), .int .i64 0]) ∧ PG w0 w' pb b first (freshL fr first) s := by
  obtain ⟨g, hb, y, hy, hm⟩ := h
  refine (c_pool b y fr first s t w hm hf).mono ?_
  rintro e w' ⟨pb, mb, D, rfl, hp, h1, h2, g2, hd⟩
  have := g.size
  exact ⟨pb, rfl, gr_ch g (Ch.of_gr (S := fun _ => False) g2) (fun _ h => h.elim), mb, y, D, t, by omega, by omega, hb, hy, by rw [fresh_len]; exact hp, fun k => by rw [hd, fresh_is]⟩
/-- The memory's bytes left out. -/
def PS (w0 w : World) (pb b first : Nat) (L : List Bool) : Prop := ∃ s, PG w0 w pb b first L s
theorem ps_take {w0 w : World} {pb b first : Nat} {L : List Bool} (h : PS w0 w pb b first L) (n e : Int) (L' : List Bool) (hn : takeN L first = n) (he : takeE L first = e) (hL : takeL L first = L') :
    Calls Try.prog 13 #[.pointer (some ⟨pb, 0, none⟩)] w fun x w' => x = .returned (.tuple #[.int .i64 n, .int .i64 e]) ∧ PS w0 w' pb b first L' := by
  obtain ⟨s, h⟩ := h
  subst hn; subst he; subst hL
  exact (pg_take w0 w pb b first L s h).mono fun x w' h => ⟨h.1, _, h.2⟩
theorem ps_give {w0 w : World} {pb b first : Nat} {L : List Bool} (h : PS w0 w pb b first L) (k : Int) (hk : i64 k) (e : Int) (L' : List Bool) (he : giveE L first k = e) (hL : giveL L first k = L') :
    Calls Try.prog 15 #[.pointer (some ⟨pb, 0, none⟩), .int .i64 k] w fun x w' => x = .returned (.int .i64 e) ∧ PS w0 w' pb b first L' := by
  obtain ⟨s, h⟩ := h
  subst he; subst hL
  exact (pg_give w0 w pb b first L s h k hk).mono fun x w' h => ⟨h.1, _, h.2⟩
theorem ps_taken {w0 w : World} {pb b first : Nat} {L : List Bool} (h : PS w0 w pb b first L) (k : Int) (hk : i64 k) (v : Bool) (hv : tknB L first k = v) :
    Calls Try.prog 21 #[.pointer (some ⟨pb, 0, none⟩), .int .i64 k] w fun x w' => x = .returned (.bool v) ∧ PS w0 w' pb b first L := by
  obtain ⟨s, h⟩ := h
  subst hv
  exact (pg_taken w0 w pb b first L s h k hk).mono fun x w' h => ⟨h.1, _, h.2⟩
theorem ps_left {w0 w : World} {pb b first : Nat} {L : List Bool} (h : PS w0 w pb b first L) (n : Int) (hn : (cntL L first (L.length - first) : Int) = n) :
    Calls Try.prog 19 #[.pointer (some ⟨pb, 0, none⟩)] w fun x w' => x = .returned (.int .i64 n) ∧ w' = w := by
  obtain ⟨s, h⟩ := h
  subst hn
  exact pg_left w0 w pb b first L s h
theorem ps_new (w0 w : World) (b fr first : Nat) (s : List UInt8) (t : Int) (h : MG w0 w b fr s t) (hf : first ≤ fr) (L : List Bool) (hL : freshL fr first = L) :
    Calls Try.prog 9 #[.pointer (some ⟨b, 0, none⟩), .int .i64 first] w fun e w' => ∃ pb, e = .returned (.tuple #[.pointer (some ⟨pb, 0, none⟩), .int .i64 0]) ∧ PS w0 w' pb b first L := by
  subst hL
  exact (pg_new w0 w b fr first s t h hf).mono fun e w' ⟨pb, h1, h2⟩ => ⟨pb, h1, _, h2⟩
def k0 : List Bool := [false, true, true, true]
def k1 : List Bool := [false, false, true, true]
def k2 : List Bool := [false, false, false, true]
def k3 : List Bool := [false, false, false, false]
def k4 : List Bool := [false, false, true, false]
set_option maxRecDepth 100000 in
set_option maxHeartbeats 1600000 in
theorem c_shown10 (w : World) : Calls Try.prog 7 #[] w fun e w' => e = .returned (.bool true) ∧ Gr w w' := by
  go_enter Try.func7, Try.ntmps7
  go_wp2_with fail
  refine (mem_new w w (Gr.refl w) 4 (by decide) (by decide)).mono ?_; rintro e w1 ⟨b, rfl, h⟩
  have H1 := Lib.hid h; clear h
  go_wp2_with fail
  refine (ps_new w w1 b 4 1 _ 0 H1.out (by decide) k0 (by decide)).mono ?_; rintro e w2 ⟨pb, rfl, h⟩
  have H2 := Lib.hid h; clear h
  go_wp2_with fail
  refine (ps_left H2.out 3 (by decide)).mono ?_; rintro e w3 ⟨rfl, hw⟩; have hq := hw.symm; subst hq
  go_wp2_with fail
  refine (ps_take H2.out 1 0 k1 (by decide) (by decide) (by decide)).mono ?_; rintro e w3 ⟨rfl, h⟩
  have H3 := Lib.hid h; clear h
  go_wp2_with fail
  refine (ps_take H3.out 2 0 k2 (by decide) (by decide) (by decide)).mono ?_; rintro e w4 ⟨rfl, h⟩
  have H4 := Lib.hid h; clear h
  go_wp2_with fail
  refine (ps_take H4.out 3 0 k3 (by decide) (by decide) (by decide)).mono ?_; rintro e w5 ⟨rfl, h⟩
  have H5 := Lib.hid h; clear h
  go_wp2_with fail
  refine (ps_take H5.out 0 4 k3 (by decide) (by decide) (by decide)).mono ?_; rintro e w6 ⟨rfl, h⟩
  have H6 := Lib.hid h; clear h
  go_wp2_with fail
  refine (ps_give H6.out 2 ⟨by decide, by decide⟩ 0 k4 (by decide) (by decide)).mono ?_; rintro e w7 ⟨rfl, h⟩
  have H7 := Lib.hid h; clear h
  go_wp2_with fail
  refine (ps_give H7.out 2 ⟨by decide, by decide⟩ 1 k4 (by decide) (by decide)).mono ?_; rintro e w8 ⟨rfl, h⟩
  have H8 := Lib.hid h; clear h
  go_wp2_with fail
  refine (ps_give H8.out 0 ⟨by decide, by decide⟩ 1 k4 (by decide) (by decide)).mono ?_; rintro e w9 ⟨rfl, h⟩
  have H9 := Lib.hid h; clear h
  go_wp2_with fail
  refine (ps_take H9.out 2 0 k3 (by decide) (by decide) (by decide)).mono ?_; rintro e w10 ⟨rfl, h⟩
  have H10 := Lib.hid h; clear h
  go_wp2_with fail
  go_ret
  obtain ⟨s, h⟩ := H10.out
  exact ⟨rfl, h.1⟩
set_option maxRecDepth 100000 in
theorem l_nil10 (n : Int) (w : World) : Calls Try.prog 5 #[.int .i64 n] w fun e w' => e = .returned (.bool true) ∧ Gr w w' := by
  go_enter Try.func5, Try.ntmps5
  go_wp2_with fail
  refine (c_shown10 _).mono ?_; rintro e w1 ⟨rfl, g⟩
  have G := Lib.hid g; clear g
  go_wp2_with (first
    | (go_at_call 13; refine (n_take _).mono ?_; rintro e w' ⟨rfl, rfl⟩)
    | (go_at_call 15; refine (n_give _ _).mono ?_; rintro e w' ⟨rfl, rfl⟩)
    | (go_at_call 21; refine (n_taken _ _).mono ?_; rintro e w' ⟨rfl, rfl⟩)
    | (go_at_call 19; refine (n_left _).mono ?_; rintro e w' ⟨rfl, rfl⟩)
    | (go_at_call 24; refine (n_pmem _).mono ?_; rintro e w' ⟨rfl, rfl⟩))
  go_ret
  exact ⟨rfl, G.out⟩
end Go.Proofs.Ytklkgjaljfkjbaa.P
