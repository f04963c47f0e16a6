/- Stage 4: WalkNil, WalkParts, WalkBeyond. No condition. -/
import Derived.Test.YtkooinjaafeomaaK6
set_option linter.unusedVariables false
namespace Go.Proofs.Ytkooinjaafeomaa.P
open Go.RowKit Go.MuLone
set_option maxRecDepth 100000 in
theorem l_knil (r a acc : Int) (w : World) : Calls Try.prog 6 #[.int .i64 r, .int .u64 a, .int .i64 acc] w fun e w' => e = .returned (.bool true) ∧ Gr w w' := by
  go_enter Try.func6, Try.ntmps6
  go_wp2_with fail
  refine (c_kshown _).mono ?_; rintro e w1 ⟨rfl, g⟩
  have G := Lib.hid g; clear g
  go_wp2_with (first
    | (go_at_call 17; refine (n_kleaf _ _ _).mono ?_; rintro e w' ⟨rfl, rfl⟩)
    | (go_at_call 19; refine (n_kwalk _ _ _ _).mono ?_; rintro e w' ⟨rfl, rfl⟩))
  go_ret
  exact ⟨rfl, G.out⟩
theorem entry_word (n v : Int) (hn : i64 n) (hv : u64 v) : u64 (entryI n v) := by
  unfold entryI; split
  · exact ⟨by decide, by decide⟩
  · have h : ∀ x : Int, 0 ≤ (x * 1024) % 18446744073709551616 ∧ (x * 1024) % 18446744073709551616 ≤ 18446744073709550592 := fun x => by omega
    have h2 : 0 ≤ v % 1024 ∧ v % 1024 < 1024 := by omega
    have := h n
    exact ⟨by omega, by omega⟩
theorem entry_back (n v : Int) (h0 : 0 ≤ n) (h1 : n < 9007199254740992) (hv : 0 ≤ v) : entryI n v / 1024 = n := by
  unfold entryI; rw [if_neg (by omega)]; omega
set_option maxRecDepth 100000 in
set_option maxHeartbeats 1600000 in
theorem l_kparts (a n v : Int) (ha : u64 a) (hn : i64 n) (hv : u64 v) (w : World) : Calls Try.prog 3 #[.int .u64 a, .int .i64 n, .int .u64 v] w fun e w' => e = .returned (.bool true) ∧ Gr w w' := by
  have HA := Lib.hid ha
  have HN := Lib.hid hn
  have HV := Lib.hid hv
  have HE := Lib.hid (entry_word n v hn hv)
  have HB := entry_back n v
  obtain ⟨n0, n1⟩ := hn
  obtain ⟨v0, v1⟩ := hv
  obtain ⟨E, hE⟩ : ∃ E, E = entryI n v := ⟨_, rfl⟩
  have CE : ∀ w : World, Calls Try.prog 10 #[.int .i64 n, .int .u64 v] w fun e w' => e = .returned (.int .u64 E) ∧ w' = w := fun w => by rw [hE]; exact c_kentry n v HN.out HV.out w
  have RE : ∀ w : World, Calls Try.prog 13 #[.int .i64 n, .int .u64 v] w fun e w' => e = .returned (.int .u64 E) ∧ w' = w := fun w => by rw [hE]; exact r_kentry n v HN.out HV.out w
  rw [← hE] at HE HB
  clear hE ha
  have HBB := Lib.hid HB
  clear HB
  obtain ⟨P, hP⟩ : ∃ P, P = partI a n := ⟨_, rfl⟩
  have CP : ∀ w : World, Calls Try.prog 11 #[.int .u64 a, .int .i64 n] w fun e w' => e = .returned (.int .i64 P) ∧ w' = w := fun w => by rw [hP]; exact c_kpart a n HA.out w
  have RP : ∀ w : World, Calls Try.prog 12 #[.int .u64 a, .int .i64 n] w fun e w' => e = .returned (.int .i64 P) ∧ w' = w := fun w => by rw [hP]; exact r_kpart a n HA.out w
  clear hP
  have hc : n < 0 ∨ 9007199254740992 ≤ n ∨ (0 ≤ n ∧ n < 9007199254740992) := by omega
  rcases hc with h | h | ⟨h1, h2⟩
  · go_enter Try.func3, Try.ntmps3
    go_wp2_with fail
    refine (c_kshown _).mono ?_; rintro e w1 ⟨rfl, g⟩
    have G := Lib.hid g; clear g
    go_wp2_with (first
      | (go_at_call 10; refine (CE _).mono ?_; rintro e w' ⟨rfl, rfl⟩)
      | (go_at_call 13; refine (RE _).mono ?_; rintro e w' ⟨rfl, rfl⟩)
      | (go_at_call 11; refine (CP _).mono ?_; rintro e w' ⟨rfl, rfl⟩)
      | (go_at_call 12; refine (RP _).mono ?_; rintro e w' ⟨rfl, rfl⟩)
      | (go_at_call 14; refine (c_kframe v HV.out _).mono ?_; rintro e w' ⟨rfl, rfl⟩)
      | (go_at_call 15; refine (r_kframe v HV.out _).mono ?_; rintro e w' ⟨rfl, rfl⟩))
    go_ret
    exact ⟨rfl, G.out⟩
  · have h0 : 0 ≤ n := by omega
    go_enter Try.func3, Try.ntmps3
    go_wp2_with fail
    refine (c_kshown _).mono ?_; rintro e w1 ⟨rfl, g⟩
    have G := Lib.hid g; clear g
    go_wp2_with (first
      | (go_at_call 10; refine (CE _).mono ?_; rintro e w' ⟨rfl, rfl⟩)
      | (go_at_call 13; refine (RE _).mono ?_; rintro e w' ⟨rfl, rfl⟩)
      | (go_at_call 11; refine (CP _).mono ?_; rintro e w' ⟨rfl, rfl⟩)
      | (go_at_call 12; refine (RP _).mono ?_; rintro e w' ⟨rfl, rfl⟩)
      | (go_at_call 14; refine (c_kframe v HV.out _).mono ?_; rintro e w' ⟨rfl, rfl⟩)
      | (go_at_call 15; refine (r_kframe v HV.out _).mono ?_; rintro e w' ⟨rfl, rfl⟩))
    go_ret
    exact ⟨rfl, G.out⟩
  · have hb := HBB.out h1 h2 v0
    have d1 : decide (n < 0) = false := decide_eq_false (by omega)
    have d2 : decide (9007199254740992 ≤ n) = false := decide_eq_false (by omega)
    have CF : ∀ w : World, Calls Try.prog 14 #[.int .u64 E] w fun e w' => e = .returned (.int .u64 n) ∧ w' = w := fun w => by rw [← hb]; exact c_kframe E HE.out w
    clear hb
    go_enter Try.func3, Try.ntmps3
    go_wp2_with fail
    refine (c_kshown _).mono ?_; rintro e w1 ⟨rfl, g⟩
    have G := Lib.hid g; clear g
    go_wp2_with (first
      | (go_at_call 10; refine (CE _).mono ?_; rintro e w' ⟨rfl, rfl⟩)
      | (go_at_call 13; refine (RE _).mono ?_; rintro e w' ⟨rfl, rfl⟩)
      | (go_at_call 11; refine (CP _).mono ?_; rintro e w' ⟨rfl, rfl⟩)
      | (go_at_call 12; refine (RP _).mono ?_; rintro e w' ⟨rfl, rfl⟩)
      | (go_at_call 14; refine (c_kframe v HV.out _).mono ?_; rintro e w' ⟨rfl, rfl⟩)
      | (go_at_call 15; refine (r_kframe v HV.out _).mono ?_; rintro e w' ⟨rfl, rfl⟩)
      | (go_at_call 14; refine (CF _).mono ?_; rintro e w' ⟨rfl, rfl⟩))
    go_ret
    exact ⟨rfl, G.out⟩
theorem wacts_gr {w w' : World} {bl off len : Nat} {f : Nat → WActV} (g : Gr w w') (h : WActs w bl off len f) : WActs w' bl off len f :=
  fun i hi => ⟨(h i hi).1, kcell g (h i hi).2.1, kcell g (h i hi).2.2⟩
theorem beyond_r (s : List UInt8) (a : Int) (h : 8388608 ≤ a) : leafR 8 s 0 a = 3 ∧ leafV 8 s 0 a = 0 := by
  have e : leafR 8 s 0 a = 3 := by unfold leafR; rw [decide_eq_false (show ¬ a < 8388608 by omega)]; rfl
  exact ⟨e, by unfold leafV; rw [e]; rfl⟩
theorem beyond_w (s : List UInt8) (a acc : Int) (h : 8388608 ≤ a) : ∃ x, walkR 8 s 0 a acc = x ∧ x ≠ 0 := by
  refine ⟨_, rfl, ?_⟩
  unfold walkR
  rw [(beyond_r s a h).1]
  cases decide (neededI acc = 0) <;> simp
theorem part_far (a l : Int) (h : 8388608 ≤ a) : partI a l = 0 := by unfold partI; rw [if_neg (by omega)]
set_option maxRecDepth 100000 in
set_option maxHeartbeats 1600000 in
theorem l_kbeyond (w : World) (o : Option Addr) (len cap bl off : Nat) (f : Nat → WActV) (hlen : len ≤ 9223372036854775807) (ho : 0 < len → o = some ⟨bl, off, none⟩ ∧ bl < w.heap.size) (hl : WActs w bl off len f) (a acc : Int) (ha : u64 a) :
    Calls Try.prog 8 #[.slice o len cap, .int .u64 a, .int .i64 acc] w fun e w' => e = .returned (.bool true) ∧ Gr w w' := by
  have HL := Lib.hid hl
  have HO := Lib.hid ho
  have HLEN := Lib.hid hlen
  clear hl ho hlen
  obtain ⟨a0, a1⟩ := ha
  obtain ⟨B, hB⟩ : ∃ B : Int, B = if a < 8388608 then a + 8388608 else a := ⟨_, rfl⟩
  have hB0 : 8388608 ≤ B ∧ B ≤ 18446744073709551615 := by rw [hB]; split <;> omega
  have HU : RowKit.Hid (u64 B) := Lib.hid ⟨by omega, hB0.2⟩
  have HP := fun l => part_far B l hB0.1
  have CP : ∀ (l : Int) (w : World), Calls Try.prog 11 #[.int .u64 B, .int .i64 l] w fun e w' => e = .returned (.int .i64 0) ∧ w' = w := fun l w => by rw [← HP l]; exact c_kpart B l HU.out w
  have CL : ∀ {w0 w : World} {b rb vb : Nat} {s : List UInt8} (h : PW w0 w b rb vb s), Calls Try.prog 17 #[.pointer (some ⟨b, 0, none⟩), .int .i64 0, .int .u64 B] w fun e w' => e = .returned (.tuple #[.int .u64 0, .int .i64 3]) ∧ PW w0 w' b rb vb s :=
    fun {w0 w b rb vb s} h => pw_leaf h 0 B 0 3 HU.out ⟨by decide, by decide⟩ (beyond_r s B hB0.1).2 (beyond_r s B hB0.1).1
  have CW : ∀ {w0 w : World} {b rb vb : Nat} {s : List UInt8} (h : PW w0 w b rb vb s), Calls Try.prog 19 #[.pointer (some ⟨b, 0, none⟩), .int .i64 0, .int .u64 B, .int .i64 acc] w fun e w' => ∃ v x, x ≠ 0 ∧ e = .returned (.tuple #[.int .u64 v, .int .i64 x]) ∧ PW w0 w' b rb vb s :=
    fun {w0 w b rb vb s} h => by
      obtain ⟨x, h1, h2⟩ := beyond_w s B acc hB0.1
      exact (pw_walk h 0 B acc _ x HU.out ⟨by decide, by decide⟩ rfl h1).mono fun e w' q => ⟨_, x, h2, q.1, q.2⟩
  have dB : decide (B < 8388608) = false := decide_eq_false (by omega)
  clear HP hB0
  by_cases h : a < 8388608
  · rw [if_pos h] at hB
    have hB2 : a + 8388608 = B := hB.symm
    have HB2 := Lib.hid hB2
    clear hB hB2
    go_enter Try.func8, Try.ntmps8
    go_wp2_with fail
    refine (c_kshown _).mono ?_; rintro e w1 ⟨rfl, g⟩
    have G := Lib.hid g; clear g
    go_wp2_with fail
    refine (c_memory w1 o len cap bl off f HLEN.out (fun q => ⟨(HO.out q).1, by have := (HO.out q).2; have := G.out.size; omega⟩) (wacts_gr G.out HL.out)).mono ?_; rintro e w2 ⟨b, rb, vb, rfl, h⟩
    have H2 := Lib.hid (PW.up G.out h); clear h
    go_wp2_with fail
    rw [HB2.out]
    refine (CW H2.out).mono ?_; rintro e w3 ⟨v, x, hx, rfl, h⟩
    have H3 := Lib.hid h; clear h
    have dx : (x == 0) = false := by simpa using hx
    have dx2 : decide (x = 0) = false := decide_eq_false hx
    go_wp2_with fail
    refine (CL H3.out).mono ?_; rintro e w4 ⟨rfl, h⟩
    have H4 := Lib.hid h; clear h
    go_wp2_with (go_at_call 11; refine (CP _ _).mono ?_; rintro e w' ⟨rfl, rfl⟩)
    go_ret
    exact ⟨ret_b (by simpa using hx), H4.out.1⟩
  · rw [if_neg h] at hB
    subst hB
    go_enter Try.func8, Try.ntmps8
    go_wp2_with fail
    refine (c_kshown _).mono ?_; rintro e w1 ⟨rfl, g⟩
    have G := Lib.hid g; clear g
    go_wp2_with fail
    refine (c_memory w1 o len cap bl off f HLEN.out (fun q => ⟨(HO.out q).1, by have := (HO.out q).2; have := G.out.size; omega⟩) (wacts_gr G.out HL.out)).mono ?_; rintro e w2 ⟨b, rb, vb, rfl, h⟩
    have H2 := Lib.hid (PW.up G.out h); clear h
    go_wp2_with fail
    refine (CW H2.out).mono ?_; rintro e w3 ⟨v, x, hx, rfl, h⟩
    have H3 := Lib.hid h; clear h
    have dx : (x == 0) = false := by simpa using hx
    have dx2 : decide (x = 0) = false := decide_eq_false hx
    go_wp2_with fail
    refine (CL H3.out).mono ?_; rintro e w4 ⟨rfl, h⟩
    have H4 := Lib.hid h; clear h
    go_wp2_with (go_at_call 11; refine (CP _ _).mono ?_; rintro e w' ⟨rfl, rfl⟩)
    go_ret
    exact ⟨ret_b (by simpa using hx), H4.out.1⟩
end Go.Proofs.Ytkooinjaafeomaa.P
