/- Stage 3: the document's memory: Copy. No condition. -/
import Derived.Test.YtklkgjaljfkjbaaR2
set_option linter.unusedVariables false
namespace Go.Proofs.Ytklkgjaljfkjbaa.P
open Go.RowKit Go.MuLone Go.Proofs.Ytklkgjaljfkjbaa.W
theorem putL_at (s : List UInt8) (a : Nat) (x : List UInt8) (h : a + x.length ≤ s.length) (j : Nat) (hj : j < a ∨ a + x.length ≤ j) : (putL s a x)[j]? = s[j]? := by
  rw [putL_get s a x h j]
  rcases hj with hj | hj
  · rw [if_pos hj]
  · rw [if_neg (by omega), if_neg (by omega)]

set_option maxRecDepth 100000 in
theorem copy_at (s : List UInt8) (p q i : Nat) (hp : p * 256 + 256 ≤ s.length) (hq : q * 256 + 256 ≤ s.length) (hi : i < 256) : (putL s (p * 256) (((s.drop (q * 256)).take 256).take i))[q * 256 + i]? = s[q * 256 + i]? := by
  generalize hX : (s.drop (q * 256)).take 256 = X
  have hXl : X.length = 256 := by rw [← hX, List.length_take, List.length_drop]; omega
  have hl : (X.take i).length = i := by rw [List.length_take]; omega
  clear hX hXl
  have hb : p * 256 + (X.take i).length ≤ s.length := by rw [hl]; omega
  generalize X.take i = Y at *
  by_cases hpq : p = q
  · subst hpq
    exact putL_at s (p * 256) Y hb (p * 256 + i) (.inr (by omega))
  · exact putL_at s (p * 256) Y hb (q * 256 + i) (by omega)
theorem ret_int {a b : Int} (h : a = b) : Ending.returned (.int .i64 a) = .returned (.int .i64 b) := by rw [h]
def rcopyR (fr : Nat) (n k : Int) : Int := if frB fr n = true then (if k < (fr : Int) then 0 else 3) else 3
def rcopyS (fr : Nat) (s : List UInt8) (n k : Int) : List UInt8 := if k < 0 then clearS fr s n else copyS fr s n k
set_option maxRecDepth 100000 in
set_option maxHeartbeats 1600000 in
theorem r_copy_yes (rb vb fr : Nat) (s : List UInt8) (t : Int) (w : World) (h : RMemO w rb vb s t) (hfr : s.length = fr * 256) (hfr2 : fr ≤ 256) (p : Nat) (hp : p < fr) (q : Nat) (hq : q < fr) :
    Calls Try.prog 27 #[.pointer (some ⟨rb, 0, none⟩), .int .i64 p, .int .i64 q] w (RPutP rb vb (putL s (p * 256) ((s.drop (q * 256)).take 256)) t 0 w) := by
  have H := Lib.hid h
  have hX : ((s.drop (q * 256)).take 256).length = 256 := by simp; omega
  have hxi : ∀ i, i < 256 → ((s.drop (q * 256)).take 256)[i]? = s[q * 256 + i]? := fun i hi => by rw [List.getElem?_take_of_lt hi, List.getElem?_drop]
  have hca := fun i hi => copy_at s p q i (by omega) (by omega) hi
  generalize hXX : (s.drop (q * 256)).take 256 = X at *
  have HX := Lib.hid hX
  have HXI := Lib.hid hxi
  have HCA := Lib.hid hca
  have HFR := Lib.hid hfr
  have c0 := blk_cell h.1 0 (v := .slice (some ⟨vb, 0, none⟩) s.length s.length) rfl
  rw [hfr] at c0
  have HP := Lib.hid hp
  have HQ := Lib.hid hq
  have b0 : (0 : Int) ≤ p := by omega
  have b1 : (p : Int) ≤ 255 := by omega
  have b2 : (0 : Int) ≤ q := by omega
  have b3 : (q : Int) ≤ 255 := by omega
  have e0 : ((fr * 256 : Nat) : Int) / 256 = fr := by omega
  have d0 : decide ((p : Int) < 0) = false := decide_eq_false (by omega)
  have d1 : decide (fr ≤ p) = false := decide_eq_false (by omega)
  have d2 : decide (fr ≤ q) = false := decide_eq_false (by omega)
  clear h hX hxi hca hXX hfr hp hq
  go_enter Try.func27, Try.ntmps27
  go_wp2_with fail
  go_loopw [8] (fun v8 wr => ∃ i : Nat, i ≤ 256 ∧ v8 = .int .i64 i ∧ RMemO wr rb vb (putL s (p * 256) (X.take i)) t ∧ Ch (fun z => z = rb ∨ some vb = some z) w wr) (fun v8 _ => 256 - (intOf v8).toNat)
  case atStart => exact ⟨0, Nat.zero_le _, rfl, by rw [List.take_zero, putL_nil]; exact H.out, Ch.refl _ _⟩
  case round =>
    obtain ⟨i, hi, rfl, hR, hC⟩ := hrel
    have HR := Lib.hid hR
    have HC := Lib.hid hC
    have hp := HP.out
    have hq := HQ.out
    have hfr := HFR.out
    have hX := HX.out
    by_cases hlt : i < 256
    · have htl : (X.take i).length = i := by rw [List.length_take]; omega
      have hpl : (putL s (p * 256) (X.take i)).length = s.length := putL_len _ _ _ (by omega)
      have hj : p * 256 + i < (putL s (p * 256) (X.take i)).length := by omega
      have hj2 : q * 256 + i < (putL s (p * 256) (X.take i)).length := by omega
      have hXi : i < X.length := by omega
      have hval : (putL s (p * 256) (X.take i))[q * 256 + i]'hj2 = X[i] := by
        have e1 := HCA.out i hlt
        rw [← HXI.out i hlt, List.getElem?_eq_getElem hj2, List.getElem?_eq_getElem hXi] at e1
        injection e1
      have c0 := blk_cell hR.1 0 (v := .slice (some ⟨vb, 0, none⟩) (putL s (p * 256) (X.take i)).length (putL s (p * 256) (X.take i)).length) rfl
      have cc := blk_cell hR.2.2.1 (p * 256 + i) (bys_get _ _ hj)
      have cs := blk_cell hR.2.2.1 (q * 256 + i) (bys_get _ _ hj2)
      rw [hval] at cs
      have zz := blk_frozen hR.2.2.1 (p * 256 + i)
      have hst := putL_step s (p * 256) X (by omega) i hXi
      have hset := blk_set hR.2.2.1 (p * 256 + i) (bv X[i])
      rw [bys_set, hst] at hset
      have HSET := Lib.hid hset
      rw [hpl, hfr] at c0
      have HPL := Lib.hid hpl
      generalize (putL s (p * 256) (X.take i))[p * 256 + i]'hj = y at *
      generalize hxi : X[i] = xi at *
      clear hR hC hset hst hval hpl hj hj2 htl hxi
      have b5 : (0 : Int) ≤ i := by omega
      have b6 : (i : Int) < 256 := by omega
      have b7 : (p : Int) * 256 + i < fr * 256 := by omega
      have b8 : (q : Int) * 256 + i < fr * 256 := by omega
      have e5 : ((p : Int) * 256 + i).toNat = p * 256 + i := by omega
      have e6 : ((q : Int) * 256 + i).toNat = q * 256 + i := by omega
      clear hp hq hfr hX hXi
      unfold bv at cc cs
      go_wp2_with fail
      go_roundw
      case rel =>
        have hl2 : (putL s (p * 256) (X.take (i + 1))).length = s.length := putL_len _ _ _ (by rw [List.length_take]; have := HX.out; have := HP.out; have := HFR.out; omega)
        exact ⟨i + 1, by omega, by go_num, (HR.out.bytes (z := putL s (p * 256) (X.take (i + 1))) (Ch.setCell (S := (· = vb)) (Ch.refl _ wr) (p := ⟨vb, p * 256 + i, none⟩) (.inl rfl) (bv xi)) (by rw [hl2, HPL.out]) HSET.out), HC.out.setCell (.inl (.inr rfl)) _⟩
      case measure => simp [intOf]; omega
    · obtain rfl : i = 256 := by omega
      have e : X.take 256 = X := List.take_of_length_le (by omega)
      rw [e] at hR
      have HR2 := Lib.hid hR
      clear hR hC e hp hq hfr hX
      go_wp2_with fail
      go_ret
      exact ⟨rfl, HR2.out, HC.out⟩
set_option maxRecDepth 100000 in
set_option maxHeartbeats 1600000 in
theorem r_clear_yes (rb vb fr : Nat) (s : List UInt8) (t : Int) (w : World) (h : RMemO w rb vb s t) (hfr : s.length = fr * 256) (hfr2 : fr ≤ 256) (p : Nat) (hp : p < fr) (q : Int) (hq : q < 0) :
    Calls Try.prog 27 #[.pointer (some ⟨rb, 0, none⟩), .int .i64 p, .int .i64 q] w (RPutP rb vb (putL s (p * 256) (List.replicate 256 0)) t 0 w) := by
  have H := Lib.hid h
  have hX : (List.replicate 256 (0 : UInt8)).length = 256 := List.length_replicate
  have hxi : ∀ i (h : i < (List.replicate 256 (0 : UInt8)).length), (List.replicate 256 (0 : UInt8))[i] = 0 := fun i h => List.getElem_replicate h
  generalize hXX : List.replicate 256 (0 : UInt8) = X at *
  have HX := Lib.hid hX
  have HXI := Lib.hid hxi
  have HFR := Lib.hid hfr
  have c0 := blk_cell h.1 0 (v := .slice (some ⟨vb, 0, none⟩) s.length s.length) rfl
  rw [hfr] at c0
  have HP := Lib.hid hp
  have HQ := Lib.hid hq
  have b0 : (0 : Int) ≤ p := by omega
  have b1 : (p : Int) ≤ 255 := by omega
  have e0 : ((fr * 256 : Nat) : Int) / 256 = fr := by omega
  have d0 : decide ((p : Int) < 0) = false := decide_eq_false (by omega)
  have d1 : decide (fr ≤ p) = false := decide_eq_false (by omega)
  have d2 : decide ((fr : Int) ≤ q) = false := decide_eq_false (by omega)
  have d3 : decide (0 ≤ q) = false := decide_eq_false (by omega)
  clear h hX hxi hXX hfr hp hq
  go_enter Try.func27, Try.ntmps27
  go_wp2_with fail
  go_loopw [8] (fun v8 wr => ∃ i : Nat, i ≤ 256 ∧ v8 = .int .i64 i ∧ RMemO wr rb vb (putL s (p * 256) (X.take i)) t ∧ Ch (fun z => z = rb ∨ some vb = some z) w wr) (fun v8 _ => 256 - (intOf v8).toNat)
  case atStart => exact ⟨0, Nat.zero_le _, rfl, by rw [List.take_zero, putL_nil]; exact H.out, Ch.refl _ _⟩
  case round =>
    obtain ⟨i, hi, rfl, hR, hC⟩ := hrel
    have HR := Lib.hid hR
    have HC := Lib.hid hC
    have hp := HP.out
    have hq := HQ.out
    have hfr := HFR.out
    have hX := HX.out
    by_cases hlt : i < 256
    · have htl : (X.take i).length = i := by rw [List.length_take]; omega
      have hpl : (putL s (p * 256) (X.take i)).length = s.length := putL_len _ _ _ (by omega)
      have hj : p * 256 + i < (putL s (p * 256) (X.take i)).length := by omega
      have hXi : i < X.length := by omega
      have hval : X[i] = 0 := HXI.out i hXi
      have c0 := blk_cell hR.1 0 (v := .slice (some ⟨vb, 0, none⟩) (putL s (p * 256) (X.take i)).length (putL s (p * 256) (X.take i)).length) rfl
      have cc := blk_cell hR.2.2.1 (p * 256 + i) (bys_get _ _ hj)
      have zz := blk_frozen hR.2.2.1 (p * 256 + i)
      have hst := putL_step s (p * 256) X (by omega) i hXi
      have hset := blk_set hR.2.2.1 (p * 256 + i) (bv X[i])
      rw [bys_set, hst, hval] at hset
      have HSET := Lib.hid hset
      rw [hpl, hfr] at c0
      have HPL := Lib.hid hpl
      generalize (putL s (p * 256) (X.take i))[p * 256 + i]'hj = y at *
      clear hR hC hset hst hval hpl hj htl
      have b5 : (0 : Int) ≤ i := by omega
      have b6 : (i : Int) < 256 := by omega
      have b7 : (p : Int) * 256 + i < fr * 256 := by omega
      have e5 : ((p : Int) * 256 + i).toNat = p * 256 + i := by omega
      clear hp hq hfr hX hXi
      unfold bv at cc
      go_wp2_with fail
      go_roundw
      case rel =>
        have hl2 : (putL s (p * 256) (X.take (i + 1))).length = s.length := putL_len _ _ _ (by rw [List.length_take]; have := HX.out; have := HP.out; have := HFR.out; omega)
        exact ⟨i + 1, by omega, by go_num, (HR.out.bytes (z := putL s (p * 256) (X.take (i + 1))) (Ch.setCell (S := (· = vb)) (Ch.refl _ wr) (p := ⟨vb, p * 256 + i, none⟩) (.inl rfl) (bv 0)) (by rw [hl2, HPL.out]) HSET.out), HC.out.setCell (.inl (.inr rfl)) _⟩
      case measure => simp [intOf]; omega
    · obtain rfl : i = 256 := by omega
      have e : X.take 256 = X := List.take_of_length_le (by omega)
      rw [e] at hR
      have HR2 := Lib.hid hR
      clear hR hC e hp hq hfr hX
      go_wp2_with fail
      go_ret
      exact ⟨rfl, HR2.out, HC.out⟩
set_option maxRecDepth 100000 in
theorem r_copy_no (rb vb fr : Nat) (s : List UInt8) (t : Int) (w : World) (h : RMemO w rb vb s t) (hfr : s.length = fr * 256) (hfr2 : fr ≤ 256) (n k : Int) (hn : n < 0 ∨ (fr : Int) ≤ n ∨ (fr : Int) ≤ k) :
    Calls Try.prog 27 #[.pointer (some ⟨rb, 0, none⟩), .int .i64 n, .int .i64 k] w fun e w' => e = .returned (.int .i64 3) ∧ w' = w := by
  have c0 := blk_cell h.1 0 (v := .slice (some ⟨vb, 0, none⟩) s.length s.length) rfl
  rw [hfr] at c0
  have e0 : ((fr * 256 : Nat) : Int) / 256 = fr := by omega
  have hc : n < 0 ∨ (0 ≤ n ∧ (fr : Int) ≤ n) ∨ (0 ≤ n ∧ n < (fr : Int) ∧ (fr : Int) ≤ k) := by omega
  clear h hfr hn
  rcases hc with h1 | ⟨h1, h2⟩ | ⟨h1, h2, h3⟩
  · have d0 : decide (n < 0) = true := decide_eq_true h1
    go_enter Try.func27, Try.ntmps27
    go_wp2_with fail
    go_ret
    exact ⟨rfl, rfl⟩
  · have d0 : decide (n < 0) = false := decide_eq_false (by omega)
    have d1 : decide ((fr : Int) ≤ n) = true := decide_eq_true h2
    go_enter Try.func27, Try.ntmps27
    go_wp2_with fail
    go_ret
    exact ⟨rfl, rfl⟩
  · have d0 : decide (n < 0) = false := decide_eq_false (by omega)
    have d1 : decide ((fr : Int) ≤ n) = false := decide_eq_false (by omega)
    have d2 : decide ((fr : Int) ≤ k) = true := decide_eq_true h3
    go_enter Try.func27, Try.ntmps27
    go_wp2_with fail
    go_ret
    exact ⟨rfl, rfl⟩
theorem r_copy (rb vb fr : Nat) (s : List UInt8) (t : Int) (w : World) (h : RMemO w rb vb s t) (hfr : s.length = fr * 256) (hfr2 : fr ≤ 256) (n k : Int) :
    Calls Try.prog 27 #[.pointer (some ⟨rb, 0, none⟩), .int .i64 n, .int .i64 k] w (RPutP rb vb (rcopyS fr s n k) t (rcopyR fr n k) w) := by
  by_cases hi : 0 ≤ n ∧ n < fr
  · obtain ⟨p, rfl⟩ : ∃ p : Nat, n = (p : Int) := ⟨n.toNat, by omega⟩
    by_cases hk : k < (fr : Int)
    · have e2 : rcopyR fr p k = 0 := by unfold rcopyR; rw [if_pos (frB_t hi), if_pos hk]
      by_cases h0 : k < 0
      · have e1 : rcopyS fr s p k = putL s (p * 256) (List.replicate 256 0) := by unfold rcopyS clearS; rw [if_pos h0, if_pos (frB_t hi), Int.toNat_natCast]
        rw [e1, e2]
        exact r_clear_yes rb vb fr s t w h hfr hfr2 p (by omega) k h0
      · obtain ⟨q, rfl⟩ : ∃ q : Nat, k = (q : Int) := ⟨k.toNat, by omega⟩
        have e1 : rcopyS fr s p q = putL s (p * 256) ((s.drop (q * 256)).take 256) := by unfold rcopyS copyS; rw [if_neg h0, if_pos (frB_t hi), if_pos (frB_t (by omega)), Int.toNat_natCast, Int.toNat_natCast]
        rw [e1, e2]
        exact r_copy_yes rb vb fr s t w h hfr hfr2 p (by omega) q (by omega)
    · have e2 : rcopyR fr p k = 3 := by unfold rcopyR; rw [if_pos (frB_t hi), if_neg hk]
      have e1 : rcopyS fr s p k = s := by unfold rcopyS copyS; rw [if_neg (by omega), if_pos (frB_t hi), if_neg (by rw [frB_f (by omega)]; simp)]
      rw [e1, e2]
      refine (r_copy_no rb vb fr s t w h hfr hfr2 p k (by omega)).mono ?_
      rintro e w' ⟨rfl, rfl⟩
      exact ⟨rfl, h, Ch.refl _ _⟩
  · have e2 : rcopyR fr n k = 3 := by unfold rcopyR; rw [if_neg (by rw [frB_f hi]; simp)]
    have e1 : rcopyS fr s n k = s := by
      unfold rcopyS copyS clearS; split
      · rw [if_neg (by rw [frB_f hi]; simp)]
      · rw [if_neg (by rw [frB_f hi]; simp)]
    rw [e1, e2]
    refine (r_copy_no rb vb fr s t w h hfr hfr2 n k (by omega)).mono ?_
    rintro e w' ⟨rfl, rfl⟩
    exact ⟨rfl, h, Ch.refl _ _⟩
end Go.Proofs.Ytklkgjaljfkjbaa.P
