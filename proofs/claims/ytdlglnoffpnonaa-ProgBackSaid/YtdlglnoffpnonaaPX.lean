/- Stage 12: ProgBack. No condition. -/
import Derived.Test.YtdlglnoffpnonaaPV
set_option linter.unusedVariables false
set_option linter.unusedSimpArgs false
set_option maxRecDepth 100000
namespace Go.Proofs.Ytdlglnoffpnonaa.P
open Go.RowKit Go.MuLone Go.Maps
theorem dec_parts {s : ByteArray} (h : decOK s = true) : mayP (candP s) = true ∧ encP (candP s) = s ∧ (candP s).tx.size ≤ maxLen ∧ (candP s).da.size ≤ maxLen := by
  unfold decOK at h
  simp only [Bool.and_eq_true, decide_eq_true_eq] at h
  obtain ⟨_, _, h3, h4⟩ := h
  have m := may_iff.1 h3
  have m2 := m.2.1
  have m7 := m.2.2.2.2.2.2.1
  exact ⟨h3, h4, by unfold maxLen; omega, by unfold maxLen; omega⟩
set_option maxHeartbeats 3200000 in
theorem l_back12 (x : Pg) (s : ByteArray) (hx1 : x.tx.size ≤ maxLen) (hx2 : x.da.size ≤ maxLen) (hs : s.size ≤ maxLen) (w : World) :
    Calls Try.prog 4 #[pgV x, .string s] w fun e w' => e = .returned (.bool true) ∧ Gr w w' := by
  have CE := Lib.hid (fun w => c_encode x hx1 hx2 w)
  have CD := Lib.hid (fun w => c_decode s hs w)
  have CX : RowKit.Hid (mayP x = true → ∀ w, Calls Try.prog 11 #[.string (encP x)] w fun e w' => e = .returned (.tuple #[pgV x, .int .i64 0]) ∧ Gr w w') := Lib.hid (fun hm w => by
    have m := may_iff.1 hm
    have m10 := m.2.2.2.2.2.2.2.2.2
    have := c_decode (encP x) (by rw [enc_size]; unfold maxLen; omega) w
    unfold decP decE at this
    rw [(dec_enc hm).1, (dec_enc hm).2] at this
    exact this)
  have CY : RowKit.Hid (decOK s = true → ∀ w, Calls Try.prog 9 #[pgV (candP s)] w fun e w' => e = .returned (.tuple #[.string s, .int .i64 0]) ∧ Gr w w') := Lib.hid (fun hd w => by
    obtain ⟨h1, h2, h3, h4⟩ := dec_parts hd
    have := c_encode (candP s) h3 h4 w
    unfold encV encE at this
    rw [h1, cond_true, cond_true, h2] at this
    exact this)
  unfold encV encE at CE
  unfold decP decE at CD
  obtain ⟨S, hS⟩ : ∃ S, encP x = S := ⟨_, rfl⟩
  obtain ⟨y, hy⟩ : ∃ y, candP s = y := ⟨_, rfl⟩
  obtain ⟨m, hm⟩ : ∃ m, mayP x = m := ⟨_, rfl⟩
  obtain ⟨d, hd⟩ : ∃ m, decOK s = m := ⟨_, rfl⟩
  rw [hS] at CE CX
  rw [hm] at CE CX
  rw [hd] at CD CY
  rw [hy] at CD CY
  clear hS hy hm hd hx1 hx2 hs
  obtain ⟨en, tx, da, bs⟩ := x
  obtain ⟨en2, tx2, da2, bs2⟩ := y
  have b0 : (s.toList == s.toList) = true := beq_self_eq_true _
  have b1 : (tx.toList == tx.toList) = true := beq_self_eq_true _
  have b2 : (da.toList == da.toList) = true := beq_self_eq_true _
  show Calls Try.prog 4 #[.agg #[.int .i64 en, .string tx, .string da, .int .i64 bs], .string s] w _
  go_enter Try.func4, Try.ntmps4
  go_upto_region 1 with fail
  have BX0 := Lib.hid (blk_new w (.cells #[.int .i64 en, .string tx, .string da, .int .i64 bs] 23))
  have G0 := Lib.hid ((Gr.refl w).alloc (Nat.le_refl _) (.cells #[.int .i64 en, .string tx, .string da, .int .i64 bs] 23))
  obtain ⟨wa, hwa⟩ : ∃ wa, w.alloc (.cells #[.int .i64 en, .string tx, .string da, .int .i64 bs] 23) = wa := ⟨_, rfl⟩
  rw [hwa] at BX0 G0
  rw [hwa]
  clear hwa
  obtain ⟨xb, hxb⟩ : ∃ n, w.heap.size = n := ⟨_, rfl⟩
  rw [hxb] at BX0
  rw [hxb]
  clear hxb
  go_upto_region 2 with (go_at_call 7; refine (c_shown12 _).mono ?_; rintro e w1 ⟨rfl, g1⟩; have BX1 := Lib.hid (blk_gr g1 BX0.out); have G1 := Lib.hid (gtrans G0.out g1); clear g1)
  clear BX0 G0
  cases m with
  | false =>
    have CE2 : RowKit.Hid (∀ w, Calls Try.prog 9 #[.agg #[.int .i64 en, .string tx, .string da, .int .i64 bs]] w fun e w' => e = .returned (.tuple #[.string ⟨#[]⟩, .int .i64 6]) ∧ Gr w w') := Lib.hid CE.out
    clear CE CX
    go_upto_region 7 with (first
      | (refine wpList_load_row rfl 23 _ rfl _ rfl 23 _ (0, 0) _ BX1.out Try.underlying23 rfl pg_info ?_)
      | (go_at_call 9; refine (CE2.out _).mono ?_; rintro e w2 ⟨rfl, g2⟩; have G2 := Lib.hid (gtrans G1.out g2); clear g2))
    cases d with
    | false =>
      have CD2 : RowKit.Hid (∀ w, Calls Try.prog 11 #[.string s] w fun e w' => e = .returned (.tuple #[.agg #[.int .i64 0, .string ⟨#[]⟩, .string ⟨#[]⟩, .int .i64 0], .int .i64 6]) ∧ Gr w w') := Lib.hid CD.out
      clear CD CY
      go_wp2_with (go_at_call 11; refine (CD2.out _).mono ?_; rintro e w5 ⟨rfl, g5⟩; have G5 := Lib.hid (gtrans G2.out g5); clear g5)
      go_ret
      exact ⟨rfl, G5.out.alloc G5.out.size _⟩
    | true =>
      have CD2 : RowKit.Hid (∀ w, Calls Try.prog 11 #[.string s] w fun e w' => e = .returned (.tuple #[.agg #[.int .i64 en2, .string tx2, .string da2, .int .i64 bs2], .int .i64 0]) ∧ Gr w w') := Lib.hid CD.out
      have CY2 : RowKit.Hid (∀ w, Calls Try.prog 9 #[.agg #[.int .i64 en2, .string tx2, .string da2, .int .i64 bs2]] w fun e w' => e = .returned (.tuple #[.string s, .int .i64 0]) ∧ Gr w w') := Lib.hid (CY.out rfl)
      clear CD CY
      go_wp2_with (first
        | (refine wpList_load_row rfl 23 _ rfl _ rfl 23 _ (0, 0) _ (blk_new _ _) Try.underlying23 rfl pg_info ?_)
        | (go_at_call 11; refine (CD2.out _).mono ?_; rintro e w5 ⟨rfl, g5⟩; have G5 := Lib.hid (gtrans G2.out g5); clear g5)
        | (go_at_call 9; refine (CY2.out _).mono ?_; rintro e w6 ⟨rfl, g6⟩; have G6 := Lib.hid (gtrans (G5.out.alloc G5.out.size _) g6); clear g6))
      go_ret
      exact ⟨rfl, G6.out⟩
  | true =>
    have CE2 : RowKit.Hid (∀ w, Calls Try.prog 9 #[.agg #[.int .i64 en, .string tx, .string da, .int .i64 bs]] w fun e w' => e = .returned (.tuple #[.string S, .int .i64 0]) ∧ Gr w w') := Lib.hid CE.out
    have CX2 : RowKit.Hid (∀ w, Calls Try.prog 11 #[.string S] w fun e w' => e = .returned (.tuple #[.agg #[.int .i64 en, .string tx, .string da, .int .i64 bs], .int .i64 0]) ∧ Gr w w') := Lib.hid (CX.out rfl)
    clear CE CX
    go_upto_region 5 with (first
      | (refine wpList_load_row rfl 23 _ rfl _ rfl 23 _ (0, 0) _ BX1.out Try.underlying23 rfl pg_info ?_)
      | (go_at_call 9; refine (CE2.out _).mono ?_; rintro e w2 ⟨rfl, g2⟩; have BX2 := Lib.hid (blk_gr g2 BX1.out); have G2 := Lib.hid (gtrans G1.out g2); clear g2)
      | (go_at_call 11; refine (CX2.out _).mono ?_; rintro e w3 ⟨rfl, g3⟩; have BX3 := Lib.hid (blk_gr g3 BX2.out); have G3 := Lib.hid (gtrans G2.out g3); clear g3))
    clear CE2 CX2
    have BY := Lib.hid (blk_new w3 (.cells #[.int .i64 en, .string tx, .string da, .int .i64 bs] 23))
    have BX := Lib.hid (blk_alloc (.cells #[.int .i64 en, .string tx, .string da, .int .i64 bs] 23) BX3.out)
    have G2 := Lib.hid (G3.out.alloc G3.out.size (.cells #[.int .i64 en, .string tx, .string da, .int .i64 bs] 23))
    clear BX3 G3 BX1 G1
    generalize (World.alloc w3 _) = w4 at *
    generalize w3.heap.size = yb at *
    have y0 := blk_cell BY.out 0 (v := .int .i64 en) rfl
    have y1 := blk_cell BY.out 1 (v := .string tx) rfl
    have y2 := blk_cell BY.out 2 (v := .string da) rfl
    have y3 := blk_cell BY.out 3 (v := .int .i64 bs) rfl
    have x0 := blk_cell BX.out 0 (v := .int .i64 en) rfl
    have x1 := blk_cell BX.out 1 (v := .string tx) rfl
    have x2 := blk_cell BX.out 2 (v := .string da) rfl
    have x3 := blk_cell BX.out 3 (v := .int .i64 bs) rfl
    clear BX BY
    go_upto_region 7 with fail
    clear y0 y1 y2 y3 x0 x1 x2 x3
    cases d with
    | false =>
      have CD2 : RowKit.Hid (∀ w, Calls Try.prog 11 #[.string s] w fun e w' => e = .returned (.tuple #[.agg #[.int .i64 0, .string ⟨#[]⟩, .string ⟨#[]⟩, .int .i64 0], .int .i64 6]) ∧ Gr w w') := Lib.hid CD.out
      clear CD CY
      go_wp2_with (go_at_call 11; refine (CD2.out _).mono ?_; rintro e w5 ⟨rfl, g5⟩; have G5 := Lib.hid (gtrans G2.out g5); clear g5)
      go_ret
      exact ⟨rfl, G5.out.alloc G5.out.size _⟩
    | true =>
      have CD2 : RowKit.Hid (∀ w, Calls Try.prog 11 #[.string s] w fun e w' => e = .returned (.tuple #[.agg #[.int .i64 en2, .string tx2, .string da2, .int .i64 bs2], .int .i64 0]) ∧ Gr w w') := Lib.hid CD.out
      have CY2 : RowKit.Hid (∀ w, Calls Try.prog 9 #[.agg #[.int .i64 en2, .string tx2, .string da2, .int .i64 bs2]] w fun e w' => e = .returned (.tuple #[.string s, .int .i64 0]) ∧ Gr w w') := Lib.hid (CY.out rfl)
      clear CD CY
      go_wp2_with (first
        | (refine wpList_load_row rfl 23 _ rfl _ rfl 23 _ (0, 0) _ (blk_new _ _) Try.underlying23 rfl pg_info ?_)
        | (go_at_call 11; refine (CD2.out _).mono ?_; rintro e w5 ⟨rfl, g5⟩; have G5 := Lib.hid (gtrans G2.out g5); clear g5)
        | (go_at_call 9; refine (CY2.out _).mono ?_; rintro e w6 ⟨rfl, g6⟩; have G6 := Lib.hid (gtrans (G5.out.alloc G5.out.size _) g6); clear g6))
      go_ret
      exact ⟨rfl, G6.out⟩
end Go.Proofs.Ytdlglnoffpnonaa.P
