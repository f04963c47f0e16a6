/- Stage 13: the walk of PipeHalves. No condition but that strings are no longer than strings are. -/
import Derived.Test.YtplkijpllibpfaaP3
import Derived.Deep.RegionHeld3
import Derived.Deep.DeepCutAuto
set_option linter.unusedVariables false
namespace Go.Proofs.Ytplkijpllibpfaa.P
open Go.RowKit
theorem cw (b : ByteArray) (r x : Int) (s : ByteArray) (hb : b.size ≤ maxLen) (hs : s.size ≤ 2 * maxLen) (B : ByteArray) (R X n e : Int) (h1 : wB b r s = B) (h2 : wR r r = R) (h3 : wR r x = X) (h4 : wN b r s = n) (h5 : wE b r s = e) (w : World) :
    Calls Try.prog 8 #[.agg #[.string b, .int .i64 r, .int .i64 x], .string s] w fun en w' => en = .returned (.tuple #[.agg #[.string B, .int .i64 R, .int .i64 X], .int .i64 n, .int .i64 e]) ∧ Gr w w' := by
  subst h1; subst h2; subst h3; subst h4; subst h5
  exact c_write2 b r x s hb hs w
theorem toy : True := trivial
theorem cwA {b : ByteArray} {r : Int} {x : Int} {s : ByteArray} (h : r < 1) (hb : b.size ≤ maxLen) (hs : s.size ≤ 2 * maxLen) (w : World) :
    Calls Try.prog 8 #[.agg #[.string b, .int .i64 r, .int .i64 x], .string s] w fun en w' => en = .returned (.tuple #[.agg #[.string ⟨#[]⟩, .int .i64 0, .int .i64 0], .int .i64 0, .int .i64 18]) ∧ Gr w w' := by
  have e : wE b r s = 18 := by unfold wE; rw [if_pos h]
  exact cw b r x s hb hs _ _ _ _ _ (by unfold wB; rw [if_pos h]) (by unfold wR; rw [if_pos h]) (by unfold wR; rw [if_pos h]) (by unfold wN; rw [e]; rfl) e w
theorem cwB {b : ByteArray} {r : Int} {x : Int} {s : ByteArray} (h : 1 ≤ r) (hn1 : nF b s = 0) (hn2 : ¬ s.size = 0) (hb : b.size ≤ maxLen) (hs : s.size ≤ 2 * maxLen) (w : World) :
    Calls Try.prog 8 #[.agg #[.string b, .int .i64 r, .int .i64 x], .string s] w fun en w' => en = .returned (.tuple #[.agg #[.string b, .int .i64 r, .int .i64 x], .int .i64 0, .int .i64 12]) ∧ Gr w w' := by
  have e : wE b r s = 12 := by unfold wE; rw [if_neg (by omega), if_pos ⟨hn1, hn2⟩]
  exact cw b r x s hb hs _ _ _ _ _ (by unfold wB; rw [if_neg (by omega), e]; rfl) (by unfold wR; rw [if_neg (by omega)]) (by unfold wR; rw [if_neg (by omega)]) (by unfold wN; rw [e]; rfl) e w
theorem cwC {b : ByteArray} {r : Int} {x : Int} {s : ByteArray} (h : 1 ≤ r) (hn : nF b s = 0 → s.size = 0) (B : ByteArray) (n : Nat) (hB : b ++ s.extract 0 n = B) (hN : nF b s = n) (hb : b.size ≤ maxLen) (hs : s.size ≤ 2 * maxLen) (w : World) :
    Calls Try.prog 8 #[.agg #[.string b, .int .i64 r, .int .i64 x], .string s] w fun en w' => en = .returned (.tuple #[.agg #[.string B, .int .i64 r, .int .i64 x], .int .i64 (n : Int), .int .i64 0]) ∧ Gr w w' := by
  have e : wE b r s = 0 := by unfold wE; rw [if_neg (by omega), if_neg (fun g => g.2 (hn g.1))]
  exact cw b r x s hb hs _ _ _ _ _ (by unfold wB; rw [if_neg (by omega), e, hN]; exact hB) (by unfold wR; rw [if_neg (by omega)]) (by unfold wR; rw [if_neg (by omega)]) (by unfold wN; rw [e, hN]; rfl) e w
theorem app_all (b s : ByteArray) : b ++ s.extract 0 s.size = b ++ s := by rw [ByteArray.extract_zero_size]
theorem ext_l (b s t : ByteArray) : b ++ (s ++ t).extract 0 s.size = b ++ s := by
  congr 1
  apply ByteArray.ext
  simp [ByteArray.data_extract, ByteArray.data_append]
theorem ext_r (b s t : ByteArray) (n : Nat) (h : n ≤ t.size) : b ++ (s ++ t).extract 0 (s.size + n) = (b ++ s) ++ t.extract 0 n := by
  apply ByteArray.ext
  simp [ByteArray.data_extract, ByteArray.data_append]
  have e : s.data.extract 0 (s.size + n) = s.data := Array.extract_eq_self_of_le (by show s.size ≤ _; omega)
  rw [e]
theorem app_none (b s : ByteArray) : b ++ s.extract 0 0 = b := by
  apply ByteArray.ext
  simp [ByteArray.data_extract, ByteArray.data_append]
set_option maxRecDepth 100000 in
set_option maxHeartbeats 1600000 in
theorem halves_a (b : ByteArray) (r x : Int) (s t : ByteArray) (hb : b.size ≤ maxLen) (hs : s.size ≤ 140737488355328) (ht : t.size ≤ 140737488355328) (w : World) (q0 : r < 1) :
    Calls Try.prog 5 #[.agg #[.string b, .int .i64 r, .int .i64 x], .string s, .string t] w fun e w' => e = .returned (.bool true) ∧ Gr w w' := by
  have HB := Lib.hid hb
  have HS := Lib.hid hs
  have HT := Lib.hid ht
  have HST : RowKit.Hid ((s ++ t).size ≤ 2 * maxLen) := Lib.hid (by rw [ByteArray.size_append]; unfold maxLen; omega)
  have hst : s.size + t.size ≤ 9223372036854775807 := by unfold maxLen at *; omega
  clear hb hs ht
  
  go_enter Try.func5, Try.ntmps5
  go_wp2_with fail
  refine (c_shown _).mono ?_; rintro e w1 ⟨rfl, g1⟩
  have B1 := Lib.hid (blk_gr g1 (blk_new w _))
  have c0 := blk_cell B1.out 0 rfl
  have c1 := blk_cell B1.out 1 rfl
  have c2 := blk_cell B1.out 2 rfl
  have l0 := blk_lt B1.out
  go_wp2_with fail
  refine (cwA q0 (by have := HB.out; unfold maxLen at *; omega) HST.out _).mono ?_; rintro e w2 ⟨rfl, g2⟩
  replace c0 := kcell g2 c0
  replace c1 := kcell g2 c1
  replace c2 := kcell g2 c2
  have l2 := cell_lt c0
  dsimp only at l2
  have H2 := Lib.hid (gtrans (galloc _ g1) g2)
  clear g1 g2 l0
  go_wp2_with fail
  refine (cwA q0 (by have := HB.out; unfold maxLen at *; omega) (by have := HS.out; unfold maxLen at *; omega) _).mono ?_; rintro e w3 ⟨rfl, g3⟩
  have A0 := Lib.hid (blk_alloc (.cells #[.string (⟨#[]⟩), .int .i64 (0), .int .i64 (0)] 23) (blk_gr g3 (blk_new w2 (.cells #[.string (⟨#[]⟩), .int .i64 (0), .int .i64 (0)] 23))))
  have B0 := Lib.hid (blk_new w3 (.cells #[.string (⟨#[]⟩), .int .i64 (0), .int .i64 (0)] 23))
  have H3 := Lib.hid (Below.alloc (gtrans H2.out (galloc _ g3)) (gtrans H2.out (galloc _ g3)).size (.cells #[.string (⟨#[]⟩), .int .i64 (0), .int .i64 (0)] 23))
  clear g3 c0 c1 c2 l2
  have a0 := blk_cell A0.out 0 rfl
  have a1 := blk_cell A0.out 1 rfl
  have a2 := blk_cell A0.out 2 rfl
  have b0 := blk_cell B0.out 0 rfl
  have b1 := blk_cell B0.out 1 rfl
  have b2 := blk_cell B0.out 2 rfl
  go_wp2_with fail
  refine (cwA (by decide) (by decide) (by have := HT.out; unfold maxLen at *; omega) _).mono ?_; rintro e w4 ⟨rfl, g4⟩
  replace a0 := kcell g4 a0
  replace a1 := kcell g4 a1
  replace a2 := kcell g4 a2
  replace b0 := kcell g4 b0
  replace b1 := kcell g4 b1
  replace b2 := kcell g4 b2
  have l4 := cell_lt a0
  have l5 := cell_lt b0
  dsimp only at l4 l5
  have H4 := Lib.hid (gtrans H3.out g4)
  clear g4
  go_wp2_with fail
  go_ret
  exact ⟨rfl, Below.alloc H4.out H4.out.size _⟩
set_option maxRecDepth 100000 in
set_option maxHeartbeats 1600000 in
theorem halves_b1 (b : ByteArray) (r x : Int) (s t : ByteArray) (hb : b.size ≤ maxLen) (hs : s.size ≤ 140737488355328) (ht : t.size ≤ 140737488355328) (w : World) (q0 : 1 ≤ r) (q1 : nF b s = 0 ∧ s.size ≠ 0) (q2 : t.size ≠ 0) :
    Calls Try.prog 5 #[.agg #[.string b, .int .i64 r, .int .i64 x], .string s, .string t] w fun e w' => e = .returned (.bool true) ∧ Gr w w' := by
  have HB := Lib.hid hb
  have HS := Lib.hid hs
  have HT := Lib.hid ht
  have HST : RowKit.Hid ((s ++ t).size ≤ 2 * maxLen) := Lib.hid (by rw [ByteArray.size_append]; unfold maxLen; omega)
  have hst : s.size + t.size ≤ 9223372036854775807 := by unfold maxLen at *; omega
  clear hb hs ht
  have P1 : RowKit.Hid (nF b (s ++ t) = 0) := Lib.hid (by have := HB.out; have := HS.out; have := HT.out; try unfold nF at *; try simp only [ByteArray.size_append, ByteArray.size_extract, maxLen] at *; try omega)
  have P1h : RowKit.Hid (¬ (s ++ t).size = 0) := Lib.hid (by have := HB.out; have := HS.out; have := HT.out; try unfold nF at *; try simp only [ByteArray.size_append, ByteArray.size_extract, maxLen] at *; try omega)
  have P3 : RowKit.Hid (nF b t = 0) := Lib.hid (by have := HB.out; have := HS.out; have := HT.out; try unfold nF at *; try simp only [ByteArray.size_append, ByteArray.size_extract, maxLen] at *; try omega)
  have P3h : RowKit.Hid (¬ t.size = 0) := Lib.hid (by have := HB.out; have := HS.out; have := HT.out; try unfold nF at *; try simp only [ByteArray.size_append, ByteArray.size_extract, maxLen] at *; try omega)
  have Q0 := Lib.hid q0; have Q1 : RowKit.Hid (nF b s = 0) := Lib.hid q1.1; have Q2 : RowKit.Hid (¬ s.size = 0) := Lib.hid q1.2; clear q0 q1 q2
  go_enter Try.func5, Try.ntmps5
  go_wp2_with fail
  refine (c_shown _).mono ?_; rintro e w1 ⟨rfl, g1⟩
  have B1 := Lib.hid (blk_gr g1 (blk_new w _))
  have c0 := blk_cell B1.out 0 rfl
  have c1 := blk_cell B1.out 1 rfl
  have c2 := blk_cell B1.out 2 rfl
  have l0 := blk_lt B1.out
  go_wp2_with fail
  refine (cwB Q0.out P1.out P1h.out (by have := HB.out; unfold maxLen at *; omega) HST.out _).mono ?_; rintro e w2 ⟨rfl, g2⟩
  replace c0 := kcell g2 c0
  replace c1 := kcell g2 c1
  replace c2 := kcell g2 c2
  have l2 := cell_lt c0
  dsimp only at l2
  have H2 := Lib.hid (gtrans (galloc _ g1) g2)
  clear g1 g2 l0
  go_wp2_with fail
  refine (cwB Q0.out Q1.out Q2.out (by have := HB.out; unfold maxLen at *; omega) (by have := HS.out; unfold maxLen at *; omega) _).mono ?_; rintro e w3 ⟨rfl, g3⟩
  have A0 := Lib.hid (blk_alloc (.cells #[.string (b), .int .i64 (r), .int .i64 (x)] 23) (blk_gr g3 (blk_new w2 (.cells #[.string (b), .int .i64 (r), .int .i64 (x)] 23))))
  have B0 := Lib.hid (blk_new w3 (.cells #[.string (b), .int .i64 (r), .int .i64 (x)] 23))
  have H3 := Lib.hid (Below.alloc (gtrans H2.out (galloc _ g3)) (gtrans H2.out (galloc _ g3)).size (.cells #[.string (b), .int .i64 (r), .int .i64 (x)] 23))
  clear g3 c0 c1 c2 l2
  have a0 := blk_cell A0.out 0 rfl
  have a1 := blk_cell A0.out 1 rfl
  have a2 := blk_cell A0.out 2 rfl
  have b0 := blk_cell B0.out 0 rfl
  have b1 := blk_cell B0.out 1 rfl
  have b2 := blk_cell B0.out 2 rfl
  go_wp2_with fail
  refine (cwB Q0.out P3.out P3h.out (by have := HB.out; unfold maxLen at *; omega) (by have := HT.out; unfold maxLen at *; omega) _).mono ?_; rintro e w4 ⟨rfl, g4⟩
  replace a0 := kcell g4 a0
  replace a1 := kcell g4 a1
  replace a2 := kcell g4 a2
  replace b0 := kcell g4 b0
  replace b1 := kcell g4 b1
  replace b2 := kcell g4 b2
  have l4 := cell_lt a0
  have l5 := cell_lt b0
  dsimp only at l4 l5
  have H4 := Lib.hid (gtrans H3.out g4)
  clear g4
  go_wp2_with fail
  go_ret
  exact ⟨rfl, Below.alloc H4.out H4.out.size _⟩
set_option maxRecDepth 100000 in
set_option maxHeartbeats 1600000 in
theorem halves_b2 (b : ByteArray) (r x : Int) (s t : ByteArray) (hb : b.size ≤ maxLen) (hs : s.size ≤ 140737488355328) (ht : t.size ≤ 140737488355328) (w : World) (q0 : 1 ≤ r) (q1 : nF b s = 0 ∧ s.size ≠ 0) (q2 : t.size = 0) :
    Calls Try.prog 5 #[.agg #[.string b, .int .i64 r, .int .i64 x], .string s, .string t] w fun e w' => e = .returned (.bool true) ∧ Gr w w' := by
  have HB := Lib.hid hb
  have HS := Lib.hid hs
  have HT := Lib.hid ht
  have HST : RowKit.Hid ((s ++ t).size ≤ 2 * maxLen) := Lib.hid (by rw [ByteArray.size_append]; unfold maxLen; omega)
  have hst : s.size + t.size ≤ 9223372036854775807 := by unfold maxLen at *; omega
  clear hb hs ht
  have P1 : RowKit.Hid (nF b (s ++ t) = 0) := Lib.hid (by have := HB.out; have := HS.out; have := HT.out; try unfold nF at *; try simp only [ByteArray.size_append, ByteArray.size_extract, maxLen] at *; try omega)
  have P1h : RowKit.Hid (¬ (s ++ t).size = 0) := Lib.hid (by have := HB.out; have := HS.out; have := HT.out; try unfold nF at *; try simp only [ByteArray.size_append, ByteArray.size_extract, maxLen] at *; try omega)
  have P3 : RowKit.Hid (nF b t = 0) := Lib.hid (by have := HB.out; have := HS.out; have := HT.out; try unfold nF at *; try simp only [ByteArray.size_append, ByteArray.size_extract, maxLen] at *; try omega)
  have P3h : RowKit.Hid (nF b t = 0 → t.size = 0) := Lib.hid (by have := HB.out; have := HS.out; have := HT.out; try unfold nF at *; try simp only [ByteArray.size_append, ByteArray.size_extract, maxLen] at *; try omega)
  have Q0 := Lib.hid q0; have Q1 : RowKit.Hid (nF b s = 0) := Lib.hid q1.1; have Q2 : RowKit.Hid (¬ s.size = 0) := Lib.hid q1.2; clear q0 q1 q2
  go_enter Try.func5, Try.ntmps5
  go_wp2_with fail
  refine (c_shown _).mono ?_; rintro e w1 ⟨rfl, g1⟩
  have B1 := Lib.hid (blk_gr g1 (blk_new w _))
  have c0 := blk_cell B1.out 0 rfl
  have c1 := blk_cell B1.out 1 rfl
  have c2 := blk_cell B1.out 2 rfl
  have l0 := blk_lt B1.out
  go_wp2_with fail
  refine (cwB Q0.out P1.out P1h.out (by have := HB.out; unfold maxLen at *; omega) HST.out _).mono ?_; rintro e w2 ⟨rfl, g2⟩
  replace c0 := kcell g2 c0
  replace c1 := kcell g2 c1
  replace c2 := kcell g2 c2
  have l2 := cell_lt c0
  dsimp only at l2
  have H2 := Lib.hid (gtrans (galloc _ g1) g2)
  clear g1 g2 l0
  go_wp2_with fail
  refine (cwB Q0.out Q1.out Q2.out (by have := HB.out; unfold maxLen at *; omega) (by have := HS.out; unfold maxLen at *; omega) _).mono ?_; rintro e w3 ⟨rfl, g3⟩
  have A0 := Lib.hid (blk_alloc (.cells #[.string (b), .int .i64 (r), .int .i64 (x)] 23) (blk_gr g3 (blk_new w2 (.cells #[.string (b), .int .i64 (r), .int .i64 (x)] 23))))
  have B0 := Lib.hid (blk_new w3 (.cells #[.string (b), .int .i64 (r), .int .i64 (x)] 23))
  have H3 := Lib.hid (Below.alloc (gtrans H2.out (galloc _ g3)) (gtrans H2.out (galloc _ g3)).size (.cells #[.string (b), .int .i64 (r), .int .i64 (x)] 23))
  clear g3 c0 c1 c2 l2
  have a0 := blk_cell A0.out 0 rfl
  have a1 := blk_cell A0.out 1 rfl
  have a2 := blk_cell A0.out 2 rfl
  have b0 := blk_cell B0.out 0 rfl
  have b1 := blk_cell B0.out 1 rfl
  have b2 := blk_cell B0.out 2 rfl
  go_wp2_with fail
  refine (cwC Q0.out P3h.out b 0 (app_none b t) P3.out (by have := HB.out; unfold maxLen at *; omega) (by have := HT.out; unfold maxLen at *; omega) _).mono ?_; rintro e w4 ⟨rfl, g4⟩
  replace a0 := kcell g4 a0
  replace a1 := kcell g4 a1
  replace a2 := kcell g4 a2
  replace b0 := kcell g4 b0
  replace b1 := kcell g4 b1
  replace b2 := kcell g4 b2
  have l4 := cell_lt a0
  have l5 := cell_lt b0
  dsimp only at l4 l5
  have H4 := Lib.hid (gtrans H3.out g4)
  clear g4
  go_wp2_with fail
  go_ret
  exact ⟨rfl, Below.alloc H4.out H4.out.size _⟩
set_option maxRecDepth 100000 in
set_option maxHeartbeats 1600000 in
theorem halves_c1 (b : ByteArray) (r x : Int) (s t : ByteArray) (hb : b.size ≤ maxLen) (hs : s.size ≤ 140737488355328) (ht : t.size ≤ 140737488355328) (w : World) (q0 : 1 ≤ r) (n : Nat) (qn : nF b s = n) (q1 : n ≠ 0) (q2 : n < s.size) (q3 : t.size ≠ 0) :
    Calls Try.prog 5 #[.agg #[.string b, .int .i64 r, .int .i64 x], .string s, .string t] w fun e w' => e = .returned (.bool true) ∧ Gr w w' := by
  have HB := Lib.hid hb
  have HS := Lib.hid hs
  have HT := Lib.hid ht
  have HST : RowKit.Hid ((s ++ t).size ≤ 2 * maxLen) := Lib.hid (by rw [ByteArray.size_append]; unfold maxLen; omega)
  have hst : s.size + t.size ≤ 9223372036854775807 := by unfold maxLen at *; omega
  clear hb hs ht
  have P1 : RowKit.Hid (nF b (s ++ t) = n) := Lib.hid (by have := HB.out; have := HS.out; have := HT.out; try unfold nF at *; try simp only [ByteArray.size_append, ByteArray.size_extract, maxLen] at *; try omega)
  have P1h : RowKit.Hid (nF b (s ++ t) = 0 → (s ++ t).size = 0) := Lib.hid (by have := HB.out; have := HS.out; have := HT.out; try unfold nF at *; try simp only [ByteArray.size_append, ByteArray.size_extract, maxLen] at *; try omega)
  have P2 : RowKit.Hid (nF b s = n) := Lib.hid (by have := HB.out; have := HS.out; have := HT.out; try unfold nF at *; try simp only [ByteArray.size_append, ByteArray.size_extract, maxLen] at *; try omega)
  have P2h : RowKit.Hid (nF b s = 0 → s.size = 0) := Lib.hid (by have := HB.out; have := HS.out; have := HT.out; try unfold nF at *; try simp only [ByteArray.size_append, ByteArray.size_extract, maxLen] at *; try omega)
  have P3z : RowKit.Hid ((b ++ s.extract 0 n).size ≤ maxLen) := Lib.hid (by have := HB.out; have := HS.out; have := HT.out; try unfold nF at *; try simp only [ByteArray.size_append, ByteArray.size_extract, maxLen] at *; try omega)
  have P3 : RowKit.Hid (nF (b ++ s.extract 0 n) t = 0) := Lib.hid (by have := HB.out; have := HS.out; have := HT.out; try unfold nF at *; try simp only [ByteArray.size_append, ByteArray.size_extract, maxLen] at *; try omega)
  have P3h : RowKit.Hid (¬ t.size = 0) := Lib.hid (by have := HB.out; have := HS.out; have := HT.out; try unfold nF at *; try simp only [ByteArray.size_append, ByteArray.size_extract, maxLen] at *; try omega)
  have Q0 := Lib.hid q0; clear q0 q1 qn q3
  go_enter Try.func5, Try.ntmps5
  go_wp2_with fail
  refine (c_shown _).mono ?_; rintro e w1 ⟨rfl, g1⟩
  have B1 := Lib.hid (blk_gr g1 (blk_new w _))
  have c0 := blk_cell B1.out 0 rfl
  have c1 := blk_cell B1.out 1 rfl
  have c2 := blk_cell B1.out 2 rfl
  have l0 := blk_lt B1.out
  go_wp2_with fail
  refine (cwC Q0.out P1h.out _ n rfl P1.out (by have := HB.out; unfold maxLen at *; omega) HST.out _).mono ?_; rintro e w2 ⟨rfl, g2⟩
  replace c0 := kcell g2 c0
  replace c1 := kcell g2 c1
  replace c2 := kcell g2 c2
  have l2 := cell_lt c0
  dsimp only at l2
  have H2 := Lib.hid (gtrans (galloc _ g1) g2)
  clear g1 g2 l0
  go_wp2_with fail
  refine (cwC Q0.out P2h.out _ n rfl P2.out (by have := HB.out; unfold maxLen at *; omega) (by have := HS.out; unfold maxLen at *; omega) _).mono ?_; rintro e w3 ⟨rfl, g3⟩
  have A0 := Lib.hid (blk_alloc (.cells #[.string (b ++ (s).extract 0 (n)), .int .i64 (r), .int .i64 (x)] 23) (blk_gr g3 (blk_new w2 (.cells #[.string (b ++ (s ++ t).extract 0 (n)), .int .i64 (r), .int .i64 (x)] 23))))
  have B0 := Lib.hid (blk_new w3 (.cells #[.string (b ++ (s).extract 0 (n)), .int .i64 (r), .int .i64 (x)] 23))
  have H3 := Lib.hid (Below.alloc (gtrans H2.out (galloc _ g3)) (gtrans H2.out (galloc _ g3)).size (.cells #[.string (b ++ (s).extract 0 (n)), .int .i64 (r), .int .i64 (x)] 23))
  clear g3 c0 c1 c2 l2
  have a0 := blk_cell A0.out 0 rfl
  have a1 := blk_cell A0.out 1 rfl
  have a2 := blk_cell A0.out 2 rfl
  have b0 := blk_cell B0.out 0 rfl
  have b1 := blk_cell B0.out 1 rfl
  have b2 := blk_cell B0.out 2 rfl
  go_wp2_with fail
  refine (cwB Q0.out P3.out P3h.out P3z.out (by have := HT.out; unfold maxLen at *; omega) _).mono ?_; rintro e w4 ⟨rfl, g4⟩
  replace a0 := kcell g4 a0
  replace a1 := kcell g4 a1
  replace a2 := kcell g4 a2
  replace b0 := kcell g4 b0
  replace b1 := kcell g4 b1
  replace b2 := kcell g4 b2
  have l4 := cell_lt a0
  have l5 := cell_lt b0
  dsimp only at l4 l5
  have H4 := Lib.hid (gtrans H3.out g4)
  clear g4
  go_wp2_with fail
  go_ret
  exact ⟨rfl, Below.alloc H4.out H4.out.size _⟩
set_option maxRecDepth 100000 in
set_option maxHeartbeats 1600000 in
theorem halves_c2 (b : ByteArray) (r x : Int) (s t : ByteArray) (hb : b.size ≤ maxLen) (hs : s.size ≤ 140737488355328) (ht : t.size ≤ 140737488355328) (w : World) (q0 : 1 ≤ r) (n : Nat) (qn : nF b s = n) (q1 : n ≠ 0) (q2 : n < s.size) (q3 : t.size = 0) :
    Calls Try.prog 5 #[.agg #[.string b, .int .i64 r, .int .i64 x], .string s, .string t] w fun e w' => e = .returned (.bool true) ∧ Gr w w' := by
  have HB := Lib.hid hb
  have HS := Lib.hid hs
  have HT := Lib.hid ht
  have HST : RowKit.Hid ((s ++ t).size ≤ 2 * maxLen) := Lib.hid (by rw [ByteArray.size_append]; unfold maxLen; omega)
  have hst : s.size + t.size ≤ 9223372036854775807 := by unfold maxLen at *; omega
  clear hb hs ht
  have P1 : RowKit.Hid (nF b (s ++ t) = n) := Lib.hid (by have := HB.out; have := HS.out; have := HT.out; try unfold nF at *; try simp only [ByteArray.size_append, ByteArray.size_extract, maxLen] at *; try omega)
  have P1h : RowKit.Hid (nF b (s ++ t) = 0 → (s ++ t).size = 0) := Lib.hid (by have := HB.out; have := HS.out; have := HT.out; try unfold nF at *; try simp only [ByteArray.size_append, ByteArray.size_extract, maxLen] at *; try omega)
  have P2 : RowKit.Hid (nF b s = n) := Lib.hid (by have := HB.out; have := HS.out; have := HT.out; try unfold nF at *; try simp only [ByteArray.size_append, ByteArray.size_extract, maxLen] at *; try omega)
  have P2h : RowKit.Hid (nF b s = 0 → s.size = 0) := Lib.hid (by have := HB.out; have := HS.out; have := HT.out; try unfold nF at *; try simp only [ByteArray.size_append, ByteArray.size_extract, maxLen] at *; try omega)
  have P3z : RowKit.Hid ((b ++ s.extract 0 n).size ≤ maxLen) := Lib.hid (by have := HB.out; have := HS.out; have := HT.out; try unfold nF at *; try simp only [ByteArray.size_append, ByteArray.size_extract, maxLen] at *; try omega)
  have P3 : RowKit.Hid (nF (b ++ s.extract 0 n) t = 0) := Lib.hid (by have := HB.out; have := HS.out; have := HT.out; try unfold nF at *; try simp only [ByteArray.size_append, ByteArray.size_extract, maxLen] at *; try omega)
  have P3h : RowKit.Hid (nF (b ++ s.extract 0 n) t = 0 → t.size = 0) := Lib.hid (by have := HB.out; have := HS.out; have := HT.out; try unfold nF at *; try simp only [ByteArray.size_append, ByteArray.size_extract, maxLen] at *; try omega)
  have Q0 := Lib.hid q0; clear q0 q1 qn q3
  go_enter Try.func5, Try.ntmps5
  go_wp2_with fail
  refine (c_shown _).mono ?_; rintro e w1 ⟨rfl, g1⟩
  have B1 := Lib.hid (blk_gr g1 (blk_new w _))
  have c0 := blk_cell B1.out 0 rfl
  have c1 := blk_cell B1.out 1 rfl
  have c2 := blk_cell B1.out 2 rfl
  have l0 := blk_lt B1.out
  go_wp2_with fail
  refine (cwC Q0.out P1h.out _ n rfl P1.out (by have := HB.out; unfold maxLen at *; omega) HST.out _).mono ?_; rintro e w2 ⟨rfl, g2⟩
  replace c0 := kcell g2 c0
  replace c1 := kcell g2 c1
  replace c2 := kcell g2 c2
  have l2 := cell_lt c0
  dsimp only at l2
  have H2 := Lib.hid (gtrans (galloc _ g1) g2)
  clear g1 g2 l0
  go_wp2_with fail
  refine (cwC Q0.out P2h.out _ n rfl P2.out (by have := HB.out; unfold maxLen at *; omega) (by have := HS.out; unfold maxLen at *; omega) _).mono ?_; rintro e w3 ⟨rfl, g3⟩
  have A0 := Lib.hid (blk_alloc (.cells #[.string (b ++ (s).extract 0 (n)), .int .i64 (r), .int .i64 (x)] 23) (blk_gr g3 (blk_new w2 (.cells #[.string (b ++ (s ++ t).extract 0 (n)), .int .i64 (r), .int .i64 (x)] 23))))
  have B0 := Lib.hid (blk_new w3 (.cells #[.string (b ++ (s).extract 0 (n)), .int .i64 (r), .int .i64 (x)] 23))
  have H3 := Lib.hid (Below.alloc (gtrans H2.out (galloc _ g3)) (gtrans H2.out (galloc _ g3)).size (.cells #[.string (b ++ (s).extract 0 (n)), .int .i64 (r), .int .i64 (x)] 23))
  clear g3 c0 c1 c2 l2
  have a0 := blk_cell A0.out 0 rfl
  have a1 := blk_cell A0.out 1 rfl
  have a2 := blk_cell A0.out 2 rfl
  have b0 := blk_cell B0.out 0 rfl
  have b1 := blk_cell B0.out 1 rfl
  have b2 := blk_cell B0.out 2 rfl
  go_wp2_with fail
  refine (cwC Q0.out P3h.out (b ++ s.extract 0 n) 0 (app_none _ t) P3.out P3z.out (by have := HT.out; unfold maxLen at *; omega) _).mono ?_; rintro e w4 ⟨rfl, g4⟩
  replace a0 := kcell g4 a0
  replace a1 := kcell g4 a1
  replace a2 := kcell g4 a2
  replace b0 := kcell g4 b0
  replace b1 := kcell g4 b1
  replace b2 := kcell g4 b2
  have l4 := cell_lt a0
  have l5 := cell_lt b0
  dsimp only at l4 l5
  have H4 := Lib.hid (gtrans H3.out g4)
  clear g4
  go_wp2_with fail
  go_ret
  exact ⟨rfl, Below.alloc H4.out H4.out.size _⟩
set_option maxRecDepth 100000 in
set_option maxHeartbeats 1600000 in
theorem halves_d1 (b : ByteArray) (r x : Int) (s t : ByteArray) (hb : b.size ≤ maxLen) (hs : s.size ≤ 140737488355328) (ht : t.size ≤ 140737488355328) (w : World) (q0 : 1 ≤ r) (q1 : nF b s = s.size) (q2 : s.size = 0) (q3 : t.size ≠ 0) (q4 : nF b t = 0) :
    Calls Try.prog 5 #[.agg #[.string b, .int .i64 r, .int .i64 x], .string s, .string t] w fun e w' => e = .returned (.bool true) ∧ Gr w w' := by
  have HB := Lib.hid hb
  have HS := Lib.hid hs
  have HT := Lib.hid ht
  have HST : RowKit.Hid ((s ++ t).size ≤ 2 * maxLen) := Lib.hid (by rw [ByteArray.size_append]; unfold maxLen; omega)
  have hst : s.size + t.size ≤ 9223372036854775807 := by unfold maxLen at *; omega
  clear hb hs ht
  have P1 : RowKit.Hid (nF b (s ++ t) = 0) := Lib.hid (by have := HB.out; have := HS.out; have := HT.out; try unfold nF at *; try simp only [ByteArray.size_append, ByteArray.size_extract, maxLen] at *; try omega)
  have P1h : RowKit.Hid (¬ (s ++ t).size = 0) := Lib.hid (by have := HB.out; have := HS.out; have := HT.out; try unfold nF at *; try simp only [ByteArray.size_append, ByteArray.size_extract, maxLen] at *; try omega)
  have P2 : RowKit.Hid (nF b s = 0) := Lib.hid (by have := HB.out; have := HS.out; have := HT.out; try unfold nF at *; try simp only [ByteArray.size_append, ByteArray.size_extract, maxLen] at *; try omega)
  have P2h : RowKit.Hid (nF b s = 0 → s.size = 0) := Lib.hid (by have := HB.out; have := HS.out; have := HT.out; try unfold nF at *; try simp only [ByteArray.size_append, ByteArray.size_extract, maxLen] at *; try omega)
  have P3z : RowKit.Hid (b.size ≤ maxLen) := Lib.hid (by have := HB.out; have := HS.out; have := HT.out; try unfold nF at *; try simp only [ByteArray.size_append, ByteArray.size_extract, maxLen] at *; try omega)
  have P3 : RowKit.Hid (nF b t = 0) := Lib.hid (by have := HB.out; have := HS.out; have := HT.out; try unfold nF at *; try simp only [ByteArray.size_append, ByteArray.size_extract, maxLen] at *; try omega)
  have P3h : RowKit.Hid (¬ t.size = 0) := Lib.hid (by have := HB.out; have := HS.out; have := HT.out; try unfold nF at *; try simp only [ByteArray.size_append, ByteArray.size_extract, maxLen] at *; try omega)
  have Q0 := Lib.hid q0; clear q0 q1 q3 q4
  go_enter Try.func5, Try.ntmps5
  go_wp2_with fail
  refine (c_shown _).mono ?_; rintro e w1 ⟨rfl, g1⟩
  have B1 := Lib.hid (blk_gr g1 (blk_new w _))
  have c0 := blk_cell B1.out 0 rfl
  have c1 := blk_cell B1.out 1 rfl
  have c2 := blk_cell B1.out 2 rfl
  have l0 := blk_lt B1.out
  go_wp2_with fail
  refine (cwB Q0.out P1.out P1h.out (by have := HB.out; unfold maxLen at *; omega) HST.out _).mono ?_; rintro e w2 ⟨rfl, g2⟩
  replace c0 := kcell g2 c0
  replace c1 := kcell g2 c1
  replace c2 := kcell g2 c2
  have l2 := cell_lt c0
  dsimp only at l2
  have H2 := Lib.hid (gtrans (galloc _ g1) g2)
  clear g1 g2 l0
  go_wp2_with fail
  refine (cwC Q0.out P2h.out b 0 (app_none b s) P2.out (by have := HB.out; unfold maxLen at *; omega) (by have := HS.out; unfold maxLen at *; omega) _).mono ?_; rintro e w3 ⟨rfl, g3⟩
  have A0 := Lib.hid (blk_alloc (.cells #[.string (b), .int .i64 (r), .int .i64 (x)] 23) (blk_gr g3 (blk_new w2 (.cells #[.string (b), .int .i64 (r), .int .i64 (x)] 23))))
  have B0 := Lib.hid (blk_new w3 (.cells #[.string (b), .int .i64 (r), .int .i64 (x)] 23))
  have H3 := Lib.hid (Below.alloc (gtrans H2.out (galloc _ g3)) (gtrans H2.out (galloc _ g3)).size (.cells #[.string (b), .int .i64 (r), .int .i64 (x)] 23))
  clear g3 c0 c1 c2 l2
  have a0 := blk_cell A0.out 0 rfl
  have a1 := blk_cell A0.out 1 rfl
  have a2 := blk_cell A0.out 2 rfl
  have b0 := blk_cell B0.out 0 rfl
  have b1 := blk_cell B0.out 1 rfl
  have b2 := blk_cell B0.out 2 rfl
  go_wp2_with fail
  refine (cwB Q0.out P3.out P3h.out P3z.out (by have := HT.out; unfold maxLen at *; omega) _).mono ?_; rintro e w4 ⟨rfl, g4⟩
  replace a0 := kcell g4 a0
  replace a1 := kcell g4 a1
  replace a2 := kcell g4 a2
  replace b0 := kcell g4 b0
  replace b1 := kcell g4 b1
  replace b2 := kcell g4 b2
  have l4 := cell_lt a0
  have l5 := cell_lt b0
  dsimp only at l4 l5
  have H4 := Lib.hid (gtrans H3.out g4)
  clear g4
  go_wp2_with fail
  go_ret
  exact ⟨rfl, Below.alloc H4.out H4.out.size _⟩
set_option maxRecDepth 100000 in
set_option maxHeartbeats 1600000 in
theorem halves_d2 (b : ByteArray) (r x : Int) (s t : ByteArray) (hb : b.size ≤ maxLen) (hs : s.size ≤ 140737488355328) (ht : t.size ≤ 140737488355328) (w : World) (q0 : 1 ≤ r) (q1 : nF b s = s.size) (q2 : s.size ≠ 0) (q3 : t.size ≠ 0) (q4 : nF (b ++ s) t = 0) :
    Calls Try.prog 5 #[.agg #[.string b, .int .i64 r, .int .i64 x], .string s, .string t] w fun e w' => e = .returned (.bool true) ∧ Gr w w' := by
  have HB := Lib.hid hb
  have HS := Lib.hid hs
  have HT := Lib.hid ht
  have HST : RowKit.Hid ((s ++ t).size ≤ 2 * maxLen) := Lib.hid (by rw [ByteArray.size_append]; unfold maxLen; omega)
  have hst : s.size + t.size ≤ 9223372036854775807 := by unfold maxLen at *; omega
  clear hb hs ht
  have P1 : RowKit.Hid (nF b (s ++ t) = s.size) := Lib.hid (by have := HB.out; have := HS.out; have := HT.out; try unfold nF at *; try simp only [ByteArray.size_append, ByteArray.size_extract, maxLen] at *; try omega)
  have P1h : RowKit.Hid (nF b (s ++ t) = 0 → (s ++ t).size = 0) := Lib.hid (by have := HB.out; have := HS.out; have := HT.out; try unfold nF at *; try simp only [ByteArray.size_append, ByteArray.size_extract, maxLen] at *; try omega)
  have P2 : RowKit.Hid (nF b s = s.size) := Lib.hid (by have := HB.out; have := HS.out; have := HT.out; try unfold nF at *; try simp only [ByteArray.size_append, ByteArray.size_extract, maxLen] at *; try omega)
  have P2h : RowKit.Hid (nF b s = 0 → s.size = 0) := Lib.hid (by have := HB.out; have := HS.out; have := HT.out; try unfold nF at *; try simp only [ByteArray.size_append, ByteArray.size_extract, maxLen] at *; try omega)
  have P3z : RowKit.Hid ((b ++ s).size ≤ maxLen) := Lib.hid (by have := HB.out; have := HS.out; have := HT.out; try unfold nF at *; try simp only [ByteArray.size_append, ByteArray.size_extract, maxLen] at *; try omega)
  have P3 : RowKit.Hid (nF (b ++ s) t = 0) := Lib.hid (by have := HB.out; have := HS.out; have := HT.out; try unfold nF at *; try simp only [ByteArray.size_append, ByteArray.size_extract, maxLen] at *; try omega)
  have P3h : RowKit.Hid (¬ t.size = 0) := Lib.hid (by have := HB.out; have := HS.out; have := HT.out; try unfold nF at *; try simp only [ByteArray.size_append, ByteArray.size_extract, maxLen] at *; try omega)
  have Q0 := Lib.hid q0; clear q0 q1 q2 q3 q4
  go_enter Try.func5, Try.ntmps5
  go_wp2_with fail
  refine (c_shown _).mono ?_; rintro e w1 ⟨rfl, g1⟩
  have B1 := Lib.hid (blk_gr g1 (blk_new w _))
  have c0 := blk_cell B1.out 0 rfl
  have c1 := blk_cell B1.out 1 rfl
  have c2 := blk_cell B1.out 2 rfl
  have l0 := blk_lt B1.out
  go_wp2_with fail
  refine (cwC Q0.out P1h.out (b ++ s) s.size (ext_l b s t) P1.out (by have := HB.out; unfold maxLen at *; omega) HST.out _).mono ?_; rintro e w2 ⟨rfl, g2⟩
  replace c0 := kcell g2 c0
  replace c1 := kcell g2 c1
  replace c2 := kcell g2 c2
  have l2 := cell_lt c0
  dsimp only at l2
  have H2 := Lib.hid (gtrans (galloc _ g1) g2)
  clear g1 g2 l0
  go_wp2_with fail
  refine (cwC Q0.out P2h.out (b ++ s) s.size (app_all b s) P2.out (by have := HB.out; unfold maxLen at *; omega) (by have := HS.out; unfold maxLen at *; omega) _).mono ?_; rintro e w3 ⟨rfl, g3⟩
  have A0 := Lib.hid (blk_alloc (.cells #[.string (b ++ s), .int .i64 (r), .int .i64 (x)] 23) (blk_gr g3 (blk_new w2 (.cells #[.string (b ++ s), .int .i64 (r), .int .i64 (x)] 23))))
  have B0 := Lib.hid (blk_new w3 (.cells #[.string (b ++ s), .int .i64 (r), .int .i64 (x)] 23))
  have H3 := Lib.hid (Below.alloc (gtrans H2.out (galloc _ g3)) (gtrans H2.out (galloc _ g3)).size (.cells #[.string (b ++ s), .int .i64 (r), .int .i64 (x)] 23))
  clear g3 c0 c1 c2 l2
  have a0 := blk_cell A0.out 0 rfl
  have a1 := blk_cell A0.out 1 rfl
  have a2 := blk_cell A0.out 2 rfl
  have b0 := blk_cell B0.out 0 rfl
  have b1 := blk_cell B0.out 1 rfl
  have b2 := blk_cell B0.out 2 rfl
  go_wp2_with fail
  refine (cwB Q0.out P3.out P3h.out P3z.out (by have := HT.out; unfold maxLen at *; omega) _).mono ?_; rintro e w4 ⟨rfl, g4⟩
  replace a0 := kcell g4 a0
  replace a1 := kcell g4 a1
  replace a2 := kcell g4 a2
  replace b0 := kcell g4 b0
  replace b1 := kcell g4 b1
  replace b2 := kcell g4 b2
  have l4 := cell_lt a0
  have l5 := cell_lt b0
  dsimp only at l4 l5
  have H4 := Lib.hid (gtrans H3.out g4)
  clear g4
  go_wp2_with fail
  go_ret
  exact ⟨rfl, Below.alloc H4.out H4.out.size _⟩
set_option maxRecDepth 100000 in
set_option maxHeartbeats 1600000 in
theorem halves_e (b : ByteArray) (r x : Int) (s t : ByteArray) (hb : b.size ≤ maxLen) (hs : s.size ≤ 140737488355328) (ht : t.size ≤ 140737488355328) (w : World) (q0 : 1 ≤ r) (q1 : nF b s = s.size) (n : Nat) (qn : nF (b ++ s) t = n) (q3 : ¬ (n = 0 ∧ t.size ≠ 0)) :
    Calls Try.prog 5 #[.agg #[.string b, .int .i64 r, .int .i64 x], .string s, .string t] w fun e w' => e = .returned (.bool true) ∧ Gr w w' := by
  have HB := Lib.hid hb
  have HS := Lib.hid hs
  have HT := Lib.hid ht
  have HST : RowKit.Hid ((s ++ t).size ≤ 2 * maxLen) := Lib.hid (by rw [ByteArray.size_append]; unfold maxLen; omega)
  have hst : s.size + t.size ≤ 9223372036854775807 := by unfold maxLen at *; omega
  clear hb hs ht
  have P4 : RowKit.Hid (n ≤ t.size) := Lib.hid (by have := HB.out; have := HS.out; have := HT.out; try unfold nF at *; try simp only [ByteArray.size_append, ByteArray.size_extract, maxLen] at *; try omega)
  have P1 : RowKit.Hid (nF b (s ++ t) = s.size + n) := Lib.hid (by have := HB.out; have := HS.out; have := HT.out; try unfold nF at *; try simp only [ByteArray.size_append, ByteArray.size_extract, maxLen] at *; try omega)
  have P1h : RowKit.Hid (nF b (s ++ t) = 0 → (s ++ t).size = 0) := Lib.hid (by have := HB.out; have := HS.out; have := HT.out; try unfold nF at *; try simp only [ByteArray.size_append, ByteArray.size_extract, maxLen] at *; try omega)
  have P2 : RowKit.Hid (nF b s = s.size) := Lib.hid (by have := HB.out; have := HS.out; have := HT.out; try unfold nF at *; try simp only [ByteArray.size_append, ByteArray.size_extract, maxLen] at *; try omega)
  have P2h : RowKit.Hid (nF b s = 0 → s.size = 0) := Lib.hid (by have := HB.out; have := HS.out; have := HT.out; try unfold nF at *; try simp only [ByteArray.size_append, ByteArray.size_extract, maxLen] at *; try omega)
  have P3z : RowKit.Hid ((b ++ s).size ≤ maxLen) := Lib.hid (by have := HB.out; have := HS.out; have := HT.out; try unfold nF at *; try simp only [ByteArray.size_append, ByteArray.size_extract, maxLen] at *; try omega)
  have P3 : RowKit.Hid (nF (b ++ s) t = n) := Lib.hid (by have := HB.out; have := HS.out; have := HT.out; try unfold nF at *; try simp only [ByteArray.size_append, ByteArray.size_extract, maxLen] at *; try omega)
  have P3h : RowKit.Hid (nF (b ++ s) t = 0 → t.size = 0) := Lib.hid (by have := HB.out; have := HS.out; have := HT.out; try unfold nF at *; try simp only [ByteArray.size_append, ByteArray.size_extract, maxLen] at *; try omega)
  have hnn : s.size + n ≤ 9223372036854775807 := by have := HB.out; have := HS.out; have := HT.out; try unfold nF at *; try simp only [ByteArray.size_append, ByteArray.size_extract, maxLen] at *; try omega
  have Q0 := Lib.hid q0; clear q0 q1 q3 qn
  go_enter Try.func5, Try.ntmps5
  go_wp2_with fail
  refine (c_shown _).mono ?_; rintro e w1 ⟨rfl, g1⟩
  have B1 := Lib.hid (blk_gr g1 (blk_new w _))
  have c0 := blk_cell B1.out 0 rfl
  have c1 := blk_cell B1.out 1 rfl
  have c2 := blk_cell B1.out 2 rfl
  have l0 := blk_lt B1.out
  go_wp2_with fail
  refine (cwC Q0.out P1h.out ((b ++ s) ++ t.extract 0 n) (s.size + n) (ext_r b s t n P4.out) P1.out (by have := HB.out; unfold maxLen at *; omega) HST.out _).mono ?_; rintro e w2 ⟨rfl, g2⟩
  replace c0 := kcell g2 c0
  replace c1 := kcell g2 c1
  replace c2 := kcell g2 c2
  have l2 := cell_lt c0
  dsimp only at l2
  have H2 := Lib.hid (gtrans (galloc _ g1) g2)
  clear g1 g2 l0
  go_wp2_with fail
  refine (cwC Q0.out P2h.out (b ++ s) s.size (app_all b s) P2.out (by have := HB.out; unfold maxLen at *; omega) (by have := HS.out; unfold maxLen at *; omega) _).mono ?_; rintro e w3 ⟨rfl, g3⟩
  have A0 := Lib.hid (blk_alloc (.cells #[.string (b ++ s), .int .i64 (r), .int .i64 (x)] 23) (blk_gr g3 (blk_new w2 (.cells #[.string ((b ++ s) ++ t.extract 0 n), .int .i64 (r), .int .i64 (x)] 23))))
  have B0 := Lib.hid (blk_new w3 (.cells #[.string (b ++ s), .int .i64 (r), .int .i64 (x)] 23))
  have H3 := Lib.hid (Below.alloc (gtrans H2.out (galloc _ g3)) (gtrans H2.out (galloc _ g3)).size (.cells #[.string (b ++ s), .int .i64 (r), .int .i64 (x)] 23))
  clear g3 c0 c1 c2 l2
  have a0 := blk_cell A0.out 0 rfl
  have a1 := blk_cell A0.out 1 rfl
  have a2 := blk_cell A0.out 2 rfl
  have b0 := blk_cell B0.out 0 rfl
  have b1 := blk_cell B0.out 1 rfl
  have b2 := blk_cell B0.out 2 rfl
  go_wp2_with fail
  refine (cwC Q0.out P3h.out _ n rfl P3.out P3z.out (by have := HT.out; unfold maxLen at *; omega) _).mono ?_; rintro e w4 ⟨rfl, g4⟩
  replace a0 := kcell g4 a0
  replace a1 := kcell g4 a1
  replace a2 := kcell g4 a2
  replace b0 := kcell g4 b0
  replace b1 := kcell g4 b1
  replace b2 := kcell g4 b2
  have l4 := cell_lt a0
  have l5 := cell_lt b0
  dsimp only at l4 l5
  have H4 := Lib.hid (gtrans H3.out g4)
  clear g4
  go_wp2_with fail
  go_ret
  exact ⟨rfl, Below.alloc H4.out H4.out.size _⟩
theorem l_halves (b : ByteArray) (r x : Int) (s t : ByteArray) (hb : b.size ≤ maxLen) (hs : s.size ≤ 140737488355328) (ht : t.size ≤ 140737488355328) (w : World) :
    Calls Try.prog 5 #[.agg #[.string b, .int .i64 r, .int .i64 x], .string s, .string t] w fun e w' => e = .returned (.bool true) ∧ Gr w w' := by
  by_cases q0 : r < 1
  · exact halves_a b r x s t hb hs ht w q0
  · have q0 : 1 ≤ r := by omega
    by_cases q1 : nF b s = 0 ∧ s.size ≠ 0
    · by_cases q2 : t.size = 0
      · exact halves_b2 b r x s t hb hs ht w q0 q1 q2
      · exact halves_b1 b r x s t hb hs ht w q0 q1 q2
    · by_cases q2 : nF b s = s.size
      · by_cases q3 : nF (b ++ s) t = 0 ∧ t.size ≠ 0
        · by_cases q4 : s.size = 0
          · exact halves_d1 b r x s t hb hs ht w q0 q2 q4 q3.2 (by have := q3.1; unfold nF at *; rw [ByteArray.size_append] at this; omega)
          · exact halves_d2 b r x s t hb hs ht w q0 q2 q4 q3.2 q3.1
        · exact halves_e b r x s t hb hs ht w q0 q2 _ rfl q3
      · have q5 : nF b s < s.size := by unfold nF at *; omega
        have q6 : nF b s ≠ 0 := by unfold nF at *; omega
        by_cases q3 : t.size = 0
        · exact halves_c2 b r x s t hb hs ht w q0 _ rfl q6 q5 q3
        · exact halves_c1 b r x s t hb hs ht w q0 _ rfl q6 q5 q3

end Go.Proofs.Ytplkijpllibpfaa.P
