/- Stage 3: PhysSpans. No condition. -/
import Derived.Test.YtofpkghjiecjdaaQ9
import Derived.Test.YtofpkghjiecjdaaS
import Derived.Deep.DeepCutAuto
import Derived.StillTailTactics
set_option linter.unusedVariables false
namespace Go.Proofs.Ytofpkghjiecjdaa.P
open Go.RowKit Go.MuLone Go.Proofs.Ytofpkghjiecjdaa.W
section
open Go.ChangeShapes Go.WideShapes Go.Deep
variable {H : Type} {enc : TypeId × Value → H} {w : World} {base : Nat} {spare : Nat → Bool} {held : Bool}
set_option maxRecDepth 100000 in
theorem open_spans {v : Value} {d : DataW H} {ps : List MemPlace} {r : Reach} {b0 : Nat} (hv : Value.okWide Try.prog w r b0 57 v) (h : DataW.Trod enc Try.prog w base spare held 57 v d ps) :
    ∃ (o : Option Addr) (len cap bl off : Nat) (f : Nat → ActV) (a n k : Int), v = .agg #[.slice o len cap, .int .u64 a, .int .i64 n, .int .i64 k] ∧ u64 a ∧ i64 n ∧ i64 k ∧ len ≤ maxLen ∧ (0 < len → o = some ⟨bl, off, none⟩ ∧ bl < w.heap.size) ∧ Acts w bl off len f := by
  obtain ⟨c, rfl, hc, hf⟩ := open_agg_c Try.underlying57 (by kernel_rfl) (by kernel_rfl) hv h
  obtain ⟨u0, y0, n0, e0, t0⟩ := hf 0 _ rfl
  obtain ⟨u1, y1, n1, e1, t1⟩ := hf 1 _ rfl
  obtain ⟨u2, y2, n2, e2, t2⟩ := hf 2 _ rfl
  obtain ⟨u3, y3, n3, e3, t3⟩ := hf 3 _ rfl
  obtain ⟨o, len, cap, bl, off, f, rfl, q1, q2, q3⟩ := open_acts_c t0
  obtain ⟨x1, z1, _, k1⟩ := DataW.trod_int Try.underlying32 t1
  obtain ⟨x2, z2, _, k2⟩ := DataW.trod_int Try.underlying3 t2
  obtain ⟨x3, z3, _, k3⟩ := DataW.trod_int Try.underlying3 t3
  rw [List.singleton_inj] at z1 z2 z3
  subst z1; subst z2; subst z3
  refine ⟨o, len, cap, bl, off, f, x1, x2, x3, ?_, wf_u64 k1, wf_i64 k2, wf_i64 k3, q1, q2, q3⟩
  congr 1
  apply Array.ext'
  apply List.ext_getElem?
  intro i
  simp only [Array.getElem?_toList]
  match i with
  | 0 => exact e0
  | 1 => exact e1
  | 2 => exact e2
  | 3 => exact e3
  | i + 4 =>
    have h4 : c.size = 4 := hc
    rw [Array.getElem?_eq_none (by omega)]; rfl
end
theorem sub_app (s : List UInt8) (a n k : Nat) (h : a + n ≤ s.length) : subB s a (n + k) = subB s a n ++ subB s (a + n) k := by
  apply ByteArray.ext
  apply Array.toList_inj.1
  simp only [subB, ByteArray.data_append, Array.toList_append]
  rw [List.take_add, List.drop_drop]
set_option maxRecDepth 100000 in
set_option maxHeartbeats 3200000 in
theorem l_spans (a n k : Int) (ha : u64 a) (hn : i64 n) (hk : i64 k) (w : World) (o : Option Addr) (len cap bl off : Nat) (f : Nat → ActV) (hlen : len ≤ 9223372036854775807) (ho : 0 < len → o = some ⟨bl, off, none⟩ ∧ bl < w.heap.size) (hl : Acts w bl off len f) :
    Calls Try.prog 9 #[.agg #[.slice o len cap, .int .u64 a, .int .i64 n, .int .i64 k]] w fun e w' => e = .returned (.bool true) ∧ Gr w w' := by
  have HA := Lib.hid hl
  have HO := Lib.hid ho
  clear hl ho
  have HU := Lib.hid ha
  have B0 := Lib.hid (blk_new w (.cells #[.slice o len cap, .int .u64 a, .int .i64 n, .int .i64 k] 57))
  clear ha hn hk
  have d0 := blk_cell B0.out 0 rfl
  have d1 := blk_cell B0.out 1 rfl
  have d2 := blk_cell B0.out 2 rfl
  have d3 := blk_cell B0.out 3 rfl
  go_enter Try.func9, Try.ntmps9
  go_wp2_with fail
  refine (c_shown _).mono ?_; rintro e w1 ⟨rfl, g⟩
  have G := Lib.hid (galloc _ g); clear g d0 d1 d2 d3
  go_wp2_with fail
  refine (mg_new w 3 (by decide) (by decide) _ G.out).mono ?_; rintro e w2 ⟨b, rfl, h⟩
  have H1 := Lib.hid h
  clear h
  go_wp2_with fail
  go_loopw [10] (fun vi wr => ∃ (i : Nat) (s : List UInt8), i ≤ len ∧ vi = .int .i64 i ∧ MG w wr b 3 s 0) (fun vi _ => len - (intOf vi).toNat)
  case atStart => exact ⟨0, _, Nat.zero_le _, rfl, H1.out⟩
  case round =>
    obtain ⟨i, s, hi, rfl, hg⟩ := hrel
    have HG := Lib.hid hg
    clear hg
    by_cases hlt : i < len
    · obtain ⟨rfl, hbl⟩ := HO.out (by omega)
      obtain ⟨⟨_, _, _, hu, _, hsz⟩, a0, a1, a2, a3, a4, a5⟩ := HA.out i hlt
      have c0 := kcell HG.out.1 a0
      have c3 := kcell HG.out.1 a3
      have c5 := kcell HG.out.1 a5
      obtain ⟨u1, u2⟩ := hu
      have U1 := Lib.hid u1
      have U2 := Lib.hid u2
      have HSZ := Lib.hid hsz
      clear a0 a1 a2 a3 a4 a5 u1 u2 hsz
      by_cases hk : (f i).kind = 4
      · rw [hk] at c0
        clear hk
        go_wp2_with fail
        go_still_tail 11, (by kernel_rfl)
        go_wp2_with fail
        refine (mg_put (HG.out.keep (Below.drew (Below.refl _ _))) (f i).at_ (f i).s U1.out U2.out HSZ.out).mono ?_; rintro e w9 ⟨rfl, h⟩
        have H9 := Lib.hid h; clear h
        clear c0 c3 c5
        go_wp2_with fail
        go_roundw
        case rel => exact ⟨i + 1, _, by omega, by go_num, H9.out⟩
        case measure => simp [intOf]; omega
      · have hk' : ((f i).kind == 4) = false := by simpa using hk
        generalize (f i).kind = kd at *
        clear hk
        go_wp2_with fail
        go_roundw
        case rel => exact ⟨i + 1, s, by omega, by go_num, HG.out⟩
        case measure => simp [intOf]; omega
    · obtain rfl : i = len := by omega
      clear hlt
      have hs := HG.out.len
      have hslen : s.length = 768 := hs.1
      have HSL := Lib.hid hslen
      clear hs hslen
      by_cases hin : 0 ≤ n ∧ n ≤ 1000 ∧ 0 ≤ k ∧ k ≤ 1000 ∧ a ≤ 2000
      · obtain ⟨h1, h2, h3, h4, h5⟩ := hin
        obtain ⟨N, rfl⟩ : ∃ p : Nat, n = (p : Int) := ⟨n.toNat, by omega⟩
        obtain ⟨K, rfl⟩ : ∃ p : Nat, k = (p : Int) := ⟨k.toNat, by omega⟩
        obtain ⟨A, rfl⟩ : ∃ p : Nat, a = (p : Int) := ⟨a.toNat, by have := HU.out.1; omega⟩
        have gt : ∀ x y : Nat, x + y ≤ 768 → getV s (x : Int) (y : Int) = subB s x y ∧ getR s (x : Int) (y : Int) = 0 := by
          intro x y hz
          have hi : (x : Int) + (y : Int) ≤ s.length := by rw [HSL.out]; omega
          have h0 : ¬ (y : Int) < 0 := by omega
          unfold getV getR
          rw [if_neg h0, if_pos (inB_t hi), if_neg h0, if_pos (inB_t hi), Int.toNat_natCast, Int.toNat_natCast]
          exact ⟨rfl, rfl⟩
        have gf : ∀ x y : Nat, ¬ x + y ≤ 768 → getR s (x : Int) (y : Int) = 3 := by
          intro x y hz
          have hi : ¬ (x : Int) + (y : Int) ≤ s.length := by rw [HSL.out]; omega
          have h0 : ¬ (y : Int) < 0 := by omega
          unfold getR
          rw [if_neg h0, if_neg (by rw [inB_f hi]; simp)]
        have GT := Lib.hid gt
        have GF := Lib.hid gf
        clear gt gf
        have e1 : ((N + K : Nat) : Int) = (N : Int) + K := by omega
        have e2 : ((A + N : Nat) : Int) = (A : Int) + N := by omega
        have b0 : (0 : Int) ≤ A := by omega
        by_cases hall : A + (N + K) ≤ 768
        · obtain ⟨g1, g2⟩ := GT.out A (N + K) hall
          obtain ⟨g3, g4⟩ := GT.out A N (by omega)
          obtain ⟨g5, g6⟩ := GT.out (A + N) K (by omega)
          have g7 := sub_app s A N K (by rw [HSL.out]; omega)
          rw [g7] at g1
          rw [e1] at g1 g2
          rw [e2] at g5 g6
          have K1 := Lib.hid g1; have K2 := Lib.hid g2; have K3 := Lib.hid g3; have K4 := Lib.hid g4; have K5 := Lib.hid g5; have K6 := Lib.hid g6
          clear g1 g2 g3 g4 g5 g6 g7 e1 e2
          have sX : (subB s A N).size ≤ 1000 := by rw [sub_size s A N (by rw [HSL.out]; omega)]; omega
          have sY : (subB s (A + N) K).size ≤ 1000 := by rw [sub_size s (A + N) K (by rw [HSL.out]; omega)]; omega
          generalize subB s A N = X at *
          generalize subB s (A + N) K = Y at *
          have sXY : X.size + Y.size ≤ 9223372036854775807 := by omega
          go_wp2_with fail
          refine (mg_get HG.out A ((N : Int) + K) (by omega) (by omega) (by omega) _ 0 K1.out K2.out).mono ?_; rintro e w3 ⟨rfl, h⟩
          have H3 := Lib.hid h; clear h
          go_wp2_with fail
          refine (mg_get H3.out A N (by omega) (by omega) (by omega) _ 0 K3.out K4.out).mono ?_; rintro e w4 ⟨rfl, h⟩
          have H4 := Lib.hid h; clear h
          go_wp2_with fail
          refine (mg_get H4.out ((A : Int) + N) K (by omega) (by omega) (by omega) _ 0 K5.out K6.out).mono ?_; rintro e w5 ⟨rfl, h⟩
          have H5 := Lib.hid h; clear h
          go_wp2_with fail
          go_ret
          exact ⟨rfl, H5.out.1⟩
        · have g1 := GF.out A (N + K) hall
          rw [e1] at g1
          have K1 := Lib.hid g1
          clear g1 e1
          by_cases hone : A + N ≤ 768
          · obtain ⟨g3, g4⟩ := GT.out A N hone
            have g5 := GF.out (A + N) K (by omega)
            rw [e2] at g5
            have K3 := Lib.hid g3; have K4 := Lib.hid g4; have K5 := Lib.hid g5
            clear g3 g4 g5 e2 hone hall
            go_wp2_with fail
            refine (mg_get HG.out A ((N : Int) + K) (by omega) (by omega) (by omega) _ 3 rfl K1.out).mono ?_; rintro e w3 ⟨rfl, h⟩
            have H3 := Lib.hid h; clear h
            go_wp2_with fail
            refine (mg_get H3.out A N (by omega) (by omega) (by omega) _ 0 K3.out K4.out).mono ?_; rintro e w4 ⟨rfl, h⟩
            have H4 := Lib.hid h; clear h
            go_wp2_with fail
            refine (mg_get H4.out ((A : Int) + N) K (by omega) (by omega) (by omega) _ 3 rfl K5.out).mono ?_; rintro e w5 ⟨rfl, h⟩
            have H5 := Lib.hid h; clear h
            go_wp2_with fail
            go_ret
            exact ⟨rfl, H5.out.1⟩
          · have g4 := GF.out A N hone
            have g5 := GF.out (A + N) K (by omega)
            rw [e2] at g5
            have K4 := Lib.hid g4; have K5 := Lib.hid g5
            clear g4 g5 e2 hone hall
            go_wp2_with fail
            refine (mg_get HG.out A ((N : Int) + K) (by omega) (by omega) (by omega) _ 3 rfl K1.out).mono ?_; rintro e w3 ⟨rfl, h⟩
            have H3 := Lib.hid h; clear h
            go_wp2_with fail
            refine (mg_get H3.out A N (by omega) (by omega) (by omega) _ 3 rfl K4.out).mono ?_; rintro e w4 ⟨rfl, h⟩
            have H4 := Lib.hid h; clear h
            go_wp2_with fail
            refine (mg_get H4.out ((A : Int) + N) K (by omega) (by omega) (by omega) _ 3 rfl K5.out).mono ?_; rintro e w5 ⟨rfl, h⟩
            have H5 := Lib.hid h; clear h
            go_wp2_with fail
            go_ret
            exact ⟨rfl, H5.out.1⟩
      · have hu1 : 0 ≤ a := HU.out.1
        have hc : n < 0 ∨ (0 ≤ n ∧ 1000 < n) ∨ (0 ≤ n ∧ n ≤ 1000 ∧ k < 0) ∨ (0 ≤ n ∧ n ≤ 1000 ∧ 0 ≤ k ∧ 1000 < k) ∨ (0 ≤ n ∧ n ≤ 1000 ∧ 0 ≤ k ∧ k ≤ 1000 ∧ 2000 < a) := by omega
        clear hin
        rcases hc with h1 | ⟨h1, h2⟩ | ⟨h1, h2, h3⟩ | ⟨h1, h2, h3, h4⟩ | ⟨h1, h2, h3, h4, h5⟩
        all_goals
          (first | have q0 : decide (n < 0) = true := decide_eq_true (by omega) | have q0 : decide (n < 0) = false := decide_eq_false (by omega) | skip)
          (first | have q1 : decide (1000 < n) = true := decide_eq_true (by omega) | have q1 : decide (1000 < n) = false := decide_eq_false (by omega) | skip)
          (first | have q2 : decide (k < 0) = true := decide_eq_true (by omega) | have q2 : decide (k < 0) = false := decide_eq_false (by omega) | skip)
          (first | have q3 : decide (1000 < k) = true := decide_eq_true (by omega) | have q3 : decide (1000 < k) = false := decide_eq_false (by omega) | skip)
          (first | have q4 : decide (2000 < a) = true := decide_eq_true (by omega) | have q4 : decide (2000 < a) = false := decide_eq_false (by omega) | skip)
          go_wp2_with fail
          go_ret
          exact ⟨rfl, HG.out.1⟩
end Go.Proofs.Ytofpkghjiecjdaa.P
