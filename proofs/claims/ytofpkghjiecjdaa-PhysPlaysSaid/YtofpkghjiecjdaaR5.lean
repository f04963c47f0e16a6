/- Stage 3: one act by both: each is answered as the document says. No condition. -/
import Derived.Test.YtofpkghjiecjdaaR4
set_option linter.unusedVariables false
namespace Go.Proofs.Ytofpkghjiecjdaa.P
open Go.RowKit Go.MuLone Go.Proofs.Ytofpkghjiecjdaa.W
def DoesP (w0 : World) (S : Nat → Prop) (b rb vb fr : Nat) (e : Ending) (w' : World) : Prop := e = .returned (.bool true) ∧ ∃ s t, PX w0 S w' b rb vb fr s t s t
set_option maxRecDepth 100000 in
set_option maxHeartbeats 6400000 in
theorem c_does {w0 : World} {S : Nat → Prop} {w : World} {b rb vb fr : Nat} {s : List UInt8} {t : Int} (h : PX w0 S w b rb vb fr s t s t) (kd n nn A v : Int) (x : ByteArray) (hn : i64 n) (hnn : i64 nn) (hA : u64 A) (hv : u64 v) (hx : x.size ≤ maxLen) :
    Calls Try.prog 14 #[.pointer (some ⟨b, 0, none⟩), .pointer (some ⟨rb, 0, none⟩), .agg #[.int .i64 kd, .int .i64 n, .int .i64 nn, .int .u64 A, .int .u64 v, .string x]] w (DoesP w0 S b rb vb fr) := by
  obtain ⟨S', hP, hS', hback⟩ := px_in h (.cells #[.int .i64 kd, .int .i64 n, .int .i64 nn, .int .u64 A, .int .u64 v, .string x] 34)
  have hfr := hP.len
  have HFR := Lib.hid hfr.1
  have HF2 := Lib.hid hfr.2
  have B0 := blk_new w (.cells #[.int .i64 kd, .int .i64 n, .int .i64 nn, .int .u64 A, .int .u64 v, .string x] 34)
  have HC : RowKit.Hid (∀ (w' : World) (s1 : List UInt8) (t1 : Int) (s2 : List UInt8) (t2 : Int), PX (w.alloc (.cells #[.int .i64 kd, .int .i64 n, .int .i64 nn, .int .u64 A, .int .u64 v, .string x] 34)) S' w' b rb vb fr s1 t1 s2 t2 → ∀ (j : Nat) (u : Value), (#[Value.int .i64 kd, .int .i64 n, .int .i64 nn, .int .u64 A, .int .u64 v, .string x] : Array Value)[j]? = some u → w'.cell? ⟨w.heap.size, j, none⟩ = some u) :=
    Lib.hid (fun w' s1 t1 s2 t2 hg j u hu => blk_cell (hg.1.blk B0 (fun e => by have := hS' _ e; omega)) j hu)
  have HB := Lib.hid hback
  have HP := Lib.hid hP
  have HA := Lib.hid hA
  have HV := Lib.hid hv
  have HX := Lib.hid hx
  have HN := Lib.hid hn
  have HNN := Lib.hid hnn
  clear h hP hS' hback hfr B0 hA hv hx hn hnn
  have k0 := HC.out _ _ _ _ _ HP.out 0 _ rfl
  have k1 := HC.out _ _ _ _ _ HP.out 1 _ rfl
  have k2 := HC.out _ _ _ _ _ HP.out 2 _ rfl
  have k3 := HC.out _ _ _ _ _ HP.out 3 _ rfl
  have k4 := HC.out _ _ _ _ _ HP.out 4 _ rfl
  have k5 := HC.out _ _ _ _ _ HP.out 5 _ rfl
  by_cases hk1 : kd = 1
  · subst hk1
    go_enter Try.func14, Try.ntmps14
    go_wp2_with fail
    refine (p_load HP.out A n HA.out.1 HA.out.2).mono ?_; rintro e w2 ⟨rfl, h2⟩
    have H2 := Lib.hid h2
    clear h2
    clear k0 k1 k2 k3 k4 k5
    have k0 := HC.out _ _ _ _ _ H2.out 0 _ rfl
    have k1 := HC.out _ _ _ _ _ H2.out 1 _ rfl
    have k2 := HC.out _ _ _ _ _ H2.out 2 _ rfl
    have k3 := HC.out _ _ _ _ _ H2.out 3 _ rfl
    have k4 := HC.out _ _ _ _ _ H2.out 4 _ rfl
    have k5 := HC.out _ _ _ _ _ H2.out 5 _ rfl
    go_wp2_with fail
    refine (q_load H2.out A n HA.out.1 HA.out.2).mono ?_; rintro e w3 ⟨rfl, h3⟩
    have H3 := Lib.hid h3
    clear h3
    go_wp2_with fail
    go_ret
    exact ⟨rfl, _, _, HB.out _ _ _ _ _ H3.out⟩
  · have d1 : (kd == 1) = false := by simpa using hk1
    clear hk1
    by_cases hk2 : kd = 2
    · subst hk2
      go_enter Try.func14, Try.ntmps14
      go_wp2_with fail
      refine (p_store HP.out A n v HA.out.1 HA.out.2 ⟨HV.out.1, by have := HV.out.2; omega⟩).mono ?_; rintro e w2 ⟨rfl, h2⟩
      have H2 := Lib.hid h2
      clear h2
      clear k0 k1 k2 k3 k4 k5
      have k0 := HC.out _ _ _ _ _ H2.out 0 _ rfl
      have k1 := HC.out _ _ _ _ _ H2.out 1 _ rfl
      have k2 := HC.out _ _ _ _ _ H2.out 2 _ rfl
      have k3 := HC.out _ _ _ _ _ H2.out 3 _ rfl
      have k4 := HC.out _ _ _ _ _ H2.out 4 _ rfl
      have k5 := HC.out _ _ _ _ _ H2.out 5 _ rfl
      go_wp2_with fail
      refine (q_store H2.out A n v HA.out.1 HA.out.2 ⟨HV.out.1, by have := HV.out.2; omega⟩).mono ?_; rintro e w3 ⟨rfl, h3⟩
      have H3 := Lib.hid h3
      clear h3
      go_wp2_with fail
      go_ret
      exact ⟨rfl, _, _, HB.out _ _ _ _ _ H3.out⟩
    · have d2 : (kd == 2) = false := by simpa using hk2
      clear hk2
      by_cases hk3 : kd = 3
      · subst hk3
        go_enter Try.func14, Try.ntmps14
        go_wp2_with fail
        refine (p_get HP.out A nn HA.out.1 HA.out.2 HNN.out.2).mono ?_; rintro e w2 ⟨rfl, h2⟩
        have H2 := Lib.hid h2
        clear h2
        clear k0 k1 k2 k3 k4 k5
        have k0 := HC.out _ _ _ _ _ H2.out 0 _ rfl
        have k1 := HC.out _ _ _ _ _ H2.out 1 _ rfl
        have k2 := HC.out _ _ _ _ _ H2.out 2 _ rfl
        have k3 := HC.out _ _ _ _ _ H2.out 3 _ rfl
        have k4 := HC.out _ _ _ _ _ H2.out 4 _ rfl
        have k5 := HC.out _ _ _ _ _ H2.out 5 _ rfl
        go_wp2_with fail
        refine (q_get H2.out A nn HA.out.1 HA.out.2 HNN.out.2).mono ?_; rintro e w3 ⟨rfl, rfl⟩
        go_wp2_with fail
        go_ret
        exact ⟨rfl, _, _, HB.out _ _ _ _ _ H2.out⟩
      · have d3 : (kd == 3) = false := by simpa using hk3
        clear hk3
        by_cases hk4 : kd = 4
        · subst hk4
          go_enter Try.func14, Try.ntmps14
          go_wp2_with fail
          refine (p_put HP.out A x HA.out.1 HA.out.2 HX.out).mono ?_; rintro e w2 ⟨rfl, h2⟩
          have H2 := Lib.hid h2
          clear h2
          clear k0 k1 k2 k3 k4 k5
          have k0 := HC.out _ _ _ _ _ H2.out 0 _ rfl
          have k1 := HC.out _ _ _ _ _ H2.out 1 _ rfl
          have k2 := HC.out _ _ _ _ _ H2.out 2 _ rfl
          have k3 := HC.out _ _ _ _ _ H2.out 3 _ rfl
          have k4 := HC.out _ _ _ _ _ H2.out 4 _ rfl
          have k5 := HC.out _ _ _ _ _ H2.out 5 _ rfl
          go_wp2_with fail
          refine (q_put H2.out A x HA.out.1 HA.out.2 HX.out).mono ?_; rintro e w3 ⟨rfl, h3⟩
          have H3 := Lib.hid h3
          clear h3
          go_wp2_with fail
          go_ret
          exact ⟨rfl, _, _, HB.out _ _ _ _ _ H3.out⟩
        · have d4 : (kd == 4) = false := by simpa using hk4
          clear hk4
          by_cases hk5 : kd = 5
          · subst hk5
            have er : rcopyR fr nn (-1) = clearR fr nn := by
              unfold rcopyR clearR; split
              · rw [if_pos (by omega)]
              · rfl
            have es : rcopyS fr s nn (-1) = clearS fr s nn := by unfold rcopyS; rw [if_pos (by decide)]
            have ER := Lib.hid er
            have ES := Lib.hid es
            clear er es
            go_enter Try.func14, Try.ntmps14
            go_wp2_with fail
            refine (p_clear HP.out nn).mono ?_; rintro e w2 ⟨rfl, h2⟩
            have H2 := Lib.hid h2
            clear h2
            clear k0 k1 k2 k3 k4 k5
            have k0 := HC.out _ _ _ _ _ H2.out 0 _ rfl
            have k1 := HC.out _ _ _ _ _ H2.out 1 _ rfl
            have k2 := HC.out _ _ _ _ _ H2.out 2 _ rfl
            have k3 := HC.out _ _ _ _ _ H2.out 3 _ rfl
            have k4 := HC.out _ _ _ _ _ H2.out 4 _ rfl
            have k5 := HC.out _ _ _ _ _ H2.out 5 _ rfl
            go_wp2_with fail
            refine (q_copy H2.out nn (-1) HFR.out HF2.out).mono ?_; rintro e w3 ⟨rfl, h3⟩
            rw [ES.out] at h3
            rw [ER.out]
            have H3 := Lib.hid h3
            clear h3
            go_wp2_with fail
            go_ret
            exact ⟨rfl, _, _, HB.out _ _ _ _ _ H3.out⟩
          · have d5 : (kd == 5) = false := by simpa using hk5
            clear hk5
            by_cases hk6 : kd = 6
            · subst hk6
              by_cases hneg : n < 0
              · have ec : copyR fr nn n = 3 := by
                  unfold copyR; split
                  · rw [if_neg (by rw [frB_f (by omega)]; simp)]
                  · rfl
                have es : copyS fr s nn n = s := by
                  unfold copyS; split
                  · rw [if_neg (by rw [frB_f (by omega)]; simp)]
                  · rfl
                have EC := Lib.hid ec
                have ES := Lib.hid es
                clear ec es
                go_enter Try.func14, Try.ntmps14
                go_wp2_with fail
                refine (p_copy HP.out nn n).mono ?_; rintro e w2 ⟨rfl, h2⟩
                rw [ES.out] at h2
                rw [EC.out]
                have H2 := Lib.hid h2
                clear h2
                clear k0 k1 k2 k3 k4 k5
                go_wp2_with fail
                go_ret
                exact ⟨rfl, _, _, HB.out _ _ _ _ _ H2.out⟩
              · have er : rcopyR fr nn n = copyR fr nn n := by
                  unfold rcopyR copyR; split
                  · by_cases hk : n < (fr : Int)
                    · rw [if_pos hk, if_pos (frB_t (by omega))]
                    · rw [if_neg hk, if_neg (by rw [frB_f (by omega)]; simp)]
                  · rfl
                have es : rcopyS fr s nn n = copyS fr s nn n := by unfold rcopyS; rw [if_neg hneg]
                have ER := Lib.hid er
                have ES := Lib.hid es
                clear er es
                go_enter Try.func14, Try.ntmps14
                go_wp2_with fail
                refine (p_copy HP.out nn n).mono ?_; rintro e w2 ⟨rfl, h2⟩
                have H2 := Lib.hid h2
                clear h2
                clear k0 k1 k2 k3 k4 k5
                have k0 := HC.out _ _ _ _ _ H2.out 0 _ rfl
                have k1 := HC.out _ _ _ _ _ H2.out 1 _ rfl
                have k2 := HC.out _ _ _ _ _ H2.out 2 _ rfl
                have k3 := HC.out _ _ _ _ _ H2.out 3 _ rfl
                have k4 := HC.out _ _ _ _ _ H2.out 4 _ rfl
                have k5 := HC.out _ _ _ _ _ H2.out 5 _ rfl
                go_wp2_with fail
                refine (q_copy H2.out nn n HFR.out HF2.out).mono ?_; rintro e w3 ⟨rfl, h3⟩
                rw [ES.out] at h3
                rw [ER.out]
                have H3 := Lib.hid h3
                clear h3
                go_wp2_with fail
                go_ret
                exact ⟨rfl, _, _, HB.out _ _ _ _ _ H3.out⟩
            · have d6 : (kd == 6) = false := by simpa using hk6
              clear hk6
              go_enter Try.func14, Try.ntmps14
              go_wp2_with fail
              go_ret
              exact ⟨rfl, _, _, HB.out _ _ _ _ _ HP.out⟩
end Go.Proofs.Ytofpkghjiecjdaa.P
