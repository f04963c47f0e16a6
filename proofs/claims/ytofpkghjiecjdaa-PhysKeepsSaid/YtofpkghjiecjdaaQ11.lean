/- Stage 3: PhysKeeps. No condition. -/
import Derived.Test.YtofpkghjiecjdaaQ10
import Derived.Test.YtofpkghjiecjdaaS
import Derived.Deep.DeepCutAuto
import Derived.StillTailTactics
set_option linter.unusedVariables false
namespace Go.Proofs.Ytofpkghjiecjdaa.P
open Go.RowKit Go.MuLone Go.Proofs.Ytofpkghjiecjdaa.W
theorem put_load (s : List UInt8) (A n : Nat) (x : List UInt8) (hx : x.length = n) (hA : A + n ≤ s.length) (P : Int) (hP0 : 0 ≤ P) (hP : P < A ∨ (A : Int) + n ≤ P) : loadV (putL s A x) P 1 = loadV s P 1 := by
  have hl : (putL s A x).length = s.length := putL_len s A x (by omega)
  unfold loadV inB
  rw [hl]
  by_cases hi : P + 1 ≤ (s.length : Int)
  · rw [decide_eq_true hi, if_pos rfl, if_pos rfl]
    have e : subB (putL s A x) P.toNat (1 : Int).toNat = subB s P.toNat (1 : Int).toNat := by
      unfold subB
      rw [sub_put_other s A x (by omega) P.toNat (1 : Int).toNat (by rw [hx]; have : (1 : Int).toNat = 1 := rfl; omega)]
    rw [e]
  · rw [decide_eq_false hi]; simp
theorem put_back (s : List UInt8) (A n : Nat) (v : Int) (hv : W.word v) (hn : sizedB n = true) (hA : A + n ≤ s.length) : loadV (putL s A (bytesF v n).data.toList) A n = lowF v (8 * n) := by
  have hbs : (bytesF v n).data.toList.length = n := by rw [Array.length_toList, show (bytesF v n).data.size = (bytesF v n).size from rfl, bytes_size, clamp_sized hn]
  have hl : (putL s A (bytesF v n).data.toList).length = s.length := putL_len s A _ (by omega)
  have hi : (A : Int) + n ≤ (putL s A (bytesF v n).data.toList).length := by rw [hl]; omega
  unfold loadV
  rw [if_pos hn, if_pos (inB_t hi), Int.toNat_natCast, Int.toNat_natCast]
  have e : subB (putL s A (bytesF v n).data.toList) A n = bytesF v n := by
    unfold subB
    have := sub_put_same s A (bytesF v n).data.toList (by omega)
    rw [hbs] at this; rw [this]
  rw [e, of_bytes v n hv, clamp_sized hn]
theorem low_1 (v : Int) : lowF v (8 * ((1 : Nat) : Int)) = v % 256 := rfl
theorem low_2 (v : Int) : lowF v (8 * ((2 : Nat) : Int)) = v % 65536 := rfl
theorem low_4 (v : Int) : lowF v (8 * ((4 : Nat) : Int)) = v % 4294967296 := rfl
theorem low_8 (v : Int) : lowF v (8 * ((8 : Nat) : Int)) = v := rfl
theorem load_len {s z : List UInt8} (h : z.length = s.length) (a n : Int) : loadR z a n = loadR s a n := by unfold loadR inB; rw [h]
set_option maxRecDepth 100000 in
set_option maxHeartbeats 16000000 in
theorem l_keeps (kd n nn A v : Int) (x : ByteArray) (P : Int) (hA : u64 A) (hv : u64 v) (hP : u64 P) (hni : i64 n) (w : World) (o : Option Addr) (len cap bl off : Nat) (f : Nat → ActV) (hlen : len ≤ 9223372036854775807) (ho : 0 < len → o = some ⟨bl, off, none⟩ ∧ bl < w.heap.size) (hl : Acts w bl off len f) :
    Calls Try.prog 4 #[.slice o len cap, .agg #[.int .i64 kd, .int .i64 n, .int .i64 nn, .int .u64 A, .int .u64 v, .string x], .int .u64 P] w fun e w' => e = .returned (.bool true) ∧ Gr w w' := by
  have HA := Lib.hid hl
  have HO := Lib.hid ho
  clear hl ho
  have HU := Lib.hid hA
  have HV := Lib.hid hv
  have HP := Lib.hid hP
  have B0 := Lib.hid (blk_new w (.cells #[.int .i64 kd, .int .i64 n, .int .i64 nn, .int .u64 A, .int .u64 v, .string x] 34))
  have HC : RowKit.Hid (∀ {b fr : Nat} {s : List UInt8} {t : Int} (w' : World), MG (w.alloc (.cells #[.int .i64 kd, .int .i64 n, .int .i64 nn, .int .u64 A, .int .u64 v, .string x] 34)) w' b fr s t → ∀ (j : Nat) (u : Value), (#[Value.int .i64 kd, .int .i64 n, .int .i64 nn, .int .u64 A, .int .u64 v, .string x] : Array Value)[j]? = some u → w'.cell? ⟨w.heap.size, j, none⟩ = some u) :=
    Lib.hid (fun w' hg j u hu => blk_cell (blk_gr hg.1 B0.out) j hu)
  clear hA hv hP hni
  go_enter Try.func4, Try.ntmps4
  go_wp2_with fail
  refine (c_shown _).mono ?_; rintro e w1 ⟨rfl, g⟩
  have G := Lib.hid g; clear g
  go_wp2_with fail
  refine (mg_new (w.alloc (.cells #[.int .i64 kd, .int .i64 n, .int .i64 nn, .int .u64 A, .int .u64 v, .string x] 34)) 3 (by decide) (by decide) _ G.out).mono ?_; rintro e w2 ⟨b, rfl, h⟩
  have H1 := Lib.hid h
  clear h
  go_wp2_with fail
  go_loopw [10] (fun vi wr => ∃ (i : Nat) (s : List UInt8), i ≤ len ∧ vi = .int .i64 i ∧ MG (w.alloc (.cells #[.int .i64 kd, .int .i64 n, .int .i64 nn, .int .u64 A, .int .u64 v, .string x] 34)) wr b 3 s 0) (fun vi _ => len - (intOf vi).toNat)
  case atStart => exact ⟨0, _, Nat.zero_le _, rfl, H1.out⟩
  case round =>
    obtain ⟨i, s, hi, rfl, hg⟩ := hrel
    have HG := Lib.hid hg
    clear hg
    by_cases hlt : i < len
    · obtain ⟨rfl, hbl⟩ := HO.out (by omega)
      obtain ⟨⟨_, _, _, hu, _, hsz⟩, a0, a1, a2, a3, a4, a5⟩ := HA.out i hlt
      have c0 := kcell HG.out.1 (calloc _ a0)
      have c3 := kcell HG.out.1 (calloc _ a3)
      have c5 := kcell HG.out.1 (calloc _ a5)
      obtain ⟨u1, u2⟩ := hu
      have U1 := Lib.hid u1
      have U2 := Lib.hid u2
      have HSZ := Lib.hid hsz
      clear a0 a1 a2 a3 a4 a5 u1 u2 hsz
      by_cases hk : (f i).kind = 4
      · rw [hk] at c0
        clear hk
        go_wp2_with fail
        go_still_tail 11, (by kernel_rfl)
        go_wp2_with fail
        refine (mg_put (HG.out.keep (Below.drew (Below.refl _ _))) (f i).at_ (f i).s U1.out U2.out HSZ.out).mono ?_; rintro e w9 ⟨rfl, h⟩
        have H9 := Lib.hid h; clear h
        clear c0 c3 c5
        go_wp2_with fail
        go_roundw
        case rel => exact ⟨i + 1, _, by omega, by go_num, H9.out⟩
        case measure => simp [intOf]; omega
      · have hk' : ((f i).kind == 4) = false := by simpa using hk
        generalize (f i).kind = kd at *
        clear hk
        go_wp2_with fail
        go_roundw
        case rel => exact ⟨i + 1, s, by omega, by go_num, HG.out⟩
        case measure => simp [intOf]; omega
    · obtain rfl : i = len := by omega
      clear hlt
      have hs := HG.out.len
      have hslen : s.length = 768 := hs.1
      have HSL := Lib.hid hslen
      clear hs hslen
      have p0 : 0 ≤ P := HP.out.1
      have p1 : P ≤ 18446744073709551615 := HP.out.2
      have a0 : 0 ≤ A := HU.out.1
      have a1 : A ≤ 18446744073709551615 := HU.out.2
      go_wp2_with fail
      refine (mg_load HG.out P 1 (by omega) (by omega) _ _ _ rfl rfl rfl).mono ?_; rintro e w3 ⟨rfl, h⟩
      have H3 := Lib.hid h; clear h
      have d1 := HC.out w3 H3.out 1 _ rfl
      have d3 := HC.out w3 H3.out 3 _ rfl
      have d4 := HC.out w3 H3.out 4 _ rfl
      generalize loadT s P 1 0 = t1 at *
      have hr0 : loadR s P 1 = 0 ∨ loadR s P 1 = 3 := by
        unfold loadR; rw [if_pos (by decide)]; split
        · exact .inl rfl
        · exact .inr rfl
      generalize hR0 : loadR s P 1 = r0 at *
      generalize hV0 : loadV s P 1 = v0 at *
      have HR0 := Lib.hid hR0
      have HV0 := Lib.hid hV0
      clear hR0 hV0
      go_wp2_with fail
      by_cases hsz : sizedB n = true
      · by_cases hi : A + n ≤ 768
        · obtain ⟨N, rfl⟩ : ∃ p : Nat, n = (p : Int) := ⟨n.toNat, by have := sized_nat hsz; omega⟩
          obtain ⟨K, rfl⟩ : ∃ p : Nat, A = (p : Int) := ⟨A.toNat, by omega⟩
          have hi' : (K : Int) + N ≤ s.length := by rw [HSL.out]; exact hi
          have hin : K + N ≤ s.length := by omega
          have hbl : (bytesF v N).data.toList.length = N := by rw [Array.length_toList, show (bytesF v N).data.size = (bytesF v N).size from rfl, bytes_size, clamp_sized hsz]
          have k1 : storeS s K N v = putL s K (bytesF v N).data.toList := by unfold storeS; rw [if_pos hsz, if_pos (inB_t hi'), Int.toNat_natCast]
          have k2 : loadR s K N = 0 := by unfold loadR; rw [if_pos hsz, if_pos (inB_t hi')]
          have k3 := put_back s K N v ⟨HV.out.1, by have := HV.out.2; omega⟩ hsz hin
          have k4 := fun h => put_load s K N (bytesF v N).data.toList hbl hin P p0 h
          have hl : (putL s K (bytesF v N).data.toList).length = s.length := putL_len _ _ _ (by omega)
          generalize putL s K (bytesF v N).data.toList = z at *
          have k5 : loadR z K N = 0 := by rw [load_len hl]; exact k2
          have k6 : loadR z P 1 = r0 := by rw [load_len hl]; exact HR0.out
          have K1 := Lib.hid k1; have K2 := Lib.hid k2; have K3 := Lib.hid k3; have K4 := Lib.hid k4; have K5 := Lib.hid k5; have K6 := Lib.hid k6
          clear k1 k2 k3 k4 k5 k6 hl hbl hin hi'
          refine (mg_store H3.out K N v (by omega) (by omega) ⟨HV.out.1, by have := HV.out.2; omega⟩ z 0 _ K1.out K2.out rfl).mono ?_; rintro e w4 ⟨rfl, h⟩
          have H4 := Lib.hid h; clear h d1 d3 d4
          generalize loadT s (K : Int) (N : Int) t1 = t2 at *
          have hpos : (P < K) ∨ ((K : Int) + N ≤ P) ∨ ((K : Int) ≤ P ∧ P < (K : Int) + N) := by omega
          have hNN : N = 1 ∨ N = 2 ∨ N = 4 ∨ N = 8 := by have := sized_nat hsz; omega
          have kb : (K : Int) ≤ 768 := by omega
          go_wp2_with fail
          refine (mg_load H4.out P 1 (by omega) (by omega) _ r0 _ rfl K6.out rfl).mono ?_; rintro e w5 ⟨rfl, h⟩
          have H5 := Lib.hid h; clear h
          generalize loadT z P 1 t2 = t3 at *
          have hveq : ((P < K) ∨ ((K : Int) + N ≤ P)) → loadV z P 1 = v0 := fun h => by rw [K4.out h]; exact HV0.out
          generalize loadV z P 1 = v1 at *
          have HVE := Lib.hid hveq
          clear hveq
          have d1 := HC.out w5 H5.out 1 _ rfl
          have d3 := HC.out w5 H5.out 3 _ rfl
          have d4 := HC.out w5 H5.out 4 _ rfl
          have rr : (r0 != r0) = false := by simp
          go_upto_region 17 with fail
          go_wp2_with fail
          refine (mg_load H5.out K N (by omega) (by omega) _ 0 _ K3.out K5.out rfl).mono ?_; rintro e w6 ⟨rfl, h⟩
          have H6 := Lib.hid h; clear h d1 d3 d4
          have d1 := HC.out w6 H6.out 1 _ rfl
          have d3 := HC.out w6 H6.out 3 _ rfl
          have d4 := HC.out w6 H6.out 4 _ rfl
          have v_0 : 0 ≤ v := HV.out.1
          have v_1 : v ≤ 18446744073709551615 := HV.out.2
          clear hi hsz
          rcases hNN with rfl | rfl | rfl | rfl
          case' inl => rw [low_1]
          case' inr.inl => rw [low_2]
          case' inr.inr.inl => rw [low_4]
          case' inr.inr.inr => rw [low_8]
          all_goals
            rcases hpos with hp | hp | ⟨hp, hp2⟩
            · obtain rfl : v1 = v0 := HVE.out (.inl hp)
              have q1 : decide (P < K) = true := decide_eq_true hp
              go_wp2_with fail
              go_ret
              exact ⟨rfl, galloc _ H6.out.1⟩
            · obtain rfl : v1 = v0 := HVE.out (.inr hp)
              have q1 : decide (P < K) = false := decide_eq_false (by omega)
              go_wp2_with fail
              go_ret
              exact ⟨rfl, galloc _ H6.out.1⟩
            · have q1 : decide (P < K) = false := decide_eq_false (by omega)
              go_wp2_with fail
              go_ret
              exact ⟨rfl, galloc _ H6.out.1⟩
        · have hi' : ¬ A + n ≤ s.length := by rw [HSL.out]; exact hi
          have k1 : storeS s A n v = s := by unfold storeS; rw [if_pos hsz, if_neg (by rw [inB_f hi']; simp)]
          have k2 : loadR s A n = 3 := by unfold loadR; rw [if_pos hsz, if_neg (by rw [inB_f hi']; simp)]
          have K1 := Lib.hid k1; have K2 := Lib.hid k2
          clear k1 k2 hi hi' hsz
          refine (mg_store H3.out A n v a0 a1 ⟨HV.out.1, by have := HV.out.2; omega⟩ s 3 _ K1.out K2.out rfl).mono ?_; rintro e w4 ⟨rfl, h⟩
          have H4 := Lib.hid h; clear h d1 d3 d4
          have rr : (r0 != r0) = false := by simp
          go_wp2_with fail
          refine (mg_load H4.out P 1 (by omega) (by omega) v0 r0 _ HV0.out HR0.out rfl).mono ?_; rintro e w5 ⟨rfl, h⟩
          have H5 := Lib.hid h; clear h
          have d1 := HC.out w5 H5.out 1 _ rfl
          go_wp2_with fail
          go_ret
          exact ⟨rfl, galloc _ H5.out.1⟩
      · have hsz' : sizedB n = false := by simpa using hsz
        obtain ⟨m1, m2, m4, m8⟩ := sized_no hsz'
        have k1 : storeS s A n v = s := by unfold storeS; rw [if_neg hsz]
        have k2 : loadR s A n = 1 := by unfold loadR; rw [if_neg hsz]
        have K1 := Lib.hid k1; have K2 := Lib.hid k2
        clear k1 k2 hsz hsz'
        refine (mg_store H3.out A n v a0 a1 ⟨HV.out.1, by have := HV.out.2; omega⟩ s 1 _ K1.out K2.out rfl).mono ?_; rintro e w4 ⟨rfl, h⟩
        have H4 := Lib.hid h; clear h d1 d3 d4
        have rr : (r0 != r0) = false := by simp
        go_wp2_with fail
        refine (mg_load H4.out P 1 (by omega) (by omega) v0 r0 _ HV0.out HR0.out rfl).mono ?_; rintro e w5 ⟨rfl, h⟩
        have H5 := Lib.hid h; clear h
        have d1 := HC.out w5 H5.out 1 _ rfl
        go_wp2_with fail
        go_ret
        exact ⟨rfl, galloc _ H5.out.1⟩
end Go.Proofs.Ytofpkghjiecjdaa.P
