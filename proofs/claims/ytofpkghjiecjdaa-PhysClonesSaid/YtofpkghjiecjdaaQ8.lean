/- Stage 3: PhysNil, PhysWords. No condition. -/
import Derived.Test.YtofpkghjiecjdaaQ7
set_option linter.unusedVariables false
namespace Go.Proofs.Ytofpkghjiecjdaa.P
open Go.RowKit Go.MuLone Go.Proofs.Ytofpkghjiecjdaa.W
set_option maxRecDepth 100000 in
theorem l_nil (a n : Int) (x : ByteArray) (w : World) : Calls Try.prog 6 #[.int .u64 a, .int .i64 n, .string x] w fun e w' => e = .returned (.bool true) ∧ Gr w w' := by
  go_enter Try.func6, Try.ntmps6
  go_wp2_with fail
  refine (c_shown _).mono ?_; rintro e w1 ⟨rfl, g⟩
  have G := Lib.hid g; clear g
  go_wp2_with (first
    | (go_at_call 19; refine (n_load _ _ _).mono ?_; rintro e w' ⟨rfl, rfl⟩)
    | (go_at_call 20; refine (n_store _ _ _ _).mono ?_; rintro e w' ⟨rfl, rfl⟩)
    | (go_at_call 16; refine (n_get _ _ _).mono ?_; rintro e w' ⟨rfl, rfl⟩)
    | (go_at_call 18; refine (n_put _ _ _).mono ?_; rintro e w' ⟨rfl, rfl⟩)
    | (go_at_call 22; refine (n_clear _ _).mono ?_; rintro e w' ⟨rfl, rfl⟩)
    | (go_at_call 23; refine (n_copy _ _ _).mono ?_; rintro e w' ⟨rfl, rfl⟩)
    | (go_at_call 15; refine (n_touched _).mono ?_; rintro e w' ⟨rfl, rfl⟩)
    | (go_at_call 17; refine (n_frames _).mono ?_; rintro e w' ⟨rfl, rfl⟩)
    | (go_at_call 21; refine (n_clone _).mono ?_; rintro e w' ⟨rfl, rfl⟩))
  go_ret
  exact ⟨rfl, G.out⟩
theorem byte_sub (s : List UInt8) (a n i : Nat) (hi : i < n) : byteAt (subB s a n) i = ((s.getD (a + i) 0).toNat : Int) := by
  have e : (subB s a n).data.getD i 0 = s.getD (a + i) 0 := by
    simp only [subB, Array.getD_eq_getD_getElem?, List.getD_eq_getElem?_getD, List.getElem?_toArray, List.getElem?_take_of_lt hi, List.getElem?_drop]
  unfold byteAt; rw [e]
theorem of_one (s : List UInt8) (a : Nat) (h : a + 1 ≤ s.length) : ofF (subB s a 1) = ((s.getD a 0).toNat : Int) := by
  have e : min (subB s a 1).size 8 = 1 := by rw [sub_size s a 1 h]; rfl
  unfold ofF
  rw [e, ofN, ofN, byte_sub s a 1 0 (by omega)]
  simp
theorem storeS_len (s : List UInt8) (a n v : Int) (ha : 0 ≤ a) : (storeS s a n v).length = s.length := by
  unfold storeS; split
  · split
    · rename_i h1 h2
      have h3 : a + n ≤ s.length := of_decide_eq_true h2
      have h4 := sized_nat h1
      obtain ⟨m, rfl⟩ : ∃ m : Nat, n = (m : Int) := ⟨n.toNat, by omega⟩
      refine putL_len _ _ _ ?_
      rw [Array.length_toList, show (bytesF v m).data.size = m by rw [show (bytesF v m).data.size = (bytesF v m).size from rfl, bytes_size, clamp_sized h1]]
      omega
    · rfl
  · rfl
set_option maxRecDepth 100000 in
set_option maxHeartbeats 1600000 in
theorem l_words (a n v : Int) (ha0 : 0 ≤ a) (ha1 : a ≤ 18446744073709551615) (hv : W.word v) (w : World) : Calls Try.prog 7 #[.int .u64 a, .int .i64 n, .int .u64 v] w fun e w' => e = .returned (.bool true) ∧ Gr w w' := by
  have HV := Lib.hid hv
  clear hv
  go_enter Try.func7, Try.ntmps7
  go_wp2_with fail
  refine (c_shown _).mono ?_; rintro e w1 ⟨rfl, g⟩
  have G := Lib.hid g; clear g
  go_wp2_with fail
  refine (mg_new w 2 (by decide) (by decide) _ G.out).mono ?_; rintro e w2 ⟨b, rfl, h⟩
  have H1 : RowKit.Hid (MG w w2 b 2 s0 0) := h
  clear h
  go_wp2_with fail
  generalize hs : storeS s0 a n v = s
  have hlen : s.length = 512 := by rw [← hs, storeS_len _ _ _ _ ha0]; rfl
  have HS := Lib.hid hs
  clear hs
  have hr0 : loadR s0 a n = loadR s a n := by unfold loadR inB; rw [hlen]; rfl
  have HL := Lib.hid hlen
  clear hlen
  have HR0 := Lib.hid hr0
  clear hr0
  by_cases hok : sizedB n = true ∧ a + n ≤ 512
  · obtain ⟨hz, hi⟩ := hok
    have hi' : a + n ≤ s.length := by rw [HL.out]; exact hi
    have k1 : loadR s a n = 0 := by unfold loadR; rw [if_pos hz, if_pos (inB_t hi')]
    have hnn := sized_nat hz
    obtain ⟨m, rfl⟩ : ∃ m : Nat, n = (m : Int) := ⟨n.toNat, by omega⟩
    obtain ⟨k, rfl⟩ : ∃ k : Nat, a = (k : Int) := ⟨a.toNat, by omega⟩
    have k2 : loadV s k m = ofF (subB s k m) := by unfold loadV; rw [if_pos hz, if_pos (inB_t hi')]; simp
    have K1 := Lib.hid k1
    have K2 := Lib.hid k2
    have hm8 : m ≤ 8 := by omega
    have hm1 : 1 ≤ m := by omega
    have HZ := Lib.hid hz
    clear k1 k2 hi' hz hnn
    refine (mg_store H1.out k m v (by omega) (by omega) HV.out s 0 _ HS.out (HR0.out.trans K1.out) rfl).mono ?_; rintro e w3 ⟨rfl, h⟩
    have H2 := Lib.hid h; clear h
    go_wp2_with fail
    refine (mg_load H2.out k m (by omega) (by omega) (ofF (subB s k m)) 0 _ K2.out K1.out rfl).mono ?_; rintro e w4 ⟨rfl, h⟩
    have H3 := Lib.hid h; clear h
    generalize loadT s (↑k) (↑m) (loadT s0 (↑k) (↑m) 0) = t0 at *
    generalize hX : subB s k m = X
    have hXs : X.size = m := by rw [← hX]; exact sub_size _ _ _ (by rw [HL.out]; omega)
    have HX := Lib.hid hX
    have HXS := Lib.hid hXs
    clear hX hXs
    generalize hF : ofF X = F
    have HF := Lib.hid hF
    clear hF
    go_wp2_with fail
    go_loopw [13, 14] (fun v13 v14 wr => ∃ (j : Nat) (t : Int), j ≤ m ∧ v14 = .int .i64 ((j : Int) - 1) ∧ v13 = .int .u64 (hN X j (m - j)) ∧ MG w wr b 2 s t) (fun _ v14 _ => (intOf v14 + 1).toNat)
    case atStart => exact ⟨m, t0, Nat.le_refl _, rfl, by rw [Nat.sub_self]; rfl, H3.out⟩
    case round =>
      obtain ⟨j, t, hj, rfl, rfl, hg⟩ := hrel
      have HG := Lib.hid hg
      clear hg
      by_cases hlt : 1 ≤ j
      · obtain ⟨i, rfl⟩ : ∃ i, j = i + 1 := ⟨j - 1, by omega⟩
        have e0 : ((i + 1 : Nat) : Int) - 1 = i := by omega
        rw [e0]
        have hst := hN_step X i (m - (i + 1)) (by omega)
        rw [show m - (i + 1) + 1 = m - i by omega] at hst
        have HST := Lib.hid hst
        have hb : byteAt X i = ((s.getD (k + i) 0).toNat : Int) := by rw [← HX.out]; exact byte_sub s k m i (by omega)
        have e1 : loadV s ((k : Int) + i) 1 = byteAt X i := by
          rw [hb]
          have hi2 : ((k : Int) + i) + 1 ≤ s.length := by rw [HL.out]; omega
          unfold loadV; rw [if_pos (by decide), if_pos (inB_t hi2)]
          rw [show ((k : Int) + i).toNat = k + i by omega]
          exact of_one s (k + i) (by rw [HL.out]; omega)
        have e2 : loadR s ((k : Int) + i) 1 = 0 := by
          have hi2 : ((k : Int) + i) + 1 ≤ s.length := by rw [HL.out]; omega
          unfold loadR; rw [if_pos (by decide), if_pos (inB_t hi2)]
        have E1 := Lib.hid e1
        have E2 := Lib.hid e2
        clear hst hb e1 e2 e0
        have b1 : (0 : Int) ≤ i := by omega
        have b2 : (i : Int) ≤ 8 := by omega
        have b3 : (k : Int) ≤ 512 := by omega
        go_wp2_with fail
        refine (mg_load HG.out ((k : Int) + i) 1 (by omega) (by omega) (byteAt X i) 0 _ E1.out E2.out rfl).mono ?_; rintro e w5 ⟨rfl, h⟩
        have H5 := Lib.hid h; clear h
        go_wp2_with fail
        go_roundw
        case rel => exact ⟨i, _, by omega, rfl, by rw [HST.out], H5.out⟩
        case measure => simp [intOf]
      · obtain rfl : j = 0 := by omega
        have e0 : ((0 : Nat) : Int) - 1 = -1 := by omega
        rw [e0]
        have e1 : hN X 0 (m - 0) = F := by rw [hN0, ← HF.out]; unfold ofF; rw [HXS.out, Nat.min_eq_left hm8]
        rw [e1]
        clear e0 e1
        go_wp2_with fail
        go_ret
        exact ⟨rfl, HG.out.1⟩
  · have hr : loadR s a n = 1 ∨ loadR s a n = 3 := by
      unfold loadR inB; rw [HL.out]
      by_cases hz : sizedB n = true
      · rw [if_pos hz]
        have : ¬ (a + n ≤ ((512 : Nat) : Int)) := fun h => hok ⟨hz, h⟩
        rw [decide_eq_false this]; exact .inr rfl
      · rw [if_neg hz]; simp
    clear hok
    obtain ⟨r, hr1, hr2⟩ : ∃ r, loadR s a n = r ∧ (r = 1 ∨ r = 3) := ⟨_, rfl, hr⟩
    have HR1 := Lib.hid hr1
    clear hr hr1
    refine (mg_store H1.out a n v ha0 ha1 HV.out s r _ HS.out (HR0.out.trans HR1.out) rfl).mono ?_; rintro e w3 ⟨rfl, h⟩
    have H2 := Lib.hid h; clear h
    rcases hr2 with rfl | rfl
    all_goals
      go_wp2_with fail
      refine (mg_load H2.out a n ha0 ha1 _ _ _ rfl HR1.out rfl).mono ?_; rintro e w4 ⟨rfl, h⟩
      have H3 := Lib.hid h; clear h
      go_wp2_with fail
      go_ret
      exact ⟨rfl, H3.out.1⟩
end Go.Proofs.Ytofpkghjiecjdaa.P
