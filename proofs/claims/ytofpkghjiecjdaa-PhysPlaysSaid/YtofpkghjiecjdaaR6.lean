/- Stage 3: the walk of PhysPlays. No condition. -/
import Derived.Test.YtofpkghjiecjdaaR5
set_option linter.unusedVariables false
namespace Go.Proofs.Ytofpkghjiecjdaa.P
open Go.RowKit Go.MuLone Go.Proofs.Ytofpkghjiecjdaa.W
set_option maxRecDepth 100000 in
set_option maxHeartbeats 1600000 in
theorem l_plays_no (fr : Int) (v : Value) (w : World) (h : ¬ (1 ≤ fr ∧ fr ≤ 256)) : Calls Try.prog 3 #[.int .i64 fr, v] w fun e w' => e = .returned (.bool true) ∧ Gr w w' := by
  go_enter Try.func3, Try.ntmps3
  go_wp2_with fail
  refine (c_shown _).mono ?_; rintro e w1 ⟨rfl, g⟩
  have G := Lib.hid g; clear g
  go_wp2_with fail
  refine (c_new_no fr h _).mono ?_; rintro e w2 ⟨rfl, rfl⟩
  go_wp2_with fail
  refine (r_takes fr _).mono ?_; rintro e w2 ⟨rfl, rfl⟩
  rw [decide_eq_false h]
  clear h
  go_wp2_with fail
  go_ret
  exact ⟨rfl, G.out⟩
set_option maxRecDepth 100000 in
set_option maxHeartbeats 3200000 in
theorem l_plays (fr : Nat) (h1 : 1 ≤ fr) (h2 : fr ≤ 256) (w : World) (o : Option Addr) (len cap bl off : Nat) (f : Nat → ActV) (hlen : len ≤ 9223372036854775807) (ho : 0 < len → o = some ⟨bl, off, none⟩ ∧ bl < w.heap.size) (hl : Acts w bl off len f) :
    Calls Try.prog 3 #[.int .i64 fr, .slice o len cap] w fun e w' => e = .returned (.bool true) ∧ Gr w w' := by
  have HA := Lib.hid hl
  have HO := Lib.hid ho
  clear hl ho
  go_enter Try.func3, Try.ntmps3
  go_wp2_with fail
  refine (c_shown _).mono ?_; rintro e w1 ⟨rfl, g⟩
  have G := Lib.hid g; clear g
  go_wp2_with fail
  refine (c_new fr h1 h2 _).mono ?_; rintro e w2 ⟨b, rfl, hM, hb, hg⟩
  have HM := Lib.hid hM
  have HG := Lib.hid (gtrans G.out hg)
  have hwb : w.heap.size ≤ b := by have := G.out.size; omega
  clear hM hg hb
  go_wp2_with fail
  refine (r_takes fr _).mono ?_; rintro e w3 ⟨rfl, rfl⟩
  rw [decide_eq_true (show 1 ≤ (fr : Int) ∧ (fr : Int) ≤ 256 by omega)]
  go_wp2_with fail
  refine (r_new fr h2 _).mono ?_; rintro e w4 ⟨rfl, hR, hg⟩
  have hPX : PX w (fun x => w.heap.size ≤ x) w4 b (w3.heap.size + 1) w3.heap.size fr (List.replicate (fr * 256) 0) 0 (List.replicate (fr * 256) 0) 0 := by
    have hs := HG.out.size
    have hlt := HM.out.lt
    exact ⟨Ch.of_gr (gtrans HG.out hg), hwb, by omega, by omega, none, fun x hx => (by cases hx), ⟨by omega, by simp, fun e => by injection e with e; omega, fun x hx => by cases hx⟩, HM.out.keep (S := fun _ => False) (Ch.of_gr hg) (fun h => h) (fun _ _ h => h), hR⟩
  have HPX := Lib.hid hPX
  clear hR hg hPX hwb
  generalize hrb : w3.heap.size + 1 = rb at *
  generalize w3.heap.size = vb at *
  clear hrb
  go_wp2_with fail
  go_loopw [10] (fun v10 wr => ∃ (i : Nat) (s : List UInt8) (t : Int), i ≤ len ∧ v10 = .int .i64 i ∧ PX w (fun x => w.heap.size ≤ x) wr b rb vb fr s t s t) (fun v10 _ => len - (intOf v10).toNat)
  case atStart => exact ⟨0, _, 0, Nat.zero_le _, rfl, HPX.out⟩
  case round =>
    clear HPX
    obtain ⟨i, s, t, hi, rfl, hp⟩ := hrel
    have HP := Lib.hid hp
    clear hp
    by_cases hlt : i < len
    · obtain ⟨rfl, hbl⟩ := HO.out (by omega)
      obtain ⟨⟨_, k1, k2, k3, k4, k5⟩, a0, a1, a2, a3, a4, a5⟩ := HA.out i hlt
      have GW := Lib.hid (HP.out.1.gr (fun x hx => hx))
      have c0 := kcell GW.out a0
      have c1 := kcell GW.out a1
      have c2 := kcell GW.out a2
      have c3 := kcell GW.out a3
      have c4 := kcell GW.out a4
      have c5 := kcell GW.out a5
      have K1 := Lib.hid k1; have K2 := Lib.hid k2; have K3 := Lib.hid k3; have K4 := Lib.hid k4; have K5 := Lib.hid k5
      clear a0 a1 a2 a3 a4 a5 k1 k2 k3 k4 k5
      go_wp2_with fail
      refine (c_does HP.out (f i).kind (f i).size (f i).n (f i).at_ (f i).v (f i).s K1.out K2.out K3.out K4.out K5.out).mono ?_
      rintro e w5 ⟨rfl, s1, t1, h5⟩
      have H5 := Lib.hid h5
      clear h5 c0 c1 c2 c3 c4 c5
      go_wp2_with fail
      refine (p_touched H5.out).mono ?_; rintro e w6 ⟨rfl, rfl⟩
      have d1 : w6.cell? ⟨rb, 1, none⟩ = some (.int .u64 t1) := by
        obtain ⟨_, _, _, _, _, _, _, _, hR⟩ := H5.out
        exact blk_cell hR.1 1 (v := .int .u64 t1) rfl
      go_wp2_with fail
      go_roundw
      case rel => exact ⟨i + 1, s1, t1, by omega, by go_num, H5.out⟩
      case measure => simp [intOf]; omega
    · obtain rfl : i = len := by omega
      clear hlt
      have hln := HP.out.len
      have hln1 := hln.1
      have e1 : (0 : Int) + ((fr : Int) * 256) ≤ s.length := by rw [hln1]; omega
      have g1 : getV s 0 ((fr : Int) * 256) = subB s 0 s.length := by
        unfold getV; rw [if_neg (by omega), if_pos (inB_t e1), hln1]
        congr 1
      have g2 : getR s 0 ((fr : Int) * 256) = 0 := by unfold getR; rw [if_neg (by omega), if_pos (inB_t e1)]
      have G1 := Lib.hid g1
      have G2 := Lib.hid g2
      clear g1 g2 e1 hln hln1
      have hb0 : (0 : Int) ≤ fr := by omega
      have hb1 : (fr : Int) ≤ 256 := by omega
      go_wp2_with fail
      refine (p_get HP.out 0 ((fr : Int) * 256) (by decide) (by decide) (by omega)).mono ?_; rintro e w5 ⟨rfl, h5⟩
      rw [G1.out, G2.out]
      have H5 := Lib.hid h5
      clear h5
      go_wp2_with fail
      refine (p_frames H5.out).mono ?_; rintro e w6 ⟨rfl, rfl⟩
      obtain ⟨_, _, _, _, y, _, _, _, hR⟩ := H5.out
      have d0 := blk_cell hR.1 0 (v := .slice (some ⟨vb, 0, none⟩) s.length s.length) rfl
      have hcv := conv_part vb s 0 s.length (by omega) w6 hR.2.2.1
      rw [partV_all] at hcv
      clear hR
      go_wp2_with fail
      go_ret
      exact ⟨rfl, H5.out.1.gr (fun x hx => hx)⟩
end Go.Proofs.Ytofpkghjiecjdaa.P
