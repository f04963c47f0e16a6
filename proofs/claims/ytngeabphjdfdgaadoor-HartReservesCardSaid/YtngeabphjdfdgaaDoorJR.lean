/- Stage 5: HartReserves. No condition but what the program's tables hold. -/
import Derived.Test.YtngeabphjdfdgaaDoorJC
import Derived.Test.YtngeabphjdfdgaaDoorJD
set_option linter.unusedVariables false
set_option linter.unusedSimpArgs false
set_option maxRecDepth 100000
namespace Go.Proofs.YtngeabphjdfdgaaDoor.P
open Go.RowKit Go.MuLone Go.Proofs.YtngeabphjdfdgaaDoor.W
theorem rs_seq (A B : Nat) (hA : A < 32) (hB : B < 32) (v : Int) (hv : word v) : (∀ k, k < 3 → (seqF rsS (rsH A B v) (k + 1)).e.k = 0) ∧ (seqF rsS (rsH A B v) 3).H.X 4 = (if A = B then 0 else 1) ∧ (seqF rsS (rsH A B v) 3).H.X 6 = 1 ∧ (seqF rsS (rsH A B v) 3).H.hd = false ∧ loadV (seqF rsS (rsH A B v) 3).s (1024 + 8 * (B : Int)) 8 = (if A = B then v else 0) := by
  obtain ⟨R1, R2, R3, s1, s2, s3, k1, k2, k3, x4, x6, hd, lv⟩ := rs_run A B hA hB v hv
  have q1 : seqF rsS (rsH A B v) 1 = R1 := s1
  have q2 : seqF rsS (rsH A B v) 2 = R2 := by show stepF 8 (seqF rsS (rsH A B v) 1).s 0 (seqF rsS (rsH A B v) 1).H = R2; rw [q1]; exact s2
  have q3 : seqF rsS (rsH A B v) 3 = R3 := by show stepF 8 (seqF rsS (rsH A B v) 2).s 0 (seqF rsS (rsH A B v) 2).H = R3; rw [q2]; exact s3
  refine ⟨fun k hk => ?_, ?_, ?_, ?_, ?_⟩
  · rcases (by omega : k = 0 ∨ k = 1 ∨ k = 2) with rfl | rfl | rfl
    · rw [q1]; exact k1
    · rw [q2]; exact k2
    · rw [q3]; exact k3
  · rw [q3]; exact x4
  · rw [q3]; exact x6
  · rw [q3]; exact hd
  · rw [q3]; exact lv
def rsW : Array Value := #[.int .u32 268480943, .int .u32 407974447, .int .u32 407974703]
theorem rs_h (A B : Nat) (v : Int) : (((HZ.set 1 (256 + (A : Int) * 8)).set 2 (256 + (B : Int) * 8)).set 5 v) = rsH A B v := by
  rw [Int.mul_comm (A : Int) 8, Int.mul_comm (B : Int) 8]; rfl
set_option maxHeartbeats 6400000 in
theorem l_reserves (w : World) (hT : PT w) (hF : FT w) (a b0 v : Int) (ha : Go.Proofs.YtngeabphjdfdgaaDoor.P.u64 a) (hb : Go.Proofs.YtngeabphjdfdgaaDoor.P.u64 b0) (hv : Go.Proofs.YtngeabphjdfdgaaDoor.P.u64 v) :
    Calls Tryd.prog 7 #[.int .u64 a, .int .u64 b0, .int .u64 v] w fun e w' => e = .returned (.bool true) ∧ Gr w w' := by
  obtain ⟨A, hA⟩ : ∃ A : Nat, a % 32 = (A : Int) := ⟨(a % 32).toNat, by omega⟩
  obtain ⟨B, hB⟩ : ∃ B : Nat, b0 % 32 = (B : Int) := ⟨(b0 % 32).toNat, by omega⟩
  have lA : A < 32 := by omega
  have lB : B < 32 := by omega
  have RS := Lib.hid (rs_seq A B lA lB v (word_of_u64 hv))
  have OK := Lib.hid (rsH_ok lA lB hv)
  obtain ⟨a0, a1⟩ := ha
  obtain ⟨b1, b2⟩ := hb
  obtain ⟨v0, v1⟩ := hv
  have HT := Lib.hid hT
  have HF := Lib.hid hF
  have CS := Lib.hid (l_shown5 w hT hF)
  clear hT hF
  go_enter Tryd.func7, Tryd.ntmps7
  go_upto_region 2 with (go_at_call 8; refine CS.out.mono ?_; rintro e w1 ⟨rfl, g1⟩; have G1 := Lib.hid g1; clear g1)
  clear CS
  have KA : RowKit.Hid (Own w (w1.alloc (.cells #[.int .u32 268480943, .int .u32 407974447, .int .u32 407974703] 47)) (Star (blkA w1.heap.size (.cells rsW 47)) emp)) := Lib.hid ((Own.start G1.out).alloc stable_emp (.cells rsW 47))
  have SA := Lib.hid (stable_star (stable_blk w1.heap.size (.cells rsW 47)) stable_emp)
  have CM := Lib.hid (c_made5 (w1.alloc (.cells #[.int .u32 268480943, .int .u32 407974447, .int .u32 407974703] 47)) none none (some ⟨w1.heap.size, 0, none⟩) 0 0 0 0 3 3 0 0 0 0 w1.heap.size 0 rsC rsC rsC HZ (by decide) (by decide) (by decide) (fun h => absurd h (by decide)) (fun i h => absurd h (by omega)) (fun h => absurd h (by decide)) (fun i h => absurd h (by omega)) (fun _ => ⟨rfl, blk_lt KA.out.blk⟩) (fun i hi => by
    have h3 := KA.out.blk
    rcases (by omega : i = 0 ∨ i = 1 ∨ i = 2) with rfl | rfl | rfl
    · exact ⟨⟨by decide, by decide⟩, blk_cell h3 0 rfl⟩
    · exact ⟨⟨by decide, by decide⟩, blk_cell h3 1 rfl⟩
    · exact ⟨⟨by decide, by decide⟩, blk_cell h3 2 rfl⟩))
  have eS : wrdS (codS rsC (min 3 64)) rsC rsC (min 0 0) = rsS := rfl
  rw [eS] at CM
  clear eS
  go_upto_region 3 with (first
    | (refine wpList_build1 rfl _ _ _ rfl _ rfl _ (built_world _ _ _) ?_)
    | (go_at_call 9; refine CM.out.mono ?_; rintro e w3 ⟨b, rb, rfl, h2⟩; have K2 := Lib.hid ((KA.out.under SA.out h2).mono (fun F h => star_assoc h)); clear h2))
  clear CM KA
  obtain ⟨R0, hR0⟩ : ∃ R0, Star (Star (rmA rb 8 rsS) emp) (Star (blkA w1.heap.size (.cells rsW 47)) emp) = R0 := ⟨_, rfl⟩
  have SR : RowKit.Hid (Stable R0) := Lib.hid (by rw [← hR0]; exact stable_star (stable_star (stable_rm rb 8 rsS) stable_emp) SA.out)
  have K3 : RowKit.Hid (Own w w3 (Star (memA b 8 rsS) R0)) := Lib.hid (by rw [← hR0]; exact K2.out)
  clear K2 SA hR0
  go_upto_region 4 with (first
    | (refine wpList_build0r rfl 26 rfl _ built_hart0 ?_)
    | (refine wpList_store_row rfl 26 _ _ rfl _ _ rfl rfl 26 _ (blk_new _ _) (hC_info _) rfl (hC_all1 _) ?_; generalize hW : (World.setRow _ _ _) = w4; have K4 := Lib.hid (own_h1 (c1 := hC HZ) hW K3.out (stable_star (stable_mem b 8 rsS) SR.out)); clear hW; generalize w3.heap.size = hb at *))
  clear K3
  have SM := Lib.hid (stable_star (stable_mem b 8 rsS) SR.out)
  have e1 : IntKind.u64.wrap ((A : Int) * 8) = (A : Int) * 8 := by rw [IntKind.wrap_u64]; omega
  have e2 : IntKind.u64.wrap (256 + (A : Int) * 8) = 256 + (A : Int) * 8 := by rw [IntKind.wrap_u64]; omega
  have e3 : IntKind.u64.wrap ((B : Int) * 8) = (B : Int) * 8 := by rw [IntKind.wrap_u64]; omega
  have e4 : IntKind.u64.wrap (256 + (B : Int) * 8) = 256 + (B : Int) * 8 := by rw [IntKind.wrap_u64]; omega
  have c1 := blk_cell K4.out.blk 1 (hC_x HZ 1 (by decide))
  have f1 := blk_frozen K4.out.blk 1
  have c2 := blk_cell K4.out.blk 2 (hC_x HZ 2 (by decide))
  have f2 := blk_frozen K4.out.blk 2
  have c5 := blk_cell K4.out.blk 5 (hC_x HZ 5 (by decide))
  have f5 := blk_frozen K4.out.blk 5
  have k5 := K4.out.set SM.out 1 (.int .u64 (256 + (A : Int) * 8))
  rw [hC_setx HZ _ 1 (by decide)] at k5
  have k6 := k5.set SM.out 2 (.int .u64 (256 + (B : Int) * 8))
  rw [hC_setx _ _ 2 (by decide)] at k6
  have k7 := k6.set SM.out 5 (.int .u64 v)
  rw [hC_setx _ _ 5 (by decide), rs_h] at k7
  have K7 := Lib.hid k7.swap2
  clear k5 k6 k7 K4
  go_upto_region 7 with fail
  generalize World.setCell (World.setCell (World.setCell w4 _ _) _ _) _ _ = w7 at *
  clear c1 f1 c2 f2 c5 f5 SM
  rw [hA, hB]
  obtain ⟨HH, hHH⟩ : ∃ q, rsH A B v = q := ⟨_, rfl⟩
  rw [hHH] at K7 RS OK
  clear hHH
  go_wp2_with fail
  go_loopg [11] 4 (fun t v11 wr => ∃ k : Nat, k ≤ 3 ∧ t = 4 - k ∧ v11 = .int .i64 (k : Int) ∧ Own w wr (Star (memA b 8 (seqF rsS HH k).s) (Star (blkA hb (.cells (hC (seqF rsS HH k).H) 26)) R0)))
  case atStart => exact ⟨0, by decide, by decide, rfl, K7.out⟩
  case round =>
    clear K7
    obtain ⟨k, hk, rfl, rfl, ho⟩ := hrel
    have KE := Lib.hid ho
    clear ho
    have OKH := Lib.hid (seq_ok rsS OK.out k)
    have SH := Lib.hid (stable_star (stable_blk hb (.cells (hC (seqF rsS HH k).H) 26)) SR.out)
    by_cases h3 : k < 3
    · have d1 : (k : Int) < 3 := by omega
      have e5 : IntKind.i64.wrap ((k : Int) + 1) = (k : Int) + 1 := by rw [IntKind.wrap_i64]; omega
      have hk0 := RS.out.1 k h3
      obtain ⟨S, hS⟩ : ∃ S, seqF rsS HH (k + 1) = S := ⟨_, rfl⟩
      have hS2 : stepF 8 (seqF rsS HH k).s 0 (seqF rsS HH k).H = S := hS
      rw [hS] at hk0
      have HS := Lib.hid hS
      have C1 := Lib.hid (o_step5 KE.out SH.out HT.out HF.out _ OKH.out S hS2)
      clear hS hS2
      have I1 := Lib.hid KE.out.right.blk
      go_upto_region 11 with (first
        | (refine wpList_load_row rfl 26 _ rfl _ rfl 26 _ (0, 0) _ I1.out Tryd.underlying26 rfl (hC_info _) ?_)
        | (go_at_call 11; refine C1.out.mono ?_; rintro e w8 ⟨rfl, h8⟩; have K8 := Lib.hid h8; clear h8)
        | (refine wpList_store_row rfl 26 _ _ rfl _ _ rfl rfl 26 _ (blk_alloc _ (blk_new _ _)) (hC_info _) rfl (hC_all1 _) ?_; generalize hW : (World.setRow _ _ _) = wa; have Ka := Lib.hid (own_h2e (c1 := hC S.H) hW K8.out (stable_star (stable_mem b 8 S.s) SH.out)); clear hW; generalize w8.heap.size + 1 = e1 at *; generalize w8.heap.size = h1 at *)
        | (refine wpList_store_row rfl 39 _ _ rfl _ _ rfl rfl 39 _ Ka.out.blk (evC_info _) rfl (evC_all1 _) ?_; have Kb := Lib.hid (Ka.out.setRow (stable_star (stable_blk h1 (.cells (hC S.H) 26)) (stable_star (stable_mem b 8 S.s) SH.out)) (evC S.e)); generalize (World.setRow _ _ _) = w9 at *))
      have K9 := Lib.hid (own_turn Kb.out)
      clear Ka Kb C1 K8 I1
      have y0 := blk_cell K9.out.right.right.blk 0 (v := .int .i64 0) (by rw [← hk0]; rfl)
      have KH := Lib.hid (K9.out.mono (fun F h => st4 h))
      have SHS := Lib.hid (stable_star (stable_mem b 8 S.s) (stable_star (stable_blk h1 (.cells (hC S.H) 26)) (stable_star (stable_blk e1 (.cells (evC S.e) 39)) SR.out)))
      have I7 := Lib.hid K9.out.right.blk
      clear hk0
      go_wp2_with (first
        | (refine wpList_load_row rfl 26 _ rfl _ rfl 26 _ (0, 0) _ I7.out Tryd.underlying26 rfl (hC_info _) ?_)
        | (refine wpList_store_row rfl 26 _ _ rfl _ _ rfl rfl 26 _ KH.out.blk (hC_info _) rfl (hC_all1 _) ?_))
      go_roundg (4 - (k + 1))
      case measure => omega
      case rel => exact ⟨k + 1, by omega, by omega, by go_num, by rw [HS.out]; exact (((KH.out.setRow SHS.out (hC S.H)).mono (fun F h => star_mono_r (fun F h => star_drop2 (star_drop2 h)) h)).swap2)⟩
    · obtain rfl : k = 3 := by omega
      obtain ⟨r4, r6, rh, rl⟩ := RS.out.2
      obtain ⟨S, hS⟩ : ∃ S, seqF rsS HH 3 = S := ⟨_, rfl⟩
      rw [hS] at KE SH r4 r6 rh rl
      obtain ⟨q, hq⟩ : ∃ q, loadR S.s (1024 + (B : Int) * 8) 8 = q := ⟨_, rfl⟩
      have e7 : IntKind.u64.wrap (1024 + (B : Int) * 8) = 1024 + (B : Int) * 8 := by rw [IntKind.wrap_u64]; omega
      have rl2 : loadV S.s (1024 + (B : Int) * 8) 8 = (if A = B then v else 0) := by rw [Int.mul_comm (B : Int) 8]; exact rl
      have CL := Lib.hid (o_mload KE.out SH.out (1024 + (B : Int) * 8) 8 _ q ⟨by omega, by omega⟩ rl2 hq)
      have X4 := Lib.hid r4
      have X6 := Lib.hid r6
      have XH := Lib.hid rh
      clear RS OKH r4 r6 rh rl rl2 hq hS
      by_cases hAB : A = B
      · subst hAB
        rw [if_pos rfl] at CL X4
        go_wp2_with (go_at_call 13; refine CL.out.mono ?_; rintro e w8 ⟨rfl, h8⟩; have K8 := Lib.hid h8; have x4 := blk_cell h8.right.blk 4 (v := .int .u64 0) (by rw [← X4.out]; exact hC_x S.H 4 (by decide)); have x6 := blk_cell h8.right.blk 6 (v := .int .u64 1) (by rw [← X6.out]; exact hC_x S.H 6 (by decide)); have xh := blk_cell h8.right.blk 33 (v := .bool false) (by rw [← XH.out]; rfl); clear h8)
        go_ret
        exact ⟨rfl, K8.out.sub⟩
      · rw [if_neg hAB] at CL X4
        have d2 : ((A : Int) == (B : Int)) = false := by simpa using fun h => hAB (by omega)
        clear hAB
        go_wp2_with (go_at_call 13; refine CL.out.mono ?_; rintro e w8 ⟨rfl, h8⟩; have K8 := Lib.hid h8; have x4 := blk_cell h8.right.blk 4 (v := .int .u64 1) (by rw [← X4.out]; exact hC_x S.H 4 (by decide)); have x6 := blk_cell h8.right.blk 6 (v := .int .u64 1) (by rw [← X6.out]; exact hC_x S.H 6 (by decide)); have xh := blk_cell h8.right.blk 33 (v := .bool false) (by rw [← XH.out]; rfl); clear h8)
        go_ret
        exact ⟨rfl, K8.out.sub⟩
end Go.Proofs.YtngeabphjdfdgaaDoor.P
