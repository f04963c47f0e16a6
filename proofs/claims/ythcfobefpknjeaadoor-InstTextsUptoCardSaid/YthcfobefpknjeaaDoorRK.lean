/- Stage 2: the document's Parse, whatever text. No condition but the text's length. -/
import Derived.Test.YthcfobefpknjeaaDoorRL
import Derived.Deep.RegionWith
import Derived.Deep.RegionHeld3
import Derived.Deep.Cut
import Derived.Deep.CutRange
import Derived.Deep.LoopGhost
set_option linter.unusedVariables false
set_option linter.unusedSimpArgs false
set_option maxRecDepth 100000
namespace Go.Proofs.YthcfobefpknjeaaDoor.P
open Go.RowKit
set_option maxHeartbeats 6400000 in
theorem r_parse (l : List UInt8) (hl : l.length ≤ 1048576) (w : World) : Calls Tryd.prog 20 #[.string (bL l)] w fun e w' => e = .returned (.tuple #[(parX (bL l)).v, .int .i64 (parE (bL l))]) ∧ Gr w w' := by
  have CP : Hid (∀ w1, Calls Tryd.prog 42 #[.string (bL l)] w1 fun e w' => ∃ o c, e = .returned (.slice o (toks l []).length c) ∧ w'.ownsRow w1.heap.size 9 1 (.slice o (toks l []).length c) (toks l []).length (strsL (toks l [])) ∧ Gr w1 w') := Lib.hid (fun w1 => by have := r_parts l hl w1; rw [parts_toks] at this; exact this)
  have CN := Lib.hid (fun x w1 => r_numeral x w1)
  have HB : Hid ((toks l []).length = 0 ∨ 4 < (toks l []).length → parB (bL l) = false) := Lib.hid par_bad
  obtain ⟨T, hT⟩ : ∃ T, T = toks l [] := ⟨_, rfl⟩
  rw [← hT] at CP HB
  have HT := Lib.hid hT
  clear hT
  go_enter Tryd.func20, Tryd.ntmps20
  go_upto_region 1 with fail
  have hB := blk_new w (.cells #[.int .i64 0, .int .i64 0, .int .i64 0, .int .i64 0, .int .i64 0] 23)
  have hG : Gr w (w.alloc (.cells #[.int .i64 0, .int .i64 0, .int .i64 0, .int .i64 0, .int .i64 0] 23)) := (Gr.refl w).alloc (Nat.le_refl _) _
  generalize w.alloc (.cells #[.int .i64 0, .int .i64 0, .int .i64 0, .int .i64 0, .int .i64 0] 23) = wb at *
  obtain ⟨B, hBB⟩ : ∃ B, B = w.heap.size := ⟨_, rfl⟩
  rw [← hBB] at hB
  go_upto_region 2 with (go_at_call 42; refine (CP.out _).mono ?_; rintro e w1 ⟨o, c, rfl, hown, hg⟩)
  rw [← hBB]
  have h1 := blk_gr hg hB
  have hlB := blk_lt hB
  have G1 := Lib.hid (gtrans hG hg)
  have HO := Lib.hid hown
  have HBB := Lib.hid hBB
  have HLB := Lib.hid hlB
  clear hown hg hB hG hlB
  by_cases hbad : T.length = 0 ∨ 4 < T.length
  · have hb := Lib.hid (par_no (HB.out hbad))
    have y0 := blk_cell h1 0 rfl
    have y1 := blk_cell h1 1 rfl
    have y2 := blk_cell h1 2 rfl
    have y3 := blk_cell h1 3 rfl
    have y4 := blk_cell h1 4 rfl
    have z0 := blk_frozen h1 0
    have z1 := blk_frozen h1 1
    have z2 := blk_frozen h1 2
    have z3 := blk_frozen h1 3
    have z4 := blk_frozen h1 4
    clear hBB
    generalize T.length = n at *
    rcases hbad with rfl | hbad
    · go_wp2_with fail
      obtain ⟨hz, gz⟩ := set5 HBB.out h1 G1.out (.int .i64 0) (.int .i64 0) (.int .i64 0) (.int .i64 0) (.int .i64 0)
      refine bodyPost_ret (v := .tuple #[iv 0 0 0 0 0, .int .i64 2]) ?_ rfl ⟨by rw [hb.out.1, hb.out.2]; rfl, gz⟩
      have y0 := blk_cell hz 0 (v := .int .i64 0) rfl
      have y1 := blk_cell hz 1 (v := .int .i64 0) rfl
      have y2 := blk_cell hz 2 (v := .int .i64 0) rfl
      have y3 := blk_cell hz 3 (v := .int .i64 0) rfl
      have y4 := blk_cell hz 4 (v := .int .i64 0) rfl
      generalize (World.setCell _ ⟨B, 4, none⟩ _) = wz at *
      simp [results, Tryd.results20, go_sem, y0, y1, y2, y3, y4]
    · go_wp2_with fail
      obtain ⟨hz, gz⟩ := set5 HBB.out h1 G1.out (.int .i64 0) (.int .i64 0) (.int .i64 0) (.int .i64 0) (.int .i64 0)
      refine bodyPost_ret (v := .tuple #[iv 0 0 0 0 0, .int .i64 2]) ?_ rfl ⟨by rw [hb.out.1, hb.out.2]; rfl, gz⟩
      have y0 := blk_cell hz 0 (v := .int .i64 0) rfl
      have y1 := blk_cell hz 1 (v := .int .i64 0) rfl
      have y2 := blk_cell hz 2 (v := .int .i64 0) rfl
      have y3 := blk_cell hz 3 (v := .int .i64 0) rfl
      have y4 := blk_cell hz 4 (v := .int .i64 0) rfl
      generalize (World.setCell _ ⟨B, 4, none⟩ _) = wz at *
      simp [results, Tryd.results20, go_sem, y0, y1, y2, y3, y4]
  · clear hBB
    have hn1 : 1 ≤ T.length := by omega
    have hn4 : T.length ≤ 4 := by omega
    clear hbad
    obtain ⟨g, hrow⟩ : ∃ g, o = some ⟨g, 0, none⟩ := by
      rcases Joins.ownsRow_forms HO.out with ⟨h, h0⟩ | ⟨g, cap, h⟩
      · omega
      · injection h with h _; exact ⟨g, h⟩
    subst hrow
    have CE : Hid (∀ j, j < T.length → ∃ x, T[j]? = some x ∧ w1.cell? ⟨g, j, none⟩ = some (.string (bL x))) := Lib.hid (fun j hj => by
      refine ⟨T[j], List.getElem?_eq_getElem hj, ?_⟩
      rw [World.ownsRow.cellAt HO.out j (by omega)]
      unfold strsL
      rw [List.getElem?_map, List.getElem?_eq_getElem hj]
      rfl)
    have FE : Hid (∀ j, w1.frozen? ⟨g, j, none⟩ = false) := Lib.hid (fun j => World.ownsRow.frozenAt HO.out j)
    have hgl := Lib.hid (World.ownsRow.lt HO.out g rfl).2
    have Y1 := Lib.hid h1
    clear h1 HO CP
    obtain ⟨n, hn⟩ : ∃ n, T.length = n := ⟨_, rfl⟩
    have HN := Lib.hid hn
    simp only [hn] at CE hn1 hn4 ⊢
    clear hn HB
    have d0 : ((n : Int) == 0) = false := by simp; omega
    have d4 : ¬ (4 : Int) < n := by omega
    go_upto_region 5 with fail
    have hN := blk_new w1 (.cells #[.int .i64 0, .int .i64 0, .int .i64 0] 2)
    have hGN : Gr w1 (w1.alloc (.cells #[.int .i64 0, .int .i64 0, .int .i64 0] 2)) := (Gr.refl w1).alloc (Nat.le_refl _) _
    generalize w1.alloc (.cells #[.int .i64 0, .int .i64 0, .int .i64 0] 2) = wn at *
    obtain ⟨N, hNN⟩ : ∃ N, N = w1.heap.size := ⟨_, rfl⟩
    rw [← hNN] at hN
    simp only [← hNN]
    have HNN := Lib.hid hNN
    have GN := Lib.hid hGN
    have QN := Lib.hid hN
    clear hNN hGN hN
    go_wp2_with fail
    go_loopg [6] n (fun k v6 wr => ∃ (j : Nat) (cs : Array Value), j + 1 ≤ n ∧ k = n - j ∧ v6 = .int .i64 (j + 1 : Int) ∧ Gr w1 wr ∧ wr.heap[N]? = some (.cells cs 2) ∧ cs.size = 3 ∧ (∀ i, i < 3 → cs[i]? = some (.int .i64 (if i < j then nV T i else 0))))
    case atStart => exact ⟨0, _, hn1, rfl, rfl, GN.out, QN.out, rfl, by intro i hi; rcases (by omega : i = 0 ∨ i = 1 ∨ i = 2) with h | h | h <;> subst h <;> rfl⟩
    case round =>
      obtain ⟨j, cs, hj, rfl, rfl, hg, hc, hz, hv⟩ := hrel
      by_cases hlt : j + 1 < n
      · obtain ⟨x, hx, hcx⟩ := CE.out (j + 1) hlt
        have hcx2 : wr.cell? ⟨g, j + 1, none⟩ = some (.string (bL x)) := (World.cell?_of_block (hg.block g hgl.out)).trans hcx
        have hcN := blk_cell hc j (hv j (by omega))
        have hfN := blk_frozen hc j
        have e1 : (j : Int) + 1 - 1 = j := by omega
        have e2 : ((j : Int) + 1).toNat = j + 1 := by omega
        have hlt2 : (j : Int) + 1 < n := by omega
        have hj3 : (j : Int) < 3 := by omega
        go_wp2_with (go_at_call 43; refine (CN.out x _).mono ?_; rintro e w2 ⟨rfl, rfl⟩)
        go_roundg (n - (j + 1))
        case measure => omega
        case rel =>
          refine ⟨j + 1, _, by omega, rfl, by go_num, ?_, blk_set hc j _, by rw [Array.size_setIfInBounds]; exact hz, ?_⟩
          · exact gset hg (by show w1.heap.size ≤ N; rw [HNN.out]; exact Nat.le_refl _) _
          · intro i hi
            rw [Array.getElem?_setIfInBounds]
            by_cases e : j = i
            · subst e
              rw [if_pos rfl, if_pos (by omega), if_pos (by omega)]
              have : nV T j = numL x := by unfold nV; rw [hx]
              rw [this]
              rfl
            · rw [if_neg e, hv i hi]
              by_cases h : i < j
              · rw [if_pos h, if_pos (by omega)]
              · rw [if_neg h, if_neg (by omega)]
      · have hjn : j + 1 = n := by omega
        have hv2 : ∀ i, i < 3 → cs[i]? = some (.int .i64 (nV T i)) := by
          intro i hi
          rw [hv i hi]
          by_cases h : i < j
          · rw [if_pos h]
          · rw [if_neg h]
            have hno : T[i + 1]? = none := List.getElem?_eq_none (by have := HN.out; omega)
            have : nV T i = 0 := by unfold nV; rw [hno]
            rw [this]
        have c0 := blk_cell hc 0 (hv2 0 (by decide))
        have c1 := blk_cell hc 1 (hv2 1 (by decide))
        have c2 := blk_cell hc 2 (hv2 2 (by decide))
        have hlt2 : ¬ (j : Int) + 1 < n := by omega
        have HY := Lib.hid (blk_gr hg Y1.out)
        have HG := Lib.hid (gtrans G1.out hg)
        have A0 := Lib.hid (hv2 0 (by decide))
        have A1 := Lib.hid (hv2 1 (by decide))
        have A2 := Lib.hid (hv2 2 (by decide))
        have HC := Lib.hid hc
        have PB : Hid ((∀ (k : Nat), 1 ≤ k → k < 88 → ∀ x ∈ candL k (nV T 0) (nV T 1) (nV T 2), hasT (bL l) x = false) → parB (bL l) = false) := Lib.hid (fun h => by have e := HT.out; subst e; exact par_none h)
        have b0 := nV_in T 0
        have b1 := nV_in T 1
        have b2 := nV_in T 2
        clear hv hv2 hz hg Y1 G1 GN QN CE FE hgl HN d0 d4 CN HT
        generalize nV T 0 = p at *
        generalize nV T 1 = q at *
        generalize nV T 2 = r at *
        go_wp2_with fail
        clear hc c0 c1 c2 hlt2 hlt hjn hj
        obtain ⟨w3, rfl⟩ : ∃ w3, w3 = wr := ⟨_, rfl⟩
        go_loopg [10] 88 (fun m v10 wr => ∃ (k : Nat), 1 ≤ k ∧ k ≤ 88 ∧ m = 89 - k ∧ v10 = .int .i64 (k : Int) ∧ Gr w3 wr ∧ (∀ (k' : Nat), 1 ≤ k' → k' < k → ∀ x ∈ candL k' p q r, hasT (bL l) x = false))
        case atStart => exact ⟨1, by decide, by decide, rfl, rfl, Gr.refl _, fun k' h1 h2 => by omega⟩
        case round =>
          obtain ⟨k, hk1, hk88, rfl, rfl, hg, hno⟩ := hrel
          have hcN := blk_gr hg HC.out
          have c0 := blk_cell hcN 0 A0.out
          have c1 := blk_cell hcN 1 A1.out
          have c2 := blk_cell hcN 2 A2.out
          have NO := Lib.hid hno
          have HG3 := Lib.hid hg
          have HY3 := Lib.hid (blk_gr hg HY.out)
          have HN3 := Lib.hid hcN
          clear hno hg hcN
          by_cases hlt : k < 88
          · have hlt2 : (k : Int) ≤ 87 := by omega
            go_upto_region 16 with fail
            go_cut [11] from 52 to 140 (fun s11 wx => ∃ g : Nat, s11 = .slice (some ⟨g, 0, none⟩) 7 7 ∧ wx.ownsRow wr.heap.size 23 5 (.slice (some ⟨g, 0, none⟩) 7 7) 7 (flatI (candM (k : Int) p q r 0)) ∧ Gr wr wx)
            case first =>
              have t0 : Gr wr wr := Gr.refl _
              have t0d : Gr wr wr.drew := Gr.drewN t0 1
              go_region_held3 (fun w' => (w'.cell? ⟨N, 1, none⟩ = some (.int .i64 q) ∧ w'.cell? ⟨N, 2, none⟩ = some (.int .i64 r)) ∧ Gr wr w') ((refine ⟨⟨?_, ?_⟩, ?_⟩ <;> first | assumption | exact cell_drew6 (by assumption) | exact Gr.drewN (by assumption) 1 | exact gr_al (by assumption) _ | (have := cell_lt (by assumption); go_keep))) (fail)
              all_goals
                go_wp2_with fail
                go_meet
                exact ⟨_, rfl, ⟨rfl, .inr ⟨_, 7, _, rfl, Nat.le_refl _, blk_new _ _, Nat.le_refl _, by decide, rfl, rfl⟩⟩, Gr.drewN (gr_al t0 _) 1⟩
            case rest =>
              obtain ⟨g, rfl, hown, hgx⟩ := hcut
              obtain ⟨wq, rfl⟩ : ∃ wq, wq = wr := ⟨_, rfl⟩
              have HO := Lib.hid hown
              have HX := Lib.hid hgx
              clear hown hgx
              have IN : Hid (∃ i, Tryd.prog.info? 23 = some i ∧ i.zero = some (.agg #[.int .i64 0, .int .i64 0, .int .i64 0, .int .i64 0, .int .i64 0]) ∧ i.size = 5 ∧ i.bytes = 40) := Lib.hid (info_parts instInfo5)
              obtain ⟨i5, hi5, hz5, hs5, hb5⟩ := IN.out
              go_wp2_with fail
              go_loopg [11, 12] 5 (fun t v11 v12 w4 => ∃ (m g c : Nat), m ≤ 4 ∧ t = 5 - m ∧ v11 = .slice (some ⟨g, 0, none⟩) (7 + 2 * m) c ∧ v12 = .int .i64 (m : Int) ∧ w4.ownsRow wq.heap.size 23 5 (.slice (some ⟨g, 0, none⟩) (7 + 2 * m) c) (7 + 2 * m) (flatI (candM (k : Int) p q r m)) ∧ Gr wq w4)
              case atStart => exact ⟨0, g, 7, by decide, rfl, rfl, rfl, HO.out, HX.out⟩
              case round =>
                clear HO HX
                obtain ⟨m, g4, c4, hm, rfl, rfl, rfl, hown, hg4⟩ := hrel
                have HO4 := Lib.hid hown
                have HG4 := Lib.hid hg4
                clear hown hg4
                by_cases h4 : m < 4
                · have d4 : (m : Int) < 4 := by omega
                  have e1 : flatI (candM (k : Int) p q r (m + 1)) = flatI (candM (k : Int) p q r m) ++ [.int .i64 (k : Int), .int .i64 p, .int .i64 r, .int .i64 q, .int .i64 (m : Int), .int .i64 (k : Int), .int .i64 p, .int .i64 q, .int .i64 0, .int .i64 (m : Int)] := by rw [candM, flatI_app]; rfl
                  have E1 := Lib.hid e1
                  clear e1
                  generalize flatI (candM (k : Int) p q r m) = xs at *
                  go_wp2_with (at_builtin; refine wpList_append_own _ rfl _ _ 75 rfl wq.heap.size 23 i5 _ 5 40 Tryd.underlying75 hi5 hz5 hs5 hb5 rfl (by decide) (.slice (some ⟨g4, 0, none⟩) (7 + 2 * m) c4) (7 + 2 * m) xs rfl (HO4.out.alloc _) ⟨_, 0, none⟩ 2 2 [.int .i64 (k : Int), .int .i64 p, .int .i64 r, .int .i64 q, .int .i64 (m : Int), .int .i64 (k : Int), .int .i64 p, .int .i64 q, .int .i64 0, .int .i64 (m : Int)] rfl rfl (World.news_of_block (cs := #[.int .i64 (k : Int), .int .i64 p, .int .i64 r, .int .i64 q, .int .i64 (m : Int), .int .i64 (k : Int), .int .i64 p, .int .i64 q, .int .i64 0, .int .i64 (m : Int)]) (blk_new _ _)) (by simp [Value.oneCell']) (by unfold maxLen; omega) (by omega) (by have := HG4.out.size; rw [World.size_alloc]; omega) ?_; intro v' w5 hown' hgrow hnil; obtain ⟨g5, c5, rfl⟩ : ∃ g5 c5, v' = .slice (some ⟨g5, 0, none⟩) (7 + 2 * m + 2) c5 := (by rcases Joins.ownsRow_forms hown' with ⟨_, h⟩ | h; (exact absurd h (by omega)); exact h); have HO5 := Lib.hid hown'; have HG5 := Lib.hid hgrow; clear hown' hgrow hnil)
                  go_roundg (5 - (m + 1))
                  case measure => omega
                  case rel =>
                    have e2 : 7 + 2 * m + 2 = 7 + 2 * (m + 1) := by omega
                    refine ⟨m + 1, g5, c5, by omega, by omega, by rw [← e2], by go_num, by rw [E1.out, ← e2]; exact HO5.out, ?_⟩
                    have hb := HG4.out.alloc HG4.out.size (.cells #[.int .i64 (k : Int), .int .i64 p, .int .i64 r, .int .i64 q, .int .i64 (m : Int), .int .i64 (k : Int), .int .i64 p, .int .i64 q, .int .i64 0, .int .i64 (m : Int)] 23)
                    exact Below.grown hb HG5.out hb.size (fun q e => (HO4.out.lt q e).1)
                · obtain rfl : m = 4 := by omega
                  obtain ⟨w4, rfl⟩ : ∃ w4, w4 = wr := ⟨_, rfl⟩
                  have HO15 : Hid (w4.ownsRow wq.heap.size 23 5 (.slice (some ⟨g4, 0, none⟩) 15 c4) 15 (flatI (candL (k : Int) p q r))) := Lib.hid (by have := HO4.out; rw [candM_4] at this; exact this)
                  have CF : Hid (∀ (i : Nat) (x : Ins), (candL (k : Int) p q r)[i]? = some x → ∀ (j : Nat) (u : Value), j < 5 → (insC x)[j]? = some u → w4.cell? ⟨g4, i * 5 + j, none⟩ = some u) := Lib.hid (fun i x hx j u hj hu => by
                    have hi : i < 15 := by
                      rcases Nat.lt_or_ge i 15 with h | h
                      · exact h
                      · rw [List.getElem?_eq_none (by rw [candL_len]; exact h)] at hx; cases hx
                    rw [World.ownsRow.cellAt HO15.out (i * 5 + j) (by omega), flatI_at _ i j x hx hj]
                    exact hu)
                  simp only [Nat.reduceMul, Nat.reduceAdd]
                  clear HO4 HO15
                  go_wp2_with fail
                  go_loopg [13] 16 (fun t v13 w6 => ∃ i : Nat, i ≤ 15 ∧ t = 16 - i ∧ v13 = .int .i64 (i : Int) ∧ Gr w4 w6 ∧ ∀ i', i' < i → ∀ x, (candL (k : Int) p q r)[i']? = some x → hasT (bL l) x = false)
                  case atStart => exact ⟨0, by decide, rfl, rfl, Gr.refl _, fun _ h => absurd h (by omega)⟩
                  case round =>
                    obtain ⟨i, hi, rfl, rfl, hg6, hno⟩ := hrel
                    obtain ⟨w6, rfl⟩ : ∃ w6, w6 = wr := ⟨_, rfl⟩
                    have HG6 := Lib.hid hg6
                    have NO6 := Lib.hid hno
                    clear hg6 hno
                    by_cases h15 : i < 15
                    · have l15 : (i : Int) < 15 := by omega
                      obtain ⟨x, hx⟩ : ∃ x, (candL (k : Int) p q r)[i]? = some x := ⟨_, List.getElem?_eq_getElem (by rw [candL_len]; exact h15)⟩
                      have hxi := candL_i (List.mem_of_getElem? hx) ⟨by omega, by omega⟩ ⟨by omega, by omega⟩
                      have y0 : w6.cell? ⟨g4, i * 5, none⟩ = some (.int .i64 x.op) := kcell HG6.out (CF.out i x hx 0 _ (by decide) rfl)
                      have y1 : w6.cell? ⟨g4, i * 5 + 1, none⟩ = some (.int .i64 x.rd) := kcell HG6.out (CF.out i x hx 1 _ (by decide) rfl)
                      have y2 : w6.cell? ⟨g4, i * 5 + 2, none⟩ = some (.int .i64 x.a) := kcell HG6.out (CF.out i x hx 2 _ (by decide) rfl)
                      have y3 : w6.cell? ⟨g4, i * 5 + 3, none⟩ = some (.int .i64 x.b) := kcell HG6.out (CF.out i x hx 3 _ (by decide) rfl)
                      have y4 : w6.cell? ⟨g4, i * 5 + 4, none⟩ = some (.int .i64 x.i) := kcell HG6.out (CF.out i x hx 4 _ (by decide) rfl)
                      have HX := Lib.hid hx
                      clear hx
                      cases hT : hasT (bL l) x with
                      | true =>
                        have fi := Lib.hid (found_is hT hxi)
                        have CT : Hid (∀ w', Calls Tryd.prog 18 #[iv x.op x.rd x.a x.b x.i] w' fun e w'' => e = .returned (.tuple #[.string (bL l), .int .i64 0]) ∧ Gr w' w'') := Lib.hid (fun w' => by
                          have := r_text x.op x.rd x.a x.b x.i hxi w'
                          rw [(has_yes2 hT).1, (has_yes2 hT).2] at this
                          exact this)
                        have te : ((bL l).toList == (bL l).toList) = true := beq_self_eq_true _
                        have HB6 := Lib.hid (blk_gr HG6.out (blk_gr HG4.out HY3.out))
                        have GW6 := Lib.hid (gtrans HG.out (gtrans HG3.out (gtrans HG4.out HG6.out)))
                        clear hT
                        obtain ⟨xo, xd, xa, xb, xi⟩ := x
                        simp only at y0 y1 y2 y3 y4 CT
                        go_wp2_with (go_at_call 18; refine (CT.out _).mono ?_; rintro e w7 ⟨rfl, g7⟩; have z0 := kcell g7 y0; have z1 := kcell g7 y1; have z2 := kcell g7 y2; have z3 := kcell g7 y3; have z4 := kcell g7 y4; have HB7 := Lib.hid (blk_gr g7 HB6.out); have GW7 := Lib.hid (gtrans GW6.out g7); have q0 := blk_cell HB7.out 0 (v := .int .i64 0) rfl; have q1 := blk_cell HB7.out 1 (v := .int .i64 0) rfl; have q2 := blk_cell HB7.out 2 (v := .int .i64 0) rfl; have q3 := blk_cell HB7.out 3 (v := .int .i64 0) rfl; have q4 := blk_cell HB7.out 4 (v := .int .i64 0) rfl; have t0 := blk_frozen HB7.out 0; have t1 := blk_frozen HB7.out 1; have t2 := blk_frozen HB7.out 2; have t3 := blk_frozen HB7.out 3; have t4 := blk_frozen HB7.out 4; clear g7)
                        obtain ⟨hz, gz⟩ := set5 HBB.out HB7.out GW7.out (.int .i64 xo) (.int .i64 xd) (.int .i64 xa) (.int .i64 xb) (.int .i64 xi)
                        refine bodyPost_ret (v := .tuple #[iv xo xd xa xb xi, .int .i64 0]) ?_ rfl ⟨by rw [fi.out.1, fi.out.2]; rfl, gz⟩
                        have y0 := blk_cell hz 0 (v := .int .i64 xo) rfl
                        have y1 := blk_cell hz 1 (v := .int .i64 xd) rfl
                        have y2 := blk_cell hz 2 (v := .int .i64 xa) rfl
                        have y3 := blk_cell hz 3 (v := .int .i64 xb) rfl
                        have y4 := blk_cell hz 4 (v := .int .i64 xi) rfl
                        generalize (World.setCell _ ⟨B, 4, none⟩ _) = wz at *
                        simp [results, Tryd.results20, go_sem, y0, y1, y2, y3, y4]
                      | false =>
                        have CT := Lib.hid (fun w' => r_text x.op x.rd x.a x.b x.i hxi w')
                        have HT := Lib.hid hT
                        have hn := has_no hT
                        obtain ⟨E, hE⟩ : ∃ E, encE x.op x.rd x.a x.b x.i = E := ⟨_, rfl⟩
                        obtain ⟨S, hS⟩ : ∃ S, textV x.op x.rd x.a x.b x.i = S := ⟨_, rfl⟩
                        rw [hE, hS] at hn
                        simp only [hE, hS] at CT
                        have hc : (E == 0) = false ∨ ((E == 0) = true ∧ (S.toList == (bL l).toList) = false) := by
                          by_cases e0 : E = 0
                          · exact .inr ⟨by simpa using e0, tl_ne (hn e0)⟩
                          · exact .inl (by simpa using e0)
                        clear hE hS hn hT
                        rcases hc with hc | ⟨hc, hc2⟩
                        all_goals
                          go_wp2_with (go_at_call 18; refine (CT.out _).mono ?_; rintro e w7 ⟨rfl, g7⟩)
                          go_roundg (16 - (i + 1))
                          case measure => omega
                          case rel =>
                            refine ⟨i + 1, by omega, by omega, by go_num, gtrans HG6.out g7, fun i' hi' x' hx' => ?_⟩
                            rcases (by omega : i' < i ∨ i' = i) with h | h
                            · exact NO6.out i' h x' hx'
                            · subst h
                              rw [HX.out] at hx'
                              injection hx' with hx'
                              rw [← hx']
                              exact HT.out
                    · have l15 : ¬ (i : Int) < 15 := by omega
                      go_wp2_with fail
                      go_roundg (89 - (k + 1))
                      case measure => omega
                      case rel =>
                        refine ⟨k + 1, by omega, by omega, by omega, by go_num, gtrans HG3.out (gtrans HG4.out HG6.out), fun k' h1 h2 x hx => ?_⟩
                        rcases (by omega : k' < k ∨ k' = k) with h | h
                        · exact NO.out k' h1 h x hx
                        · subst h
                          obtain ⟨i', hi'⟩ := List.getElem?_of_mem hx
                          have : i' < 15 := by
                            rcases Nat.lt_or_ge i' 15 with h | h
                            · exact h
                            · rw [List.getElem?_eq_none (by rw [candL_len]; exact h)] at hi'; cases hi'
                          exact NO6.out i' (by omega) x hi'
          · have hlt2 : ¬ (k : Int) ≤ 87 := by omega
            have e := Lib.hid (par_no (PB.out (fun k' h1 h2 => NO.out k' h1 (by omega))))
            have q0 := blk_cell HY3.out 0 (v := .int .i64 0) rfl
            have q1 := blk_cell HY3.out 1 (v := .int .i64 0) rfl
            have q2 := blk_cell HY3.out 2 (v := .int .i64 0) rfl
            have q3 := blk_cell HY3.out 3 (v := .int .i64 0) rfl
            have q4 := blk_cell HY3.out 4 (v := .int .i64 0) rfl
            have t0 := blk_frozen HY3.out 0
            have t1 := blk_frozen HY3.out 1
            have t2 := blk_frozen HY3.out 2
            have t3 := blk_frozen HY3.out 3
            have t4 := blk_frozen HY3.out 4
            clear c0 c1 c2
            go_wp2_with fail
            obtain ⟨hz, gz⟩ := set5 HBB.out HY3.out (gtrans HG.out HG3.out) (.int .i64 0) (.int .i64 0) (.int .i64 0) (.int .i64 0) (.int .i64 0)
            refine bodyPost_ret (v := .tuple #[iv 0 0 0 0 0, .int .i64 2]) ?_ rfl ⟨by rw [e.out.1, e.out.2]; rfl, gz⟩
            have y0 := blk_cell hz 0 (v := .int .i64 0) rfl
            have y1 := blk_cell hz 1 (v := .int .i64 0) rfl
            have y2 := blk_cell hz 2 (v := .int .i64 0) rfl
            have y3 := blk_cell hz 3 (v := .int .i64 0) rfl
            have y4 := blk_cell hz 4 (v := .int .i64 0) rfl
            generalize (World.setCell _ ⟨B, 4, none⟩ _) = wz at *
            simp [results, Tryd.results20, go_sem, y0, y1, y2, y3, y4]
end Go.Proofs.YthcfobefpknjeaaDoor.P
