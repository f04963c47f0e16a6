/- Stage 8: the reference's reading of an inode. No condition. -/
import Derived.Test.YtlpcccpagmipnaaGreatYM
set_option linter.unusedVariables false
set_option linter.unusedSimpArgs false
set_option maxRecDepth 100000
namespace Go.Proofs.YtlpcccpagmipnaaGreat.P
open Go.RowKit Go.ChangeMaps Go.MapKept
theorem int_info8 : (Tryz.prog.info? 3).map (fun i => (i.zero, i.size, i.bytes)) = some (some (.int .i64 0), 1, 8) := by kernel_rfl
theorem nums_len8 (l : List Nat) : (nums l).length = l.length := by unfold nums; rw [List.length_map]
theorem nums_at8 {l : List Nat} {k : Nat} (h : k < l.length) : (nums l)[k]? = some (.int .i64 ((l.getD k 0 : Nat) : Int)) := by
  unfold nums
  rw [List.getElem?_map, List.getD_eq_getElem?_getD, List.getElem?_eq_getElem h]; rfl
theorem rown_at {w0 w : World} {R : Asn} {g n c : Nat} {l : List Nat} (h : Own w0 w (Star (rowA 3 1 (.slice (some ⟨g, 0, none⟩) n c) n (nums l)) R)) {k : Nat} (hk : k < l.length) : w.cell? ⟨g, k, none⟩ = some (.int .i64 ((l.getD k 0 : Nat) : Int)) := by
  have hl : l.length = n * 1 := by rw [← nums_len8]; exact h.row.1
  rw [World.ownsRow.cellAt h.row k (by omega)]
  exact nums_at8 hk
theorem rown_form {w0 w : World} {R : Asn} {o : Option Addr} {n c : Nat} {l : List Nat} (h : Own w0 w (Star (rowA 3 1 (.slice o n c) n (nums l)) R)) (hn : 0 < n) : ∃ g, o = some ⟨g, 0, none⟩ ∧ n ≤ c ∧ c ≤ maxLen := by
  rcases h.row.2 with ⟨h1, h2⟩ | ⟨g, cap, cur, h1, _, _, h2, h3, _⟩
  · omega
  · injection h1 with e1 e2 e3
    exact ⟨g, e1, by omega, by omega⟩
/-- The first ones of a row. -/
theorem rown_pre {w0 w : World} {R : Asn} {g n c m : Nat} {l : List Nat} (h : Own w0 w (Star (rowA 3 1 (.slice (some ⟨g, 0, none⟩) n c) n (nums l)) R)) (hm : m ≤ n) : Own w0 w (Star (rowA 3 1 (.slice (some ⟨g, 0, none⟩) m c) m (nums (l.take m))) R) := by
  have hl : l.length = n * 1 := by rw [← nums_len8]; exact h.row.1
  refine h.conv fun F hF => ?_
  obtain ⟨⟨h1, h2⟩, h3⟩ := hF
  rcases h2 with ⟨h4, _⟩ | ⟨g', cap, cur, h4, h5, h6, h7, h8, h9, h10⟩
  · cases h4
  · injection h4 with e1 e2 e3
    injection e1 with e1
    injection e1 with e1
    subst e1 e3
    refine ⟨⟨by rw [nums_len8, List.length_take]; omega, .inr ⟨g, c, cur, rfl, h5, h6, by omega, h8, h9, ?_⟩⟩, fun b hb => h3 b hb⟩
    have e : nums (l.take m) = (nums l).take m := by unfold nums; rw [List.map_take]
    rw [e, ← h10, List.take_take]
    congr 1
    omega
set_option maxHeartbeats 12800000 in
theorem c_node8b {w : World} {g b n : Nat} {H : Nat → ByteArray} (hh : HomeAt w g b n H) (h64 : ∀ i, i < n → (H i).size = 64) (hn : n ≤ 512) (cp : Nat) (s : ByteArray) (hs : s.size = 16) (h0 : ¬ byL s.data.toList 0 = 0) : Calls Tryz.prog 55 #[.slice (some ⟨g, b, none⟩) n cp, .string s] w (NodeP w (vH H) n (toF s.data.toList 0)) := by
  obtain ⟨ii, hi0, hz0, hz1, hz2⟩ := info_parts int_info8
  have hsl : s.data.toList.length = 16 := by rw [toL_size, hs]
  obtain ⟨x, hx⟩ : ∃ x, x = toF s.data.toList 0 := ⟨_, rfl⟩
  have e0 : byL s.data.toList 0 = x.kind := by rw [hx]; rfl
  have e1 : byL s.data.toList 1 = x.links := by rw [hx]; rfl
  have e2 : b2 s.data.toList 2 = x.size := by rw [hx]; rfl
  have e14 : b2 s.data.toList 14 = lastX x := by rw [hx]; rfl
  have e5 : toPl s.data.toList 0 5 = x.pl.take 5 := by rw [hx]; rfl
  have hk0 : x.kind ≠ 0 := by rw [← e0]; exact h0
  have hkd : x.kind < 256 := by rw [← e0]; exact byL_lt _ _
  have hlk : x.links < 256 := by rw [← e1]; exact byL_lt _ _
  have hp6 : x.pl.length = 6 := by rw [hx]; exact toPl_len _ _ _
  have hsz : x.size < 65536 := by rw [← e2]; unfold b2; have := byL_lt s.data.toList 2; have := byL_lt s.data.toList (2 + 1); omega
  have hla : lastX x < 65536 := by rw [← e14]; unfold b2; have := byL_lt s.data.toList 14; have := byL_lt s.data.toList (14 + 1); omega
  have HN : Hid (NodeOk (vH H) n x ↔ (okX n x ∧ ∀ k, k < (secsX (vH H) x).length → badS n (cntN x.size) k ((secsX (vH H) x).getD k 0) = false)) := Lib.hid (by
    unfold NodeOk
    constructor
    · rintro (⟨h, _⟩ | ⟨_, h⟩)
      · exact absurd h hk0
      · exact h
    · intro h; exact .inr ⟨hk0, h⟩)
  have HLEN := Lib.hid (secsX_len (vH H) hp6)
  have HSX : Hid (secsX (vH H) x = x.pl.take 5 ++ (if 5 < cntN x.size then numK (vH H (lastX x)) 32 else [])) := Lib.hid rfl
  have H5L : Hid ((x.pl.take 5).length = 5) := Lib.hid (by rw [List.length_take, hp6]; rfl)
  have X0 : Hid (∀ wx, (Instr.index 9 (.string s) (.int .i64 0)).run Tryz.prog wx = .ok (.int .u8 (x.kind : Int)) wx) := Lib.hid (fun wx => by rw [← e0]; exact idx_run8 s 0 0 rfl (by omega) wx)
  have X1 : Hid (∀ wx, (Instr.index 9 (.string s) (.int .i64 1)).run Tryz.prog wx = .ok (.int .u8 (x.links : Int)) wx) := Lib.hid (fun wx => by rw [← e1]; exact idx_run8 s 1 1 rfl (by omega) wx)
  have C2 : Hid (∀ wx, Calls Tryz.prog 95 #[.string s, .int .i64 2] wx fun e w' => e = .returned (.int .i64 (x.size : Int)) ∧ Gr wx w') := Lib.hid (fun wx => by rw [← e2]; exact c_two8 s 2 (by omega) (by omega) wx)
  have C14 : Hid (∀ wx, Calls Tryz.prog 95 #[.string s, .int .i64 14] wx fun e w' => e = .returned (.int .i64 (lastX x : Int)) ∧ Gr wx w') := Lib.hid (fun wx => by rw [← e14]; exact c_two8 s 14 (by omega) (by omega) wx)
  have C4 : Hid (∀ (k : Nat), k < 5 → ∀ wx, Calls Tryz.prog 95 #[.string s, .int .i64 (4 + 2 * (k : Int))] wx fun e w' => e = .returned (.int .i64 (b2 s.data.toList (0 + (4 + 2 * k)) : Int)) ∧ Gr wx w') := Lib.hid (fun k hk wx => by
    have h := c_two8 s (4 + 2 * k) (by omega) (by omega) wx
    rw [show ((4 + 2 * k : Nat) : Int) = 4 + 2 * (k : Int) by omega] at h
    rw [Nat.zero_add]
    exact h)
  have CI : Hid (lastX x < n → ∀ (k : Nat), k < 32 → ∀ wx, Calls Tryz.prog 95 #[.string (H (lastX x)), .int .i64 (2 * (k : Int))] wx fun e w' => e = .returned (.int .i64 (b2 (vH H (lastX x)) (2 * k) : Int)) ∧ Gr wx w') := Lib.hid (fun hl k hk wx => by
    have h := c_two8 (H (lastX x)) (2 * k) (by rw [h64 _ hl]; omega) (by rw [h64 _ hl]; omega) wx
    rw [show ((2 * k : Nat) : Int) = 2 * (k : Int) by omega] at h
    exact h)
  have CS : Hid (∀ wx, Calls Tryz.prog 83 #[.int .i64 (x.size : Int)] wx fun e w' => e = .returned (.int .i64 (cntN x.size : Int)) ∧ w' = wx) := Lib.hid (fun wx => c_sectors8 x.size (by omega) wx)
  have HP5 : Hid (∀ k, nums (toPl s.data.toList 0 (k + 1)) = nums (toPl s.data.toList 0 k) ++ [.int .i64 (b2 s.data.toList (0 + (4 + 2 * k)) : Int)]) := Lib.hid (fun k => by rw [toPl_succ, nums_app]; rfl)
  have HPI : Hid (∀ k, nums (x.pl.take 5 ++ numK (vH H (lastX x)) (k + 1)) = nums (x.pl.take 5 ++ numK (vH H (lastX x)) k) ++ [.int .i64 (b2 (vH H (lastX x)) (2 * k) : Int)]) := Lib.hid (fun k => by rw [numK_succ, ← List.append_assoc, nums_app (x.pl.take 5 ++ numK (vH H (lastX x)) k)]; rfl)
  have HE5 := Lib.hid e5
  have HH := Lib.hid hh
  have H64 := Lib.hid h64
  obtain ⟨w1, hw1⟩ : ∃ w1, w1 = w.alloc (.cells (nodeC node0) 110) := ⟨_, rfl⟩
  have O1 : Hid (Own w w1 (Star (ndA w.heap.size node0) emp)) := Lib.hid (by rw [hw1]; exact (Own.start (Gr.refl w)).alloc stable_emp _)
  have HST1 : Hid (Stable (Star (ndA w.heap.size node0) emp)) := Lib.hid (stable_star (stable_blk _ _) stable_emp)
  have HSTN : Hid (Stable (Star (ndA w.heap.size node0) emp)) := HST1
  have HSTR : Hid (∀ v k l, Stable (Star (rowA 3 1 v k l) (Star (ndA w.heap.size node0) emp))) := Lib.hid (fun v k l => stable_star (stable_row _ _ _ _ _) HST1.out)
  have HRET : Hid (∀ wx R, Own w wx (Star (ndA w.heap.size node0) R) ∧ Stable R → wx.heap[w.heap.size]? = some (.cells (nodeC node0) 110) ∧ (wx.setRow w.heap.size (nodeC node0)).heap[w.heap.size]? = some (.cells (nodeC node0) 110) ∧ Gr w (wx.setRow w.heap.size (nodeC node0))) := Lib.hid (fun wx R hw => ⟨hw.1.blk, (hw.1.setRow hw.2 (nodeC node0)).blk, (hw.1.setRow hw.2 (nodeC node0)).sub⟩)
  have HFIN : Hid (∀ wx R y, Own w wx (Star R (Star (ndA w.heap.size node0) emp)) ∧ Stable R → wx.heap[w.heap.size]? = some (.cells (nodeC node0) 110) ∧ (wx.setRow w.heap.size (nodeC y)).heap[w.heap.size]? = some (.cells (nodeC y) 110) ∧ Own w (wx.setRow w.heap.size (nodeC y)) (Star R emp)) := Lib.hid (fun wx R y hw => ⟨hw.1.swap2.blk, (hw.1.swap2.setRow (stable_star hw.2 stable_emp) (nodeC y)).blk, (hw.1.swap2.setRow (stable_star hw.2 stable_emp) (nodeC y)).right⟩)
  have HZ := Lib.hid node_zero
  have HI := Lib.hid node_infoX
  rw [← hx]
  clear hh h64 hx e0 e1 e2 e14 e5 h0 hp6 hs hsl
  generalize s.data.toList = L at *
  have x0 := X0.out w1
  have b0 : ((x.kind : Int) == 0) = false := beq_eq_false_iff_ne.2 (by omega)
  go_enter Tryz.func55, Tryz.ntmps55
  go_upto_region 1 with (refine wpList_alloc_blk rfl 110 (nodeC node0) rfl (HZ.out _) ?_)
  rw [← hw1]
  generalize w.heap.size = B at *
  clear hw1
  go_upto_region 4 with (go_at_call 95; refine (C2.out _).mono ?_; rintro e w2 ⟨rfl, g2⟩; have O2 := Lib.hid (O1.out.gr HST1.out g2); clear g2)
  clear O1 C2 x0 b0
  have x0 := X0.out w2
  by_cases q1 : x.kind ≤ 2
  · have d1 : decide (2 < (x.kind : Int)) = false := decide_eq_false (by omega)
    have d1n : decide (2 < x.kind) = false := decide_eq_false (by omega)
    by_cases q2 : x.size ≤ 2368
    · have d2 : decide (2368 < (x.size : Int)) = false := decide_eq_false (by omega)
      have d2n : decide (2368 < x.size) = false := decide_eq_false (by omega)
      go_wp2_with (go_at_call 83; refine (CS.out _).mono ?_; rintro e w3 ⟨rfl, hw3⟩; rw [hw3]; clear hw3 w3)
      clear CS x0 d1 d1n d2 d2n
      have hc37 := cnt_le37 q2
      have hcs : x.size ≤ 64 * cntN x.size := by unfold cntN; omega
      obtain ⟨c, hc⟩ : ∃ c, c = cntN x.size := ⟨_, rfl⟩
      rw [← hc] at hc37 hcs HN HLEN HSX ⊢
      have HC := Lib.hid hc
      clear hc
      have H3 := Lib.hid (row_of_nil8 O2.out HST1.out 3 1)
      clear O2
      go_loopw [9, 10] (fun v9 v10 wr => ∃ (k : Nat) (o : Option Addr) (c1 : Nat), k ≤ 5 ∧ v10 = .int .i64 (k : Int) ∧ v9 = .slice o k c1 ∧ Own w wr (Star (rowA 3 1 (.slice o k c1) k (nums (toPl L 0 k))) (Star (ndA B node0) emp))) (fun _ v _ => 5 - (intOf v).toNat)
      case atStart => exact ⟨0, none, 0, Nat.zero_le _, rfl, rfl, H3.out⟩
      case round =>
        clear H3
        obtain ⟨k, o, c1, hk, rfl, rfl, ho⟩ := hrel
        have HO := Lib.hid ho
        clear ho
        by_cases hlt : k < 5
        · have dk : decide (k < 5) = true := decide_eq_true hlt
          have dk2 : decide ((k : Int) < 5) = true := decide_eq_true (by omega)
          have CK := Lib.hid (C4.out k hlt wr)
          have HS5 := Lib.hid (HP5.out k)
          have p1 : IntKind.i64.wrap (2 * (k : Int)) = 2 * (k : Int) := by rw [IntKind.wrap_i64]; omega
          have p2 : IntKind.i64.wrap (4 + 2 * (k : Int)) = 4 + 2 * (k : Int) := by rw [IntKind.wrap_i64]; omega
          generalize b2 L (0 + (4 + 2 * k)) = v at *
          clear C4 C14 CI HPI HP5 HN HLEN HSX HE5 HH
          go_wp2_with (first | (go_at_call 95; refine CK.out.mono ?_; rintro e w5 ⟨rfl, g5⟩; have H5 := Lib.hid ((HO.out.gr (HSTR.out _ _ _) g5).gr (HSTR.out _ _ _) ((Gr.refl _).alloc (Nat.le_refl _) (.cells #[.int .i64 (v : Int)] 3))); have HROW := Lib.hid H5.out.row; clear g5) | (at_builtin; refine wpList_append_lies _ rfl _ _ _ rfl 0 3 ii (.int .i64 0) 1 8 Tryz.underlying77 hi0 hz0 hz1 hz2 rfl (by omega) (.slice o (k) c1) (k) (nums (toPl L 0 k)) rfl HROW.out ⟨_, 0, none⟩ 1 1 [.int .i64 (v : Int)] rfl rfl (World.news_of_block (cs := #[.int .i64 (v : Int)]) (blk_new _ _)) (by simp [Value.oneCell']) (by omega) (by unfold maxLen; omega) (by omega) (by omega) (w5.heap.size + 1) (by simp) ?_; intro g2 cap2 w8 hown8 hgrow8 hat8 hlt8; have H9 := Lib.hid (H5.out.grown (g := g2) HSTN.out hown8 rfl hgrow8 (hat8.elim .inl (fun e => .inr (by simp; omega))) hlt8); clear hown8 hgrow8 hat8 hlt8))
          go_roundw
          case rel => exact ⟨k + 1, some ⟨g2, 0, none⟩, cap2, by omega, by go_num, rfl, by rw [HS5.out]; exact H9.out⟩
          case measure => simp [intOf]; omega
        · have HK5 := Lib.hid (show k = 5 by omega)
          have hk5 : 5 ≤ k ∧ k ≤ 5 := by omega
          have dk : decide (k < 5) = false := decide_eq_false hlt
          have dk2 : decide ((k : Int) < 5) = false := decide_eq_false (by omega)
          have HO5 : Hid (Own w wr (Star (rowA 3 1 (.slice o k c1) k (nums (x.pl.take 5))) (Star (ndA B node0) emp))) := Lib.hid (by
            have h := HO.out
            rw [HK5.out] at h ⊢
            rw [← HE5.out]
            exact h)
          clear HO C4 HP5 HE5
          go_upto_region 13 with (go_at_call 95; refine (C14.out _).mono ?_; rintro e w4 ⟨rfl, g4⟩; have HO4 := Lib.hid (HO5.out.gr (HSTR.out _ _ _) g4); clear g4)
          clear HO5 C14
          by_cases h5 : 5 < c
          · have c5 : decide (c ≤ 5) = false := decide_eq_false (by omega)
            have c5i : decide ((c : Int) ≤ 5) = false := decide_eq_false (by omega)
            have g5 : decide (5 < c) = true := decide_eq_true h5
            have g5i : decide ((5 : Int) < (c : Int)) = true := decide_eq_true (by omega)
            rw [if_pos h5] at HLEN HSX
            by_cases l9 : lastX x < 9
            · have d9 : decide (lastX x < 9) = true := decide_eq_true l9
              have d9i : decide ((lastX x : Int) < 9) = true := decide_eq_true (by omega)
              have HB := Lib.hid (HRET.out _ _ ⟨HO4.out.swap2, stable_star (stable_row _ _ _ _ _) stable_emp⟩)
              go_wp2_with (first | (refine wpList_build0 rfl 110 rfl (nodeC node0) built_node0 ?_) | (refine wpList_store_row rfl _ _ _ rfl B (nodeC node0) rfl rfl _ _ HB.out.1 (HI.out node0) rfl (nodeC_one node0) ?_))
              refine bodyPost_ret (res_ctt rfl rfl (ld_node HB.out.2.1 (HI.out _))) rfl ?_
              exact .inr ⟨fun hno => absurd ((HN.out.1 hno).1.2.2.2 (by rw [← HC.out]; exact h5)).1 (by omega), rfl, HB.out.2.2⟩

            · have d9 : decide (lastX x < 9) = false := decide_eq_false l9
              have d9i : decide ((lastX x : Int) < 9) = false := decide_eq_false (by omega)
              by_cases ln : n ≤ lastX x
              · have dn : decide (n ≤ lastX x) = true := decide_eq_true ln
                have dni : decide ((n : Int) ≤ (lastX x : Int)) = true := decide_eq_true (by omega)
                have HB := Lib.hid (HRET.out _ _ ⟨HO4.out.swap2, stable_star (stable_row _ _ _ _ _) stable_emp⟩)
                go_wp2_with (first | (refine wpList_build0 rfl 110 rfl (nodeC node0) built_node0 ?_) | (refine wpList_store_row rfl _ _ _ rfl B (nodeC node0) rfl rfl _ _ HB.out.1 (HI.out node0) rfl (nodeC_one node0) ?_))
                refine bodyPost_ret (res_ctt rfl rfl (ld_node HB.out.2.1 (HI.out _))) rfl ?_
                exact .inr ⟨fun hno => absurd ((HN.out.1 hno).1.2.2.2 (by rw [← HC.out]; exact h5)).2 (by omega), rfl, HB.out.2.2⟩

              · have dn : decide (n ≤ lastX x) = false := decide_eq_false ln
                have dni : decide ((n : Int) ≤ (lastX x : Int)) = false := decide_eq_false (by omega)
                have HOK : Hid (okX n x) := Lib.hid ⟨q1, q2, fun h => absurd h (by rw [← HC.out]; omega), fun _ => ⟨by omega, by omega⟩⟩
                have CIL := Lib.hid (CI.out (by omega))
                clear CI
                go_wp2_with fail
                clear d9 d9i dn dni c5 c5i
                have H20 : Hid (Own w w4 (Star (rowA 3 1 (.slice o (5 + 0) c1) (5 + 0) (nums (x.pl.take 5 ++ numK (vH H (lastX x)) 0))) (Star (ndA B node0) emp))) := Lib.hid (by
                  have e : numK (vH H (lastX x)) 0 = [] := rfl
                  have h := HO4.out
                  rw [HK5.out] at h
                  rw [e, List.append_nil]
                  exact h)
                clear HO4
                go_loopw [9, 12] (fun v9 v12 wr => ∃ (k : Nat) (o : Option Addr) (c1 : Nat), k ≤ 32 ∧ v12 = .int .i64 (k : Int) ∧ v9 = .slice o (5 + k) c1 ∧ Own w wr (Star (rowA 3 1 (.slice o (5 + k) c1) (5 + k) (nums (x.pl.take 5 ++ numK (vH H (lastX x)) k))) (Star (ndA B node0) emp))) (fun _ v _ => 32 - (intOf v).toNat)
                case atStart => exact ⟨0, o, c1, Nat.zero_le _, rfl, by rw [HK5.out], H20.out⟩
                case round =>
                  clear H20
                  obtain ⟨k, o, c1, hk, rfl, rfl, ho⟩ := hrel
                  have HO := Lib.hid ho
                  clear ho
                  by_cases hlt : k < 32
                  · have dk : decide (k < 32) = true := decide_eq_true hlt
                    have dk2 : decide ((k : Int) < 32) = true := decide_eq_true (by omega)
                    have CK := Lib.hid (CIL.out k hlt wr)
                    have HSI := Lib.hid (HPI.out k)
                    have cH := (HH.out.gr HO.out.sub).cell (lastX x) (by omega)
                    have hq1 : (lastX x : Int) < (n : Int) := by omega
                    have p1 : IntKind.i64.wrap (2 * (k : Int)) = 2 * (k : Int) := by rw [IntKind.wrap_i64]; omega
                    generalize b2 (vH H (lastX x)) (2 * k) = v at *
                    clear CIL HPI HN HLEN HSX HH
                    go_wp2_with (first | (go_at_call 95; refine CK.out.mono ?_; rintro e w5 ⟨rfl, g5⟩; have H5 := Lib.hid ((HO.out.gr (HSTR.out _ _ _) g5).gr (HSTR.out _ _ _) ((Gr.refl _).alloc (Nat.le_refl _) (.cells #[.int .i64 (v : Int)] 3))); have HROW := Lib.hid H5.out.row; clear g5) | (at_builtin; refine wpList_append_lies _ rfl _ _ _ rfl 0 3 ii (.int .i64 0) 1 8 Tryz.underlying77 hi0 hz0 hz1 hz2 rfl (by omega) (.slice o (5 + k) c1) (5 + k) (nums (x.pl.take 5 ++ numK (vH H (lastX x)) k)) rfl HROW.out ⟨_, 0, none⟩ 1 1 [.int .i64 (v : Int)] rfl rfl (World.news_of_block (cs := #[.int .i64 (v : Int)]) (blk_new _ _)) (by simp [Value.oneCell']) (by omega) (by unfold maxLen; omega) (by omega) (by omega) (w5.heap.size + 1) (by simp) ?_; intro g2 cap2 w8 hown8 hgrow8 hat8 hlt8; have H9 := Lib.hid (H5.out.grown (g := g2) HSTN.out hown8 rfl hgrow8 (hat8.elim .inl (fun e => .inr (by simp; omega))) hlt8); clear hown8 hgrow8 hat8 hlt8))
                    go_roundw
                    case rel => exact ⟨k + 1, some ⟨g2, 0, none⟩, cap2, by omega, by go_num, rfl, by rw [HSI.out]; exact H9.out⟩
                    case measure => simp [intOf]; omega
                  · have HK32 := Lib.hid (show k = 32 by omega)
                    have dk : decide (k < 32) = false := decide_eq_false hlt
                    have dk2 : decide ((k : Int) < 32) = false := decide_eq_false (by omega)
                    obtain ⟨gL, rfl, hcap1, hcap2⟩ := rown_form HO.out (by omega)
                    go_wp2_with fail
                    have hll : 37 ≤ 5 + k ∧ 5 + k ≤ 37 := by omega
                    obtain ⟨len, hlen⟩ : ∃ len : Nat, len = 5 + k := ⟨_, rfl⟩
                    have H3R : Hid (Own w wr (Star (rowA 3 1 (.slice (some ⟨gL, 0, none⟩) len c1) len (nums (secsX (vH H) x))) (Star (ndA B node0) emp))) := Lib.hid (by
                      have h := HO.out
                      rw [← hlen] at h
                      rw [HSX.out]
                      rw [HK32.out] at h
                      exact h)
                    have HLL : Hid ((secsX (vH H) x).length = len) := Lib.hid (by rw [HLEN.out, hlen]; omega)
                    have hl3 : c ≤ len ∧ len ≤ 37 ∧ len ≤ c1 := by omega
                    rw [← hlen]
                    clear hlen HK32 HO CIL HPI HSX HLEN hcap1 hlt dk dk2 hll hk
                    go_loopw [13, 14] (fun v13 v14 wx => ∃ (k : Nat) (D : ByteArray), k ≤ len ∧ v14 = .int .i64 (k : Int) ∧ v13 = .string D ∧ D.size = 64 * min k c ∧ D.data.toList = catS (vH H) (secsX (vH H) x) (min k c) ∧ (∀ j, j < k → badS n c j ((secsX (vH H) x).getD j 0) = false) ∧ Own w wx (Star (rowA 3 1 (.slice (some ⟨gL, 0, none⟩) len c1) len (nums (secsX (vH H) x))) (Star (ndA B node0) emp))) (fun _ v _ => len - (intOf v).toNat)
                    case atStart => exact ⟨0, ⟨#[]⟩, Nat.zero_le _, rfl, rfl, by rw [Nat.zero_min]; rfl, by rw [Nat.zero_min]; rfl, fun j hj => absurd hj (Nat.not_lt_zero j), H3R.out⟩
                    case round =>
                      clear H3R
                      obtain ⟨k, D, hk, rfl, rfl, hds0, hD, hbd, ho⟩ := hrel
                      have HDS := Lib.hid hds0
                      have HO4 := Lib.hid ho
                      have HD := Lib.hid hD
                      have HBD := Lib.hid hbd
                      clear ho hD hbd hds0
                      by_cases hlt : k < len
                      · have dk : decide (k < len) = true := decide_eq_true hlt
                        have dk2 : decide ((k : Int) < (len : Int)) = true := decide_eq_true (by omega)
                        have cL := rown_at HO4.out (k := k) (by rw [HLL.out]; exact hlt)
                        obtain ⟨sv, hsv⟩ : ∃ sv, sv = (secsX (vH H) x).getD k 0 := ⟨_, rfl⟩
                        rw [← hsv] at cL
                        have HSV := Lib.hid hsv
                        clear hsv
                        have hq1 : (k : Int) < (len : Int) := by omega
                        by_cases hck : c ≤ k
                        · have dc : decide (c ≤ k) = true := decide_eq_true hck
                          have dci : decide ((c : Int) ≤ (k : Int)) = true := decide_eq_true (by omega)
                          by_cases hz : sv = 0
                          · have z0 : ((sv : Int) != 0) = false := by rw [hz]; rfl
                            go_wp2_with fail
                            go_roundw
                            case rel =>
                              refine ⟨k + 1, D, by omega, by go_num, rfl, by rw [HDS.out, show min (k + 1) c = min k c by omega], by rw [HD.out, show min (k + 1) c = min k c by omega], fun j hj => ?_, HO4.out⟩
                              by_cases e : j = k
                              · rw [e, ← HSV.out]; exact (badS_lo hck).2 hz
                              · exact HBD.out j (by omega)
                            case measure => simp [intOf]; omega
                          · have z0 : ((sv : Int) != 0) = true := by rw [bne_iff_ne]; omega
                            have HB := Lib.hid (HRET.out _ _ ⟨HO4.out.swap2, stable_star (stable_row _ _ _ _ _) stable_emp⟩)
                            go_wp2_with (first | (refine wpList_build0 rfl 110 rfl (nodeC node0) built_node0 ?_) | (refine wpList_store_row rfl _ _ _ rfl B (nodeC node0) rfl rfl _ _ HB.out.1 (HI.out node0) rfl (nodeC_one node0) ?_))
                            refine bodyPost_ret (res_ctt rfl rfl (ld_node HB.out.2.1 (HI.out _))) rfl ?_
                            exact .inr ⟨fun hno => hz ((badS_lo hck).1 (by rw [HSV.out]; exact (HN.out.1 hno).2 k (by rw [HLL.out]; exact hlt))), rfl, HB.out.2.2⟩

                        · have dc : decide (c ≤ k) = false := decide_eq_false hck
                          have dci : decide ((c : Int) ≤ (k : Int)) = false := decide_eq_false (by omega)
                          by_cases h9 : sv < 9
                          · have d9 : decide (sv < 9) = true := decide_eq_true h9
                            have d9i : decide ((sv : Int) < 9) = true := decide_eq_true (by omega)
                            have HB := Lib.hid (HRET.out _ _ ⟨HO4.out.swap2, stable_star (stable_row _ _ _ _ _) stable_emp⟩)
                            go_wp2_with (first | (refine wpList_build0 rfl 110 rfl (nodeC node0) built_node0 ?_) | (refine wpList_store_row rfl _ _ _ rfl B (nodeC node0) rfl rfl _ _ HB.out.1 (HI.out node0) rfl (nodeC_one node0) ?_))
                            refine bodyPost_ret (res_ctt rfl rfl (ld_node HB.out.2.1 (HI.out _))) rfl ?_
                            exact .inr ⟨fun hno => absurd ((badS_hi hck).1 (by rw [HSV.out]; exact (HN.out.1 hno).2 k (by rw [HLL.out]; exact hlt)) : 9 ≤ sv ∧ sv < n).1 (by omega), rfl, HB.out.2.2⟩

                          · have d9 : decide (sv < 9) = false := decide_eq_false h9
                            have d9i : decide ((sv : Int) < 9) = false := decide_eq_false (by omega)
                            by_cases hn2 : n ≤ sv
                            · have dn : decide (n ≤ sv) = true := decide_eq_true hn2
                              have dni : decide ((n : Int) ≤ (sv : Int)) = true := decide_eq_true (by omega)
                              have HB := Lib.hid (HRET.out _ _ ⟨HO4.out.swap2, stable_star (stable_row _ _ _ _ _) stable_emp⟩)
                              go_wp2_with (first | (refine wpList_build0 rfl 110 rfl (nodeC node0) built_node0 ?_) | (refine wpList_store_row rfl _ _ _ rfl B (nodeC node0) rfl rfl _ _ HB.out.1 (HI.out node0) rfl (nodeC_one node0) ?_))
                              refine bodyPost_ret (res_ctt rfl rfl (ld_node HB.out.2.1 (HI.out _))) rfl ?_
                              exact .inr ⟨fun hno => absurd ((badS_hi hck).1 (by rw [HSV.out]; exact (HN.out.1 hno).2 k (by rw [HLL.out]; exact hlt)) : 9 ≤ sv ∧ sv < n).2 (by omega), rfl, HB.out.2.2⟩

                            · have dn : decide (n ≤ sv) = false := decide_eq_false hn2
                              have dni : decide ((n : Int) ≤ (sv : Int)) = false := decide_eq_false (by omega)
                              have cH := (HH.out.gr HO4.out.sub).cell sv (by omega)
                              have hq2 : (sv : Int) < (n : Int) := by omega
                              have hq3 : ¬ 9223372036854775807 < D.size + (H sv).size := by rw [HDS.out, H64.out sv (by omega)]; omega
                              go_wp2_with fail
                              go_roundw
                              case rel =>
                                refine ⟨k + 1, D ++ H sv, by omega, by go_num, rfl, by rw [ByteArray.size_append, HDS.out, H64.out sv (by omega)]; omega, ?_, fun j hj => ?_, HO4.out⟩
                                · rw [app_toList8, HD.out, show min (k + 1) c = k + 1 by omega, show min k c = k by omega]
                                  show _ = catS _ _ k ++ vH H ((secsX (vH H) x).getD k 0)
                                  rw [← HSV.out]; rfl
                                · by_cases e : j = k
                                  · rw [e, ← HSV.out]; exact (badS_hi hck).2 ⟨by omega, by omega⟩
                                  · exact HBD.out j (by omega)
                              case measure => simp [intOf]; omega
                      · have HKL := Lib.hid (show k = len by omega)
                        have dk : decide (k < len) = false := decide_eq_false hlt
                        have dk2 : decide ((k : Int) < (len : Int)) = false := decide_eq_false (by omega)
                        have HNO : Hid (NodeOk (vH H) n x) := Lib.hid (HN.out.2 ⟨HOK.out, fun j hj => HBD.out j (by have := HLL.out; omega)⟩)
                        have h64b : ∀ j, j < cntN x.size → (vH H ((secsX (vH H) x).getD j 0)).length = 64 := fun j hj => by
                          rw [← HC.out] at hj
                          have h := HBD.out j (by omega)
                          rw [badS_hi (by omega)] at h
                          show (H _).data.toList.length = 64
                          rw [toL_size, H64.out _ h.2]
                        have HDT : Hid (D.data.toList = catS (vH H) (secsX (vH H) x) (cntN x.size)) := Lib.hid (by rw [HD.out, ← HC.out, show min k c = c by omega])
                        have hds : D.size = 64 * c := by rw [HDS.out, show min k c = c by omega]
                        have HDA : Hid ((D.extract 0 x.size).data.toList = datA (vH H) (faX (vH H) x)) := Lib.hid (by
                          rw [ext_toList, HDT.out, List.drop_zero, Nat.sub_zero]
                          exact cat_data hk0 (by rw [← HC.out, HLL.out]; omega) h64b)
                        have HOW : Hid ((faX (vH H) x).own = (secsX (vH H) x).take c ++ (if 5 < c then [lastX x] else [])) := Lib.hid (by rw [faX_own hk0 HOK.out, ← HC.out])
                        have HY : Hid (nodeC (nodA (vH H) (faX (vH H) x)) = #[.int .i64 (x.kind : Int), .int .i64 (x.links : Int), .string (D.extract 0 x.size)]) := Lib.hid (by
                          have e1 : (faX (vH H) x).kind = x.kind ∧ (faX (vH H) x).links = x.links := by unfold faX; rw [if_neg hk0]; exact ⟨rfl, rfl⟩
                          unfold nodeC nodA
                          dsimp only
                          rw [e1.1, e1.2, ← HDA.out])
                        have HPR := Lib.hid (rown_pre HO4.out (m := c) (by omega))
                        have hb1 : x.size ≤ D.size := by omega
                        have hb2 : D.size ≤ 2368 := by omega
                        have HTL : Hid (((secsX (vH H) x).take c).length = c) := Lib.hid (by rw [List.length_take, HLL.out]; omega)
                        have X0r := X0.out
                        have X1r := X1.out
                        have k1 : IntKind.i64.wrap (x.kind : Int) = (x.kind : Int) := by rw [IntKind.wrap_i64]; omega
                        have k2 : IntKind.i64.wrap (x.links : Int) = (x.links : Int) := by rw [IntKind.wrap_i64]; omega
                        have hcc : (c : Int) ≤ (c1 : Int) := by omega
                        have HBT := Lib.hid (built_nodeX x.kind x.links (D.extract 0 x.size))
                        clear hds HDS h64b HDT HD HBD HN HOK HDA HC HO4 HLL HKL
                        rw [if_pos h5] at HOW
                        have H5 := Lib.hid (HPR.out.gr (HSTR.out _ _ _) ((Gr.refl _).alloc (Nat.le_refl _) (.cells #[.int .i64 (lastX x : Int)] 3)))
                        have HROW := Lib.hid H5.out.row
                        have hdg : c ≤ 37 := by omega
                        go_upto_region 32 with (at_builtin; refine wpList_append_lies _ rfl _ _ _ rfl 0 3 ii (.int .i64 0) 1 8 Tryz.underlying77 hi0 hz0 hz1 hz2 rfl (by omega) (.slice (some ⟨gL, 0, none⟩) (c) c1) (c) (nums ((secsX (vH H) x).take c)) rfl HROW.out ⟨_, 0, none⟩ 1 1 [.int .i64 (lastX x : Int)] rfl rfl (World.news_of_block (cs := #[.int .i64 (lastX x : Int)]) (blk_new _ _)) (by simp [Value.oneCell']) (by omega) (by unfold maxLen; omega) (by omega) (by omega) (wr.heap.size + 1) (by simp) ?_; intro g2 cap2 w8 hown8 hgrow8 hat8 hlt8; have H9 := Lib.hid (H5.out.grown (g := g2) HSTN.out hown8 rfl hgrow8 (hat8.elim .inl (fun e => .inr (by simp; omega))) hlt8); clear hown8 hgrow8 hat8 hlt8)
                        have HTL2 : Hid (((secsX (vH H) x).take c ++ [lastX x]).length = c + 1) := Lib.hid (by rw [List.length_append, HTL.out]; rfl)
                        have HP9 : Hid (Own w w8 (Star (rowA 3 1 (.slice (some ⟨g2, 0, none⟩) (c + 1) cap2) (c + 1) (nums ((secsX (vH H) x).take c ++ [lastX x]))) (Star (ndA B node0) emp))) := Lib.hid (by rw [nums_app]; exact H9.out)
                        clear H9 H5 HROW HPR
                        have HF := Lib.hid (HFIN.out w8.drew _ (nodA (vH H) (faX (vH H) x)) ⟨HP9.out.gr (HSTR.out _ _ _) (Gr.drewN (Gr.refl _) 1), stable_row _ _ _ _ _⟩)
                        rw [HY.out] at HF
                        have HIY : Hid ((Tryz.prog.info? 110).map (·.size) = some (#[Value.int .i64 (x.kind : Int), .int .i64 (x.links : Int), .string (D.extract 0 x.size)] : Array Value).size) := Lib.hid (by
                          show _ = some 3
                          kernel_rfl)
                        refine wp_region_held_drew (S := fun _ => True) (by kernel_rfl) trivial (fun _ => ?_)
                        try simp only [Act.put, List.setIfInBounds_toArray, List.set_cons_zero, List.set_cons_succ]
                        refine wpAnyH_take (i := 0) (oi := { dst := some 137, op := Go.Op.move (Go.Operand.tmp 1), type := 9, pos := "ref.go:233", after := #[], guard := none }) (v := .string s) rfl (by kernel_rfl) (by kernel_rfl) (by kernel_rfl) (fun _ _ _ h => h) (Or.inl ⟨by rfl, fun w' hS' => by first | rfl | (go_simp; done) | (go_simp; rfl)⟩) trivial ?_
                        try simp only [Act.put, List.setIfInBounds_toArray, List.set_cons_zero, List.set_cons_succ]
                        refine wpAnyH_take (i := 1) (oi := { dst := some 138, op := Go.Op.index 9 (Go.Operand.tmp 137) (Go.Operand.const (Go.Value.int Go.IntKind.i64 0)), type := 5, pos := "ref.go:233", after := #[{ on := 0, ground := Go.Ground.data }], guard := none }) (v := .int .u8 (x.kind : Int)) rfl (by kernel_rfl) (by kernel_rfl) (by kernel_rfl) (fun _ _ _ h => h) (Or.inl ⟨by rfl, fun w' hS' => by have c := X0.out w'; go_simp⟩) trivial ?_
                        try simp only [Act.put, List.setIfInBounds_toArray, List.set_cons_zero, List.set_cons_succ]
                        refine wpAnyH_take (i := 2) (oi := { dst := some 139, op := Go.Op.convert 5 3 (Go.Operand.tmp 138), type := 3, pos := "ref.go:233", after := #[{ on := 1, ground := Go.Ground.data }], guard := none }) (v := .int .i64 (x.kind : Int)) rfl (by kernel_rfl) (by kernel_rfl) (by kernel_rfl) (fun _ _ _ h => h) (Or.inl ⟨by rfl, fun w' hS' => by have c := k1; go_simp⟩) trivial ?_
                        try simp only [Act.put, List.setIfInBounds_toArray, List.set_cons_zero, List.set_cons_succ]
                        refine wpAnyH_take (i := 3) (oi := { dst := some 140, op := Go.Op.move (Go.Operand.tmp 1), type := 9, pos := "ref.go:233", after := #[], guard := none }) (v := .string s) rfl (by kernel_rfl) (by kernel_rfl) (by kernel_rfl) (fun _ _ _ h => h) (Or.inl ⟨by rfl, fun w' hS' => by first | rfl | (go_simp; done) | (go_simp; rfl)⟩) trivial ?_
                        try simp only [Act.put, List.setIfInBounds_toArray, List.set_cons_zero, List.set_cons_succ]
                        refine wpAnyH_take (i := 4) (oi := { dst := some 141, op := Go.Op.index 9 (Go.Operand.tmp 140) (Go.Operand.const (Go.Value.int Go.IntKind.i64 1)), type := 5, pos := "ref.go:233", after := #[{ on := 3, ground := Go.Ground.data }], guard := none }) (v := .int .u8 (x.links : Int)) rfl (by kernel_rfl) (by kernel_rfl) (by kernel_rfl) (fun _ _ _ h => h) (Or.inl ⟨by rfl, fun w' hS' => by have c := X1.out w'; go_simp⟩) trivial ?_
                        try simp only [Act.put, List.setIfInBounds_toArray, List.set_cons_zero, List.set_cons_succ]
                        refine wpAnyH_take (i := 5) (oi := { dst := some 142, op := Go.Op.convert 5 3 (Go.Operand.tmp 141), type := 3, pos := "ref.go:233", after := #[{ on := 4, ground := Go.Ground.data }], guard := none }) (v := .int .i64 (x.links : Int)) rfl (by kernel_rfl) (by kernel_rfl) (by kernel_rfl) (fun _ _ _ h => h) (Or.inl ⟨by rfl, fun w' hS' => by have c := k2; go_simp⟩) trivial ?_
                        try simp only [Act.put, List.setIfInBounds_toArray, List.set_cons_zero, List.set_cons_succ]
                        refine wpAnyH_take (i := 6) (oi := { dst := some 143, op := Go.Op.move (Go.Operand.tmp 13), type := 9, pos := "ref.go:233", after := #[], guard := none }) (v := .string D) rfl (by kernel_rfl) (by kernel_rfl) (by kernel_rfl) (fun _ _ _ h => h) (Or.inl ⟨by rfl, fun w' hS' => by first | rfl | (go_simp; done) | (go_simp; rfl)⟩) trivial ?_
                        try simp only [Act.put, List.setIfInBounds_toArray, List.set_cons_zero, List.set_cons_succ]
                        refine wpAnyH_take (i := 7) (oi := { dst := some 144, op := Go.Op.move (Go.Operand.tmp 7), type := 3, pos := "ref.go:233", after := #[], guard := none }) (v := .int .i64 (x.size : Int)) rfl (by kernel_rfl) (by kernel_rfl) (by kernel_rfl) (fun _ _ _ h => h) (Or.inl ⟨by rfl, fun w' hS' => by first | rfl | (go_simp; done) | (go_simp; rfl)⟩) trivial ?_
                        try simp only [Act.put, List.setIfInBounds_toArray, List.set_cons_zero, List.set_cons_succ]
                        refine wpAnyH_take (i := 8) (oi := { dst := some 145, op := Go.Op.slice 9 (Go.Operand.tmp 143) none (some (Go.Operand.tmp 144)) none, type := 9, pos := "ref.go:233", after := #[{ on := 6, ground := Go.Ground.data }, { on := 7, ground := Go.Ground.data }], guard := none }) (v := .string (D.extract 0 x.size)) rfl (by kernel_rfl) (by kernel_rfl) (by kernel_rfl) (fun _ _ _ h => h) (Or.inl ⟨by rfl, fun w' hS' => by have c := hb1; go_simp⟩) trivial ?_
                        try simp only [Act.put, List.setIfInBounds_toArray, List.set_cons_zero, List.set_cons_succ]
                        refine wpAnyH_take (i := 9) (oi := { dst := some 146, op := Go.Op.build 110 #[(0, Go.Operand.tmp 139), (1, Go.Operand.tmp 142), (2, Go.Operand.tmp 145)], type := 110, pos := "ref.go:233", after := #[{ on := 2, ground := Go.Ground.data }, { on := 5, ground := Go.Ground.data }, { on := 8, ground := Go.Ground.data }], guard := none }) (v := .agg #[Value.int .i64 (x.kind : Int), .int .i64 (x.links : Int), .string (D.extract 0 x.size)]) rfl (by kernel_rfl) (by kernel_rfl) (by kernel_rfl) (fun _ _ _ h => h) (Or.inl ⟨by rfl, fun w' hS' => by have c := HBT.out; go_simp⟩) trivial ?_
                        try simp only [Act.put, List.setIfInBounds_toArray, List.set_cons_zero, List.set_cons_succ]
                        refine wpAnyH_take (i := 10) (oi := { dst := some 147, op := Go.Op.move (Go.Operand.tmp 15), type := 77, pos := "ref.go:233", after := #[{ on := 11, ground := Go.Ground.gcOnly Go.Departure.lateStores }], guard := none }) (v := .slice (some ⟨g2, 0, none⟩) (c + 1) cap2) rfl (by kernel_rfl) (by kernel_rfl) (by kernel_rfl) (fun _ _ _ h => h) (Or.inl ⟨by rfl, fun w' hS' => by first | rfl | (go_simp; done) | (go_simp; rfl)⟩) trivial ?_
                        try simp only [Act.put, List.setIfInBounds_toArray, List.set_cons_zero, List.set_cons_succ]
                        refine wpAnyH_ready (rs := [11]) (by kernel_rfl) (by simp) ?_
                        refine AllReadyH.cons (o := { dst := none, op := Go.Op.store 110 (Go.Operand.tmp 4) (Go.Operand.tmp 146), type := 0, pos := "ref.go:233", after := #[{ on := 9, ground := Go.Ground.data }, { on := 0, ground := Go.Ground.phase }, { on := 1, ground := Go.Ground.phase }, { on := 2, ground := Go.Ground.phase }, { on := 3, ground := Go.Ground.phase }, { on := 4, ground := Go.Ground.phase }, { on := 5, ground := Go.Ground.phase }, { on := 6, ground := Go.Ground.phase }, { on := 7, ground := Go.Ground.phase }, { on := 8, ground := Go.Ground.phase }, { on := 9, ground := Go.Ground.phase }, { on := 10, ground := Go.Ground.textOnly Go.Departure.lateStores }], guard := none }) rfl (fun K' hK => ?_) AllReadyH.nil
                        rw [if_pos (by rfl)]
                        refine wp_store_row 110 _ _ rfl B #[Value.int .i64 (x.kind : Int), .int .i64 (x.links : Int), .string (D.extract 0 x.size)] rfl rfl 110 _ HF.out.1 HIY.out rfl (by simp [Value.oneCell']) ?_
                        refine hK.out _ _ trivial (fun _ => ?_)
                        clear hK K'
                        try simp only [Act.put, List.setIfInBounds_toArray, List.set_cons_zero, List.set_cons_succ]
                        refine wpAnyH_take (i := 12) (oi := { dst := some 5, op := Go.Op.assign (Go.Operand.tmp 147), type := 77, pos := "ref.go:233", after := #[{ on := 10, ground := Go.Ground.data }, { on := 11, ground := Go.Ground.chain }, { on := 0, ground := Go.Ground.phase }, { on := 1, ground := Go.Ground.phase }, { on := 2, ground := Go.Ground.phase }, { on := 3, ground := Go.Ground.phase }, { on := 4, ground := Go.Ground.phase }, { on := 5, ground := Go.Ground.phase }, { on := 6, ground := Go.Ground.phase }, { on := 7, ground := Go.Ground.phase }, { on := 8, ground := Go.Ground.phase }, { on := 9, ground := Go.Ground.phase }, { on := 10, ground := Go.Ground.phase }, { on := 11, ground := Go.Ground.phase }], guard := none }) (v := .slice (some ⟨g2, 0, none⟩) (c + 1) cap2) rfl (by kernel_rfl) (by kernel_rfl) (by kernel_rfl) (fun _ _ _ h => h) (Or.inl ⟨by rfl, fun w' hS' => by first | rfl | (go_simp; done) | (go_simp; rfl)⟩) trivial ?_
                        try simp only [Act.put, List.setIfInBounds_toArray, List.set_cons_zero, List.set_cons_succ]
                        refine wpAnyH_take (i := 13) (oi := { dst := some 6, op := Go.Op.assign (Go.Operand.const (Go.Value.bool true)), type := 4, pos := "ref.go:233", after := #[{ on := 12, ground := Go.Ground.chain }, { on := 0, ground := Go.Ground.phase }, { on := 1, ground := Go.Ground.phase }, { on := 2, ground := Go.Ground.phase }, { on := 3, ground := Go.Ground.phase }, { on := 4, ground := Go.Ground.phase }, { on := 5, ground := Go.Ground.phase }, { on := 6, ground := Go.Ground.phase }, { on := 7, ground := Go.Ground.phase }, { on := 8, ground := Go.Ground.phase }, { on := 9, ground := Go.Ground.phase }, { on := 10, ground := Go.Ground.phase }, { on := 11, ground := Go.Ground.phase }, { on := 12, ground := Go.Ground.phase }], guard := none }) (v := .bool true) rfl (by kernel_rfl) (by kernel_rfl) (by kernel_rfl) (fun _ _ _ h => h) (Or.inl ⟨by rfl, fun w' hS' => by first | rfl | (go_simp; done) | (go_simp; rfl)⟩) trivial ?_
                        try simp only [Act.put, List.setIfInBounds_toArray, List.set_cons_zero, List.set_cons_succ]
                        refine wpAnyH_done (by kernel_rfl) ?_ _
                        go_wp2_with fail
                        refine bodyPost_ret (res_ctt rfl rfl (ld_node HF.out.2.1 HIY.out)) rfl ?_
                        refine .inl ⟨HNO.out, some ⟨g2, 0, none⟩, cap2, ?_, ?_⟩
                        · rw [HY.out, HOW.out, HTL2.out]
                          rfl
                        · show Own _ _ (Star (rowA _ _ _ _ _) _)
                          rw [HOW.out, HTL2.out]
                          exact HF.out.2.2
          · have c5 : decide (c ≤ 5) = true := decide_eq_true (by omega)
            have c5i : decide ((c : Int) ≤ 5) = true := decide_eq_true (by omega)
            have g5 : decide (5 < c) = false := decide_eq_false h5
            have g5i : decide ((5 : Int) < (c : Int)) = false := decide_eq_false (by omega)
            rw [if_neg h5] at HLEN HSX
            by_cases l0 : lastX x = 0
            · have HOK : Hid (okX n x) := Lib.hid ⟨q1, q2, fun _ => l0, fun h => absurd h (by rw [← HC.out]; omega)⟩
              have z0 : ((lastX x : Int) != 0) = false := by rw [l0]; rfl
              clear CI HPI
              go_wp2_with fail
              clear z0 c5 c5i
              go_loopw [9, 12] (fun v9 v12 wx => v9 = .slice o k c1 ∧ v12 = .int .i64 0 ∧ wx = w4) (fun _ _ _ => 0)
              case atStart => exact ⟨rfl, rfl, rfl⟩
              case round =>
                obtain ⟨rfl, rfl, hwr⟩ := hrel
                rw [hwr]
                clear hwr
                obtain ⟨gL, rfl, hcap1, hcap2⟩ := rown_form HO4.out (by omega)
                go_wp2_with fail
                obtain ⟨len, hlen⟩ : ∃ len : Nat, len = k := ⟨_, rfl⟩
                have H3R : Hid (Own w w4 (Star (rowA 3 1 (.slice (some ⟨gL, 0, none⟩) len c1) len (nums (secsX (vH H) x))) (Star (ndA B node0) emp))) := Lib.hid (by
                  have h := HO4.out
                  rw [← hlen] at h
                  rw [HSX.out, List.append_nil]
                  exact h)
                have HLL : Hid ((secsX (vH H) x).length = len) := Lib.hid (by rw [HLEN.out, hlen]; omega)
                have hl3 : c ≤ len ∧ len ≤ 37 ∧ len ≤ c1 := by omega
                rw [← hlen]
                clear hlen HK5 HO4 HSX HLEN hcap1 hlt dk dk2 hk5 hk
                go_loopw [13, 14] (fun v13 v14 wx => ∃ (k : Nat) (D : ByteArray), k ≤ len ∧ v14 = .int .i64 (k : Int) ∧ v13 = .string D ∧ D.size = 64 * min k c ∧ D.data.toList = catS (vH H) (secsX (vH H) x) (min k c) ∧ (∀ j, j < k → badS n c j ((secsX (vH H) x).getD j 0) = false) ∧ Own w wx (Star (rowA 3 1 (.slice (some ⟨gL, 0, none⟩) len c1) len (nums (secsX (vH H) x))) (Star (ndA B node0) emp))) (fun _ v _ => len - (intOf v).toNat)
                case atStart => exact ⟨0, ⟨#[]⟩, Nat.zero_le _, rfl, rfl, by rw [Nat.zero_min]; rfl, by rw [Nat.zero_min]; rfl, fun j hj => absurd hj (Nat.not_lt_zero j), H3R.out⟩
                case round =>
                  clear H3R
                  obtain ⟨k, D, hk, rfl, rfl, hds0, hD, hbd, ho⟩ := hrel
                  have HDS := Lib.hid hds0
                  have HO4 := Lib.hid ho
                  have HD := Lib.hid hD
                  have HBD := Lib.hid hbd
                  clear ho hD hbd hds0
                  by_cases hlt : k < len
                  · have dk : decide (k < len) = true := decide_eq_true hlt
                    have dk2 : decide ((k : Int) < (len : Int)) = true := decide_eq_true (by omega)
                    have cL := rown_at HO4.out (k := k) (by rw [HLL.out]; exact hlt)
                    obtain ⟨sv, hsv⟩ : ∃ sv, sv = (secsX (vH H) x).getD k 0 := ⟨_, rfl⟩
                    rw [← hsv] at cL
                    have HSV := Lib.hid hsv
                    clear hsv
                    have hq1 : (k : Int) < (len : Int) := by omega
                    by_cases hck : c ≤ k
                    · have dc : decide (c ≤ k) = true := decide_eq_true hck
                      have dci : decide ((c : Int) ≤ (k : Int)) = true := decide_eq_true (by omega)
                      by_cases hz : sv = 0
                      · have z0 : ((sv : Int) != 0) = false := by rw [hz]; rfl
                        go_wp2_with fail
                        go_roundw
                        case rel =>
                          refine ⟨k + 1, D, by omega, by go_num, rfl, by rw [HDS.out, show min (k + 1) c = min k c by omega], by rw [HD.out, show min (k + 1) c = min k c by omega], fun j hj => ?_, HO4.out⟩
                          by_cases e : j = k
                          · rw [e, ← HSV.out]; exact (badS_lo hck).2 hz
                          · exact HBD.out j (by omega)
                        case measure => simp [intOf]; omega
                      · have z0 : ((sv : Int) != 0) = true := by rw [bne_iff_ne]; omega
                        have HB := Lib.hid (HRET.out _ _ ⟨HO4.out.swap2, stable_star (stable_row _ _ _ _ _) stable_emp⟩)
                        go_wp2_with (first | (refine wpList_build0 rfl 110 rfl (nodeC node0) built_node0 ?_) | (refine wpList_store_row rfl _ _ _ rfl B (nodeC node0) rfl rfl _ _ HB.out.1 (HI.out node0) rfl (nodeC_one node0) ?_))
                        refine bodyPost_ret (res_ctt rfl rfl (ld_node HB.out.2.1 (HI.out _))) rfl ?_
                        exact .inr ⟨fun hno => hz ((badS_lo hck).1 (by rw [HSV.out]; exact (HN.out.1 hno).2 k (by rw [HLL.out]; exact hlt))), rfl, HB.out.2.2⟩

                    · have dc : decide (c ≤ k) = false := decide_eq_false hck
                      have dci : decide ((c : Int) ≤ (k : Int)) = false := decide_eq_false (by omega)
                      by_cases h9 : sv < 9
                      · have d9 : decide (sv < 9) = true := decide_eq_true h9
                        have d9i : decide ((sv : Int) < 9) = true := decide_eq_true (by omega)
                        have HB := Lib.hid (HRET.out _ _ ⟨HO4.out.swap2, stable_star (stable_row _ _ _ _ _) stable_emp⟩)
                        go_wp2_with (first | (refine wpList_build0 rfl 110 rfl (nodeC node0) built_node0 ?_) | (refine wpList_store_row rfl _ _ _ rfl B (nodeC node0) rfl rfl _ _ HB.out.1 (HI.out node0) rfl (nodeC_one node0) ?_))
                        refine bodyPost_ret (res_ctt rfl rfl (ld_node HB.out.2.1 (HI.out _))) rfl ?_
                        exact .inr ⟨fun hno => absurd ((badS_hi hck).1 (by rw [HSV.out]; exact (HN.out.1 hno).2 k (by rw [HLL.out]; exact hlt)) : 9 ≤ sv ∧ sv < n).1 (by omega), rfl, HB.out.2.2⟩

                      · have d9 : decide (sv < 9) = false := decide_eq_false h9
                        have d9i : decide ((sv : Int) < 9) = false := decide_eq_false (by omega)
                        by_cases hn2 : n ≤ sv
                        · have dn : decide (n ≤ sv) = true := decide_eq_true hn2
                          have dni : decide ((n : Int) ≤ (sv : Int)) = true := decide_eq_true (by omega)
                          have HB := Lib.hid (HRET.out _ _ ⟨HO4.out.swap2, stable_star (stable_row _ _ _ _ _) stable_emp⟩)
                          go_wp2_with (first | (refine wpList_build0 rfl 110 rfl (nodeC node0) built_node0 ?_) | (refine wpList_store_row rfl _ _ _ rfl B (nodeC node0) rfl rfl _ _ HB.out.1 (HI.out node0) rfl (nodeC_one node0) ?_))
                          refine bodyPost_ret (res_ctt rfl rfl (ld_node HB.out.2.1 (HI.out _))) rfl ?_
                          exact .inr ⟨fun hno => absurd ((badS_hi hck).1 (by rw [HSV.out]; exact (HN.out.1 hno).2 k (by rw [HLL.out]; exact hlt)) : 9 ≤ sv ∧ sv < n).2 (by omega), rfl, HB.out.2.2⟩

                        · have dn : decide (n ≤ sv) = false := decide_eq_false hn2
                          have dni : decide ((n : Int) ≤ (sv : Int)) = false := decide_eq_false (by omega)
                          have cH := (HH.out.gr HO4.out.sub).cell sv (by omega)
                          have hq2 : (sv : Int) < (n : Int) := by omega
                          have hq3 : ¬ 9223372036854775807 < D.size + (H sv).size := by rw [HDS.out, H64.out sv (by omega)]; omega
                          go_wp2_with fail
                          go_roundw
                          case rel =>
                            refine ⟨k + 1, D ++ H sv, by omega, by go_num, rfl, by rw [ByteArray.size_append, HDS.out, H64.out sv (by omega)]; omega, ?_, fun j hj => ?_, HO4.out⟩
                            · rw [app_toList8, HD.out, show min (k + 1) c = k + 1 by omega, show min k c = k by omega]
                              show _ = catS _ _ k ++ vH H ((secsX (vH H) x).getD k 0)
                              rw [← HSV.out]; rfl
                            · by_cases e : j = k
                              · rw [e, ← HSV.out]; exact (badS_hi hck).2 ⟨by omega, by omega⟩
                              · exact HBD.out j (by omega)
                          case measure => simp [intOf]; omega
                  · have HKL := Lib.hid (show k = len by omega)
                    have dk : decide (k < len) = false := decide_eq_false hlt
                    have dk2 : decide ((k : Int) < (len : Int)) = false := decide_eq_false (by omega)
                    have HNO : Hid (NodeOk (vH H) n x) := Lib.hid (HN.out.2 ⟨HOK.out, fun j hj => HBD.out j (by have := HLL.out; omega)⟩)
                    have h64b : ∀ j, j < cntN x.size → (vH H ((secsX (vH H) x).getD j 0)).length = 64 := fun j hj => by
                      rw [← HC.out] at hj
                      have h := HBD.out j (by omega)
                      rw [badS_hi (by omega)] at h
                      show (H _).data.toList.length = 64
                      rw [toL_size, H64.out _ h.2]
                    have HDT : Hid (D.data.toList = catS (vH H) (secsX (vH H) x) (cntN x.size)) := Lib.hid (by rw [HD.out, ← HC.out, show min k c = c by omega])
                    have hds : D.size = 64 * c := by rw [HDS.out, show min k c = c by omega]
                    have HDA : Hid ((D.extract 0 x.size).data.toList = datA (vH H) (faX (vH H) x)) := Lib.hid (by
                      rw [ext_toList, HDT.out, List.drop_zero, Nat.sub_zero]
                      exact cat_data hk0 (by rw [← HC.out, HLL.out]; omega) h64b)
                    have HOW : Hid ((faX (vH H) x).own = (secsX (vH H) x).take c ++ (if 5 < c then [lastX x] else [])) := Lib.hid (by rw [faX_own hk0 HOK.out, ← HC.out])
                    have HY : Hid (nodeC (nodA (vH H) (faX (vH H) x)) = #[.int .i64 (x.kind : Int), .int .i64 (x.links : Int), .string (D.extract 0 x.size)]) := Lib.hid (by
                      have e1 : (faX (vH H) x).kind = x.kind ∧ (faX (vH H) x).links = x.links := by unfold faX; rw [if_neg hk0]; exact ⟨rfl, rfl⟩
                      unfold nodeC nodA
                      dsimp only
                      rw [e1.1, e1.2, ← HDA.out])
                    have HPR := Lib.hid (rown_pre HO4.out (m := c) (by omega))
                    have hb1 : x.size ≤ D.size := by omega
                    have hb2 : D.size ≤ 2368 := by omega
                    have HTL : Hid (((secsX (vH H) x).take c).length = c) := Lib.hid (by rw [List.length_take, HLL.out]; omega)
                    have X0r := X0.out
                    have X1r := X1.out
                    have k1 : IntKind.i64.wrap (x.kind : Int) = (x.kind : Int) := by rw [IntKind.wrap_i64]; omega
                    have k2 : IntKind.i64.wrap (x.links : Int) = (x.links : Int) := by rw [IntKind.wrap_i64]; omega
                    have hcc : (c : Int) ≤ (c1 : Int) := by omega
                    have HBT := Lib.hid (built_nodeX x.kind x.links (D.extract 0 x.size))
                    clear hds HDS h64b HDT HD HBD HN HOK HDA HC HO4 HLL HKL
                    rw [if_neg h5, List.append_nil] at HOW
                    go_upto_region 32 with fail
                    have HF := Lib.hid (HFIN.out wr.drew _ (nodA (vH H) (faX (vH H) x)) ⟨HPR.out.gr (HSTR.out _ _ _) (Gr.drewN (Gr.refl _) 1), stable_row _ _ _ _ _⟩)
                    rw [HY.out] at HF
                    have HIY : Hid ((Tryz.prog.info? 110).map (·.size) = some (#[Value.int .i64 (x.kind : Int), .int .i64 (x.links : Int), .string (D.extract 0 x.size)] : Array Value).size) := Lib.hid (by
                      show _ = some 3
                      kernel_rfl)
                    refine wp_region_held_drew (S := fun _ => True) (by kernel_rfl) trivial (fun _ => ?_)
                    try simp only [Act.put, List.setIfInBounds_toArray, List.set_cons_zero, List.set_cons_succ]
                    refine wpAnyH_take (i := 0) (oi := { dst := some 137, op := Go.Op.move (Go.Operand.tmp 1), type := 9, pos := "ref.go:233", after := #[], guard := none }) (v := .string s) rfl (by kernel_rfl) (by kernel_rfl) (by kernel_rfl) (fun _ _ _ h => h) (Or.inl ⟨by rfl, fun w' hS' => by first | rfl | (go_simp; done) | (go_simp; rfl)⟩) trivial ?_
                    try simp only [Act.put, List.setIfInBounds_toArray, List.set_cons_zero, List.set_cons_succ]
                    refine wpAnyH_take (i := 1) (oi := { dst := some 138, op := Go.Op.index 9 (Go.Operand.tmp 137) (Go.Operand.const (Go.Value.int Go.IntKind.i64 0)), type := 5, pos := "ref.go:233", after := #[{ on := 0, ground := Go.Ground.data }], guard := none }) (v := .int .u8 (x.kind : Int)) rfl (by kernel_rfl) (by kernel_rfl) (by kernel_rfl) (fun _ _ _ h => h) (Or.inl ⟨by rfl, fun w' hS' => by have c := X0.out w'; go_simp⟩) trivial ?_
                    try simp only [Act.put, List.setIfInBounds_toArray, List.set_cons_zero, List.set_cons_succ]
                    refine wpAnyH_take (i := 2) (oi := { dst := some 139, op := Go.Op.convert 5 3 (Go.Operand.tmp 138), type := 3, pos := "ref.go:233", after := #[{ on := 1, ground := Go.Ground.data }], guard := none }) (v := .int .i64 (x.kind : Int)) rfl (by kernel_rfl) (by kernel_rfl) (by kernel_rfl) (fun _ _ _ h => h) (Or.inl ⟨by rfl, fun w' hS' => by have c := k1; go_simp⟩) trivial ?_
                    try simp only [Act.put, List.setIfInBounds_toArray, List.set_cons_zero, List.set_cons_succ]
                    refine wpAnyH_take (i := 3) (oi := { dst := some 140, op := Go.Op.move (Go.Operand.tmp 1), type := 9, pos := "ref.go:233", after := #[], guard := none }) (v := .string s) rfl (by kernel_rfl) (by kernel_rfl) (by kernel_rfl) (fun _ _ _ h => h) (Or.inl ⟨by rfl, fun w' hS' => by first | rfl | (go_simp; done) | (go_simp; rfl)⟩) trivial ?_
                    try simp only [Act.put, List.setIfInBounds_toArray, List.set_cons_zero, List.set_cons_succ]
                    refine wpAnyH_take (i := 4) (oi := { dst := some 141, op := Go.Op.index 9 (Go.Operand.tmp 140) (Go.Operand.const (Go.Value.int Go.IntKind.i64 1)), type := 5, pos := "ref.go:233", after := #[{ on := 3, ground := Go.Ground.data }], guard := none }) (v := .int .u8 (x.links : Int)) rfl (by kernel_rfl) (by kernel_rfl) (by kernel_rfl) (fun _ _ _ h => h) (Or.inl ⟨by rfl, fun w' hS' => by have c := X1.out w'; go_simp⟩) trivial ?_
                    try simp only [Act.put, List.setIfInBounds_toArray, List.set_cons_zero, List.set_cons_succ]
                    refine wpAnyH_take (i := 5) (oi := { dst := some 142, op := Go.Op.convert 5 3 (Go.Operand.tmp 141), type := 3, pos := "ref.go:233", after := #[{ on := 4, ground := Go.Ground.data }], guard := none }) (v := .int .i64 (x.links : Int)) rfl (by kernel_rfl) (by kernel_rfl) (by kernel_rfl) (fun _ _ _ h => h) (Or.inl ⟨by rfl, fun w' hS' => by have c := k2; go_simp⟩) trivial ?_
                    try simp only [Act.put, List.setIfInBounds_toArray, List.set_cons_zero, List.set_cons_succ]
                    refine wpAnyH_take (i := 6) (oi := { dst := some 143, op := Go.Op.move (Go.Operand.tmp 13), type := 9, pos := "ref.go:233", after := #[], guard := none }) (v := .string D) rfl (by kernel_rfl) (by kernel_rfl) (by kernel_rfl) (fun _ _ _ h => h) (Or.inl ⟨by rfl, fun w' hS' => by first | rfl | (go_simp; done) | (go_simp; rfl)⟩) trivial ?_
                    try simp only [Act.put, List.setIfInBounds_toArray, List.set_cons_zero, List.set_cons_succ]
                    refine wpAnyH_take (i := 7) (oi := { dst := some 144, op := Go.Op.move (Go.Operand.tmp 7), type := 3, pos := "ref.go:233", after := #[], guard := none }) (v := .int .i64 (x.size : Int)) rfl (by kernel_rfl) (by kernel_rfl) (by kernel_rfl) (fun _ _ _ h => h) (Or.inl ⟨by rfl, fun w' hS' => by first | rfl | (go_simp; done) | (go_simp; rfl)⟩) trivial ?_
                    try simp only [Act.put, List.setIfInBounds_toArray, List.set_cons_zero, List.set_cons_succ]
                    refine wpAnyH_take (i := 8) (oi := { dst := some 145, op := Go.Op.slice 9 (Go.Operand.tmp 143) none (some (Go.Operand.tmp 144)) none, type := 9, pos := "ref.go:233", after := #[{ on := 6, ground := Go.Ground.data }, { on := 7, ground := Go.Ground.data }], guard := none }) (v := .string (D.extract 0 x.size)) rfl (by kernel_rfl) (by kernel_rfl) (by kernel_rfl) (fun _ _ _ h => h) (Or.inl ⟨by rfl, fun w' hS' => by have c := hb1; go_simp⟩) trivial ?_
                    try simp only [Act.put, List.setIfInBounds_toArray, List.set_cons_zero, List.set_cons_succ]
                    refine wpAnyH_take (i := 9) (oi := { dst := some 146, op := Go.Op.build 110 #[(0, Go.Operand.tmp 139), (1, Go.Operand.tmp 142), (2, Go.Operand.tmp 145)], type := 110, pos := "ref.go:233", after := #[{ on := 2, ground := Go.Ground.data }, { on := 5, ground := Go.Ground.data }, { on := 8, ground := Go.Ground.data }], guard := none }) (v := .agg #[Value.int .i64 (x.kind : Int), .int .i64 (x.links : Int), .string (D.extract 0 x.size)]) rfl (by kernel_rfl) (by kernel_rfl) (by kernel_rfl) (fun _ _ _ h => h) (Or.inl ⟨by rfl, fun w' hS' => by have c := HBT.out; go_simp⟩) trivial ?_
                    try simp only [Act.put, List.setIfInBounds_toArray, List.set_cons_zero, List.set_cons_succ]
                    refine wpAnyH_take (i := 10) (oi := { dst := some 147, op := Go.Op.move (Go.Operand.tmp 15), type := 77, pos := "ref.go:233", after := #[{ on := 11, ground := Go.Ground.gcOnly Go.Departure.lateStores }], guard := none }) (v := .slice (some ⟨gL, 0, none⟩) c c1) rfl (by kernel_rfl) (by kernel_rfl) (by kernel_rfl) (fun _ _ _ h => h) (Or.inl ⟨by rfl, fun w' hS' => by first | rfl | (go_simp; done) | (go_simp; rfl)⟩) trivial ?_
                    try simp only [Act.put, List.setIfInBounds_toArray, List.set_cons_zero, List.set_cons_succ]
                    refine wpAnyH_ready (rs := [11]) (by kernel_rfl) (by simp) ?_
                    refine AllReadyH.cons (o := { dst := none, op := Go.Op.store 110 (Go.Operand.tmp 4) (Go.Operand.tmp 146), type := 0, pos := "ref.go:233", after := #[{ on := 9, ground := Go.Ground.data }, { on := 0, ground := Go.Ground.phase }, { on := 1, ground := Go.Ground.phase }, { on := 2, ground := Go.Ground.phase }, { on := 3, ground := Go.Ground.phase }, { on := 4, ground := Go.Ground.phase }, { on := 5, ground := Go.Ground.phase }, { on := 6, ground := Go.Ground.phase }, { on := 7, ground := Go.Ground.phase }, { on := 8, ground := Go.Ground.phase }, { on := 9, ground := Go.Ground.phase }, { on := 10, ground := Go.Ground.textOnly Go.Departure.lateStores }], guard := none }) rfl (fun K' hK => ?_) AllReadyH.nil
                    rw [if_pos (by rfl)]
                    refine wp_store_row 110 _ _ rfl B #[Value.int .i64 (x.kind : Int), .int .i64 (x.links : Int), .string (D.extract 0 x.size)] rfl rfl 110 _ HF.out.1 HIY.out rfl (by simp [Value.oneCell']) ?_
                    refine hK.out _ _ trivial (fun _ => ?_)
                    clear hK K'
                    try simp only [Act.put, List.setIfInBounds_toArray, List.set_cons_zero, List.set_cons_succ]
                    refine wpAnyH_take (i := 12) (oi := { dst := some 5, op := Go.Op.assign (Go.Operand.tmp 147), type := 77, pos := "ref.go:233", after := #[{ on := 10, ground := Go.Ground.data }, { on := 11, ground := Go.Ground.chain }, { on := 0, ground := Go.Ground.phase }, { on := 1, ground := Go.Ground.phase }, { on := 2, ground := Go.Ground.phase }, { on := 3, ground := Go.Ground.phase }, { on := 4, ground := Go.Ground.phase }, { on := 5, ground := Go.Ground.phase }, { on := 6, ground := Go.Ground.phase }, { on := 7, ground := Go.Ground.phase }, { on := 8, ground := Go.Ground.phase }, { on := 9, ground := Go.Ground.phase }, { on := 10, ground := Go.Ground.phase }, { on := 11, ground := Go.Ground.phase }], guard := none }) (v := .slice (some ⟨gL, 0, none⟩) c c1) rfl (by kernel_rfl) (by kernel_rfl) (by kernel_rfl) (fun _ _ _ h => h) (Or.inl ⟨by rfl, fun w' hS' => by first | rfl | (go_simp; done) | (go_simp; rfl)⟩) trivial ?_
                    try simp only [Act.put, List.setIfInBounds_toArray, List.set_cons_zero, List.set_cons_succ]
                    refine wpAnyH_take (i := 13) (oi := { dst := some 6, op := Go.Op.assign (Go.Operand.const (Go.Value.bool true)), type := 4, pos := "ref.go:233", after := #[{ on := 12, ground := Go.Ground.chain }, { on := 0, ground := Go.Ground.phase }, { on := 1, ground := Go.Ground.phase }, { on := 2, ground := Go.Ground.phase }, { on := 3, ground := Go.Ground.phase }, { on := 4, ground := Go.Ground.phase }, { on := 5, ground := Go.Ground.phase }, { on := 6, ground := Go.Ground.phase }, { on := 7, ground := Go.Ground.phase }, { on := 8, ground := Go.Ground.phase }, { on := 9, ground := Go.Ground.phase }, { on := 10, ground := Go.Ground.phase }, { on := 11, ground := Go.Ground.phase }, { on := 12, ground := Go.Ground.phase }], guard := none }) (v := .bool true) rfl (by kernel_rfl) (by kernel_rfl) (by kernel_rfl) (fun _ _ _ h => h) (Or.inl ⟨by rfl, fun w' hS' => by first | rfl | (go_simp; done) | (go_simp; rfl)⟩) trivial ?_
                    try simp only [Act.put, List.setIfInBounds_toArray, List.set_cons_zero, List.set_cons_succ]
                    refine wpAnyH_done (by kernel_rfl) ?_ _
                    go_wp2_with fail
                    refine bodyPost_ret (res_ctt rfl rfl (ld_node HF.out.2.1 HIY.out)) rfl ?_
                    refine .inl ⟨HNO.out, some ⟨gL, 0, none⟩, c1, ?_, ?_⟩
                    · rw [HY.out, HOW.out, HTL.out]
                      rfl
                    · show Own _ _ (Star (rowA _ _ _ _ _) _)
                      rw [HOW.out, HTL.out]
                      exact HF.out.2.2
            · have z0 : ((lastX x : Int) != 0) = true := by rw [bne_iff_ne]; omega
              have HB := Lib.hid (HRET.out _ _ ⟨HO4.out.swap2, stable_star (stable_row _ _ _ _ _) stable_emp⟩)
              go_wp2_with (first | (refine wpList_build0 rfl 110 rfl (nodeC node0) built_node0 ?_) | (refine wpList_store_row rfl _ _ _ rfl B (nodeC node0) rfl rfl _ _ HB.out.1 (HI.out node0) rfl (nodeC_one node0) ?_))
              refine bodyPost_ret (res_ctt rfl rfl (ld_node HB.out.2.1 (HI.out _))) rfl ?_
              exact .inr ⟨fun hno => l0 ((HN.out.1 hno).1.2.2.1 (by rw [← HC.out]; omega)), rfl, HB.out.2.2⟩
    · have d2 : decide (2368 < (x.size : Int)) = true := decide_eq_true (by omega)
      have d2n : decide (2368 < x.size) = true := decide_eq_true (by omega)
      have HB := Lib.hid (HRET.out _ _ ⟨O2.out, stable_emp⟩)
      go_wp2_with (first | (refine wpList_build0 rfl 110 rfl (nodeC node0) built_node0 ?_) | (refine wpList_store_row rfl _ _ _ rfl B (nodeC node0) rfl rfl _ _ HB.out.1 (HI.out node0) rfl (nodeC_one node0) ?_))
      refine bodyPost_ret (res_ctt rfl rfl (ld_node HB.out.2.1 (HI.out _))) rfl ?_
      exact .inr ⟨fun hno => q2 (HN.out.1 hno).1.2.1, rfl, HB.out.2.2⟩
  · have d1 : decide (2 < (x.kind : Int)) = true := decide_eq_true (by omega)
    have d1n : decide (2 < x.kind) = true := decide_eq_true (by omega)
    have HB := Lib.hid (HRET.out _ _ ⟨O2.out, stable_emp⟩)
    go_wp2_with (first | (refine wpList_build0 rfl 110 rfl (nodeC node0) built_node0 ?_) | (refine wpList_store_row rfl _ _ _ rfl B (nodeC node0) rfl rfl _ _ HB.out.1 (HI.out node0) rfl (nodeC_one node0) ?_))
    refine bodyPost_ret (res_ctt rfl rfl (ld_node HB.out.2.1 (HI.out _))) rfl ?_
    exact .inr ⟨fun hno => q1 (HN.out.1 hno).1.1, rfl, HB.out.2.2⟩
end Go.Proofs.YtlpcccpagmipnaaGreat.P
namespace Go.Proofs.YtlpcccpagmipnaaGreat.P
open Go.RowKit Go.ChangeMaps Go.MapKept
theorem bool_info8 : (Tryz.prog.info? 4).map (fun i => (i.zero, i.size, i.bytes)) = some (some (.bool false), 1, 1) := by kernel_rfl
def UOk (us : Array Value) (f : Nat → Bool) : Prop := ∀ i, i < 512 → us[i]? = some (.bool (f i))
theorem made_bools : UOk (madeCells #[Value.bool false] 512) (fun _ => false) := fun i hi => by
  have e : (madeCells #[Value.bool false] 512).toList = List.replicate 512 (.bool false) := toList_madeCells_one _ _
  rw [← Array.getElem?_toList, e, List.getElem?_replicate, if_pos hi]
theorem mk_bools (w : World) : (Instr.makeSlice 108 (.int .i64 512) (.int .i64 512)).run Tryz.prog w = .ok (.slice (some ⟨w.heap.size, 0, none⟩) 512 512) (w.alloc (.cells (madeCells #[Value.bool false] 512) 4)) := by
  obtain ⟨i0, hi, hz0, hz1, hz2⟩ := info_parts bool_info8
  have := run_make (P := Tryz.prog) w 108 4 i0 (.bool false) Tryz.underlying108 hi hz0 .i64 .i64 512 512 (by omega) (Int.le_refl _) (by rw [hz2]; decide) (by omega)
  rw [this, hz1]
  rfl
theorem u_put {us : Array Value} {f : Nat → Bool} (h : UOk us f) {o : Nat} (ho : o < 512) : UOk (us.setIfInBounds o (.bool true)) (fun i => decide (i = o) || f i) := fun i hi => by
  have h0 := h i hi
  have hs : i < us.size := Nat.lt_of_not_le fun e => by rw [Array.getElem?_eq_none e] at h0; cases h0
  rw [Array.getElem?_setIfInBounds]
  show _ = some (Value.bool (decide (i = o) || f i))
  by_cases e : o = i
  · rw [if_pos e, if_pos (by omega), decide_eq_true (show i = o from e.symm), Bool.true_or]
  · rw [if_neg e, h0, decide_eq_false (fun h : i = o => e h.symm), Bool.false_or]
abbrev uA (U : Nat) (us : Array Value) : Asn := blkA U (.cells us 4)
def OfS (w : World) (r g n U : Nat) (N : Nat → NodeA) (f : Nat → Bool) (R : Asn) (wx : World) : Prop := ∃ us, UOk us f ∧ RfP w r g 32 n N (Star (uA U us) R) wx
section
variable {w wx : World} {r g n U : Nat} {N : Nat → NodeA} {f : Nat → Bool} {R : Asn}
theorem stable_u (U : Nat) (us : Array Value) (hs : Stable R) : Stable (Star (uA U us) R) := stable_star (stable_blk _ _) hs
theorem OfS.gr (h : OfS w r g n U N f R wx) (hs : Stable R) {w' : World} (k : Gr wx w') : OfS w r g n U N f R w' := by
  obtain ⟨us, h1, h2⟩ := h
  exact ⟨us, h1, h2.gr (stable_u _ _ hs) k⟩
theorem OfS.sub (h : OfS w r g n U N f R wx) : Gr w wx := h.choose_spec.2.sub
theorem OfS.cell (h : OfS w r g n U N f R wx) {i : Nat} (hi : i < 512) : wx.cell? ⟨U, i, none⟩ = some (.bool (f i)) ∧ wx.frozen? ⟨U, i, none⟩ = false := by
  obtain ⟨us, h1, cs, h2, h3⟩ := h
  exact ⟨blk_cell h3.right.right.blk i (h1 i hi), blk_frozen h3.right.right.blk i⟩
theorem OfS.put (h : OfS w r g n U N f R wx) (hs : Stable R) {o : Nat} (ho : o < 512) : OfS w r g n U N (fun i => decide (i = o) || f i) R (wx.setCell ⟨U, o, none⟩ (.bool true)) := by
  obtain ⟨us, h1, cs, h2, h3⟩ := h
  have h4 : Own w wx (Star (uA U us) (Star (rfA r g 32 n) (Star (rnA g cs) R))) := h3.ac (by ac_rfl)
  have h5 : Own w _ (Star (uA U (us.setIfInBounds o (.bool true))) (Star (rfA r g 32 n) (Star (rnA g cs) R))) := h4.put8 (stable_star (stable_blk _ _) (stable_star (stable_blk _ _) hs)) o (.bool true) _ rfl
  exact ⟨_, u_put h1 ho, cs, h2, h5.ac (by ac_rfl)⟩
theorem OfS.rf (h : OfS w r g n U N f R wx) : RefAt wx r g 32 n N := h.choose_spec.2.rf
theorem OfS.row (h : OfS w r g n U N f R wx) (hs : Stable R) {q : Nat} (hq : q < 32) (x : NodeA) : wx.there g (q * 3) 3 ∧ OfS w r g n U (insN N q x) f R (wx.setCells g (q * 3) [.int .i64 (x.kind : Int), .int .i64 (x.links : Int), .string ⟨x.data.toArray⟩]) := by
  obtain ⟨us, h1, h2⟩ := h
  exact ⟨rf_there h2 hq, us, h1, rf_put h2 (stable_u _ _ hs) hq x⟩
theorem OfS.ext {M : Nat → NodeA} (h : OfS w r g n U N f R wx) (he : ∀ q, q < 32 → N q = M q) : OfS w r g n U M f R wx := by
  obtain ⟨us, h1, cs, h2, h3⟩ := h
  exact ⟨us, h1, cs, fun q hq => by rw [← he q hq]; exact h2 q hq, h3⟩
theorem OfS.rest (h : OfS w r g n U N f R wx) : Own w wx R := by
  obtain ⟨us, h1, cs, h2, h3⟩ := h
  exact h3.right.right.right
theorem OfS.enter (h : OfS w r g n U N f emp wx) {w' : World} {A : Asn} (h2 : Own wx w' A) : OfS w r g n U N f A w' := by
  obtain ⟨us, h1, cs, h3, h4⟩ := h
  have hs : Stable (Star (rfA r g 32 n) (Star (rnA g cs) (Star (uA U us) emp))) := stable_star (stable_blk _ _) (stable_star (stable_blk _ _) (stable_star (stable_blk _ _) stable_emp))
  have h5 : Own w w' (Star A (Star (rfA r g 32 n) (Star (rnA g cs) (Star (uA U us) emp)))) := h4.add hs h2.sub (by
    obtain ⟨F, k1, k2, _⟩ := h2
    exact ⟨F, k1, k2⟩)
  have h6 : Own w w' (Star emp (Star (rfA r g 32 n) (Star (rnA g cs) (Star (uA U us) A)))) := h5.ac (by ac_rfl)
  exact ⟨us, h1, cs, h3, h6.right⟩
theorem OfS.box (h : OfS w r g n U N f R wx) (hs : Stable R) (o : Obj) : OfS w r g n U N f (Star (blkA wx.heap.size o) R) (wx.alloc o) := by
  obtain ⟨us, h1, cs, h3, h4⟩ := h
  have h5 := h4.alloc (stable_star (stable_blk _ _) (stable_star (stable_blk _ _) (stable_u _ _ hs))) o
  exact ⟨us, h1, cs, h3, h5.ac (by ac_rfl)⟩
theorem OfS.set {B : Nat} {xs : Array Value} {T : TypeId} (h : OfS w r g n U N f (Star (blkA B (.cells xs T)) R) wx) (hs : Stable R) (ys : Array Value) : OfS w r g n U N f (Star (blkA B (.cells ys T)) R) (wx.setRow B ys) := by
  obtain ⟨us, h1, cs, h3, h4⟩ := h
  have h5 : Own w wx (Star (blkA B (.cells xs T)) (Star (rfA r g 32 n) (Star (rnA g cs) (Star (uA U us) R)))) := h4.ac (by ac_rfl)
  have h6 := h5.setRow (stable_star (stable_blk _ _) (stable_star (stable_blk _ _) (stable_u _ _ hs))) ys
  exact ⟨us, h1, cs, h3, h6.ac (by ac_rfl)⟩
theorem OfS.drop (h : OfS w r g n U N f R wx) : OfS w r g n U N f emp wx := by
  obtain ⟨us, h1, cs, h3, h4⟩ := h
  exact ⟨us, h1, cs, h3, h4.mono fun F hF => star_mono_r (fun F h => star_mono_r (fun F h => star_mono_r (fun F _ => trivial) h) h) hF⟩
end
def befN (V : Nat → List UInt8) (k : Nat) : Nat → NodeA := fun j => if j < k then ofN V j else exN0 j
theorem befN_put (V : Nat → List UInt8) (k : Nat) (j : Nat) : insN (befN V k) k (ofN V k) j = befN V (k + 1) j := by
  unfold insN befN
  by_cases e : j = k
  · rw [if_pos e, if_pos (by omega), e]
  · rw [if_neg e]
    by_cases h : j < k
    · rw [if_pos h, if_pos (by omega)]
    · rw [if_neg h, if_neg (by omega)]
def OfP (w : World) (V : Nat → List UInt8) (n : Nat) (e : Ending) (w' : World) : Prop :=
  (OfOk V n ∧ ∃ r g, e = .returned (.tuple #[.pointer (some ⟨r, 0, none⟩), .bool true]) ∧ RfP w r g 32 n (ofN V) emp w') ∨ (¬ OfOk V n ∧ e = .returned (.tuple #[.pointer none, .bool false]) ∧ Gr w w')
theorem c_node8 {w : World} {g b n : Nat} {H : Nat → ByteArray} (hh : HomeAt w g b n H) (h64 : ∀ i, i < n → (H i).size = 64) (hn : n ≤ 512) (cp : Nat) (s : ByteArray) (hs : s.size = 16) : Calls Tryz.prog 55 #[.slice (some ⟨g, b, none⟩) n cp, .string s] w (NodeP w (vH H) n (toF s.data.toList 0)) := by
  by_cases h0 : byL s.data.toList 0 = 0
  · exact c_node8a cp s hs h0
  · exact c_node8b hh h64 hn cp s hs h0
set_option maxHeartbeats 12800000 in
theorem c_of8 {w : World} {g b n : Nat} {H : Nat → ByteArray} (hh : HomeAt w g b n H) (h64 : ∀ i, i < n → (H i).size = 64) (h9 : 9 ≤ n) (hn : n ≤ 512) (cp : Nat) : Calls Tryz.prog 21 #[.slice (some ⟨g, b, none⟩) n cp] w (OfP w (vH H) n) := by
  have HNEW := Lib.hid (r_new (Own.start (Gr.refl w)) stable_emp n)
  have HMK := Lib.hid mk_bools
  have HU0 : Hid (∀ wx r g2, RfP w r g2 32 n exN0 emp wx → OfS w r g2 n wx.heap.size exN0 (fun _ => false) emp (wx.alloc (.cells (madeCells #[Value.bool false] 512) 4))) := Lib.hid (fun wx r g2 h => by
    obtain ⟨cs, h1, h2⟩ := h
    have h3 : Own w _ (Star (uA wx.heap.size (madeCells #[Value.bool false] 512)) (Star (rfA r g2 32 n) (Star (rnA g2 cs) emp))) := h2.alloc (stable_rf _ _ _ _ _ stable_emp) _
    exact ⟨_, made_bools, cs, h1, h3.ac (by ac_rfl)⟩)
  have HH := Lib.hid hh
  have H64 := Lib.hid h64
  have HND : Hid (∀ wx, Gr w wx → ∀ k, k < 32 → Calls Tryz.prog 55 #[.slice (some ⟨g, b, none⟩) n cp, .string ((H (1 + k / 4)).extract (k % 4 * 16) (k % 4 * 16 + 16))] wx (NodeP wx (vH H) n (inoX (vH H) k))) := Lib.hid (fun wx gx k hk => by
    have hsz := h64 (1 + k / 4) (by omega)
    have h := c_node8 (hh.gr gx) h64 hn cp ((H (1 + k / 4)).extract (k % 4 * 16) (k % 4 * 16 + 16)) (by rw [ByteArray.size_extract, hsz]; omega)
    rw [ext_toList, show k % 4 * 16 + 16 - k % 4 * 16 = 16 by omega] at h
    have e : inoX (vH H) k = toF (((H (1 + k / 4)).data.toList.drop (k % 4 * 16)).take 16) 0 := toF_shift _ _
    rw [e]
    exact h)
  clear hh h64
  go_enter Tryz.func21, Tryz.ntmps21
  go_upto_region 2 with (go_at_call 15; refine HNEW.out.mono ?_; rintro e w1 ⟨r, g2, rfl, h1⟩; have H1 := Lib.hid h1; clear h1)
  have mk := HMK.out w1
  have H2 := Lib.hid (HU0.out _ _ _ H1.out)
  clear HNEW HMK HU0
  go_upto_region 4 with fail
  clear mk H1
  generalize w1.alloc _ = w2 at *
  generalize w1.heap.size = U at *
  go_loopw [6] (fun v6 wr => ∃ (k : Nat) (f : Nat → Bool), k ≤ 9 ∧ v6 = .int .i64 (k : Int) ∧ (∀ i, f i = decide (i < k)) ∧ OfS w r g2 n U exN0 f emp wr) (fun v _ => 9 - (intOf v).toNat)
  case atStart => exact ⟨0, _, Nat.zero_le _, rfl, fun i => (decide_eq_false (Nat.not_lt_zero i)).symm, H2.out⟩
  case round =>
    clear H2
    obtain ⟨k, f, hk, rfl, hf, ho⟩ := hrel
    have HF := Lib.hid hf
    have HO := Lib.hid ho
    clear hf ho
    by_cases hlt : k < 9
    · have dk : decide (k < 9) = true := decide_eq_true hlt
      have dk2 : decide ((k : Int) < 9) = true := decide_eq_true (by omega)
      obtain ⟨c1, z1⟩ := HO.out.cell (i := k) (by omega)
      have hq1 : (k : Int) < 512 := by omega
      have HP := Lib.hid (HO.out.put stable_emp (o := k) (by omega))
      clear HO
      go_wp2_with fail
      go_roundw
      case rel =>
        refine ⟨k + 1, _, by omega, by go_num, fun i => ?_, HP.out⟩
        rw [HF.out i, Bool.eq_iff_iff, Bool.or_eq_true, decide_eq_true_eq, decide_eq_true_eq, decide_eq_true_eq]
        omega
      case measure => simp [intOf]; omega
    · have dk : decide (k < 9) = false := decide_eq_false hlt
      have dk2 : decide ((k : Int) < 9) = false := decide_eq_false (by omega)
      have HB0 : Hid (OfS w r g2 n U (befN (vH H) 0) (fun i => decide (i < 9)) emp wr) := Lib.hid (by
        obtain rfl : f = fun i => decide (i < 9) := funext fun i => by rw [HF.out i, show k = 9 by omega]
        exact HO.out.ext fun q _ => rfl)
      clear HO HF hk hlt
      go_wp2_with fail
      go_loopw [7] (fun v7 wx => ∃ (k : Nat) (f : Nat → Bool), k ≤ 32 ∧ v7 = .int .i64 (k : Int) ∧ ofK (vH H) n k = some f ∧ OfS w r g2 n U (befN (vH H) k) f emp wx) (fun v _ => 32 - (intOf v).toNat)
      case atStart => exact ⟨0, _, Nat.zero_le _, rfl, rfl, HB0.out⟩
      case round =>
        clear HB0 dk dk2
        obtain ⟨k, f, hk, rfl, hf, ho⟩ := hrel
        have HF := Lib.hid hf
        have HO := Lib.hid ho
        clear hf ho
        by_cases hlt : k < 32
        · have dk : decide (k < 32) = true := decide_eq_true hlt
          have dk2 : decide ((k : Int) < 32) = true := decide_eq_true (by omega)
          obtain ⟨q, hq⟩ : ∃ q, q = k / 4 := ⟨_, rfl⟩
          obtain ⟨m, hm⟩ : ∃ m, m = k % 4 := ⟨_, rfl⟩
          have CN := Lib.hid (HND.out wr HO.out.sub k hlt)
          rw [← hq, ← hm] at CN
          have e4 : (k : Int) / 4 = (q : Int) := by omega
          have e5 : (k : Int) % 4 = (m : Int) := by omega
          have hq8 : q < 8 ∧ m < 4 := by omega
          have cH := (HH.out.gr HO.out.sub).cell (1 + q) (by omega)
          have hsz := H64.out (1 + q) (by omega)
          have t1 : (1 + (q : Int)).toNat = 1 + q := by omega
          have t2 : ((m : Int) * 16).toNat = m * 16 := by omega
          have t3 : ((m : Int) * 16 + 16).toNat = m * 16 + 16 := by omega
          have b1 : 1 + (q : Int) < (n : Int) := by omega
          have b2 : (m : Int) * 16 + 16 ≤ 64 := by omega
          have hSL : (Instr.slice 9 (.string (H (1 + q))) (some (.int .i64 ((m : Int) * 16))) (some (.int .i64 ((m : Int) * 16 + 16))) none).run Tryz.prog wr = .ok (.string ((H (1 + q)).extract (m * 16) (m * 16 + 16))) wr := by
            have h := run_slice_string (P := Tryz.prog) wr 9 (H (1 + q)) .i64 .i64 ((m : Int) * 16) ((m : Int) * 16 + 16) Tryz.underlying9 (by omega) (by omega) (by rw [hsz]; omega)
            rw [t2, t3] at h
            exact h
          clear hq hm hsz t2 t3 b2
          by_cases hnk : NodeOk (vH H) n (inoX (vH H) k)
          · have CN1 : Hid (Calls Tryz.prog 55 #[.slice (some ⟨g, b, none⟩) n cp, .string ((H (1 + q)).extract (m * 16) (m * 16 + 16))] wr fun e w' => ∃ o c, e = .returned (.tuple #[.agg (nodeC (ofN (vH H) k)), .slice o (faX (vH H) (inoX (vH H) k)).own.length c, .bool true]) ∧ Own wr w' (Star (rowN (.slice o (faX (vH H) (inoX (vH H) k)).own.length c) (faX (vH H) (inoX (vH H) k)).own) emp)) := Lib.hid (CN.out.mono (by
              rintro e w' (⟨_, h⟩ | ⟨h, _⟩)
              · exact h
              · exact absurd hnk h))
            obtain ⟨ow, how⟩ : ∃ ow, ow = (faX (vH H) (inoX (vH H) k)).own := ⟨_, rfl⟩
            rw [← how] at CN1
            have hfo := (node_file (inoX_len _ _) (inoX_links _ _) hnk).1
            have HOWN : Hid (∀ j, j < ow.length → ow.getD j 0 < n) := Lib.hid (fun j hj => (hfo.inn _ (by rw [← how]; exact getD_mem hj)).2)
            have hl38 : ow.length ≤ 38 := by
              have := hfo.le
              rw [how]
              unfold FA.own
              rw [List.length_append]
              split <;> simp <;> omega
            have HNX : Hid (ofK (vH H) n (k + 1) = markK f ow) := Lib.hid (by rw [how]; exact ofK_good HF.out hnk)
            obtain ⟨X, hX⟩ : ∃ X, X = ofN (vH H) k := ⟨_, rfl⟩
            rw [← hX] at CN1
            have HX := Lib.hid hX
            clear CN how hX hfo hnk
            go_upto_region 11 with (first
              | (go_at_call 55; refine CN1.out.mono ?_; rintro e w5 ⟨o, c, rfl, h5⟩; have H5 := Lib.hid (HO.out.enter h5); clear h5)
              | (refine wpList_alloc_blk rfl 110 (nodeC node0) rfl (node_zero _) ?_)
              | (refine wpList_store_row rfl _ _ _ rfl w5.heap.size (nodeC X) rfl rfl _ _ (blk_new w5 _) (node_infoX X) rfl (nodeC_one X) ?_))
            have HS0 : Hid (Stable (Star (rowN (.slice o ow.length c) ow) emp)) := Lib.hid (stable_star (stable_row _ _ _ _ _) stable_emp)
            have H6 : Hid (OfS w r g2 n U (befN (vH H) k) f (Star (ndA w5.heap.size X) (Star (rowN (.slice o ow.length c) ow) emp)) ((w5.alloc (.cells (nodeC node0) 110)).setRow w5.heap.size (nodeC X))) := Lib.hid ((H5.out.box HS0.out _).set HS0.out _)
            generalize (World.setRow _ _ _) = w6 at *
            generalize w5.heap.size = B at *
            clear H5 HO CN1 hSL cH e4 e5 t1 b1
            have HSR : Hid (Stable (Star (ndA B X) (Star (rowN (.slice o ow.length c) ow) emp))) := Lib.hid (stable_star (stable_blk _ _) HS0.out)
            go_wp2_with fail
            go_loopw [11] (fun v11 wx => ∃ (j : Nat) (f' : Nat → Bool), j ≤ ow.length ∧ v11 = .int .i64 (j : Int) ∧ markK f' (ow.drop j) = markK f ow ∧ OfS w r g2 n U (befN (vH H) k) f' (Star (ndA B X) (Star (rowN (.slice o ow.length c) ow) emp)) wx) (fun v _ => ow.length - (intOf v).toNat)
            case atStart => exact ⟨0, f, Nat.zero_le _, rfl, rfl, H6.out⟩
            case round =>
              clear H6
              obtain ⟨j, f', hj, rfl, hmk, ho⟩ := hrel
              have HMK := Lib.hid hmk
              have HO := Lib.hid ho
              clear hmk ho
              by_cases hlj : j < ow.length
              · have dj : decide (j < ow.length) = true := decide_eq_true hlj
                have dj2 : decide ((j : Int) < (ow.length : Int)) = true := decide_eq_true (by omega)
                have HRW : Hid (Own w wr (Star (rowA 3 1 (.slice o ow.length c) ow.length (nums ow)) emp)) := Lib.hid HO.out.rest.right
                obtain ⟨gR, hgR, _, _⟩ := rown_form HRW.out (by omega)
                subst hgR
                have cR := rown_at HRW.out hlj
                have HDR : Hid (ow.drop j = ow.getD j 0 :: ow.drop (j + 1)) := Lib.hid (by
                  rw [List.drop_eq_getElem_cons hlj, List.getD_eq_getElem?_getD, List.getElem?_eq_getElem hlj]; rfl)
                have hon := HOWN.out j hlj
                obtain ⟨p, hp⟩ : ∃ p, p = ow.getD j 0 := ⟨_, rfl⟩
                rw [← hp] at cR HDR hon
                clear hp HRW
                have h512 : p < 512 := by omega
                obtain ⟨cU, zU⟩ := HO.out.cell h512
                have q1 : (j : Int) < (ow.length : Int) := by omega
                have q2 : (p : Int) < 512 := by omega
                cases hfp : f' p with
                | true =>
                  rw [hfp] at cU
                  have HNOT : Hid (¬ OfOk (vH H) n) := Lib.hid (not_of (k := k + 1) (by omega) (by
                    rw [HNX.out, ← HMK.out, HDR.out]
                    show (bif f' p then none else _) = _
                    rw [hfp]; rfl))
                  clear HDR HMK HNX HOWN
                  go_wp2_with fail
                  go_ret2
                  exact .inr ⟨HNOT.out, rfl, HO.out.sub⟩
                | false =>
                  rw [hfp] at cU
                  have HP := Lib.hid (HO.out.put HSR.out h512)
                  have HM2 : Hid (markK (fun i => decide (i = p) || f' i) (ow.drop (j + 1)) = markK f ow) := Lib.hid (by
                    rw [← HMK.out, HDR.out]
                    show _ = (bif f' p then none else _)
                    rw [hfp, cond_false])
                  clear HDR HMK HNX HOWN HO
                  go_wp2_with fail
                  go_roundw
                  case rel => exact ⟨j + 1, _, by omega, by go_num, HM2.out, HP.out⟩
                  case measure => simp [intOf]; omega
              · have HJ := Lib.hid (show j = ow.length by omega)
                have dj : decide (j < ow.length) = false := decide_eq_false hlj
                have dj2 : decide ((j : Int) < (ow.length : Int)) = false := decide_eq_false (by omega)
                have HF2 : Hid (ofK (vH H) n (k + 1) = some f') := Lib.hid (by
                  rw [HNX.out, ← HMK.out, HJ.out, List.drop_length]; rfl)
                have a0 := HO.out.rf.row
                have hB : wr.heap[B]? = some (.cells (nodeC X) 110) := HO.out.rest.blk
                have a1 := blk_cell hB 0 (v := .int .i64 (X.kind : Int)) rfl
                have a2 := blk_cell hB 1 (v := .int .i64 (X.links : Int)) rfl
                have a3 := blk_cell hB 2 (v := .string ⟨X.data.toArray⟩) rfl
                have q1 : (k : Int) < 32 := by omega
                have HR9 := Lib.hid ((HO.out.gr HSR.out (Gr.drewN (Gr.refl _) 1)).row HSR.out (q := k) hlt X)
                have HLD := Lib.hid (ld_node hB (node_infoX X))
                have HBP : Hid (∀ wx, OfS w r g2 n U (insN (befN (vH H) k) k X) f' (Star (ndA B X) (Star (rowN (.slice o ow.length c) ow) emp)) wx → OfS w r g2 n U (befN (vH H) (k + 1)) f' emp wx) := Lib.hid (fun wx hw => hw.drop.ext fun q _ => by rw [HX.out]; exact befN_put _ _ _)
                clear HMK HNX HOWN HJ hB HX
                go_upto_region 19 with fail
                go_still_tail 7, (by kernel_rfl)
                go_wp2_with (refine wpList_store_mid rfl _ _ _ rfl g2 (k * 3) (nodeC X) rfl rfl HR9.out.1 (node_infoX X) (nodeC_one X) ?_)
                go_roundw
                case rel => exact ⟨k + 1, f', by omega, by go_num, HF2.out, HBP.out _ HR9.out.2⟩
                case measure => simp [intOf]; omega
          · have CN0 : Hid (Calls Tryz.prog 55 #[.slice (some ⟨g, b, none⟩) n cp, .string ((H (1 + q)).extract (m * 16) (m * 16 + 16))] wr fun e w' => e = .returned (.tuple #[.agg (nodeC node0), .slice none 0 0, .bool false]) ∧ Gr wr w') := Lib.hid (CN.out.mono (by
              rintro e w' (⟨h, _⟩ | ⟨_, h⟩)
              · exact absurd h hnk
              · exact h))
            have HNOT : Hid (¬ OfOk (vH H) n) := Lib.hid (not_of (k := k + 1) (by omega) (ofK_bad hnk))
            clear CN hnk
            go_wp2_with (first
              | (go_at_call 55; refine CN0.out.mono ?_; rintro e w5 ⟨rfl, g5⟩; have G5 := Lib.hid (gtrans HO.out.sub (gtrans g5 ((Gr.refl _).alloc (Nat.le_refl _) (.cells (nodeC node0) 110)))); clear g5)
              | (refine wpList_alloc_blk rfl 110 (nodeC node0) rfl (node_zero _) ?_)
              | (refine wpList_store_row rfl _ _ _ rfl w5.heap.size (nodeC node0) rfl rfl _ _ (blk_new w5 _) (node_infoX node0) rfl (nodeC_one node0) ?_; rw [setRow_self8 (blk_new w5 _)]))
            go_ret2
            exact .inr ⟨HNOT.out, rfl, G5.out⟩
        · have HK := Lib.hid (show k = 32 by omega)
          have dk : decide (k < 32) = false := decide_eq_false hlt
          have dk2 : decide ((k : Int) < 32) = false := decide_eq_false (by omega)
          have HF32 : Hid (ofK (vH H) n 32 = some f) := Lib.hid (by rw [← HF.out, HK.out])
          have HO32 : Hid (OfS w r g2 n U (befN (vH H) 32) f emp wr) := Lib.hid (by have h := HO.out; rw [HK.out] at h; exact h)
          clear HF HO HK HND
          go_wp2_with fail
          go_loopw [12] (fun v12 wx => ∃ i : Nat, i ≤ 512 ∧ v12 = .int .i64 (i : Int) ∧ (∀ j, j < i → usedB (vH H 0) j = f j) ∧ OfS w r g2 n U (befN (vH H) 32) f emp wx) (fun v _ => 512 - (intOf v).toNat)
          case atStart => exact ⟨0, Nat.zero_le _, rfl, fun j hj => absurd hj (Nat.not_lt_zero j), HO32.out⟩
          case round =>
            clear HO32 dk dk2
            obtain ⟨i, hi, rfl, hub, ho⟩ := hrel
            have HUB := Lib.hid hub
            have HO := Lib.hid ho
            clear hub ho
            by_cases hlt2 : i < 512
            · have di : decide (i < 512) = true := decide_eq_true hlt2
              have di2 : decide ((i : Int) < 512) = true := decide_eq_true (by omega)
              have c0 := (HH.out.gr HO.out.sub).cell 0 (by omega)
              rw [Nat.add_zero] at c0
              have hn0 : (0 : Int) < (n : Int) := by omega
              have xi := idx_run8 (H 0) (i / 8) ((i : Int) / 8) (by omega) (by rw [H64.out 0 (by omega)]; omega) wr
              obtain ⟨cU, _⟩ := HO.out.cell (i := i) hlt2
              have q2 : (i : Int) < 512 := by omega
              have HBIT : Hid (usedB (vH H 0) i = decide (bitL (byL (H 0).data.toList (i / 8)) (i % 8) = 1)) := Lib.hid rfl
              have hby := byL_lt (H 0).data.toList (i / 8)
              generalize byL (H 0).data.toList (i / 8) = by0 at *
              go_wp2_with fail
              go_loopw [13, 14] (fun v13 v14 wx => ∃ q : Nat, q ≤ i % 8 ∧ v14 = .int .i64 (q : Int) ∧ v13 = .int .u8 ((by0 / 2 ^ q : Nat) : Int) ∧ wx = wr) (fun _ v _ => i % 8 - (intOf v).toNat)
              case atStart => exact ⟨0, Nat.zero_le _, rfl, by rw [Nat.pow_zero, Nat.div_one], rfl⟩
              case round =>
                obtain ⟨q, hq, rfl, rfl, hwr⟩ := hrel
                rw [hwr]
                clear hwr
                have HPW : Hid (by0 / 2 ^ (q + 1) = by0 / 2 ^ q / 2) := Lib.hid (by rw [Nat.pow_succ, Nat.div_div_eq_div_mul])
                have hv : by0 / 2 ^ q < 256 := Nat.lt_of_le_of_lt (Nat.div_le_self _ _) hby
                obtain ⟨bq, hbq⟩ : ∃ bq, bq = by0 / 2 ^ q := ⟨_, rfl⟩
                rw [← hbq] at HPW hv ⊢
                have HBQ := Lib.hid hbq
                clear hbq
                obtain ⟨m, hm⟩ : ∃ m, m = i % 8 := ⟨_, rfl⟩
                have e8 : (i : Int) % 8 = (m : Int) := by omega
                by_cases hqm : q < m
                · have dq : decide (q < m) = true := decide_eq_true hqm
                  have dq2 : decide ((q : Int) < (m : Int)) = true := decide_eq_true (by omega)
                  have w1 : IntKind.u8.wrap ((bq : Int) / 2) = ((bq / 2 : Nat) : Int) := by rw [IntKind.wrap_u8]; omega
                  have hm8 : m ≤ 7 := by omega
                  have HM := Lib.hid hm
                  clear hm
                  go_wp2_with fail
                  go_roundw
                  case rel => exact ⟨q + 1, by have := HM.out; omega, by go_num, by rw [HPW.out]; first | rfl | (congr 1; omega), trivial⟩
                  case measure => have := HM.out; simp [intOf]; omega
                · have dq : decide (q < m) = false := decide_eq_false hqm
                  have dq2 : decide ((q : Int) < (m : Int)) = false := decide_eq_false (by omega)
                  have HQM : Hid (usedB (vH H 0) i = decide (bq % 2 = 1)) := Lib.hid (by rw [HBIT.out, HBQ.out, show q = i % 8 by omega]; rfl)
                  clear hm HBQ HPW HBIT
                  by_cases hb : bq % 2 = 1
                  · cases hfi : f i with
                    | true =>
                      rw [hfi] at cU
                      have r1 : (bq : Int) % 2 = 1 := by omega
                      have HU2 : Hid (∀ j, j < i + 1 → usedB (vH H 0) j = f j) := Lib.hid (fun j hj => by
                        by_cases e : j = i
                        · rw [e, HQM.out, hfi]; exact decide_eq_true hb
                        · exact HUB.out j (by omega))
                      clear HQM HUB hb
                      go_wp2_with fail
                      go_roundw
                      case rel => exact ⟨i + 1, by omega, by go_num, HU2.out, HO.out⟩
                      case measure => simp [intOf]; omega
                    | false =>
                      rw [hfi] at cU
                      have r1 : (bq : Int) % 2 = 1 := by omega
                      have HNOT : Hid (¬ OfOk (vH H) n) := Lib.hid (fun ⟨U', x1, x2⟩ => by
                        rw [HF32.out] at x1
                        cases x1
                        have x3 := x2 i hlt2
                        rw [HQM.out, hfi, decide_eq_true hb] at x3
                        cases x3)
                      clear HQM HUB hb
                      go_wp2_with fail
                      go_ret2
                      exact .inr ⟨HNOT.out, rfl, HO.out.sub⟩
                  · cases hfi : f i with
                    | true =>
                      rw [hfi] at cU
                      have r1 : (bq : Int) % 2 = 0 := by omega
                      have HNOT : Hid (¬ OfOk (vH H) n) := Lib.hid (fun ⟨U', x1, x2⟩ => by
                        rw [HF32.out] at x1
                        cases x1
                        have x3 := x2 i hlt2
                        rw [HQM.out, hfi, decide_eq_false hb] at x3
                        cases x3)
                      clear HQM HUB hb
                      go_wp2_with fail
                      go_ret2
                      exact .inr ⟨HNOT.out, rfl, HO.out.sub⟩
                    | false =>
                      rw [hfi] at cU
                      have r1 : (bq : Int) % 2 = 0 := by omega
                      have HU2 : Hid (∀ j, j < i + 1 → usedB (vH H 0) j = f j) := Lib.hid (fun j hj => by
                        by_cases e : j = i
                        · rw [e, HQM.out, hfi]; exact decide_eq_false hb
                        · exact HUB.out j (by omega))
                      clear HQM HUB hb
                      go_wp2_with fail
                      go_roundw
                      case rel => exact ⟨i + 1, by omega, by go_num, HU2.out, HO.out⟩
                      case measure => simp [intOf]; omega
            · have HI := Lib.hid (show i = 512 by omega)
              have di : decide (i < 512) = false := decide_eq_false hlt2
              have di2 : decide ((i : Int) < 512) = false := decide_eq_false (by omega)
              have HFIN : Hid (OfOk (vH H) n ∧ RfP w r g2 32 n (ofN (vH H)) emp wr) := Lib.hid (by
                refine ⟨⟨f, HF32.out, fun j hj => HUB.out j (by rw [HI.out]; exact hj)⟩, ?_⟩
                obtain ⟨us, _, cs, x1, x2⟩ := HO.out
                exact ⟨cs, fun q hq => by have := x1 q hq; unfold befN at this; rw [if_pos hq] at this; exact this, x2.mono fun F hF => star_mono_r (fun F h => star_mono_r (fun F _ => trivial) h) hF⟩)
              clear HUB HO HI
              go_wp2_with fail
              go_ret2
              exact .inl ⟨HFIN.out.1, _, _, rfl, HFIN.out.2⟩
end Go.Proofs.YtlpcccpagmipnaaGreat.P
