/- Stage 2: the numbers of a text. No condition. -/
import Derived.Test.YthcfobefpknjeaaDoorN4
import Derived.Deep.DeepCutAuto
import Derived.Deep.CutBlock
import Derived.BigRegion
import Derived.Laws.EntriesVeiled
import Derived.Lib.AtoiErrMem
set_option linter.unusedVariables false
set_option linter.unusedSimpArgs false
set_option maxRecDepth 100000
namespace Go.Proofs.YthcfobefpknjeaaDoor.P
open Go.RowKit
/-- One number: s begins what is left; a: where the number begins, t: from there on; r, b: where it ends; u: it; v: what it is; s': what is left behind it. -/
structure NumS (s t u s' : ByteArray) (a b : Nat) (r v : Int) : Prop where
  ia : Lib.idxFunc insN true s = (a : Int)
  la : a ≤ s.size
  et : s.extract a s.size = t
  ib : Lib.idxFunc outN true t = r
  lb : b ≤ t.size
  hr : (r = (b : Int)) ∨ (r = -1 ∧ b = t.size)
  eu : t.extract 0 b = u
  pv : Lib.parseIntB 64 u.data.toList = .ok v
  es : t.extract b t.size = s'
  ls : s.size ≤ 100
  lt : t.size ≤ 100
  lu : u.size ≤ 100
def rowC (V : Nat → Int) (k : Nat) : Array Value := #[.int .i64 (if 0 < k then V 0 else 0), .int .i64 (if 1 < k then V 1 else 0), .int .i64 (if 2 < k then V 2 else 0)]
theorem row_at (V : Nat → Int) (k : Nat) (hk : k < 3) : ∃ v, (rowC V k)[k]? = some v := by
  have : k = 0 ∨ k = 1 ∨ k = 2 := by omega
  rcases this with rfl | rfl | rfl
  · exact ⟨_, rfl⟩
  · exact ⟨_, rfl⟩
  · exact ⟨_, rfl⟩
theorem row_set (V : Nat → Int) (k : Nat) (hk : k < 3) : (rowC V k).setIfInBounds k (.int .i64 (V k)) = rowC V (k + 1) := by
  have : k = 0 ∨ k = 1 ∨ k = 2 := by omega
  rcases this with rfl | rfl | rfl <;> rfl
theorem gr_al {a b : World} (h : Gr a b) (o : Obj) : Gr a (b.alloc o) := h.alloc h.size o
theorem gr_alloc3 (w : World) (a b c : Obj) : Gr w (((w.alloc a).alloc b).alloc c) := gr_al (gr_al (gr_al (Gr.refl w) a) b) c
theorem sz_alloc (w : World) (o : Obj) : (w.alloc o).heap.size = w.heap.size + 1 := by simp
theorem blk_new1 (w : World) (a o : Obj) : ((w.alloc a).alloc o).heap[w.heap.size + 1]? = some o := by
  have := blk_new (w.alloc a) o
  rw [sz_alloc] at this
  exact this
theorem blk_new2 (w : World) (a b o : Obj) : (((w.alloc a).alloc b).alloc o).heap[w.heap.size + 1 + 1]? = some o := by
  have := blk_new ((w.alloc a).alloc b) o
  rw [sz_alloc, sz_alloc] at this
  exact this
theorem c_pint (u : ByteArray) (v : Int) (h : Lib.parseIntB 64 u.data.toList = .ok v) (hl : u.size ≤ 100) (w : World) : Calls Tryd.prog 69 #[.string u, .int .i64 10, .int .i64 64] w fun e w' => e = .returned (.tuple #[.int .i64 v, .nilIface]) ∧ Gr w w' :=
  (sh_strconv_ParseInt_10_at64_ok u (by omega) v h w).mono (by
    rintro e w' ⟨rfl, h⟩
    refine ⟨rfl, ?_⟩
    rcases h with rfl | ⟨t, rfl⟩
    · exact Gr.refl _
    · exact Lib.bytesWorld_below _ _ _)
set_option maxHeartbeats 6400000 in
theorem c_numbers (S T U : Nat → ByteArray) (a b : Nat → Nat) (r V : Nat → Int) (m : Nat) (hm : m ≤ 3) (HS : ∀ k, k < m → NumS (S k) (T k) (U k) (S (k + 1)) (a k) (b k) (r k) (V k)) (hend : m = 3 ∨ Lib.idxFunc insN true (S m) = -1) (w : World) :
    Calls Tryd.prog 54 #[.string (S 0)] w fun e w' => e = .returned (.agg (rowC V m)) ∧ Gr w w' := by
  have H := Lib.hid HS
  have HE := Lib.hid hend
  clear HS hend
  go_enter Tryd.func54, Tryd.ntmps54
  go_upto_block 0 with fail
  have gB : Gr w (((w.alloc (.cells #[.int .i64 0, .int .i64 0, .int .i64 0] 86)).alloc (.cells #[.int .i64 0, .int .i64 0, .int .i64 0] 86)).alloc (.cells #[.func (.func 66) #[] #[]] 103)) := gr_alloc3 w _ _ _
  have k2 := blk_alloc (.cells #[.func (.func 66) #[] #[]] 103) (blk_alloc (.cells #[.int .i64 0, .int .i64 0, .int .i64 0] 86) (blk_new w (.cells #[.int .i64 0, .int .i64 0, .int .i64 0] 86)))
  have k3 := blk_alloc (.cells #[.func (.func 66) #[] #[]] 103) (blk_new1 w (.cells #[.int .i64 0, .int .i64 0, .int .i64 0] 86) (.cells #[.int .i64 0, .int .i64 0, .int .i64 0] 86))
  have k4 := blk_new2 w (.cells #[.int .i64 0, .int .i64 0, .int .i64 0] 86) (.cells #[.int .i64 0, .int .i64 0, .int .i64 0] 86) (.cells #[.func (.func 66) #[] #[]] 103)
  generalize (((w.alloc (.cells #[.int .i64 0, .int .i64 0, .int .i64 0] 86)).alloc (.cells #[.int .i64 0, .int .i64 0, .int .i64 0] 86)).alloc (.cells #[.func (.func 66) #[] #[]] 103)) = wA at *
  obtain ⟨B, hB⟩ : ∃ B, B = w.heap.size := ⟨_, rfl⟩
  rw [← hB] at k2 k3 k4 ⊢
  have K2 := Lib.hid k2
  have K3 := Lib.hid (id k3 : wA.heap[B + 1]? = some (.cells (rowC V 0) 86))
  have K4 := Lib.hid k4
  have GB := Lib.hid gB
  have HB := Lib.hid hB
  clear k2 k3 k4 gB hB
  go_cut [] (fun wx => wx.heap[B]? = some (.cells #[.int .i64 0, .int .i64 0, .int .i64 0] 86) ∧ wx.heap[B + 1]? = some (.cells (rowC V m) 86) ∧ Gr w wx)
  case first =>
    go_wp2_with fail
    go_loopw [0, 10] (fun v x wr => ∃ k : Nat, k ≤ m ∧ v = .string (S k) ∧ x = .int .i64 (k : Int) ∧ wr.heap[B]? = some (.cells #[.int .i64 0, .int .i64 0, .int .i64 0] 86) ∧ wr.heap[B + 1]? = some (.cells (rowC V k) 86) ∧ wr.heap[B + 1 + 1]? = some (.cells #[.func (.func 66) #[] #[]] 103) ∧ Gr w wr) (fun _ x _ => 3 - (intOf x).toNat)
    case atStart => exact ⟨0, Nat.zero_le _, rfl, rfl, K2.out, K3.out, K4.out, GB.out⟩
    case round =>
      obtain ⟨k, hk, rfl, rfl, h2, h3, h4, hg⟩ := hrel
      have H2 := Lib.hid h2
      have H3 := Lib.hid h3
      have H4 := Lib.hid h4
      have HG := Lib.hid hg
      have f0 := blk_cell h4 0 (v := .func (.func 66) #[] #[]) rfl
      clear h2 h3 h4 hg
      by_cases hlt : k < m
      · obtain ⟨n1, n2, n3, n4, n5, n6, n7, n8, n9, n10, n11, n12⟩ := H.out k hlt
        have N3 := Lib.hid n3
        have N7 := Lib.hid n7
        have N9 := Lib.hid n9
        have C1 := Lib.hid (c_ix (S k) _ n1)
        have C3 := Lib.hid (c_pint (U k) _ n8 n12)
        have N4 := Lib.hid n4
        have N6 := Lib.hid n6
        have e3 : (k : Int) < 3 := by omega
        clear n1 n3 n4 n7 n8 n9 n6
        go_upto_region 9 with (go_at_call 67; refine (C1.out _).mono ?_; rintro e w5 ⟨rfl, g5⟩)
        rw [N3.out]
        have h45 := blk_gr g5 H4.out
        have H25 := Lib.hid (blk_gr g5 H2.out)
        have H35 := Lib.hid (blk_gr g5 H3.out)
        have H45 := Lib.hid h45
        have G5 := Lib.hid (gtrans HG.out g5)
        have f5 := blk_cell h45 0 (v := .func (.func 66) #[] #[]) rfl
        have C2 := Lib.hid (c_ox (B + 1 + 1) (T k) _ N4.out w5 f5)
        clear g5 h45 f0 H2 H3 H4 HG C1
        have hr2 := N6.out
        go_upto_region 10 with (go_at_call 67; refine C2.out.mono ?_; rintro e w6 ⟨rfl, g6⟩)
        have H26 := Lib.hid (blk_gr g6 H25.out)
        have H36 := Lib.hid (blk_gr g6 H35.out)
        have H46 := Lib.hid (blk_gr g6 H45.out)
        have G6 := Lib.hid (gtrans G5.out g6)
        clear g6 f5 C2 H25 H35 H45 G5
        generalize hrk : r k = rk at *
        go_upto_if 25 with fail
        go_cut [7] (fun v wx => v = .int .i64 (b k : Int) ∧ wx = w6)
        case first =>
          rcases hr2 with e | ⟨e, e2⟩
          · subst e
            go_wp2_with fail
            go_meet
            exact ⟨rfl, rfl⟩
          · subst e
            have E2 := Lib.hid e2
            clear e2
            go_wp2_with fail
            go_meet
            exact ⟨by rw [E2.out], rfl⟩
        case rest =>
          obtain ⟨rfl, rfl⟩ := hcut
          have lb2 : (b k : Int) ≤ ((T k).size : Int) := by omega
          have C3k := C3
          go_upto_region 13 with (go_at_call 69; rw [N7.out]; refine (C3.out _).mono ?_; rintro e w7 ⟨rfl, g7⟩)
          have h37 := blk_gr g7 H36.out
          have H27 := Lib.hid (blk_gr g7 H26.out)
          have H37 := Lib.hid h37
          have H47 := Lib.hid (blk_gr g7 H46.out)
          have G7 := Lib.hid (gtrans G6.out g7)
          have hk3 : k < 3 := by omega
          obtain ⟨vv, hvv⟩ := row_at V k hk3
          have cc := blk_cell h37 k hvv
          have cz := blk_frozen h37 k
          clear g7 h37 hvv H26 H36 H46 G6 C3 C3k N4 N6
          go_wp2_with fail
          go_region
          go_wp2_with fail
          go_roundw
          case rel => exact ⟨k + 1, by omega, congrArg Value.string N9.out, by go_num, blk_other H27.out _ _ (by show B ≠ B + 1; omega), by rw [← row_set V k hk3]; exact blk_set H37.out k _, blk_other H47.out _ _ (by show B + 1 + 1 ≠ B + 1; omega), Gr.drewN (gset G7.out (by show w.heap.size ≤ B + 1; have := HB.out; omega) _) 1⟩
          case measure => simp [intOf]; omega
      · have ek : k = m := by omega
        have hen := HE.out
        subst ek
        by_cases h3 : k = 3
        · have e3 : ¬ (k : Int) < 3 := by omega
          have E3 := Lib.hid h3
          clear h3 hen
          go_wp2_with fail
          go_meet
          exact ⟨H2.out, H3.out, HG.out⟩
        · have hi : Lib.idxFunc insN true (S k) = -1 := by
            rcases hen with e | e
            · exact absurd e h3
            · exact e
          have C1 := Lib.hid (c_ix (S k) _ hi)
          have e3 : (k : Int) < 3 := by omega
          clear hi hen h3
          go_wp2_with (go_at_call 67; refine (C1.out _).mono ?_; rintro e w5 ⟨rfl, g5⟩)
          go_meet
          exact ⟨blk_gr g5 H2.out, blk_gr g5 H3.out, gtrans HG.out g5⟩
  case rest =>
    obtain ⟨h2, h3, hg⟩ := hcut
    have d0 := blk_cell h2 0 (v := .int .i64 0) rfl
    have d1 := blk_cell h2 1 (v := .int .i64 0) rfl
    have d2 := blk_cell h2 2 (v := .int .i64 0) rfl
    have r0 := blk_cell h3 0 (v := .int .i64 (if 0 < m then V 0 else 0)) rfl
    have r1 := blk_cell h3 1 (v := .int .i64 (if 1 < m then V 1 else 0)) rfl
    have r2 := blk_cell h3 2 (v := .int .i64 (if 2 < m then V 2 else 0)) rfl
    have z0 := blk_frozen h2 0
    have z1 := blk_frozen h2 1
    have z2 := blk_frozen h2 2
    have H2 := Lib.hid h2
    have HG := Lib.hid hg
    have hlt := blk_lt h2
    clear h2 h3 hg
    generalize hv0 : (if 0 < m then V 0 else 0) = v0 at *
    generalize hv1 : (if 1 < m then V 1 else 0) = v1 at *
    generalize hv2 : (if 2 < m then V 2 else 0) = v2 at *
    have HV : Hid (rowC V m = #[.int .i64 v0, .int .i64 v1, .int .i64 v2]) := Lib.hid (by unfold rowC; rw [hv0, hv1, hv2])
    clear hv0 hv1 hv2
    go_wp2_with fail
    have hb : (((wc.setCell ⟨B, 0, none⟩ (.int .i64 v0)).setCell ⟨B, 1, none⟩ (.int .i64 v1)).setCell ⟨B, 2, none⟩ (.int .i64 v2)).heap[B]? = some (.cells #[.int .i64 v0, .int .i64 v1, .int .i64 v2] 86) := blk_set (blk_set (blk_set H2.out 0 _) 1 _) 2 _
    have hg : Gr w (((wc.setCell ⟨B, 0, none⟩ (.int .i64 v0)).setCell ⟨B, 1, none⟩ (.int .i64 v1)).setCell ⟨B, 2, none⟩ (.int .i64 v2)) := gset (gset (gset HG.out (by show w.heap.size ≤ B; rw [HB.out]; exact Nat.le_refl _) _) (by show w.heap.size ≤ B; rw [HB.out]; exact Nat.le_refl _) _) (by show w.heap.size ≤ B; rw [HB.out]; exact Nat.le_refl _) _
    generalize ((wc.setCell ⟨B, 0, none⟩ (.int .i64 v0)).setCell ⟨B, 1, none⟩ (.int .i64 v1)).setCell ⟨B, 2, none⟩ (.int .i64 v2) = wz at *
    have y0 := blk_cell hb 0 (v := .int .i64 v0) rfl
    have y1 := blk_cell hb 1 (v := .int .i64 v1) rfl
    have y2 := blk_cell hb 2 (v := .int .i64 v2) rfl
    rw [HV.out]
    exact bodyPost_ret (v := .agg #[.int .i64 v0, .int .i64 v1, .int .i64 v2]) (by simp [results, Tryd.results54, go_sem, y0, y1, y2]) rfl ⟨rfl, hg⟩
end Go.Proofs.YthcfobefpknjeaaDoor.P
