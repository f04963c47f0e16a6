/- Stage 2: the instruction that has a name (forms but A). No condition. -/
import Derived.Test.YthcfobefpknjeaaDoorN5
import Derived.Laws.Closers25b
set_option linter.unusedVariables false
set_option linter.unusedSimpArgs false
set_option maxRecDepth 100000
namespace Go.Proofs.YthcfobefpknjeaaDoor.P
open Go.RowKit
theorem tl_ne {x s : ByteArray} (h : x ≠ s) : (x.toList == s.toList) = false :=
  beq_eq_false_iff_ne.2 (fun e => h (by rw [Go.ByteArray.toList_eq, Go.ByteArray.toList_eq] at e; exact ByteArray.ext (Array.toList_inj.1 e)))
theorem tl_eq {x s : ByteArray} (h : x = s) : (x.toList == s.toList) = true := by rw [h]; exact beq_self_eq_true _
theorem set5 {w w1 : World} {B : Nat} {T : TypeId} (hB : B = w.heap.size) {x0 x1 x2 x3 x4 : Value} (hb : w1.heap[B]? = some (.cells #[x0, x1, x2, x3, x4] T)) (g : Gr w w1) (v0 v1 v2 v3 v4 : Value) :
    (((((w1.setCell ⟨B, 0, none⟩ v0).setCell ⟨B, 1, none⟩ v1).setCell ⟨B, 2, none⟩ v2).setCell ⟨B, 3, none⟩ v3).setCell ⟨B, 4, none⟩ v4).heap[B]? = some (.cells #[v0, v1, v2, v3, v4] T) ∧ Gr w (((((w1.setCell ⟨B, 0, none⟩ v0).setCell ⟨B, 1, none⟩ v1).setCell ⟨B, 2, none⟩ v2).setCell ⟨B, 3, none⟩ v3).setCell ⟨B, 4, none⟩ v4) := by
  have hle : ∀ i : Nat, w.heap.size ≤ (⟨B, i, none⟩ : Addr).block := fun i => by show w.heap.size ≤ B; rw [hB]; exact Nat.le_refl _
  exact ⟨blk_set (blk_set (blk_set (blk_set (blk_set hb 0 _) 1 _) 2 _) 3 _) 4 _, gset (gset (gset (gset (gset g (hle 0) _) (hle 1) _) (hle 2) _) (hle 3) _) (hle 4) _⟩
theorem nm_apart : ∀ k : Nat, k < 88 → ∀ j : Nat, j < k → (nmT j).data.toList ≠ (nmT k).data.toList := by decide +kernel
theorem fm_plain : ∀ j : Nat, j < 66 → fmT j ≠ 65 := by decide +kernel
theorem nm_ne {j k : Nat} (hk : k < 88) (hj : j < k) : nmT j ≠ nmT k := fun e => nm_apart k hk j hj (by rw [e])
set_option maxHeartbeats 1600000 in
theorem c_named (k : Nat) (hk : k ≤ 65) (h1 : 1 ≤ k) (w : World) (hF : FT w) : Calls Tryd.prog 53 #[.string (nmT k)] w fun e w' => e = .returned (iv (k : Int) 0 0 0 0) ∧ Gr w w' := by
  have HFT := Lib.hid (fun w1 (g : Gr w w1) => FT.gr hF g)
  have hl : 0 < w.heap.size := cell_lt (hF 0 (by omega))
  have CN := Lib.hid (fun (j : Nat) (hj : j < 88) (hj1 : 1 ≤ j) => c_name_in j hj hj1)
  have hb := blk_new w (.cells #[.int .i64 0, .int .i64 0, .int .i64 0, .int .i64 0, .int .i64 0] 23)
  have gb : Gr w (w.alloc (.cells #[.int .i64 0, .int .i64 0, .int .i64 0, .int .i64 0, .int .i64 0] 23)) := (Gr.refl w).alloc (Nat.le_refl _) _
  clear hF
  go_enter Tryd.func53, Tryd.ntmps53
  go_wp2_with fail
  generalize w.alloc (.cells #[.int .i64 0, .int .i64 0, .int .i64 0, .int .i64 0, .int .i64 0] 23) = wA at *
  obtain ⟨B, hB⟩ : ∃ B, B = w.heap.size := ⟨_, rfl⟩
  rw [← hB] at hb ⊢
  have HB := Lib.hid hb
  have GB := Lib.hid gb
  have EB := Lib.hid hB
  have hlA : 0 < wA.heap.size := Nat.lt_of_lt_of_le hl gb.size
  clear hb gb hB hl
  go_loop [3] (fun v => ∃ j : Nat, 1 ≤ j ∧ j ≤ k ∧ v = .int .i64 (j : Int)) (fun v => k - (intOf v).toNat)
  case atStart => exact ⟨1, by omega, h1, rfl⟩
  case round =>
    obtain ⟨j, hj1, hj2, rfl⟩ := hrel
    have CJ := Lib.hid (CN.out j (by omega) hj1 wA)
    have e87 : (j : Int) ≤ 87 := by omega
    by_cases hlt : j < k
    · have en := tl_ne (nm_ne (by omega) hlt)
      have hc := HFT.out _ GB.out j (by omega)
      have ef : (fmT j == 65) = false := beq_eq_false_iff_ne.2 (fm_plain j (by omega))
      have ef2 : (fmT j != 65) = true := by rw [bne, ef]; rfl
      have hj88 : (j : Int) < 88 := by omega
      go_wp2_with (go_at_call 21; refine CJ.out.mono ?_; rintro e w1 ⟨rfl, rfl⟩)
      go_round
      case rel => exact ⟨j + 1, by omega, by omega, by go_num⟩
      case measure => simp [intOf]; omega
    · have ej : j = k := by omega
      subst ej
      have en : ((nmT j).toList == (nmT j).toList) = true := beq_self_eq_true _
      have d0 := blk_cell HB.out 0 (v := .int .i64 0) rfl
      have d1 := blk_cell HB.out 1 (v := .int .i64 0) rfl
      have d2 := blk_cell HB.out 2 (v := .int .i64 0) rfl
      have d3 := blk_cell HB.out 3 (v := .int .i64 0) rfl
      have d4 := blk_cell HB.out 4 (v := .int .i64 0) rfl
      have z0 := blk_frozen HB.out 0
      have z1 := blk_frozen HB.out 1
      have z2 := blk_frozen HB.out 2
      have z3 := blk_frozen HB.out 3
      have z4 := blk_frozen HB.out 4
      go_wp2_with (go_at_call 21; refine CJ.out.mono ?_; rintro e w1 ⟨rfl, rfl⟩)
      obtain ⟨hz, gz⟩ := set5 EB.out HB.out GB.out (.int .i64 (j : Int)) (.int .i64 0) (.int .i64 0) (.int .i64 0) (.int .i64 0)
      generalize ((((w1.setCell ⟨B, 0, none⟩ (.int .i64 (j : Int))).setCell ⟨B, 1, none⟩ (.int .i64 0)).setCell ⟨B, 2, none⟩ (.int .i64 0)).setCell ⟨B, 3, none⟩ (.int .i64 0)).setCell ⟨B, 4, none⟩ (.int .i64 0) = wz at *
      have y0 := blk_cell hz 0 (v := .int .i64 (j : Int)) rfl
      have y1 := blk_cell hz 1 (v := .int .i64 0) rfl
      have y2 := blk_cell hz 2 (v := .int .i64 0) rfl
      have y3 := blk_cell hz 3 (v := .int .i64 0) rfl
      have y4 := blk_cell hz 4 (v := .int .i64 0) rfl
      exact bodyPost_ret (v := iv (j : Int) 0 0 0 0) (by simp [results, Tryd.results53, go_sem, y0, y1, y2, y3, y4]) rfl ⟨rfl, gz⟩
end Go.Proofs.YthcfobefpknjeaaDoor.P
