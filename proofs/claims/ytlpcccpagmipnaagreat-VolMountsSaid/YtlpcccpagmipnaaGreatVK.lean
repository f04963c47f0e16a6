/- Stage 8: two blocks compared. No condition. -/
import Derived.Test.YtlpcccpagmipnaaGreatVI
import Derived.ChangeKeysEq
set_option linter.unusedVariables false
set_option linter.unusedSimpArgs false
set_option maxRecDepth 100000
namespace Go.Proofs.YtlpcccpagmipnaaGreat.P
open Go.RowKit Go.ChangeMaps Go.MapKept
theorem u8_eq (a b : Int) (d : Nat) (w : World) : (Op.equalIn (d + 1) 5 (.int .u8 a) (.int .u8 b)).run Tryz.prog w = .ok (a == b) w := by
  simp [Op.equalIn, Sem.run_bind, run_underlying Tryz.underlying5]
theorem part_u8 (L : List UInt8) (hl : L.length = 64) (i : Nat) (h : i < 64) (w : World) : (part 5 (bcL L) (i * 1)).run Tryz.prog w = .ok (.int .u8 (byL L i : Int)) w := by
  rw [Nat.mul_one]
  exact run_part_plain w (by kernel_rfl) (bcL_cell (by rw [hl]; exact h))
theorem eqI8 (L M : List UInt8) (hl : L.length = 64) (hm : M.length = 64) (d : Nat) (w : World) : ∀ is : List Nat, (∀ i ∈ is, i < 64) → (Op.eqItems (d + 2) 5 1 (bcL L) (bcL M) is).run Tryz.prog w = .ok (is.all fun i => decide (byL L i = byL M i)) w
  | [], _ => by simp [Op.eqItems]
  | i :: is, h => by
    have h0 := part_u8 L hl i (h i (by simp)) w
    have h1 := part_u8 M hm i (h i (by simp)) w
    have h2 := u8_eq (byL L i) (byL M i) (d + 1) w
    have h3 := eqI8 L M hl hm d w is (fun j hj => h j (by simp [hj]))
    by_cases e : byL L i = byL M i
    · have e2 : ((byL L i : Int) == (byL M i : Int)) = true := by rw [e]; exact beq_self_eq_true _
      rw [e2] at h2
      simp only [Op.eqItems, Sem.run_bind, h0, h1, h2, h3, Result.andThen_ok]
      simp [h3, e]
    · have e2 : ((byL L i : Int) == (byL M i : Int)) = false := by
        rw [beq_eq_false_iff_ne]
        intro e3
        exact e (by exact_mod_cast e3)
      rw [e2] at h2
      simp only [Op.eqItems, Sem.run_bind, h0, h1, h2, Result.andThen_ok]
      simp [e]
theorem all_by {L M : List UInt8} (hl : L.length = 64) (hm : M.length = 64) : ((List.range 64).all fun i => decide (byL L i = byL M i)) = decide (L = M) := by
  by_cases h : L = M
  · rw [h, decide_eq_true rfl, List.all_eq_true]
    intro i _
    exact decide_eq_true rfl
  · rw [decide_eq_false h, Bool.eq_false_iff]
    intro h2
    apply h
    rw [List.all_eq_true] at h2
    apply List.ext_getElem (by rw [hl, hm])
    intro i hi1 hi2
    have h3 := of_decide_eq_true (h2 i (List.mem_range.2 (by omega)))
    unfold byL at h3
    rw [List.getD_eq_getElem?_getD, List.getD_eq_getElem?_getD, List.getElem?_eq_getElem hi1, List.getElem?_eq_getElem hi2] at h3
    exact UInt8.toNat_inj.1 h3
theorem eqB {L M : List UInt8} (hl : L.length = 64) (hm : M.length = 64) (w : World) : (Op.equalIn 10000 83 (.agg (bcL L)) (.agg (bcL M))).run Tryz.prog w = .ok (decide (L = M)) w := by
  obtain ⟨inf, hi⟩ := info_of_underlying Tryz.underlying5
  have e4 : Tryz.prog.cellsOf 5 = 1 := by kernel_rfl
  rw [run_equalIn_array w 9999 (bcL L) (bcL M) Tryz.underlying83 hi, e4, ← all_by hl hm]
  exact eqI8 L M hl hm 9997 w _ (fun i hi => by simpa using hi)
end Go.Proofs.YtlpcccpagmipnaaGreat.P
namespace Go.Proofs.YtlpcccpagmipnaaGreat.P
open Go.RowKit Go.ChangeMaps Go.MapKept
def eqRow (a b : ByteArray) : Bool := decide (a.data.toList = b.data.toList)
set_option maxHeartbeats 3200000 in
theorem c_same8 {w0 w : World} {D l d ml n P : Nat} {st : List (Int × ByteArray)} {z : DState} {R : Asn} (h : Own w0 w (VN d z l ml st D (Star (ptA P D) R))) (hs : Stable R) (hz : LI z n) (hst : okSt (n + 32) st) (i : Nat) (hi : i < n) (s : ByteArray) (h64 : s.size = 64) :
    Calls Tryz.prog 111 #[.int .i64 (i : Int), .agg (bcL s.data.toList), .pointer (some ⟨P, 0, none⟩)] w fun e w' => e = .returned (.bool (eqRow (getB false z st (i : Int)) s)) ∧ Own w0 w' (VN d z l ml st D (Star (ptA P D) R)) := by
  have hsP : Stable (Star (ptA P D) R) := stable_star (stable_blk _ _) hs
  obtain ⟨_, g64⟩ := get_ok hz hst i hi
  have hA : (getB false z st (i : Int)).data.toList.length = 64 := by rw [← g64]; exact (Go.Lib.size_eq _).symm
  have hS : s.data.toList.length = 64 := by rw [← h64]; exact (Go.Lib.size_eq _).symm
  have h1 := h.box4 (stable_vn hsP) (.cells (bcL s.data.toList) 83)
  have hs1 : Stable (Star (blkA w.heap.size (.cells (bcL s.data.toList) 83)) (Star (ptA P D) R)) := stable_star (stable_blk _ _) hsP
  have HI := Lib.hid (bc_info _ hS)
  have HEQ : Hid (∀ wx, (Op.equalIn 10000 83 (.agg (bcL (getB false z st (i : Int)).data.toList)) (.agg (bcL s.data.toList))).run Tryz.prog wx = .ok (decide ((getB false z st (i : Int)).data.toList = s.data.toList)) wx) := Lib.hid (fun wx => eqB hA hS wx)
  have CG := Lib.hid (c_vgetN (h1.drew (stable_vn hs1)) hs1 hz hst i hi)
  have HSS : Hid (∀ wx, Own w0 wx (VN d z l ml st D (Star (blkA w.heap.size (.cells (bcL s.data.toList) 83)) (Star (ptA P D) R))) → wx.heap[w.heap.size]? = some (.cells (bcL s.data.toList) 83) ∧ wx.cell? ⟨P, 0, none⟩ = some (.pointer (some ⟨D, 0, none⟩))) := Lib.hid (fun wx hw => ⟨hw.out4.blk, blk_cell hw.swapR.out4.blk 0 rfl⟩)
  have HS1 := Lib.hid (HSS.out _ (h1.drew (stable_vn hs1)))
  have HSP := Lib.hid hsP
  unfold eqRow
  clear h hs hz hst h64 hA hS h1 hs1 hsP g64
  generalize (getB false z st (i : Int)).data.toList = A at *
  generalize bcL s.data.toList = C at *
  go_enter Tryz.func111, Tryz.ntmps111
  go_upto_region 1 with fail
  generalize w.alloc _ = w1 at *
  generalize w.heap.size = g at *
  refine wp_region_held_drew (S := fun w' => w'.heap[g]? = some (.cells C 83) ∧ w'.cell? ⟨P, 0, none⟩ = some (.pointer (some ⟨D, 0, none⟩))) (by kernel_rfl) (HS1.out) (fun hH => ?_)
  generalize w1.drew = wd at *
  try simp only [Act.put, List.setIfInBounds_toArray, List.set_cons_zero, List.set_cons_succ]
  refine wpAnyH_take (i := 0) (oi := { dst := some 6, op := Go.Op.load 114 (Go.Operand.tmp 2), type := 114, pos := "draft.go:115", after := #[], guard := none }) (v := .pointer (some ⟨D, 0, none⟩)) rfl (by kernel_rfl) (by kernel_rfl) (by kernel_rfl) (fun _ _ _ h => h) (Or.inl ⟨by rfl, fun w' hS' => by have c := hS'.2; go_simp⟩) HS1.out ?_
  try simp only [Act.put, List.setIfInBounds_toArray, List.set_cons_zero, List.set_cons_succ]
  refine wpAnyH_take (i := 1) (oi := { dst := some 7, op := Go.Op.move (Go.Operand.tmp 0), type := 3, pos := "draft.go:115", after := #[], guard := none }) (v := .int .i64 (i : Int)) rfl (by kernel_rfl) (by kernel_rfl) (by kernel_rfl) (fun _ _ _ h => h) (Or.inl ⟨by rfl, fun w' hS' => by first | rfl | (go_simp; done) | (go_simp; rfl)⟩) HS1.out ?_
  try simp only [Act.put, List.setIfInBounds_toArray, List.set_cons_zero, List.set_cons_succ]
  refine wpAnyH_take (i := 3) (oi := { dst := some 9, op := Go.Op.load 83 (Go.Operand.tmp 4), type := 83, pos := "draft.go:115", after := #[], guard := none }) (v := .agg C) rfl (by kernel_rfl) (by kernel_rfl) (by kernel_rfl) (fun _ _ _ h => h) (Or.inl ⟨by rfl, fun w' hS' => ex_row (ld_blk hS'.1 HI.out) rfl⟩) HS1.out ?_
  try simp only [Act.put, List.setIfInBounds_toArray, List.set_cons_zero, List.set_cons_succ]
  refine wpAnyH_ready (rs := [2]) (by kernel_rfl) (by simp) ?_
  refine AllReadyH.cons (o := { dst := some 8, op := Go.Op.call { callee := Go.Callee.value (Go.Operand.func 72), args := #[Go.Operand.tmp 6, Go.Operand.tmp 7], argTypes := #[114, 3] }, type := 83, pos := "draft.go:115", after := #[{ on := 0, ground := Go.Ground.data }, { on := 1, ground := Go.Ground.data }], guard := none }) rfl (fun K' hK => ?_) AllReadyH.nil
  rw [if_pos (by rfl)]
  go_wp2_with (go_at_call 72; refine CG.out.mono ?_; rintro e w5 ⟨rfl, h5⟩; have H5 := Lib.hid h5; have HS5 := Lib.hid (HSS.out _ h5); clear h5)
  refine hK.out _ _ (HS5.out) (fun hH1 => ?_)
  clear hK K'
  try simp only [Act.put, List.setIfInBounds_toArray, List.set_cons_zero, List.set_cons_succ]
  refine wpAnyH_take (i := 4) (oi := { dst := some 10, op := Go.Op.binOp Go.BinOp.eql 83 (Go.Operand.tmp 8) (Go.Operand.tmp 9) 83, type := 4, pos := "draft.go:115", after := #[{ on := 2, ground := Go.Ground.data }, { on := 3, ground := Go.Ground.data }], guard := none }) (v := .bool (decide (A = s.data.toList))) rfl (by kernel_rfl) (by kernel_rfl) (by kernel_rfl) (fun _ _ _ h => h) (Or.inl ⟨by rfl, fun w' hS' => by have c := HEQ.out w'; go_simp⟩) HS5.out ?_
  try simp only [Act.put, List.setIfInBounds_toArray, List.set_cons_zero, List.set_cons_succ]
  refine wpAnyH_take (i := 5) (oi := { dst := some 5, op := Go.Op.assign (Go.Operand.tmp 10), type := 4, pos := "draft.go:115", after := #[{ on := 4, ground := Go.Ground.data }, { on := 2, ground := Go.Ground.chain }, { on := 0, ground := Go.Ground.phase }, { on := 1, ground := Go.Ground.phase }, { on := 2, ground := Go.Ground.phase }, { on := 3, ground := Go.Ground.phase }, { on := 4, ground := Go.Ground.phase }], guard := none }) (v := .bool (decide (A = s.data.toList))) rfl (by kernel_rfl) (by kernel_rfl) (by kernel_rfl) (fun _ _ _ h => h) (Or.inl ⟨by rfl, fun w' hS' => by first | rfl | (go_simp; done) | (go_simp; rfl)⟩) HS5.out ?_
  try simp only [Act.put, List.setIfInBounds_toArray, List.set_cons_zero, List.set_cons_succ]
  refine wpAnyH_done (by kernel_rfl) ?_ _

  go_wp2_with fail
  go_ret
  exact ⟨rfl, H5.out.unbox4⟩
end Go.Proofs.YtlpcccpagmipnaaGreat.P
