/- Stage 8: inodes out of their bytes. No condition. -/
import Derived.Test.YtlpcccpagmipnaaGreatV3
import Derived.Deep.RegionHeld3
set_option linter.unusedVariables false
set_option linter.unusedSimpArgs false
set_option maxRecDepth 100000
namespace Go.Proofs.YtlpcccpagmipnaaGreat.P
open Go.RowKit
structure Ino where
  kind : Nat
  links : Nat
  size : Nat
  pl : List Nat
def nums (l : List Nat) : List Value := l.map fun (x : Nat) => .int .i64 (x : Int)
def inoL (x : Ino) : List Value := [.int .i64 (x.kind : Int), .int .i64 (x.links : Int), .int .i64 (x.size : Int)] ++ nums x.pl
def toPl (L : List UInt8) (o : Nat) (k : Nat) : List Nat := (List.range k).map fun j => b2 L (o + (4 + 2 * j))
def toF (L : List UInt8) (o : Nat) : Ino := ⟨byL L o, byL L (o + 1), b2 L (o + 2), toPl L o 6⟩
theorem toPl_len (L : List UInt8) (o k : Nat) : (toPl L o k).length = k := by unfold toPl; rw [List.length_map, List.length_range]
theorem toPl_succ (L : List UInt8) (o k : Nat) : toPl L o (k + 1) = toPl L o k ++ [b2 L (o + (4 + 2 * k))] := by unfold toPl; rw [List.range_succ, List.map_append]; rfl
/-- An inode of which the first k places are read. -/
def partI (L : List UInt8) (o k : Nat) : Ino := ⟨byL L o, byL L (o + 1), b2 L (o + 2), toPl L o k ++ List.replicate (6 - k) 0⟩
theorem part_all (L : List UInt8) (o : Nat) : partI L o 6 = toF L o := by unfold partI toF; simp
theorem part_cell (L : List UInt8) (o k : Nat) (hk : k < 6) : (inoL (partI L o k)).toArray.setIfInBounds (3 + k) (.int .i64 (b2 L (o + (4 + 2 * k)) : Int)) = (inoL (partI L o (k + 1))).toArray := by
  rw [List.setIfInBounds_toArray]
  congr 1
  unfold inoL partI nums
  rw [List.set_append_right _ _ (by simp)]
  congr 1
  rw [show 3 + k - [Value.int .i64 ((byL L o : Nat) : Int), .int .i64 (byL L (o + 1) : Int), .int .i64 (b2 L (o + 2) : Int)].length = k by simp]
  rw [List.map_append, List.set_append_right _ _ (by rw [List.length_map, toPl_len]; exact Nat.le_refl _), List.length_map, toPl_len, Nat.sub_self, toPl_succ, List.map_append, List.map_append, List.append_assoc]
  congr 1
  rw [show 6 - k = (6 - (k + 1)) + 1 by omega, List.replicate_succ]
  rfl
/-- A cell of a block put. -/
theorem Own.put8 {w0 w : World} {B : Nat} {cs : Array Value} {T : TypeId} {R : Asn} (h : Own w0 w (Star (blkA B (.cells cs T)) R)) (hs : Stable R) (k : Nat) (v : Value) (cs' : Array Value) (he : cs.setIfInBounds k v = cs') : Own w0 (w.setCell ⟨B, k, none⟩ v) (Star (blkA B (.cells cs' T)) R) :=
  h.step hs (fun F hF => ⟨fun y => y = B, ⟨rfl, by rw [blk_set hF.2 k _, he]⟩, fun y hy => ⟨.inl (by rw [hy]; exact hF.1), by rw [hy, World.size_setCell]; exact blk_lt hF.2⟩, Ch.setCell (S := F) (Ch.refl _ w) (p := ⟨B, k, none⟩) (.inl hF.1) _⟩)
theorem ino_size (x : Ino) (h : x.pl.length = 6) : (inoL x).toArray.size = 9 := by
  unfold inoL nums
  rw [List.size_toArray, List.length_append, List.length_map, h]; rfl
theorem ino_one (x : Ino) : (inoL x).toArray.all (·.oneCell') = true := by
  rw [List.all_toArray, List.all_eq_true]
  intro v hv
  unfold inoL nums at hv
  rcases List.mem_append.1 hv with e | e
  · simp at e
    rcases e with rfl | rfl | rfl <;> rfl
  · obtain ⟨y, _, rfl⟩ := List.mem_map.1 e
    rfl
theorem part_len (L : List UInt8) (o k : Nat) (hk : k ≤ 6) : (partI L o k).pl.length = 6 := by
  unfold partI; rw [List.length_append, toPl_len, List.length_replicate]; omega
theorem ino_info : (Tryz.prog.info? 132).map (·.size) = some 9 := by kernel_rfl
theorem gr_al8 {a b : World} (h : Gr a b) (o : Obj) : Gr a (b.alloc o) := h.alloc h.size o
set_option maxHeartbeats 1600000 in
theorem c_toInode {w0 w : World} {B : Nat} {L : List UInt8} {T : TypeId} {R : Asn} (h : Own w0 w (Star (blkA B (.cells (bcL L) T)) R)) (hs : Stable R) (hl : L.length = 64) (o cp : Nat) (hc : 16 ≤ cp) (hc2 : cp ≤ 64) (hok : o + 16 ≤ 64) :
    Calls Tryz.prog 108 #[.slice (some ⟨B, o, none⟩) 16 cp] w fun e w' => e = .returned (.agg (inoL (toF L o)).toArray) ∧ Own w0 w' (Star (blkA B (.cells (bcL L) T)) R) := by
  have hst : Stable (Star (blkA B (.cells (bcL L) T)) R) := stable_star (stable_blk _ _) hs
  have HN : Hid (∀ k wx (A : Asn), k + 2 ≤ 16 → Own w0 wx (Star A (Star (blkA B (.cells (bcL L) T)) R)) → Calls Tryz.prog 104 #[.slice (some ⟨B, o, none⟩) 16 cp, .int .i64 ((k : Nat) : Int)] wx fun e w' => e = .returned (.int .i64 (b2 L (o + k) : Int)) ∧ w' = wx) := Lib.hid (fun k wx A hk ho => c_number ho.right hl o 16 cp k (by omega) hc2 (by omega))
  have HC : Hid (∀ wx (A : Asn), Own w0 wx (Star A (Star (blkA B (.cells (bcL L) T)) R)) → wx.cell? ⟨B, o, none⟩ = some (.int .u8 (byL L o : Int)) ∧ wx.cell? ⟨B, o + 1, none⟩ = some (.int .u8 (byL L (o + 1) : Int))) := Lib.hid (fun wx A ho => ⟨blk_cell ho.right.blk o (bcL_cell (by omega)), blk_cell ho.right.blk (o + 1) (bcL_cell (by omega))⟩)
  have H0 := Lib.hid h
  have E0 : Hid (Own w0 (w.alloc (.cells (inoL ⟨0, 0, 0, List.replicate 6 0⟩).toArray 132)) (Star (blkA w.heap.size (.cells (inoL ⟨0, 0, 0, List.replicate 6 0⟩).toArray 132)) (Star (blkA B (.cells (bcL L) T)) R))) := Lib.hid (h.alloc hst _)
  clear h hst
  go_enter Tryz.func108, Tryz.ntmps108
  go_upto_region 1 with fail
  have E1 : Hid (Own w0 (w.alloc (.cells #[.int .i64 0, .int .i64 0, .int .i64 0, .int .i64 0, .int .i64 0, .int .i64 0, .int .i64 0, .int .i64 0, .int .i64 0] 132)) (Star (blkA w.heap.size (.cells (inoL ⟨0, 0, 0, List.replicate 6 0⟩).toArray 132)) (Star (blkA B (.cells (bcL L) T)) R))) := E0
  generalize (World.alloc w _) = w1 at E1 ⊢
  generalize w.heap.size = Y at E1 ⊢
  obtain ⟨c0, c1⟩ := HC.out _ _ E1.out
  have d0 : w1.drew.cell? ⟨B, o, none⟩ = some (.int .u8 (byL L o : Int)) := c0
  have d1 : w1.drew.cell? ⟨B, o + 1, none⟩ = some (.int .u8 (byL L (o + 1) : Int)) := c1
  have hx0 := byL_lt L o
  have hx1 := byL_lt L (o + 1)
  have C2 : Hid (∀ wx, Gr w1 wx → Calls Tryz.prog 104 #[.slice (some ⟨B, o, none⟩) 16 cp, .int .i64 2] wx fun e w' => e = .returned (.int .i64 (b2 L (o + 2) : Int)) ∧ w' = wx) := Lib.hid (fun wx g => HN.out 2 wx _ (by omega) (E1.out.gr (stable_star (stable_blk _ _) (stable_star (stable_blk _ _) hs)) g))
  have g2 : Gr w1 w1.drew := Gr.drewN (Gr.refl _) 1
  go_region_held3 (fun w' => Gr w1 w' ∧ w'.cell? ⟨B, o, none⟩ = some (.int .u8 (byL L o : Int)) ∧ w'.cell? ⟨B, o + 1, none⟩ = some (.int .u8 (byL L (o + 1) : Int)))
    ((refine ⟨?_, ?_, ?_⟩ <;> first | (with_reducible assumption) | exact Gr.drewN (gr_al8 (Gr.refl _) _) 1 | exact calloc _ c0 | exact calloc _ c1))
    (first | (go_at_call 104; refine (C2.out _ (by first | assumption | exact Gr.drewN (gr_al8 (Gr.refl _) _) 1)).mono ?_; rintro e w' ⟨rfl, hw'⟩; rw [hw']; clear hw' w'))
  all_goals
    rename_i hHeld
    have k0 : IntKind.i64.wrap (byL L o : Int) = (byL L o : Int) := IntWalk.i64_in _ (by omega)
    have k1 : IntKind.i64.wrap (byL L (o + 1) : Int) = (byL L (o + 1) : Int) := IntWalk.i64_in _ (by omega)
    have F0 : Hid (Own w0 (World.drew (w1.alloc (.cells #[.int .i64 (IntKind.i64.wrap (byL L o : Int)), .int .i64 (IntKind.i64.wrap (byL L (o + 1) : Int)), .int .i64 (b2 L (o + 2) : Int), .int .i64 0, .int .i64 0, .int .i64 0, .int .i64 0, .int .i64 0, .int .i64 0] 132))) (Star (blkA w1.heap.size (.cells (inoL (partI L o 0)).toArray 132)) (Star (blkA Y (.cells (inoL ⟨0, 0, 0, List.replicate 6 0⟩).toArray 132)) (Star (blkA B (.cells (bcL L) T)) R)))) := Lib.hid (by
      rw [k0, k1]
      exact (E1.out.alloc (stable_star (stable_blk _ _) (stable_star (stable_blk _ _) hs)) _).drew (stable_star (stable_blk _ _) (stable_star (stable_blk _ _) (stable_star (stable_blk _ _) hs))))
    clear hHeld k0 k1 c0 c1 d0 d1 g2 C2 E1 E0 H0 HC
    generalize World.drew (World.alloc w1 _) = w3 at F0 ⊢
    generalize w1.heap.size = Z at F0 ⊢
    go_wp2_with fail
    go_loopw [16] (fun v wr => ∃ k : Nat, k ≤ 6 ∧ v = .int .i64 k ∧ Own w0 wr (Star (blkA Z (.cells (inoL (partI L o k)).toArray 132)) (Star (blkA Y (.cells (inoL ⟨0, 0, 0, List.replicate 6 0⟩).toArray 132)) (Star (blkA B (.cells (bcL L) T)) R)))) (fun v _ => 6 - (intOf v).toNat)
    case atStart => exact ⟨0, by omega, rfl, F0.out⟩
    case round =>
      obtain ⟨k, hk, rfl, ho⟩ := hrel
      have HO := Lib.hid ho
      by_cases hlt : k < 6
      · have dl : decide (k < 6) = true := decide_eq_true hlt
        have k4 : (k : Int) < 6 := by omega
        have CN := Lib.hid (HN.out (4 + 2 * k) wr _ (by omega) (ho.right : Own w0 wr (Star (blkA Y _) (Star (blkA B (.cells (bcL L) T)) R))))
        have z1 := blk_frozen ho.blk (3 + k)
        have hz := ino_size _ (part_len L o k hk)
        obtain ⟨v0, hv0⟩ : ∃ v, (inoL (partI L o k)).toArray[3 + k]? = some v := ⟨_, Array.getElem?_eq_getElem (by rw [hz]; omega)⟩
        have c3 := blk_cell ho.blk (3 + k) hv0
        have HP := Lib.hid (ho.put8 (stable_star (stable_blk _ _) (stable_star (stable_blk _ _) hs)) (3 + k) (.int .i64 (b2 L (o + (4 + 2 * k)) : Int)) _ (part_cell L o k hlt))
        have e4 : 4 + 2 * (k : Int) = ((4 + 2 * k : Nat) : Int) := by omega
        rw [← e4] at CN
        clear e4 hv0 hz ho
        go_wp2_with (go_at_call 104; refine CN.out.mono ?_; rintro e w' ⟨rfl, hw'⟩; rw [hw']; clear hw' w')
        go_roundw
        case rel => exact ⟨k + 1, by omega, by go_num, HP.out⟩
        case measure => simp [intOf]; omega
      · obtain rfl : k = 6 := by omega
        rw [part_all] at ho
        have HO6 := Lib.hid ho
        have hz : (inoL (toF L o)).toArray.size = 9 := ino_size _ (toPl_len L o 6)
        have h1 := ino_one (toF L o)
        have hz0 : (inoL ⟨0, 0, 0, List.replicate 6 0⟩).toArray.size = 9 := rfl
        have H9 := Lib.hid (ho.swap2.setRow (stable_star (stable_blk _ _) (stable_star (stable_blk _ _) hs)) (inoL (toF L o)).toArray)
        obtain ⟨C, hC⟩ : ∃ C, (inoL (toF L o)).toArray = C := ⟨_, rfl⟩
        have HCE := Lib.hid hC
        rw [hC] at hz h1 H9 HO6
        clear hC ho
        generalize (inoL ⟨0, 0, 0, List.replicate 6 0⟩).toArray = C0 at *
        go_wp2_with (first
          | (refine wpList_load_row rfl _ _ rfl Z rfl _ C (0, 0) _ HO6.out.blk Tryz.underlying132 rfl (by rw [hz]; exact ino_info) ?_)
          | (refine wpList_store_row rfl _ _ _ rfl Y C rfl rfl _ C0 HO6.out.swap2.blk (by rw [hz]; exact ino_info) (by rw [hz, hz0]) h1 ?_))
        refine bodyPost_ret (results_cell_row rfl _ _ Y _ C (0, 0) _ rfl H9.out.blk Tryz.underlying132 rfl (by rw [hz]; exact ino_info)) rfl ?_
        exact ⟨by rw [HCE.out], H9.out.right.right⟩
end Go.Proofs.YtlpcccpagmipnaaGreat.P
