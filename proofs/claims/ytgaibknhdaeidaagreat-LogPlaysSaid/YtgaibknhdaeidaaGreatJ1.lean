/- Stage 6: the document's New. No condition. -/
import Derived.Test.YtgaibknhdaeidaaGreatI9
import Derived.Deep.RegionLaw
import Derived.IntWalk
set_option linter.unusedVariables false
namespace Go.Proofs.YtgaibknhdaeidaaGreat.P
open Go.RowKit
/-- A Go call, as one step of a region that draws. -/
theorem step_enter {P : Program} {ops : Array Oper} {o : Oper} {a : Act} {w : World} {K : Act → World → Prop} {Q : Exit → Act → World → Prop} {E : Prop} (hg : o.guard = none) (f : FuncId) (args : Array Value) (v : Value) (S : World → Prop)
    (hrun : (execOp a.eval o).run P w = .ok (.enter f args) w) (hc : Calls P f args w fun e w' => e = .returned v ∧ S w') (hK : ∀ w', S w' → K (a.put o.dst v) w') :
    if Region.wanted o (yielded ops a.tmps) = true then Oper.wp P o a w K Q else E := by
  have hw : Region.wanted o (yielded ops a.tmps) = true := by simp [Region.wanted, hg]
  rw [if_pos hw]
  unfold Oper.wp
  rw [hrun]
  refine hc.mono ?_
  rintro e w' ⟨rfl, h⟩
  exact hK w' h
theorem strs_rep (k : Nat) (s : ByteArray) : strs (List.replicate (k + 1) s) = strs (List.replicate k s) ++ [.string s] := by
  rw [List.replicate_succ', strs, List.map_append]; rfl
def rcells (v : Value) : Array Value := #[v, .slice none 0 0, .int .i64 (-1), .bool false]
set_option maxRecDepth 100000 in
set_option maxHeartbeats 4000000 in
theorem e_new (n : Nat) (h1 : 48 ≤ n) (h2 : n ≤ 544) (w : World) : Calls Tryz.prog 26 #[.int .i64 (n : Int)] w (MadeRD (List.replicate n z64) w) := by
  obtain ⟨i0, hi0, hz0, hz1, hz2⟩ := info_parts strInfo
  have HZ := Lib.hid (newZ_wz (List.replicate n z64) (by rw [List.length_replicate]; exact h1) (by rw [List.length_replicate]; exact h2))
  go_enter Tryz.func26, Tryz.ntmps26
  go_wp2_with fail
  have hB0 := blk_new w (.cells #[.slice none 0 0, .slice none 0 0, .int .i64 (-1), .bool false] 46)
  have HB0 := Lib.hid hB0
  clear hB0
  obtain ⟨r, hr⟩ : ∃ r, r = w.heap.size := ⟨_, rfl⟩
  rw [← hr] at HB0 ⊢
  have HR := Lib.hid hr
  clear hr
  have HG0 : RowKit.Hid (Gr w (w.alloc (.cells #[.slice none 0 0, .slice none 0 0, .int .i64 (-1), .bool false] 46))) := Lib.hid (Below.alloc (Below.refl _ _) (Nat.le_refl _) _)
  generalize w.alloc (.cells #[.slice none 0 0, .slice none 0 0, .int .i64 (-1), .bool false] 46) = w0 at *
  go_loopw [4] (fun i wr => ∃ (k : Nat) (v : Value), k ≤ n ∧ i = .int .i64 k ∧ wr.heap[r]? = some (.cells (rcells v) 46) ∧ wr.ownsRow 0 9 1 v k (strs (List.replicate k z64)) ∧ (∀ b, v.ownBlock = some b → b ≠ r ∧ w.heap.size ≤ b) ∧ Gr w wr) (fun i _ => n - (intOf i).toNat)
  case atStart => exact ⟨0, .slice none 0 0, Nat.zero_le _, rfl, HB0.out, World.ownsRow_nil _ _ _ _, fun b hb => by simp [Value.ownBlock] at hb, HG0.out⟩
  case round =>
    obtain ⟨k, v, hk, rfl, hb, hrow, hvb, hg⟩ := hrel
    have HBR := Lib.hid hb
    have HROW := Lib.hid hrow
    have HVB := Lib.hid hvb
    have HG := Lib.hid hg
    clear hb hrow hvb hg
    by_cases hlt : k < n
    · have dl : decide (k < n) = true := decide_eq_true hlt
      have c0 : wr.drew.cell? ⟨r, 0, none⟩ = some v := blk_cell (blk_drew HBR.out) 0 rfl
      have hw1 : IntKind.i64.wrap ((k : Int) + 1) = (k : Int) + 1 := IntWalk.i64_in _ (by omega)
      go_upto_region 5 with fail
      go_region_law (first
        | ((refine step_enter rfl 47 #[] (.string z64) _ (by kernel_rfl) (e_noughts _) ?_); intro w5 g5; have G5 : RowKit.Hid (Gr wr w5) := Lib.hid (undrew g5); have b5 := blk_gr (undrew g5) HBR.out; have c5 : w5.cell? ⟨r, 0, none⟩ = some v := blk_cell b5 0 rfl; have c6 : (w5.alloc (.cells #[.string z64] 9)).cell? ⟨r, 0, none⟩ = some v := calloc _ c5; have B5 := Lib.hid b5; clear g5 b5)
        | ((refine step_append_lies _ rfl _ _ 22 rfl 0 9 i0 (.string ⟨#[]⟩) 1 16 Tryz.underlying22 hi0 hz0 hz1 hz2 rfl (by decide) v k (strs (List.replicate k z64)) (by kernel_rfl) ((ownsRow_ch HROW.out (Ch.of_gr (S := fun _ => False) G5.out) (fun _ _ h => h)).alloc _) ⟨w5.heap.size, 0, none⟩ 1 1 [.string z64] (by kernel_rfl) rfl (World.news_of_block (cs := #[.string z64]) (blk_new _ _)) (by simp [Value.oneCell']) (by omega) (by unfold maxLen; omega) (by omega) (by omega) (w5.heap.size + 1) (by simp) ?_); intro g cap' w7 hown hgrow hat hlt7; have b7 := (Ch.of_grown hgrow).blk (blk_alloc (.cells #[.string z64] 9) B5.out) (fun e => (HVB.out _ e).1 rfl); have c7 : w7.cell? ⟨r, 0, none⟩ = some v := blk_cell b7 0 rfl; have z7 := blk_frozen b7 0; have B7 := Lib.hid b7; have HOWN := Lib.hid hown; have HGR := Lib.hid hgrow; have HAT := Lib.hid hat; clear b7 hown hgrow hat hlt7))
      all_goals
        have hgA : Gr w (w5.alloc (.cells #[.string z64] 9)) := gtrans (gtrans HG.out G5.out) (Below.alloc (Below.refl _ _) (Nat.le_refl _) _)
        have hgB := gr_ch hgA (Ch.of_grown HGR.out) (fun x hx => (HVB.out x hx).2)
        have hrw : w.heap.size ≤ r := Nat.le_of_eq HR.out.symm
        have hr5 : r < w5.heap.size := blk_lt B5.out
        have hgr : g ≠ r ∧ w.heap.size ≤ g := by
          rcases HAT.out with e | e
          · exact HVB.out g e
          · omega
        have HGF := Lib.hid (hgB.setCell (p := ⟨r, 0, none⟩) hrw (.slice (some ⟨g, 0, none⟩) (k + 1) cap'))
        have hb9 := blk_set B7.out 0 (.slice (some ⟨g, 0, none⟩) (k + 1) cap')
        have HB9 : RowKit.Hid ((w7.setCell ⟨r, 0, none⟩ (.slice (some ⟨g, 0, none⟩) (k + 1) cap')).heap[r]? = some (.cells (rcells (.slice (some ⟨g, 0, none⟩) (k + 1) cap')) 46)) := Lib.hid hb9
        have HO9 := Lib.hid (ownsRow_ch (S := (· = r)) HOWN.out (Ch.setCell (S := (· = r)) (Ch.refl _ w7) (p := ⟨r, 0, none⟩) (.inl rfl) (.slice (some ⟨g, 0, none⟩) (k + 1) cap')) (fun x hx e => by injection hx with hx; exact hgr.1 (hx.trans e)))
        have HGR2 := Lib.hid hgr
        clear hb9 hgr hgA hgB hrw hr5
        go_wp2_with fail
        go_roundw
        case rel => exact ⟨k + 1, _, by omega, by go_num, HB9.out, by rw [strs_rep]; exact HO9.out, fun b hb => by injection hb with hb; rw [← hb]; exact HGR2.out, HGF.out⟩
        case measure => simp [intOf]; omega
    · obtain rfl : k = n := by omega
      have dl : decide (k < k) = false := decide_eq_false (by omega)
      go_wp2_with fail
      go_ret
      have hlr : (List.replicate k z64).length = k := List.length_replicate
      obtain ⟨g, cap, rfl, _, hgl⟩ := HROW.out.form (by omega)
      have hb2 := HVB.out g rfl
      have hrow := HROW.out
      have hbl := HBR.out
      rw [show (.slice (some ⟨g, 0, none⟩) k cap : Value) = .slice (some ⟨g, 0, none⟩) (List.replicate k z64).length cap by rw [hlr]] at hrow hbl
      exact made_rd HZ.out hbl (by have := hrow; rw [hlr] at this ⊢; exact this) (Nat.le_of_eq HR.out.symm) hb2.2 hb2.1 HG.out
end Go.Proofs.YtgaibknhdaeidaaGreat.P
