/- Stage 8: bits of a block. No condition. -/
import Derived.Test.YtlpcccpagmipnaaGreatA34
import Derived.StillTailTactics
import Derived.Lib.SlBytesRow
import Derived.IntWalk
set_option linter.unusedVariables false
set_option linter.unusedSimpArgs false
set_option maxRecDepth 100000
namespace Go.Proofs.YtlpcccpagmipnaaGreat.P
open Go.RowKit
def bcL (L : List UInt8) : Array Value := (Lib.byteCells L).toArray
def byL (L : List UInt8) (k : Nat) : Nat := (L.getD k 0).toNat
def bitL (x r : Nat) : Nat := x / 2 ^ r % 2
def usedB (L : List UInt8) (i : Nat) : Bool := decide (bitL (byL L (i / 8)) (i % 8) = 1)
def clrN (x r : Nat) : Nat := x - bitL x r * 2 ^ r
def newN (x r : Nat) (b : Bool) : Nat := bif b then clrN x r + 2 ^ r else clrN x r
def setB (L : List UInt8) (i : Nat) (b : Bool) : List UInt8 := L.set (i / 8) (UInt8.ofNat (newN (byL L (i / 8)) (i % 8) b))
theorem byL_lt (L : List UInt8) (k : Nat) : byL L k < 256 := UInt8.toNat_lt _
theorem bcL_cell {L : List UInt8} {k : Nat} (h : k < L.length) : (bcL L)[k]? = some (.int .u8 (byL L k : Int)) := by
  unfold bcL byL Lib.byteCells
  rw [List.getElem?_toArray, List.getElem?_map, List.getElem?_eq_getElem h, List.getD_eq_getElem?_getD, List.getElem?_eq_getElem h]; rfl
theorem clr_all : ∀ x < 256, ∀ r < 8, bits .andNot .u8 ((x : Nat) : Int) (2 ^ r : Int) = (clrN x r : Int) ∧ bits .or .u8 (clrN x r : Int) (2 ^ r : Int) = ((clrN x r + 2 ^ r : Nat) : Int) ∧ clrN x r + 2 ^ r < 256 ∧ (bits .and .u8 (((x : Nat) : Int) / 2 ^ r) 1 == 1) = decide (bitL x r = 1) ∧ IntKind.u8.wrap (2 ^ r : Int) = 2 ^ r := by decide +kernel
theorem bcL_set (L : List UInt8) (k x : Nat) (hx : x < 256) : (bcL L).setIfInBounds k (.int .u8 (x : Int)) = bcL (L.set k (UInt8.ofNat x)) := by
  unfold bcL Lib.byteCells
  rw [List.setIfInBounds_toArray, List.map_set, UInt8.toNat_ofNat', Nat.mod_eq_of_lt hx]
theorem c_bhas {w0 w : World} {B : Nat} {L : List UInt8} {R : Asn} (h : Own w0 w (Star (blkA B (.cells (bcL L) 84)) R)) (hl : L.length = 64) (i : Nat) (hi : i < 512) :
    Calls Tryz.prog 97 #[.pointer (some ⟨B, 0, none⟩), .int .i64 (i : Int)] w fun e w' => e = .returned (.bool (usedB L i)) ∧ w' = w := by
  have hq : i / 8 < 64 := by omega
  have c0 := blk_cell h.blk (i / 8) (bcL_cell (by rw [hl]; exact hq))
  have hr : i % 8 < 8 := by omega
  have e1 : (i : Int) / 8 = ((i / 8 : Nat) : Int) := by omega
  have e2 : (i : Int) % 8 = ((i % 8 : Nat) : Int) := by omega
  have hx := byL_lt L (i / 8)
  have HF := Lib.hid (clr_all _ hx _ hr).2.2.2.1
  clear h hl
  unfold usedB
  generalize byL L (i / 8) = x at *
  generalize i / 8 = q at *
  generalize i % 8 = r at *
  go_enter Tryz.func97, Tryz.ntmps97
  go_wp2_with fail
  go_ret
  exact ⟨ret_b HF.out, rfl⟩
/-- A byte of a block put. -/
theorem Own.putB {w0 w : World} {B : Nat} {L : List UInt8} {T : TypeId} {R : Asn} (h : Own w0 w (Star (blkA B (.cells (bcL L) T)) R)) (hs : Stable R) (k x : Nat) (hx : x < 256) : Own w0 (w.setCell ⟨B, k, none⟩ (.int .u8 (x : Int))) (Star (blkA B (.cells (bcL (L.set k (UInt8.ofNat x))) T)) R) := by
  have := h.step hs (A' := blkA B (.cells (bcL (L.set k (UInt8.ofNat x))) T)) (w' := w.setCell ⟨B, k, none⟩ (.int .u8 (x : Int))) (fun F hF => ⟨fun y => y = B, ⟨rfl, by rw [blk_set hF.2 k _, bcL_set L k x hx]⟩, fun y hy => ⟨.inl (by rw [hy]; exact hF.1), by rw [hy, World.size_setCell]; exact blk_lt hF.2⟩, Ch.setCell (S := F) (Ch.refl _ w) (p := ⟨B, k, none⟩) (.inl hF.1) _⟩)
  exact this
theorem c_bset {w0 w : World} {B : Nat} {L : List UInt8} {R : Asn} (h : Own w0 w (Star (blkA B (.cells (bcL L) 84)) R)) (hs : Stable R) (hl : L.length = 64) (i : Nat) (hi : i < 512) (b : Bool) :
    Calls Tryz.prog 86 #[.pointer (some ⟨B, 0, none⟩), .int .i64 (i : Int), .bool b] w fun e w' => e = .returned (.tuple #[]) ∧ Own w0 w' (Star (blkA B (.cells (bcL (setB L i b)) 84)) R) := by
  have hq : i / 8 < 64 := by omega
  have HC : Hid (∀ wx (L' : List UInt8), Own w0 wx (Star (blkA B (.cells (bcL L') 84)) R) → L'.length = 64 → wx.cell? ⟨B, i / 8, none⟩ = some (.int .u8 (byL L' (i / 8) : Int)) ∧ wx.frozen? ⟨B, i / 8, none⟩ = false) := Lib.hid (fun wx L' hw hl' => ⟨blk_cell hw.blk (i / 8) (bcL_cell (by rw [hl']; exact hq)), blk_frozen hw.blk _⟩)
  have hr : i % 8 < 8 := by omega
  have hi2 : (i : Int) < 512 := by omega
  have hx := byL_lt L (i / 8)
  obtain ⟨k1, k2, k3, _, k5⟩ := clr_all _ hx _ hr
  have hlt : clrN (byL L (i / 8)) (i % 8) < 256 := by unfold clrN; omega
  have H1 := Lib.hid ((h.putB hs (i / 8) _ hlt).drew (stable_star (stable_blk _ _) hs))
  obtain ⟨c0, z0⟩ := HC.out _ _ h hl
  have hl1 : (L.set (i / 8) (UInt8.ofNat (clrN (byL L (i / 8)) (i % 8)))).length = 64 := by rw [List.length_set]; exact hl
  have hb1 : byL (L.set (i / 8) (UInt8.ofNat (clrN (byL L (i / 8)) (i % 8)))) (i / 8) = clrN (byL L (i / 8)) (i % 8) := by
    unfold byL
    rw [List.getD_eq_getElem?_getD, List.getElem?_set_self (by rw [hl]; exact hq)]
    show (UInt8.ofNat _).toNat = _
    rw [UInt8.toNat_ofNat']
    exact Nat.mod_eq_of_lt hlt
  have hn : setB L i b = bif b then (L.set (i / 8) (UInt8.ofNat (clrN (byL L (i / 8)) (i % 8)))).set (i / 8) (UInt8.ofNat (clrN (byL L (i / 8)) (i % 8) + 2 ^ (i % 8))) else L.set (i / 8) (UInt8.ofNat (clrN (byL L (i / 8)) (i % 8))) := by
    unfold setB newN
    cases b with
    | true => rw [cond_true, cond_true, List.set_set]
    | false => rfl
  rw [hn]
  have HS := Lib.hid hs
  have HB1 := Lib.hid hb1
  have HL1 := Lib.hid hl1
  have e1 : (i : Int) / 8 = ((i / 8 : Nat) : Int) := by omega
  have e2 : (i : Int) % 8 = ((i % 8 : Nat) : Int) := by omega
  have t1 : (i : Int).tdiv 8 = ((i / 8 : Nat) : Int) := by rw [Int.tdiv_eq_ediv_of_nonneg (by omega)]; exact e1
  have t2 : (i : Int).tmod 8 = ((i % 8 : Nat) : Int) := by rw [Int.tmod_eq_emod_of_nonneg (by omega)]; exact e2
  have w1 : IntKind.i64.wrap ((i / 8 : Nat) : Int) = ((i / 8 : Nat) : Int) := IntWalk.i64_in _ (by omega)
  have w2 : IntKind.i64.wrap ((i % 8 : Nat) : Int) = ((i % 8 : Nat) : Int) := IntWalk.i64_in _ (by omega)
  have q0 : (0 : Int) ≤ ((i / 8 : Nat) : Int) := by omega
  have q1 : ((i / 8 : Nat) : Int) < 64 := by omega
  have d1 : decide (512 ≤ (i : Int)) = false := decide_eq_false (by omega)
  clear h hl hb1 hl1 hn hs
  generalize L.set (i / 8) (UInt8.ofNat (clrN (byL L (i / 8)) (i % 8))) = L1 at *
  generalize clrN (byL L (i / 8)) (i % 8) = x1 at *
  generalize byL L (i / 8) = x at *
  generalize i / 8 = q at *
  generalize i % 8 = r at *
  cases b with
  | false =>
    rw [cond_false]
    go_enter Tryz.func86, Tryz.ntmps86
    go_upto_region 1 with fail
    go_still_tail 12, (by kernel_rfl)
    go_wp2_with fail
    refine bodyPost_end (results_none rfl _ _ _) rfl ?_
    exact ⟨rfl, H1.out⟩
  | true =>
    rw [cond_true]
    go_enter Tryz.func86, Tryz.ntmps86
    go_upto_region 1 with fail
    go_still_tail 12, (by kernel_rfl)
    go_upto_region 3 with fail
    generalize World.drew (World.setCell _ _ _) = w1 at *
    obtain ⟨c1, z1⟩ := HC.out _ _ H1.out HL1.out
    rw [HB1.out] at c1
    have H2 := Lib.hid ((H1.out.putB HS.out q _ k3).drew (stable_star (stable_blk _ _) HS.out))
    clear c0 z0 H1
    go_still_tail 12, (by kernel_rfl)
    go_wp2_with fail
    refine bodyPost_end (results_none rfl _ _ _) rfl ?_
    exact ⟨rfl, H2.out⟩
end Go.Proofs.YtlpcccpagmipnaaGreat.P
namespace Go.Proofs.YtlpcccpagmipnaaGreat.P
open Go.RowKit
/-- How many of the first k home sectors are free. -/
def freeN (L : List UInt8) : Nat → Nat
  | 0 => 0
  | k + 1 => freeN L k + (bif usedB L k then 0 else 1)
theorem freeN_le (L : List UInt8) : ∀ k, freeN L k ≤ k
  | 0 => Nat.le_refl _
  | k + 1 => by
    have := freeN_le L k
    show freeN L k + _ ≤ k + 1
    cases usedB L k <;> simp <;> omega
theorem c_bfree (w : World) (L : List UInt8) (hl : L.length = 64) (hm : Nat) (h512 : hm ≤ 512) :
    Calls Tryz.prog 61 #[.agg (bcL L), .int .i64 (hm : Int)] w fun e w' => e = .returned (.int .i64 (freeN L hm : Int)) ∧ Gr w w' := by
  have H0 := Lib.hid ((Own.start (Gr.refl w)).alloc stable_emp (.cells (bcL L) 84))
  have HB : Hid (∀ k, k < hm → ∀ wx, Own w wx (Star (blkA w.heap.size (.cells (bcL L) 84)) emp) → Calls Tryz.prog 97 #[.pointer (some ⟨w.heap.size, 0, none⟩), .int .i64 (k : Int)] wx fun e w' => e = .returned (.bool (usedB L k)) ∧ w' = wx) := Lib.hid (fun k hk wx ho => c_bhas ho hl k (by omega))
  have HLE := Lib.hid (freeN_le L)
  clear hl
  generalize bcL L = C at *
  go_enter Tryz.func61, Tryz.ntmps61
  go_wp2_with fail
  generalize w.alloc _ = w1 at *
  generalize w.heap.size = B at *
  go_loopw [5, 8] (fun v5 v8 wr => ∃ k : Nat, k ≤ hm ∧ v8 = .int .i64 k ∧ v5 = .int .i64 (freeN L k : Int) ∧ wr = w1) (fun _ v _ => hm - (intOf v).toNat)
  case atStart => exact ⟨0, Nat.zero_le _, rfl, rfl, rfl⟩
  case round =>
    obtain ⟨k, hk, rfl, rfl, hwr⟩ := hrel
    rw [hwr]
    clear hwr
    have hle := HLE.out k
    by_cases hlt : k < hm
    · have dl : decide (k < hm) = true := decide_eq_true hlt
      have CB := Lib.hid (HB.out k hlt _ H0.out)
      have n5 : IntKind.i64.wrap ((k : Int) + 1) = (k : Int) + 1 := IntWalk.i64_in _ (by omega)
      have n6 : IntKind.i64.wrap ((freeN L k : Int) + 1) = (freeN L k : Int) + 1 := IntWalk.i64_in _ (by omega)
      cases hu : usedB L k with
      | true =>
        rw [hu] at CB
        have HF : Hid (freeN L (k + 1) = freeN L k) := Lib.hid (by show freeN L k + _ = _; rw [hu]; rfl)
        clear hu
        go_wp2_with (go_at_call 97; refine CB.out.mono ?_; rintro e w' ⟨rfl, hw'⟩; rw [hw']; clear hw' w')
        go_roundw
        case rel => exact ⟨k + 1, by omega, by go_num, by rw [HF.out], trivial⟩
        case measure => simp [intOf]; omega
      | false =>
        rw [hu] at CB
        have HF : Hid (freeN L (k + 1) = freeN L k + 1) := Lib.hid (by show freeN L k + _ = _; rw [hu]; rfl)
        clear hu
        go_wp2_with (go_at_call 97; refine CB.out.mono ?_; rintro e w' ⟨rfl, hw'⟩; rw [hw']; clear hw' w')
        go_roundw
        case rel => exact ⟨k + 1, by omega, by go_num, by rw [HF.out]; go_num, trivial⟩
        case measure => simp [intOf]; omega
    · obtain rfl : k = hm := by omega
      have dl : decide (k < k) = false := decide_eq_false (by omega)
      go_wp2_with fail
      go_ret
      exact ⟨rfl, H0.out.sub⟩
theorem c_btake_some {w0 w : World} {B : Nat} {L : List UInt8} {R : Asn} (h : Own w0 w (Star (blkA B (.cells (bcL L) 84)) R)) (hs : Stable R) (hl : L.length = 64) (hm i : Nat) (h512 : hm ≤ 512) (h9 : 9 ≤ i) (hi : i < hm) (hu : usedB L i = false) (hmin : ∀ j, 9 ≤ j → j < i → usedB L j = true) :
    Calls Tryz.prog 114 #[.pointer (some ⟨B, 0, none⟩), .int .i64 (hm : Int)] w fun e w' => e = .returned (.tuple #[.int .i64 (i : Int), .bool true]) ∧ Own w0 w' (Star (blkA B (.cells (bcL (setB L i true)) 84)) R) := by
  have HB : Hid (∀ k, k ≤ i → Calls Tryz.prog 97 #[.pointer (some ⟨B, 0, none⟩), .int .i64 (k : Int)] w fun e w' => e = .returned (.bool (usedB L k)) ∧ w' = w) := Lib.hid (fun k hk => c_bhas h hl k (by omega))
  have HS := Lib.hid (c_bset h hs hl i (by omega) true)
  have HU := Lib.hid hu
  have HM := Lib.hid hmin
  clear h hs hl hu hmin
  generalize bcL (setB L i true) = C at *
  go_enter Tryz.func114, Tryz.ntmps114
  go_wp2_with fail
  go_loopw [6] (fun v6 wr => ∃ k : Nat, 9 ≤ k ∧ k ≤ i ∧ v6 = .int .i64 k ∧ wr = w) (fun v _ => hm - (intOf v).toNat)
  case atStart => exact ⟨9, Nat.le_refl _, h9, rfl, rfl⟩
  case round =>
    obtain ⟨k, hk9, hk, rfl, hwr⟩ := hrel
    rw [hwr]
    clear hwr
    have CB := Lib.hid (HB.out k hk)
    have dl : decide (k < hm) = true := decide_eq_true (by omega)
    by_cases hlt : k < i
    · rw [HM.out k hk9 hlt] at CB
      have n5 : IntKind.i64.wrap ((k : Int) + 1) = (k : Int) + 1 := IntWalk.i64_in _ (by omega)
      go_wp2_with (go_at_call 97; refine CB.out.mono ?_; rintro e w' ⟨rfl, hw'⟩; rw [hw']; clear hw' w')
      go_roundw
      case rel => exact ⟨k + 1, by omega, by omega, by go_num, trivial⟩
      case measure => simp [intOf]; omega
    · obtain rfl : k = i := by omega
      rw [HU.out] at CB
      go_wp2_with (first
        | (go_at_call 97; refine CB.out.mono ?_; rintro e w' ⟨rfl, hw'⟩; rw [hw']; clear hw' w')
        | (go_at_call 86; refine HS.out.mono ?_; rintro e w2 ⟨rfl, h2⟩; have H2 := Lib.hid h2; clear h2))
      go_ret2
      exact ⟨rfl, H2.out⟩
theorem c_btake_none {w0 w : World} {B : Nat} {L : List UInt8} {R : Asn} (h : Own w0 w (Star (blkA B (.cells (bcL L) 84)) R)) (hl : L.length = 64) (hm : Nat) (h512 : hm ≤ 512) (h9 : 9 ≤ hm) (hall : ∀ j, 9 ≤ j → j < hm → usedB L j = true) :
    Calls Tryz.prog 114 #[.pointer (some ⟨B, 0, none⟩), .int .i64 (hm : Int)] w fun e w' => e = .returned (.tuple #[.int .i64 0, .bool false]) ∧ w' = w := by
  have HB : Hid (∀ k, k < hm → Calls Tryz.prog 97 #[.pointer (some ⟨B, 0, none⟩), .int .i64 (k : Int)] w fun e w' => e = .returned (.bool (usedB L k)) ∧ w' = w) := Lib.hid (fun k hk => c_bhas h hl k (by omega))
  have HM := Lib.hid hall
  clear h hl hall
  go_enter Tryz.func114, Tryz.ntmps114
  go_wp2_with fail
  go_loopw [6] (fun v6 wr => ∃ k : Nat, 9 ≤ k ∧ k ≤ hm ∧ v6 = .int .i64 k ∧ wr = w) (fun v _ => hm - (intOf v).toNat)
  case atStart => exact ⟨9, Nat.le_refl _, h9, rfl, rfl⟩
  case round =>
    obtain ⟨k, hk9, hk, rfl, hwr⟩ := hrel
    rw [hwr]
    clear hwr
    by_cases hlt : k < hm
    · have dl : decide (k < hm) = true := decide_eq_true hlt
      have CB := Lib.hid (HB.out k hlt)
      rw [HM.out k hk9 hlt] at CB
      have n5 : IntKind.i64.wrap ((k : Int) + 1) = (k : Int) + 1 := IntWalk.i64_in _ (by omega)
      go_wp2_with (go_at_call 97; refine CB.out.mono ?_; rintro e w' ⟨rfl, hw'⟩; rw [hw']; clear hw' w')
      go_roundw
      case rel => exact ⟨k + 1, by omega, by omega, by go_num, trivial⟩
      case measure => simp [intOf]; omega
    · obtain rfl : k = hm := by omega
      have dl : decide (k < k) = false := decide_eq_false (by omega)
      go_wp2_with fail
      go_ret2
      exact ⟨rfl, rfl⟩
/-- How many sectors a size asks for. -/
def cntN (s : Nat) : Nat := (s + 63) / 64
theorem c_count (s : Nat) (hs : s ≤ 1000000) (w : World) : Calls Tryz.prog 78 #[.int .i64 (s : Int)] w fun e w' => e = .returned (.int .i64 (cntN s : Int)) ∧ w' = w := by
  have e1 : ((s : Int) + 64 - 1) / 64 = (cntN s : Int) := by unfold cntN; omega
  have HE := Lib.hid e1
  clear e1
  go_enter Tryz.func78, Tryz.ntmps78
  go_wp2_with fail
  go_ret
  exact ⟨ret_i HE.out, rfl⟩
theorem ret_i2 {a b c d : Int} (h : a = b) (k : c = d) : Ending.returned (.tuple #[.int .i64 a, .int .i64 c]) = .returned (.tuple #[.int .i64 b, .int .i64 d]) := by rw [h, k]
theorem c_where (n : Nat) (hn : n < 32) (w : World) : Calls Tryz.prog 107 #[.int .i64 (n : Int)] w fun e w' => e = .returned (.tuple #[.int .i64 ((1 + n / 4 : Nat) : Int), .int .i64 ((n % 4 * 16 : Nat) : Int)]) ∧ w' = w := by
  have e1 : 1 + (n : Int) / 4 = ((1 + n / 4 : Nat) : Int) := by omega
  have e2 : (n : Int) % 4 * 16 = ((n % 4 * 16 : Nat) : Int) := by omega
  have E1 := Lib.hid e1
  have E2 := Lib.hid e2
  clear e1 e2
  go_enter Tryz.func107, Tryz.ntmps107
  go_wp2_with fail
  go_ret2
  exact ⟨ret_i2 E1.out E2.out, rfl⟩
theorem c_inside (p off en : Nat) (hp : p ≤ 1000) (ho : off ≤ 100000) (he : en ≤ 100000) (w : World) : Calls Tryz.prog 73 #[.int .i64 (p : Int), .int .i64 (off : Int), .int .i64 (en : Int)] w fun e w' => e = .returned (.tuple #[.int .i64 (max ((off : Int) - p * 64) 0), .int .i64 (min ((en : Int) - p * 64) 64)]) ∧ w' = w := by
  go_enter Tryz.func73, Tryz.ntmps73
  go_wp2_with fail
  go_ret2
  exact ⟨rfl, rfl⟩
end Go.Proofs.YtlpcccpagmipnaaGreat.P
