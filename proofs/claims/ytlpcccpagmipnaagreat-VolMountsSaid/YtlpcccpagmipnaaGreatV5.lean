/- Stage 8: inodes into their bytes. No condition. -/
import Derived.Test.YtlpcccpagmipnaaGreatV4
import Derived.Deep.MidRow
set_option linter.unusedVariables false
set_option linter.unusedSimpArgs false
set_option maxRecDepth 100000
namespace Go.Proofs.YtlpcccpagmipnaaGreat.P
open Go.RowKit
def frK (L : List UInt8) (o : Nat) (x : Ino) : Nat → List UInt8
  | 0 => put2 ((L.set o (UInt8.ofNat x.kind)).set (o + 1) (UInt8.ofNat x.links)) (o + 2) x.size
  | k + 1 => put2 (frK L o x k) (o + (4 + 2 * k)) (x.pl.getD k 0)
def frI (L : List UInt8) (o : Nat) (x : Ino) : List UInt8 := frK L o x 6
theorem frK_len (L : List UInt8) (o : Nat) (x : Ino) (h : o + 16 ≤ L.length) : ∀ k, k ≤ 6 → (frK L o x k).length = L.length
  | 0, _ => by
    unfold frK
    rw [put2_len _ (by rw [List.length_set, List.length_set]; omega), List.length_set, List.length_set]
  | k + 1, hk => by
    have ih := frK_len L o x h k (by omega)
    unfold frK
    rw [put2_len _ (by rw [ih]; omega), ih]
def okI (x : Ino) : Prop := x.kind < 256 ∧ x.links < 256 ∧ x.size < 65536 ∧ x.pl.length = 6 ∧ ∀ k, k < 6 → x.pl.getD k 0 < 65536
theorem run_index_arr (t e : TypeId) (n : Nat) (cs : Array Value) (k : Nat) (v : Value) (h : Tryz.prog.underlying t = some (.array n e)) (hsz : ∀ w, (sizeOf e).run Tryz.prog w = .ok 1 w) (hag : ∀ w, (isAgg e).run Tryz.prog w = .ok false w) (hk : k < n) (hv : cs[k]? = some v) (w : World) : (Instr.index t (.agg cs) (.int .i64 (k : Int))).run Tryz.prog w = .ok v w := by
  have h2 : ¬ (n : Int) ≤ (k : Int) := by omega
  simp [Instr.index, run_underlying h, asIntOf, go_sem, part, hsz, hag, h2, hv, asAgg]
  intro q; omega
theorem nums_at (l : List Nat) (k : Nat) (hk : k < l.length) : (nums l)[k]? = some (.int .i64 ((l.getD k 0 : Nat) : Int)) := by
  unfold nums
  rw [List.getElem?_map, List.getElem?_eq_getElem hk, List.getD_eq_getElem?_getD, List.getElem?_eq_getElem hk]; rfl
theorem idx6 (l : List Nat) (h : l.length = 6) (k : Nat) (hk : k < 6) (w : World) : (Instr.index 130 (.agg (nums l).toArray) (.int .i64 (k : Int))).run Tryz.prog w = .ok (.int .i64 ((l.getD k 0 : Nat) : Int)) w :=
  run_index_arr _ 3 6 _ k _ Tryz.underlying130 (fun w => Tryz.sizeOf3 w) (fun w => Tryz.isAgg3 w) hk (by rw [List.getElem?_toArray]; exact nums_at l k (by omega)) w
set_option maxHeartbeats 1600000 in
theorem c_fromInode {w0 w : World} {B : Nat} {L : List UInt8} {T : TypeId} {R : Asn} (h : Own w0 w (Star (blkA B (.cells (bcL L) T)) R)) (hs : Stable R) (hl : L.length = 64) (o cp : Nat) (hc : 16 ≤ cp) (hc2 : cp ≤ 64) (hok : o + 16 ≤ 64) (x : Ino) (hx : okI x) :
    Calls Tryz.prog 109 #[.agg (inoL x).toArray, .slice (some ⟨B, o, none⟩) 16 cp] w fun e w' => e = .returned (.tuple #[]) ∧ Own w0 w' (Star (blkA B (.cells (bcL (frI L o x)) T)) R) := by
  have hst : Stable (Star (blkA B (.cells (bcL L) T)) R) := stable_star (stable_blk _ _) hs
  have E0 : Hid (Own w0 (w.alloc (.cells (inoL x).toArray 132)) (Star (blkA w.heap.size (.cells (inoL x).toArray 132)) (Star (blkA B (.cells (bcL L) T)) R))) := Lib.hid (h.alloc hst _)
  have HCC : Hid ((inoL x).toArray[0]? = some (.int .i64 (x.kind : Int)) ∧ (inoL x).toArray[1]? = some (.int .i64 (x.links : Int)) ∧ (inoL x).toArray[2]? = some (.int .i64 (x.size : Int))) := Lib.hid ⟨rfl, rfl, rfl⟩
  obtain ⟨x1, x2, x3, x4, x5⟩ := hx
  obtain ⟨C, hC⟩ : ∃ C, (inoL x).toArray = C := ⟨_, rfl⟩
  have HCE := Lib.hid hC
  rw [hC] at E0 HCC ⊢
  clear hC h hst
  go_enter Tryz.func109, Tryz.ntmps109
  go_upto_region 1 with fail
  generalize (World.alloc w _) = w1 at E0 ⊢
  generalize w.heap.size = Z at E0 ⊢
  have c0 := blk_cell E0.out.blk 0 HCC.out.1
  have c1 := blk_cell E0.out.blk 1 HCC.out.2.1
  have b0 := blk_cell E0.out.right.blk o (bcL_cell (by omega))
  have b1 := blk_cell E0.out.right.blk (o + 1) (bcL_cell (by omega))
  have z0 := blk_frozen E0.out.right.blk o
  have z1 := blk_frozen E0.out.right.blk (o + 1)
  have q0 : IntKind.u8.wrap (x.kind : Int) = (x.kind : Int) := by rw [IntKind.wrap_u8]; omega
  have q1 : IntKind.u8.wrap (x.links : Int) = (x.links : Int) := by rw [IntKind.wrap_u8]; omega
  have P1 := Lib.hid (E0.out.swap2.putB (stable_star (stable_blk _ _) hs) o x.kind x1)
  have P2 := Lib.hid (E0.out.swap2.putB (stable_star (stable_blk _ _) hs) (o + 1) x.links x2)
  have d1 := blk_cell P1.out.swap2.blk 1 HCC.out.2.1
  have d0 := blk_cell P2.out.swap2.blk 0 HCC.out.1
  have y1 := blk_frozen P1.out.blk (o + 1)
  have y0 := blk_frozen P2.out.blk o
  have v1 := blk_cell P1.out.blk (o + 1) (bcL_cell (by rw [List.length_set]; omega))
  have v0 := blk_cell P2.out.blk o (bcL_cell (by rw [List.length_set]; omega))
  go_region
  have F0 := Lib.hid ((P1.out.putB (stable_star (stable_blk _ _) hs) (o + 1) x.links x2).drew (stable_star (stable_blk _ _) (stable_star (stable_blk _ _) hs)))
  clear P1 P2 d0 d1 y0 y1 v0 v1 c0 c1 b0 b1 z0 z1 q0 q1 E0
  generalize World.drew (World.setCell _ _ _) = w2 at F0 ⊢
  have hl0 : ((L.set o (UInt8.ofNat x.kind)).set (o + 1) (UInt8.ofNat x.links)).length = 64 := by rw [List.length_set, List.length_set, hl]
  have c2 := blk_cell F0.out.swap2.blk 2 HCC.out.2.2
  have CP := Lib.hid (c_putNumber F0.out (stable_star (stable_blk _ _) hs) hl0 o 16 cp 2 x.size (by omega) hc (by omega) (by omega) x3)
  have HPN : Hid (∀ k wr, k < 6 → Own w0 wr (Star (blkA B (.cells (bcL (frK L o x k)) T)) (Star (blkA Z (.cells C 132)) R)) → Calls Tryz.prog 115 #[.slice (some ⟨B, o, none⟩) 16 cp, .int .i64 ((4 + 2 * k : Nat) : Int), .int .i64 ((x.pl.getD k 0 : Nat) : Int)] wr fun e w' => e = .returned (.tuple #[]) ∧ Own w0 w' (Star (blkA B (.cells (bcL (frK L o x (k + 1))) T)) (Star (blkA Z (.cells C 132)) R))) := Lib.hid (fun k wr hk ho => c_putNumber ho (stable_star (stable_blk _ _) hs) (by rw [frK_len _ _ _ (by omega) _ (by omega)]; exact hl) o 16 cp (4 + 2 * k) _ (by omega) hc (by omega) (by omega) (x5 k hk))
  have HRG : Hid (∀ wr, Own w0 wr (Star (blkA B (.cells (bcL (frK L o x 0)) T)) (Star (blkA Z (.cells C 132)) R)) → wr.rangeAt Z 3 (nums x.pl)) := Lib.hid (fun wr ho j v hv => blk_cell ho.swap2.blk (3 + j) (by
    rw [← HCE.out, List.getElem?_toArray]
    unfold inoL
    rw [List.getElem?_append_right (by simp)]
    simpa using hv))
  have HIX := Lib.hid (fun k (hk : k < 6) w => idx6 x.pl x4 k hk w)
  have hpl : (nums x.pl).length = 6 := by unfold nums; rw [List.length_map, x4]
  clear hl0 F0 hl HCC HCE
  generalize hA : (nums x.pl).toArray = A6 at HIX
  have HA := Lib.hid hA
  clear hA
  go_upto_region 3 with (go_at_call 115; refine CP.out.mono ?_; rintro e w3 ⟨rfl, h3⟩; have H3 : Hid (Own w0 w3 (Star (blkA B (.cells (bcL (frK L o x 0)) T)) (Star (blkA Z (.cells C 132)) R))) := Lib.hid h3; clear h3)
  clear CP c2
  go_wp2_with (refine wpList_load_mid rfl _ _ rfl Z 3 rfl (nums x.pl) _ (HRG.out _ H3.out) Tryz.underlying130 rfl (by rw [hpl]; kernel_rfl) ?_; rw [HA.out])
  go_loopw [22] (fun v wr => ∃ k : Nat, k ≤ 6 ∧ v = .int .i64 k ∧ Own w0 wr (Star (blkA B (.cells (bcL (frK L o x k)) T)) (Star (blkA Z (.cells C 132)) R))) (fun v _ => 6 - (intOf v).toNat)
  case atStart => exact ⟨0, by omega, rfl, H3.out⟩
  case round =>
    obtain ⟨k, hk, rfl, ho⟩ := hrel
    by_cases hlt : k < 6
    · have dl : decide (k < 6) = true := decide_eq_true hlt
      have k4 : (k : Int) < 6 := by omega
      have CN := Lib.hid (HPN.out k wr hlt ho)
      have ix := HIX.out k hlt
      have e4 : 4 + 2 * (k : Int) = ((4 + 2 * k : Nat) : Int) := by omega
      rw [← e4] at CN
      clear e4 ho
      generalize x.pl.getD k 0 = pv at CN ix
      go_wp2_with (go_at_call 115; refine CN.out.mono ?_; rintro e w5 ⟨rfl, h5⟩; have H5 := Lib.hid h5; clear h5)
      go_roundw
      case rel => exact ⟨k + 1, by omega, by go_num, H5.out⟩
      case measure => simp [intOf]; omega
    · obtain rfl : k = 6 := by omega
      have H6 : Hid (Own w0 wr (Star (blkA B (.cells (bcL (frI L o x)) T)) R)) := Lib.hid ho.drop2
      clear ho
      go_wp2_with fail
      refine bodyPost_end (results_none rfl _ _ _) rfl ?_
      exact ⟨rfl, H6.out⟩
end Go.Proofs.YtlpcccpagmipnaaGreat.P
