/- Stage 12: a part is laid. No condition. -/
import Derived.Test.YtdlglnoffpnonaaGreatPC
import Derived.Test.YtdlglnoffpnonaaGreatPH
import Derived.Test.YtdlglnoffpnonaaGreatEE
import Derived.Deep.DeepCutAuto
import Derived.Deep.RegionHeld3
set_option linter.unusedVariables false
set_option linter.unusedSimpArgs false
set_option maxRecDepth 100000
namespace Go.Proofs.YtdlglnoffpnonaaGreat.P
open Go.RowKit Go.MuLone Go.Maps
variable {w0 w : World} {pb b first : Nat} {z : Sp} {R : Asn}
theorem walkV_u12 (fr : Nat) (s : List UInt8) (r a acc : Int) (ha : 0 ≤ a) : u64 (walkV fr s r a acc) := by
  have he := ent_word s (leafV fr s r a)
  have h0 := he.1
  have h1 := he.2
  unfold walkV walkE
  cases decide (walkR fr s r a acc = 0)
  · rw [cond_false]; exact ⟨by omega, by omega⟩
  · rw [cond_true]; exact ⟨by omega, by omega⟩
def partC (page k : Int) (y : ByteArray) (bits : Int) : Array Value := #[.int .i64 page, .int .i64 k, .string y, .int .u64 bits]
set_option maxHeartbeats 3200000 in
theorem o_lay (h : Own w0 w (Star (plA pb b first z.L z.s) R)) (hR : Stable R) (r page bits : Int) (k : Nat) (y : ByteArray) (hr : i64 r) (hp : 0 ≤ page ∧ page + k ≤ 32768) (hb : u64 bits) (hy : y.size ≤ 4096) (e : Int) (z' : Sp) (hres : layX first r bits k page y z = (z', e)) :
    Calls Tryz.prog 29 #[.pointer (some ⟨pb, 0, none⟩), .int .i64 r, .agg #[.int .i64 page, .int .i64 (k : Int), .string y, .int .u64 bits]] w fun x w' => x = .returned (.int .i64 e) ∧ Own w0 w' (Star (plA pb b first z'.L z'.s) R) := by
  obtain ⟨xb, hxb⟩ : ∃ xb, w.heap.size = xb := ⟨_, rfl⟩
  have A1 := h.alloc (stable_star (stable_pl pb b first z.L z.s) hR) (.cells #[.int .i64 page, .int .i64 (k : Int), .string y, .int .u64 bits] 74)
  rw [hxb] at A1
  have A2 := A1.swap2
  have SB := Lib.hid (stable_star (stable_blk xb (.cells #[.int .i64 page, .int .i64 (k : Int), .string y, .int .u64 bits] 74)) hR)
  have SPL := Lib.hid (fun (x : Sp) => stable_star (stable_pl pb b first x.L x.s) SB.out)
  obtain ⟨p0, p1⟩ := hp
  have HRI := Lib.hid hr
  have HB := Lib.hid hb
  have HRES := Lib.hid hres
  have CELL : RowKit.Hid (∀ (x : Sp) (w : World), Own w0 w (Star (plA pb b first x.L x.s) (Star (blkA xb (.cells #[.int .i64 page, .int .i64 (k : Int), .string y, .int .u64 bits] 74)) R)) → w.heap[xb]? = some (.cells #[.int .i64 page, .int .i64 (k : Int), .string y, .int .u64 bits] 74)) := Lib.hid (fun x w h => h.swap2.blk)
  have H := Lib.hid A2
  have w1 : IntKind.i64.wrap (page + (k : Int)) = page + (k : Int) := wrapI _ (by omega) (by omega)
  clear h hR hr hb hres A1 A2
  go_enter Tryz.func29, Tryz.ntmps29
  go_upto_region 1 with fail
  try rw [hxb]
  clear hxb
  generalize (World.alloc w _) = wa at *
  have c0 := blk_cell (CELL.out _ _ H.out) 0 (v := .int .i64 page) rfl
  have c2 := blk_cell (CELL.out _ _ H.out) 2 (v := .string y) rfl
  go_wp2_with fail
  clear c0 c2
  go_loopg [7, 8] (k + 1) (fun t v7 v8 wr => ∃ (j : Nat) (P : Int) (rest : ByteArray) (x : Sp), t = j + 1 ∧ (j : Int) = page + k - P ∧ page ≤ P ∧ rest.size ≤ 4096 ∧ v7 = .string rest ∧ v8 = .int .i64 P ∧ layX first r bits j P rest x = (z', e) ∧ Own w0 wr (Star (plA pb b first x.L x.s) (Star (blkA xb (.cells #[.int .i64 page, .int .i64 (k : Int), .string y, .int .u64 bits] 74)) R)))
  case atStart => exact ⟨k, page, y, z, rfl, by omega, by omega, hy, rfl, rfl, HRES.out, H.out⟩
  case round =>
    clear H HRES
    obtain ⟨j, P, rest, x, rfl, hj, hP, hrs, rfl, rfl, hx, ho⟩ := hrel
    have H := Lib.hid ho
    clear ho
    have c0 := blk_cell (CELL.out _ _ H.out) 0 (v := .int .i64 page) rfl
    have c1 := blk_cell (CELL.out _ _ H.out) 1 (v := .int .i64 (k : Int)) rfl
    have c3 := blk_cell (CELL.out _ _ H.out) 3 (v := .int .u64 bits) rfl
    cases j with
    | zero =>
      have d1 : ¬ P < page + (k : Int) := by omega
      have hx2 := hx
      unfold layX at hx2
      obtain ⟨rfl, rfl⟩ := Prod.mk.inj hx2
      clear hx hx2
      go_wp2_with fail
      go_ret
      exact ⟨rfl, H.out.drop2⟩
    | succ j =>
      have d1 : P < page + (k : Int) := by omega
      have w2 : IntKind.i64.wrap (P + 1) = P + 1 := wrapI _ (by omega) (by omega)
      have w3 : IntKind.u64.wrap P = P := wrapU _ (by omega) (by omega)
      have w4 : IntKind.u64.wrap (P * 256) = P * 256 := wrapU _ (by omega) (by omega)
      rw [layX] at hx
      obtain ⟨E1, hE1⟩ : ∃ E1, mapE first x r P bits = E1 := ⟨_, rfl⟩
      obtain ⟨x1, hx1⟩ : ∃ x1, mapX first x r P bits = x1 := ⟨_, rfl⟩
      have MP := Lib.hid (o_map H.out SB.out r P bits HRI.out ⟨by omega, by omega⟩ HB.out E1 x1 hE1 hx1)
      by_cases he1 : E1 = 0
      rotate_left
      · have b1 : (E1 == 0) = false := by simpa using he1
        have b2 : (E1 != 0) = true := by simpa using he1
        rw [hE1, decide_eq_false he1, cond_false, hx1] at hx
        obtain ⟨rfl, rfl⟩ := Prod.mk.inj hx
        clear hE1 hx1 hx H hj
        go_wp2_with (go_at_call 57; refine MP.out.mono ?_; rintro e w2 ⟨rfl, h2⟩; have H2 := Lib.hid h2; clear h2)
        go_ret
        exact ⟨rfl, H2.out.drop2⟩
      subst he1
      rw [hE1, decide_eq_true rfl, cond_true] at hx
      unfold layZ layAt at hx
      rw [hx1] at hx
      obtain ⟨E2, hE2⟩ : ∃ E2, walkR x1.L.length x1.s r (P * 256) 1 = E2 := ⟨_, rfl⟩
      obtain ⟨V2, hV2⟩ : ∃ V2, walkV x1.L.length x1.s r (P * 256) 1 = V2 := ⟨_, rfl⟩
      have hVu := walkV_u12 x1.L.length x1.s r (P * 256) 1 (by omega)
      rw [hV2] at hVu
      rw [hE2, hV2] at hx
      have WK : RowKit.Hid (∀ w, Own w0 w (Star (plA pb b first x1.L x1.s) (Star (blkA xb (.cells #[.int .i64 page, .int .i64 (k : Int), .string y, .int .u64 bits] 74)) R)) → _) := Lib.hid (fun w h => o_pwalk h SB.out r (P * 256) 1 V2 E2 ⟨by omega, by omega⟩ HRI.out hV2 hE2)
      by_cases he2 : E2 = 0
      rotate_left
      · have b1 : (E2 == 0) = false := by simpa using he2
        have b2 : (E2 != 0) = true := by simpa using he2
        rw [decide_eq_false he2, cond_false] at hx
        obtain ⟨rfl, rfl⟩ := Prod.mk.inj hx
        clear hE1 hx1 hx H hj hE2 hV2 hVu
        go_wp2_with (first
          | (go_at_call 57; refine MP.out.mono ?_; rintro e w2 ⟨rfl, h2⟩; have H2 := Lib.hid h2; clear h2)
          | (go_at_call 41; refine (o_pmem H2.out).mono ?_; rintro e wm ⟨rfl, rfl⟩)
          | (go_at_call 58; refine (WK.out _ H2.out).mono ?_; rintro e w3 ⟨rfl, h3⟩; have H3 := Lib.hid h3; clear h3))
        go_ret
        exact ⟨rfl, H3.out.drop2⟩
      subst he2
      rw [decide_eq_true rfl, cond_true] at hx
      obtain ⟨m, hm⟩ : ∃ m, min rest.size 256 = m := ⟨_, rfl⟩
      have hmi : min (rest.size : Int) 256 = (m : Int) := by omega
      have hle : m ≤ rest.size := by omega
      have z0 : 0 ≤ (m : Int) := by omega
      have z1 : (m : Int) ≤ (rest.size : Int) := by omega
      have z2 : (m : Int).toNat = m := by omega
      rw [hm] at hx
      obtain ⟨E3, hE3⟩ : ∃ E3, putR x1.s V2 (rest.extract 0 m) = E3 := ⟨_, rfl⟩
      obtain ⟨s3, hs3⟩ : ∃ s3, putS x1.s V2 (rest.extract 0 m) = s3 := ⟨_, rfl⟩
      rw [hE3, hs3] at hx
      have PT : RowKit.Hid (∀ w, Own w0 w (Star (plA pb b first x1.L x1.s) (Star (blkA xb (.cells #[.int .i64 page, .int .i64 (k : Int), .string y, .int .u64 bits] 74)) R)) → _) := Lib.hid (fun w h => o_pput h SB.out V2 (rest.extract 0 m) E3 hVu (by rw [ByteArray.size_extract]; unfold maxLen; omega) s3 hs3 hE3)
      have HT : (rest.extract m rest.size).size ≤ 4096 := by rw [ByteArray.size_extract]; omega
      obtain ⟨T, hT⟩ : ∃ T, rest.extract m rest.size = T := ⟨_, rfl⟩
      rw [hT] at hx HT
      by_cases he3 : E3 = 0
      rotate_left
      · have b1 : (E3 == 0) = false := by simpa using he3
        have b2 : (E3 != 0) = true := by simpa using he3
        rw [decide_eq_false he3, cond_false] at hx
        obtain ⟨rfl, rfl⟩ := Prod.mk.inj hx
        clear hE1 hx1 hx H hj hE2 hV2 hVu hE3 hs3 hm HT
        go_upto_region 12 with (first
          | (go_at_call 57; refine MP.out.mono ?_; rintro e w2 ⟨rfl, h2⟩; have H2 := Lib.hid h2; clear h2)
          | (go_at_call 41; refine (o_pmem H2.out).mono ?_; rintro e wm ⟨rfl, rfl⟩)
          | (go_at_call 58; refine (WK.out _ H2.out).mono ?_; rintro e w3 ⟨rfl, h3⟩; have H3 := Lib.hid h3; clear h3))
        first | (go_region_with (first
          | (go_at_call 41; refine (o_pmem (by first | exact H3.out.drew (SPL.out _) | exact (H3.out.drew (SPL.out _)).drew (SPL.out _) | exact H3.out)).mono ?_; rintro e wm ⟨rfl, rfl⟩)
          | (go_at_call 46; refine (PT.out _ (by first | exact H3.out.drew (SPL.out _) | exact (H3.out.drew (SPL.out _)).drew (SPL.out _) | exact H3.out)).mono ?_; rintro e w5 ⟨rfl, h5⟩; have H5 := Lib.hid h5; clear h5))) | fail
        go_wp2_with fail
        go_ret
        exact ⟨rfl, H5.out.drop2⟩
      subst he3
      rw [decide_eq_true rfl, cond_true] at hx
      have HX := Lib.hid hx
      clear hE1 hx1 hx H hE2 hV2 hVu hE3 hs3 hm
      go_upto_region 12 with (first
        | (go_at_call 57; refine MP.out.mono ?_; rintro e w2 ⟨rfl, h2⟩; have H2 := Lib.hid h2; clear h2)
        | (go_at_call 41; refine (o_pmem H2.out).mono ?_; rintro e wm ⟨rfl, rfl⟩)
        | (go_at_call 58; refine (WK.out _ H2.out).mono ?_; rintro e w3 ⟨rfl, h3⟩; have H3 := Lib.hid h3; clear h3))
      first | (go_region_with (first
        | (go_at_call 41; refine (o_pmem (by first | exact H3.out.drew (SPL.out _) | exact (H3.out.drew (SPL.out _)).drew (SPL.out _) | exact H3.out)).mono ?_; rintro e wm ⟨rfl, rfl⟩)
        | (go_at_call 46; refine (PT.out _ (by first | exact H3.out.drew (SPL.out _) | exact (H3.out.drew (SPL.out _)).drew (SPL.out _) | exact H3.out)).mono ?_; rintro e w5 ⟨rfl, h5⟩; have H5 := Lib.hid h5; clear h5))) | fail
      go_wp2_with fail
      go_roundg (j + 1)
      case measure => omega
      case rel => exact ⟨j, P + 1, T, ⟨x1.L, s3⟩, rfl, by omega, by omega, HT, by rw [← hT], by go_num, HX.out, H5.out⟩
end Go.Proofs.YtdlglnoffpnonaaGreat.P
