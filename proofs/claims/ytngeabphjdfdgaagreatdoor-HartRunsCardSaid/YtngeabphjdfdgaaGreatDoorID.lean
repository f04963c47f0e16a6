/- Stage 5: the memory that the statements make, and the document's beside it. No condition. -/
import Derived.Test.YtngeabphjdfdgaaGreatDoorIA
import Derived.Test.YtngeabphjdfdgaaGreatDoorON
import Derived.Deep.LoopGhost
import Derived.StillTailTactics
set_option linter.unusedVariables false
set_option linter.unusedSimpArgs false
set_option maxRecDepth 100000
namespace Go.Proofs.YtngeabphjdfdgaaGreatDoor.P
open Go.RowKit Go.MuLone Go.Proofs.YtngeabphjdfdgaaGreatDoor.W
theorem Own.under {w0 w w' : World} {A R : Asn} (h : Own w0 w R) (hR : Stable R) (k : Own w w' A) : Own w0 w' (Star A R) := by
  obtain ⟨F, h1, h2, h3⟩ := k
  exact h.add hR h3 ⟨F, h1, h2⟩
/-- What the statements are asked of: addresses, words, code, a hart. -/
def wC (a v c : Value) (H : HS) : Array Value := ⟨[a, v, c] ++ (hC H).toList⟩
theorem wC_size (a v c : Value) (H : HS) : (wC a v c H).size = 38 := rfl
def paF (k : Nat) : Int := [0, 256, 512, 520, 528].getD k 0
def pvF (k : Nat) : Int := [1025, 2049, 3103, 4119, 5139].getD k 0
def preS : Nat → List UInt8
  | 0 => List.replicate (8 * 256) 0
  | k + 1 => storeS (preS k) (paF k) 8 (pvF k)
def codS (f : Nat → Int) : Nat → List UInt8
  | 0 => preS 5
  | k + 1 => storeS (codS f k) (768 + 4 * (k : Int)) 4 (f k)
def wrdS (s : List UInt8) (a v : Nat → Int) : Nat → List UInt8
  | 0 => s
  | k + 1 => storeS (wrdS s a v k) (a k) 8 (v k)
def putC : Array Value := #[.int .u64 0, .int .u64 1025, .int .u64 256, .int .u64 2049, .int .u64 512, .int .u64 3103, .int .u64 520, .int .u64 4119, .int .u64 528, .int .u64 5139]
theorem put_a (k : Nat) (hk : k < 5) : putC[2 * k]? = some (.int .u64 (paF k)) := by
  rcases (by omega : k = 0 ∨ k = 1 ∨ k = 2 ∨ k = 3 ∨ k = 4) with rfl | rfl | rfl | rfl | rfl <;> rfl
theorem put_v (k : Nat) (hk : k < 5) : putC[2 * k + 1]? = some (.int .u64 (pvF k)) := by
  rcases (by omega : k = 0 ∨ k = 1 ∨ k = 2 ∨ k = 3 ∨ k = 4) with rfl | rfl | rfl | rfl | rfl <;> rfl
theorem put_u (k : Nat) (hk : k < 5) : u64 (paF k) ∧ word (pvF k) := by
  rcases (by omega : k = 0 ∨ k = 1 ∨ k = 2 ∨ k = 3 ∨ k = 4) with rfl | rfl | rfl | rfl | rfl <;> exact ⟨⟨by decide, by decide⟩, ⟨by decide, by decide⟩⟩
/-- Both memories with the same bytes, and what else lies there. -/
abbrev twoA (b rb : Nat) (s : List UInt8) (R : Asn) : Asn := Star (memA b 8 s) (Star (rmA rb 8 s) R)
theorem o_both {w0 w : World} {b rb : Nat} {s : List UInt8} {R : Asn} (h : Own w0 w (twoA b rb s R)) (hR : Stable R) (a n v : Int) (ha : u64 a) (hv : word v) :
    Calls Tryz.prog 13 #[.pointer (some ⟨b, 0, none⟩), .int .u64 a, .int .i64 n, .int .u64 v] w fun e w' => e = .returned (.int .i64 (loadR s a n)) ∧ Own w0 w' (Star (memA b 8 (storeS s a n v)) (Star (rmA rb 8 s) R)) :=
  o_mstore h (stable_star (stable_rm rb 8 s) hR) a n v _ ha hv _ rfl rfl
theorem o_both2 {w0 w : World} {b rb : Nat} {s s' : List UInt8} {R : Asn} (h : Own w0 w (Star (memA b 8 s') (Star (rmA rb 8 s) R))) (hR : Stable R) (a n v : Int) (ha : u64 a) (hv : word v) :
    Calls Tryz.prog 14 #[.pointer (some ⟨rb, 0, none⟩), .int .u64 a, .int .i64 n, .int .u64 v] w fun e w' => e = .returned (.int .i64 (loadR s a n)) ∧ Own w0 w' (Star (memA b 8 s') (Star (rmA rb 8 (storeS s a n v)) R)) := by
  refine (o_rstore h.swap2 (stable_star (stable_mem b 8 s') hR) a n v _ ha hv _ rfl rfl).mono ?_
  rintro e w' ⟨rfl, h1⟩
  exact ⟨rfl, h1.swap2⟩
set_option maxHeartbeats 6400000 in
theorem c_made5 (w : World) (oa ov oc : Option Addr) (na ca nv cv nc cc ba fa bv fv bc fc : Nat) (A V C : Nat → Int) (H : HS)
    (hla : na ≤ 9223372036854775807) (hlv : nv ≤ 9223372036854775807) (hlc : nc ≤ 9223372036854775807)
    (ha : 0 < na → oa = some ⟨ba, fa, none⟩ ∧ ba < w.heap.size) (hA : ∀ i, i < na → u64 (A i) ∧ w.cell? ⟨ba, fa + i, none⟩ = some (.int .u64 (A i)))
    (hv : 0 < nv → ov = some ⟨bv, fv, none⟩ ∧ bv < w.heap.size) (hV : ∀ i, i < nv → u64 (V i) ∧ w.cell? ⟨bv, fv + i, none⟩ = some (.int .u64 (V i)))
    (hc : 0 < nc → oc = some ⟨bc, fc, none⟩ ∧ bc < w.heap.size) (hC' : ∀ i, i < nc → u32 (C i) ∧ w.cell? ⟨bc, fc + i, none⟩ = some (.int .u32 (C i))) :
    Calls Tryz.prog 6 #[.agg (wC (.slice oa na ca) (.slice ov nv cv) (.slice oc nc cc) H)] w fun e w' => ∃ b rb, e = .returned (.tuple #[.pointer (some ⟨b, 0, none⟩), .pointer (some ⟨rb, 0, none⟩)]) ∧ Own w w' (twoA b rb (wrdS (codS C (min nc 64)) A V (min na nv)) emp) := by
  obtain ⟨FS, hFS⟩ : ∃ FS, wrdS (codS C (min nc 64)) A V (min na nv) = FS := ⟨_, rfl⟩
  rw [hFS]
  have HFS := Lib.hid hFS
  clear hFS
  have HA := Lib.hid (And.intro ha hA)
  have HV := Lib.hid (And.intro hv hV)
  have HC := Lib.hid (And.intro hc hC')
  clear ha hA hv hV hc hC'
  have K0 := Lib.hid ((Own.start (Gr.refl w)).alloc stable_emp (.cells (wC (.slice oa na ca) (.slice ov nv cv) (.slice oc nc cc) H) 29))
  have SB := Lib.hid (stable_star (stable_blk w.heap.size (.cells (wC (.slice oa na ca) (.slice ov nv cv) (.slice oc nc cc) H) 29)) stable_emp)
  go_enter Tryz.func6, Tryz.ntmps6
  go_upto_region 1 with fail
  generalize (World.alloc w _) = w1 at *
  generalize hwb : w.heap.size = wb at *
  have HWB := Lib.hid hwb
  clear hwb
  go_upto_region 3 with (first
    | (go_at_call 11; refine (o_mnew K0.out SB.out 8 (by decide) (by decide)).mono ?_; rintro e w2 ⟨b, rfl, h2⟩; have K1 := Lib.hid h2; clear h2)
    | (go_at_call 12; refine (o_rnew K1.out (stable_star (stable_mem b 8 _) SB.out) 8 (by decide)).mono ?_; rintro e w3 ⟨rb, rfl, h3⟩; have K2 := Lib.hid h3.swap2; clear h3))
  have K3 : RowKit.Hid (Own w (w3.alloc (.cells #[.int .u64 0, .int .u64 1025, .int .u64 256, .int .u64 2049, .int .u64 512, .int .u64 3103, .int .u64 520, .int .u64 4119, .int .u64 528, .int .u64 5139] 24)) (twoA b rb (preS 0) (Star (blkA w3.heap.size (.cells putC 24)) (Star (blkA wb (.cells (wC (.slice oa na ca) (.slice ov nv cv) (.slice oc nc cc) H) 29)) emp)))) := Lib.hid ((K2.out.alloc (stable_star (stable_mem b 8 _) (stable_star (stable_rm rb 8 _) SB.out)) (.cells #[.int .u64 0, .int .u64 1025, .int .u64 256, .int .u64 2049, .int .u64 512, .int .u64 3103, .int .u64 520, .int .u64 4119, .int .u64 528, .int .u64 5139] 24)).mono (fun F h => star_mono_r (fun F h => star_swap2 h) (star_swap2 h)))
  clear K0 K1 K2
  go_upto_region 4 with fail
  generalize (World.alloc w3 _) = w4 at *
  generalize w3.heap.size = pb at *
  have SR := Lib.hid (stable_star (stable_blk pb (.cells putC 24)) SB.out)
  go_wp2_with fail
  go_loopg [8] 6 (fun t v8 wr => ∃ k : Nat, k ≤ 5 ∧ t = 6 - k ∧ v8 = .int .i64 (2 * (k : Int)) ∧ Own w wr (twoA b rb (preS k) (Star (blkA pb (.cells putC 24)) (Star (blkA wb (.cells (wC (.slice oa na ca) (.slice ov nv cv) (.slice oc nc cc) H) 29)) emp))))
  case atStart => exact ⟨0, by decide, rfl, rfl, K3.out⟩
  case round =>
    clear K3
    obtain ⟨k, hk, rfl, rfl, ho⟩ := hrel
    have HO := Lib.hid ho
    clear ho
    have e1 : IntKind.i64.wrap (2 * (k : Int) + 1) = 2 * (k : Int) + 1 := by rw [IntKind.wrap_i64]; omega
    by_cases h5 : k < 5
    · have l5 : 2 * (k : Int) + 1 < 10 := by omega
      have l6 : 2 * (k : Int) < 10 := by omega
      have p0 : 0 ≤ 2 * (k : Int) := by omega
      have p1 : 0 ≤ 2 * (k : Int) + 1 := by omega
      have t1 : (2 * (k : Int)).toNat = 2 * k := by omega
      have t2 : (2 * (k : Int) + 1).toNat = 2 * k + 1 := by omega
      have c1 := blk_cell HO.out.right.right.blk (2 * k) (put_a k h5)
      have c2 := blk_cell HO.out.right.right.blk (2 * k + 1) (put_v k h5)
      have hu := Lib.hid (put_u k h5)
      have ST := Lib.hid (stable_star (stable_mem b 8 (preS k)) (stable_star (stable_rm rb 8 (preS k)) SR.out))
      have ST2 := Lib.hid (stable_star (stable_mem b 8 (storeS (preS k) (paF k) 8 (pvF k))) (stable_star (stable_rm rb 8 (preS k)) SR.out))
      go_wp2_with fail
      go_still_tail 10, (by kernel_rfl)
      go_wp2_with (go_at_call 13; refine (o_both (HO.out.drew ST.out) SR.out _ 8 _ hu.out.1 hu.out.2).mono ?_; rintro e w5 ⟨rfl, h6⟩; have H6 := Lib.hid h6; clear c1 c2; have c1 := blk_cell h6.right.right.blk (2 * k) (put_a k h5); have c2 := blk_cell h6.right.right.blk (2 * k + 1) (put_v k h5); clear h6)
      go_still_tail 10, (by kernel_rfl)
      go_wp2_with (go_at_call 14; refine (o_both2 (H6.out.drew ST2.out) SR.out _ 8 _ hu.out.1 hu.out.2).mono ?_; rintro e w7 ⟨rfl, h8⟩; have H8 := Lib.hid h8; clear h8)
      go_roundg (6 - (k + 1))
      case measure => omega
      case rel => exact ⟨k + 1, by omega, by omega, by go_num, H8.out⟩
    · obtain rfl : k = 5 := by omega
      have KA := Lib.hid (show Own w wr (twoA b rb (codS C 0) _) from HO.out)
      clear HO e1
      go_wp2_with fail
      go_loopg [9] 65 (fun t v9 wr => ∃ k : Nat, k ≤ nc ∧ k ≤ 64 ∧ t = 65 - k ∧ v9 = .int .i64 (k : Int) ∧ Own w wr (twoA b rb (codS C k) (Star (blkA pb (.cells putC 24)) (Star (blkA wb (.cells (wC (.slice oa na ca) (.slice ov nv cv) (.slice oc nc cc) H) 29)) emp))))
      case atStart => exact ⟨0, Nat.zero_le _, by decide, rfl, rfl, KA.out⟩
      case round =>
        clear KA
        obtain ⟨k, hk, hk64, rfl, rfl, ho⟩ := hrel
        have HO := Lib.hid ho
        have w2 := blk_cell ho.right.right.right.blk 2 (v := .slice oc nc cc) rfl
        clear ho
        by_cases h6 : k < nc ∧ k < 64
        · obtain ⟨h6, h64⟩ := h6
          obtain ⟨rfl, hbl⟩ := HC.out.1 (by omega)
          obtain ⟨hu, hcell⟩ := HC.out.2 k h6
          have HU := Lib.hid hu
          have g1 : (k : Int) < nc := by omega
          have g2 : (k : Int) < 64 := by omega
          have e1 : IntKind.i64.wrap (4 * (k : Int)) = 4 * (k : Int) := by rw [IntKind.wrap_i64]; omega
          have e2 : IntKind.i64.wrap (768 + 4 * (k : Int)) = 768 + 4 * (k : Int) := by rw [IntKind.wrap_i64]; omega
          have e3 : IntKind.u64.wrap (768 + 4 * (k : Int)) = 768 + 4 * (k : Int) := by rw [IntKind.wrap_u64]; omega
          have e4 : IntKind.u64.wrap (C k) = C k := by rw [IntKind.wrap_u64]; obtain ⟨q0, q1⟩ := HU.out; omega
          have hu1 : Go.Proofs.YtngeabphjdfdgaaGreatDoor.P.u64 (768 + 4 * (k : Int)) := ⟨by omega, by omega⟩
          have hu2 : word (C k) := ⟨HU.out.1, by have := HU.out.2; omega⟩
          have c1 := HO.out.cell hcell
          have HCL := Lib.hid hcell
          clear hu hcell
          go_wp2_with (first
            | (go_at_call 13; refine (o_both HO.out SR.out _ 4 _ hu1 hu2).mono ?_; rintro e w5 ⟨rfl, h6⟩; have H6 := Lib.hid h6; clear c1 w2; have c1 := h6.cell HCL.out; have w2 := blk_cell h6.right.right.right.blk 2 (v := .slice (some ⟨bc, fc, none⟩) nc cc) rfl; clear h6)
            | (go_at_call 14; refine (o_both2 H6.out SR.out _ 4 _ hu1 hu2).mono ?_; rintro e w7 ⟨rfl, h8⟩; have H8 := Lib.hid h8; clear h8))
          go_roundg (65 - (k + 1))
          case measure => omega
          case rel => exact ⟨k + 1, by omega, by omega, by omega, by go_num, H8.out⟩
        · have hm : min nc 64 = k := by omega
          obtain ⟨SC, hSC⟩ : ∃ SC, codS C k = SC := ⟨_, rfl⟩
          have HSC : RowKit.Hid (wrdS SC A V (min na nv) = FS) := Lib.hid (by rw [← HFS.out, hm, hSC])
          have KB : RowKit.Hid (Own w wr (twoA b rb (wrdS SC A V 0) (Star (blkA pb (.cells putC 24)) (Star (blkA wb (.cells (wC (.slice oa na ca) (.slice ov nv cv) (.slice oc nc cc) H) 29)) emp)))) := Lib.hid (by have := HO.out; rw [hSC] at this; exact this)
          clear HO hSC hm
          have h7 : (¬ (k : Int) < nc) ∨ ((k : Int) < nc ∧ ¬ (k : Int) < 64) := by omega
          clear h6
          rcases h7 with g1 | ⟨g1, g2⟩
          all_goals
            go_wp2_with fail
            go_loopg [10] (na + 1) (fun t v10 wr => ∃ k : Nat, k ≤ na ∧ k ≤ nv ∧ t = na + 1 - k ∧ v10 = .int .i64 (k : Int) ∧ Own w wr (twoA b rb (wrdS SC A V k) (Star (blkA pb (.cells putC 24)) (Star (blkA wb (.cells (wC (.slice oa na ca) (.slice ov nv cv) (.slice oc nc cc) H) 29)) emp))))
            case atStart => exact ⟨0, Nat.zero_le _, Nat.zero_le _, rfl, rfl, KB.out⟩
            case round =>
              clear KB g1 w2
              try clear g2
              obtain ⟨k, hk, hkv, rfl, rfl, ho⟩ := hrel
              have HO := Lib.hid ho
              have w0 := blk_cell ho.right.right.right.blk 0 (v := .slice oa na ca) rfl
              have w1 := blk_cell ho.right.right.right.blk 1 (v := .slice ov nv cv) rfl
              clear ho
              by_cases h6 : k < na ∧ k < nv
              · obtain ⟨h6, h64⟩ := h6
                obtain ⟨rfl, hbl⟩ := HA.out.1 (by omega)
                obtain ⟨rfl, hbl2⟩ := HV.out.1 (by omega)
                obtain ⟨hu, hcell⟩ := HA.out.2 k h6
                obtain ⟨hu2, hcell2⟩ := HV.out.2 k h64
                have g1 : (k : Int) < na := by omega
                have g2 : (k : Int) < nv := by omega
                have HU := Lib.hid hu
                have HU2 : RowKit.Hid (word (V k)) := Lib.hid ⟨hu2.1, by have := hu2.2; omega⟩
                have c1 := HO.out.cell hcell
                have c2 := HO.out.cell hcell2
                have HCL := Lib.hid hcell
                have HCL2 := Lib.hid hcell2
                have ST := Lib.hid (stable_star (stable_mem b 8 (wrdS SC A V k)) (stable_star (stable_rm rb 8 (wrdS SC A V k)) SR.out))
                have ST2 := Lib.hid (stable_star (stable_mem b 8 (storeS (wrdS SC A V k) (A k) 8 (V k))) (stable_star (stable_rm rb 8 (wrdS SC A V k)) SR.out))
                clear hu hu2 hcell hcell2
                go_wp2_with fail
                go_still_tail 11, (by kernel_rfl)
                go_wp2_with (go_at_call 13; refine (o_both (HO.out.drew ST.out) SR.out _ 8 _ HU.out HU2.out).mono ?_; rintro e w5 ⟨rfl, h6⟩; have H6 := Lib.hid h6; clear c1 c2 w0 w1; have c1 := h6.cell HCL.out; have c2 := h6.cell HCL2.out; have w0 := blk_cell h6.right.right.right.blk 0 (v := .slice (some ⟨ba, fa, none⟩) na ca) rfl; have w1 := blk_cell h6.right.right.right.blk 1 (v := .slice (some ⟨bv, fv, none⟩) nv cv) rfl; clear h6)
                go_still_tail 11, (by kernel_rfl)
                go_wp2_with (go_at_call 14; refine (o_both2 (H6.out.drew ST2.out) SR.out _ 8 _ HU.out HU2.out).mono ?_; rintro e w7 ⟨rfl, h8⟩; have H8 := Lib.hid h8; clear h8)
                go_roundg (na + 1 - (k + 1))
                case measure => omega
                case rel => exact ⟨k + 1, by omega, by omega, by omega, by go_num, H8.out⟩
              · have hm : min na nv = k := by omega
                have KE : RowKit.Hid (Own w wr (twoA b rb FS emp)) := Lib.hid (by have := HO.out; rw [← HSC.out, hm]; exact (this.mono (fun F h => star_mono_r (fun F h => star_mono_r (fun F h => trivial) h) h)))
                have h7 : (¬ (k : Int) < na) ∨ ((k : Int) < na ∧ ¬ (k : Int) < nv) := by omega
                clear h6 HO hm
                rcases h7 with g1 | ⟨g1, g2⟩
                all_goals
                  go_wp2_with fail
                  go_ret2
                  exact ⟨b, rb, rfl, KE.out⟩
end Go.Proofs.YtngeabphjdfdgaaGreatDoor.P
namespace Go.Proofs.YtngeabphjdfdgaaGreatDoor.P
open Go.RowKit Go.MuLone Go.Proofs.YtngeabphjdfdgaaGreatDoor.W
def exC (k : Nat) : Int := [5243027, 41219, 115].getD k 0
def exS : List UInt8 := codS exC 3
def exR1 : RS := stepF 8 exS 0 HZ
def exR2 : RS := stepF 8 exS 0 exR1.H
def exR3 : RS := stepF 8 exS 0 { exR1.H with pc := 8 }
theorem ex_1 : exR1.e.k = 0 ∧ exR1.e.ad = 0 ∧ exR1.e.wr = false ∧ exR1.H.X 1 = 5 ∧ exR1.s = exS := by decide +kernel
theorem ex_2 : exR2.e.k = 5 ∧ exR2.e.ad = 5 ∧ exR2.e.wr = false ∧ exR2.H.pc = 4 ∧ exR2.s = exS := by decide +kernel
theorem ex_3 : exR3.e.k = 1 ∧ exR3.e.ad = 0 ∧ exR3.e.wr = false ∧ exR3.H.pc = 8 ∧ exR3.s = exS := by decide +kernel
theorem ex_ok : (∀ i, i < 32 → 0 ≤ exR1.H.X i ∧ exR1.H.X i ≤ 18446744073709551615) ∧ (0 ≤ exR1.H.pc ∧ exR1.H.pc ≤ 18446744073709551615) ∧ (0 ≤ exR1.H.at_ ∧ exR1.H.at_ ≤ 18446744073709551615) := by decide +kernel
end Go.Proofs.YtngeabphjdfdgaaGreatDoor.P
