/- Stage 11: each: a space gone through by a recursive closure. No condition. -/
import Derived.Test.YtdlglnoffpnonaaEA
import Derived.Test.YtdlglnoffpnonaaE3
import Derived.Deep.LoopGhost
set_option linter.unusedVariables false
set_option linter.unusedSimpArgs false
set_option maxRecDepth 100000
namespace Go.Proofs.Ytdlglnoffpnonaa.P
open Go.RowKit Go.MuLone Go.Maps
abbrev visV (xp xg xv xt : Nat) : Value := .func (.func 53) #[] #[.pointer (some ⟨xp, 0, none⟩), .pointer (some ⟨xg, 0, none⟩), .pointer (some ⟨xv, 0, none⟩), .pointer (some ⟨xt, 0, none⟩)]
abbrev eachA (xp xg xv xt pb : Nat) (pv tv : Value) (R : Asn) : Asn :=
  Star (blkA xp (.cells #[.pointer (some ⟨pb, 0, none⟩)] 41)) (Star (blkA xg (.cells #[pv] 93)) (Star (blkA xv (.cells #[visV xp xg xv xt] 116)) (Star (blkA xt (.cells #[tv] 94)) R)))
theorem stable_each (xp xg xv xt pb : Nat) (pv tv : Value) {R : Asn} (hR : Stable R) : Stable (eachA xp xg xv xt pb pv tv R) := stable_star (stable_blk _ _) (stable_star (stable_blk _ _) (stable_star (stable_blk _ _) (stable_star (stable_blk _ _) hR)))
/-- What the two closures do. -/
structure Cbs {X : Type} (rd : X → Sp) (B : X → Asn) (Ok : Nat → X → Prop) (pb b fi : Nat) (pg : Int → Int → Int → X → X) (tb : Int → X → X) (gp gt : FuncId) (cp ct : Array Value) (w0 : World) : Prop where
  stB : ∀ x, Stable (B x)
  mono : ∀ k k' x, Ok k x → k ≤ k' → Ok k' x
  okp : ∀ k x n f g, Ok k x → k < 40000 → Ok (k + 1) (pg n f g x)
  okt : ∀ k x f, Ok k x → k < 40000 → Ok (k + 1) (tb f x)
  callp : ∀ (n f g : Int) (w : World), (callFunc gp (#[.int .i64 n, .int .i64 f, .int .u64 g] ++ cp)).run Try.prog w = .ok (.enter gp (#[.int .i64 n, .int .i64 f, .int .u64 g] ++ cp)) w
  callt : ∀ (f : Int) (w : World), (callFunc gt (#[.int .i64 f] ++ ct)).run Try.prog w = .ok (.enter gt (#[.int .i64 f] ++ ct)) w
  page : ∀ k x n f g w R, Stable R → Ok k x → k < 40000 → (0 ≤ n ∧ n < 32768) → (0 ≤ f ∧ f < 256) → (0 ≤ g ∧ g < 32) → Own w0 w (Star (plA pb b fi (rd x).L (rd x).s) (Star (B x) R)) →
    Calls Try.prog gp (#[.int .i64 n, .int .i64 f, .int .u64 g] ++ cp) w fun e w' => e = .returned (.tuple #[]) ∧ Own w0 w' (Star (plA pb b fi (rd (pg n f g x)).L (rd (pg n f g x)).s) (Star (B (pg n f g x)) R))
  table : ∀ k x f w R, Stable R → Ok k x → k < 40000 → (0 ≤ f ∧ f < 256) → Own w0 w (Star (plA pb b fi (rd x).L (rd x).s) (Star (B x) R)) →
    Calls Try.prog gt (#[.int .i64 f] ++ ct) w fun e w' => e = .returned (.tuple #[]) ∧ Own w0 w' (Star (plA pb b fi (rd (tb f x)).L (rd (tb f x)).s) (Star (B (tb f x)) R))
/-- What a round calls, at a level. -/
def lvX {X : Type} (rd : X → Sp) (fi : Nat) (pg : Int → Int → Int → X → X) (tb : Int → X → X) : Nat → Int → Int → Int → X → X
  | 0 => pg
  | l + 1 => fun n nx _ x => visX rd fi pg tb l nx n x
theorem visX_lv {X : Type} (rd : X → Sp) (fi : Nat) (pg : Int → Int → Int → X → X) (tb : Int → X → X) (l : Nat) (fr fst : Int) (x : X) : visX rd fi pg tb l fr fst x = tb fr (lpX rd fi fr fst (lvX rd fi pg tb l) 32 x) := by
  cases l <;> rfl
def dD : Nat → Nat
  | 0 => 1
  | l + 1 => 32 * dD l + 1
set_option maxHeartbeats 1600000 in
theorem o_visit0 {X : Type} {rd : X → Sp} {B : X → Asn} {Ok : Nat → X → Prop} {pb b fi : Nat} {pg : Int → Int → Int → X → X} {tb : Int → X → X} {gp gt : FuncId} {cp ct : Array Value} {w0 : World} (C : Cbs rd B Ok pb b fi pg tb gp gt cp ct w0)
    (xp xg xv xt : Nat) (k : Nat) (x : X) (fr fst : Int) (w : World) (R : Asn) (hR : Stable R) (hk : Ok k x) (hk2 : k + 33 ≤ 40000) (hf : 0 ≤ fr ∧ fr < 256) (hs : 0 ≤ fst ∧ fst < 1024)
    (h : Own w0 w (Star (plA pb b fi (rd x).L (rd x).s) (Star (B x) (eachA xp xg xv xt pb (.func (.func gp) #[] cp) (.func (.func gt) #[] ct) R)))) :
    Calls Try.prog 53 #[.int .i64 fr, .int .i64 0, .int .i64 fst, .pointer (some ⟨xp, 0, none⟩), .pointer (some ⟨xg, 0, none⟩), .pointer (some ⟨xv, 0, none⟩), .pointer (some ⟨xt, 0, none⟩)] w fun e w' =>
      e = .returned (.tuple #[]) ∧ Own w0 w' (Star (plA pb b fi (rd (visX rd fi pg tb 0 fr fst x)).L (rd (visX rd fi pg tb 0 fr fst x)).s) (Star (B (visX rd fi pg tb 0 fr fst x)) (eachA xp xg xv xt pb (.func (.func gp) #[] cp) (.func (.func gt) #[] ct) R))) ∧ Ok (k + 33) (visX rd fi pg tb 0 fr fst x) := by
  have SE := stable_each xp xg xv xt pb (.func (.func gp) #[] cp) (.func (.func gt) #[] ct) hR
  have H := Lib.hid h
  have HK := Lib.hid hk
  have HC := Lib.hid C
  have HSE := Lib.hid SE
  have HR := Lib.hid hR
  rw [visX_lv]
  obtain ⟨f0, f1⟩ := hf
  obtain ⟨s0, s1⟩ := hs
  have CP := C.callp
  have CT := C.callt
  have s2 : fst * 32 + 32 ≤ 32768 := by omega
  have lvz : lvX rd fi pg tb 0 = pg := rfl
  obtain ⟨fL, hfL⟩ : ∃ f, lvX rd fi pg tb 0 = f := ⟨_, rfl⟩
  rw [hfL] at lvz ⊢
  clear h hk C SE hR hfL
  go_enter Try.func53, Try.ntmps53
  go_wp2_with fail
  go_loopg [15] 33 (fun t v15 wr => ∃ (j : Nat) (y : X), j ≤ 32 ∧ t = 33 - j ∧ v15 = .int .i64 (j : Int) ∧ lpX rd fi fr fst fL j x = y ∧ Ok (k + j) y ∧ Own w0 wr (Star (plA pb b fi (rd y).L (rd y).s) (Star (B y) (eachA xp xg xv xt pb (.func (.func gp) #[] cp) (.func (.func gt) #[] ct) R))))
  case atStart => exact ⟨0, x, by decide, rfl, rfl, rfl, by  exact HK.out, H.out⟩
  case round =>
    clear H HK
    obtain ⟨j, y, hj, rfl, rfl, hy, hok, ho⟩ := hrel
    have HOKY := Lib.hid hok
    have HO := Lib.hid ho
    have HY := Lib.hid hy
    have c0 := blk_cell ho.right.right.blk 0 (v := .pointer (some ⟨pb, 0, none⟩)) rfl
    have c3 := blk_cell ho.right.right.right.right.right.blk 0 (v := .func (.func gt) #[] ct) rfl
    clear hok ho hy
    have e5 : IntKind.i64.wrap ((j : Int) + 1) = (j : Int) + 1 := by rw [IntKind.wrap_i64]; omega
    by_cases hj2 : j < 32
    · have k1 : IntKind.i64.wrap (fr * 256) = fr * 256 := wrapI _ (by omega) (by omega)
      have k2 : IntKind.i64.wrap ((j : Int) * 8) = (j : Int) * 8 := wrapI _ (by omega) (by omega)
      have k3 : IntKind.i64.wrap (fr * 256 + (j : Int) * 8) = fr * 256 + (j : Int) * 8 := wrapI _ (by omega) (by omega)
      have k4 : IntKind.u64.wrap (fr * 256 + (j : Int) * 8) = fr * 256 + (j : Int) * 8 := wrapU _ (by omega) (by omega)
      have k5 : IntKind.i64.wrap (fst * 32) = fst * 32 := wrapI _ (by omega) (by omega)
      have k6 : IntKind.i64.wrap (fst * 32 + (j : Int)) = fst * 32 + (j : Int) := wrapI _ (by omega) (by omega)
      have hlt : (j : Int) < 32 := by omega
      have hSY := Lib.hid (stable_star (HC.out.stB y) HSE.out)
      obtain ⟨P, hP⟩ : ∃ P, fr * 256 + (j : Int) * 8 = P := ⟨_, rfl⟩
      have hPu : u64 P := ⟨by omega, by omega⟩
      replace k3 := k3.trans hP
      rw [hP] at k4
      obtain ⟨F, hF⟩ : ∃ F, validF (rd y).s P = F := ⟨_, rfl⟩
      obtain ⟨G, hG⟩ : ∃ G, validG (rd y).s P = G := ⟨_, rfl⟩
      obtain ⟨V, hV⟩ : ∃ V, validB (rd y).s P = V := ⟨_, rfl⟩
      obtain ⟨K, hK⟩ : ∃ K, tknB (rd y).L fi F = K := ⟨_, rfl⟩
      have hb := valid_bd (rd y).s P
      rw [hF, hG] at hb
      have CV := Lib.hid (o_valid HO.out hSY.out P hPu F G V hF hG hV)
      have hst : lpX rd fi fr fst fL (j + 1) x = bif V && K then fL (fst * 32 + j) F G y else y := by
        rw [lpX, HY.out]; unfold rndX; rw [hP, hF, hG, hV, hK]
      have HGB : RowKit.Hid (0 ≤ G ∧ G < 32) := Lib.hid hb.2.2
      have HCK : RowKit.Hid (∀ w2, Own w0 w2 (Star (plA pb b fi (rd y).L (rd y).s) (Star (B y) (eachA xp xg xv xt pb (.func (.func gp) #[] cp) (.func (.func gt) #[] ct) R))) → _) := Lib.hid (fun w2 h2 => o_ptaken (w0 := w0) (w := w2) h2 hSY.out F ⟨by omega, by omega⟩ K hK)
      have HFB : RowKit.Hid (K = true → 0 ≤ F ∧ F < 256) := Lib.hid (fun e => by rw [e] at hK; have := tkn_bd hK; have := (o_plen HO.out).2.2.1; omega)
      have HST := Lib.hid hst
      clear hF hG hV hK hPu hP hb hst
      cases V with
      | false =>
        rw [Bool.false_and, cond_false] at HST
        clear HCK HFB
        go_wp2_with (go_at_call 54; refine CV.out.mono ?_; rintro e w2 ⟨rfl, h2⟩; have H2 := Lib.hid h2; clear h2)
        go_roundg (33 - (j + 1))
        case measure => omega
        case rel => exact ⟨j + 1, y, by omega, by omega, by go_num, HST.out, HC.out.mono _ _ y HOKY.out (by omega), H2.out⟩
      | true =>
        rw [Bool.true_and] at HST
        cases K with
        | false =>
          rw [cond_false] at HST
          clear HFB
          go_wp2_with (first
            | (go_at_call 54; refine CV.out.mono ?_; rintro e w2 ⟨rfl, h2⟩; have H2 := Lib.hid h2; have d0 := blk_cell h2.right.right.blk 0 (v := .pointer (some ⟨pb, 0, none⟩)) rfl; clear h2)
            | (go_at_call 35; refine (HCK.out _ H2.out).mono ?_; rintro e w3 ⟨rfl, h3⟩; have H3 := Lib.hid h3; clear h3))
          go_roundg (33 - (j + 1))
          case measure => omega
          case rel => exact ⟨j + 1, y, by omega, by omega, by go_num, HST.out, HC.out.mono _ _ y HOKY.out (by omega), H3.out⟩
        | true =>
          rw [cond_true] at HST
          have HFX := Lib.hid (HFB.out rfl)
          clear HFB
          go_upto_region 6 with (first
            | (go_at_call 54; refine CV.out.mono ?_; rintro e w2 ⟨rfl, h2⟩; have H2 := Lib.hid h2; have d0 := blk_cell h2.right.right.blk 0 (v := .pointer (some ⟨pb, 0, none⟩)) rfl; clear h2)
            | (go_at_call 35; refine (HCK.out _ H2.out).mono ?_; rintro e w4 ⟨rfl, h3⟩; have H4 := Lib.hid h3; have b1 := blk_cell h3.right.right.right.blk 0 (v := .func (.func gp) #[] cp) rfl; have b2 := blk_cell h3.right.right.right.right.blk 0 (v := visV xp xg xv xt) rfl; clear h3))
          clear HCK CV H2 c0 d0 c3
          have hcall := CP (fst * 32 + j) F G w4
          have CPG := Lib.hid (HC.out.page (k + j) y (fst * 32 + j) F G w4 _ HSE.out HOKY.out (by omega) ⟨by omega, by omega⟩ HFX.out HGB.out H4.out)
          go_wp2_with fail
          refine CPG.out.mono ?_
          rintro e w5 ⟨rfl, h5⟩
          have H5 := Lib.hid h5
          clear h5
          have HOK5 := Lib.hid (HC.out.okp (k + j) y (fst * 32 + j) F G HOKY.out (by omega))
          go_wp2_with fail
          go_roundg (33 - (j + 1))
          case measure => omega
          case rel => exact ⟨j + 1, _, by omega, by omega, by go_num, HST.out, (by rw [lvz, show k + (j + 1) = k + j + 1 by omega]; exact HOK5.out), by rw [lvz]; exact H5.out⟩
    · obtain rfl : j = 32 := by omega
      have hSY := Lib.hid (stable_star (HC.out.stB y) HSE.out)
      have hcall := CT fr wr
      have CTB := Lib.hid (HC.out.table (k + 32) y fr wr _ HSE.out HOKY.out (by omega) ⟨f0, f1⟩ HO.out)
      have HOK9 := Lib.hid (HC.out.okt (k + 32) y fr HOKY.out (by omega))
      go_wp2_with fail
      refine CTB.out.mono ?_
      rintro e w9 ⟨rfl, h9⟩
      have H9 := Lib.hid h9
      clear h9
      go_wp2_with fail
      go_end0
      rw [HY.out]
      exact ⟨rfl, H9.out, HOK9.out⟩
set_option maxHeartbeats 1600000 in
theorem o_visitS {X : Type} {rd : X → Sp} {B : X → Asn} {Ok : Nat → X → Prop} {pb b fi : Nat} {pg : Int → Int → Int → X → X} {tb : Int → X → X} {gp gt : FuncId} {cp ct : Array Value} {w0 : World} (C : Cbs rd B Ok pb b fi pg tb gp gt cp ct w0)
    (xp xg xv xt : Nat) (l : Nat)
    (IH : ∀ (k : Nat) (x : X) (fr fst : Int) (w : World) (R : Asn), Stable R → Ok k x → k + dD (l + 1) ≤ 40000 → (0 ≤ fr ∧ fr < 256) → (0 ≤ fst ∧ fst < 32 ^ (2 - l)) →
      Own w0 w (Star (plA pb b fi (rd x).L (rd x).s) (Star (B x) (eachA xp xg xv xt pb (.func (.func gp) #[] cp) (.func (.func gt) #[] ct) R))) →
      Calls Try.prog 53 #[.int .i64 fr, .int .i64 (l : Int), .int .i64 fst, .pointer (some ⟨xp, 0, none⟩), .pointer (some ⟨xg, 0, none⟩), .pointer (some ⟨xv, 0, none⟩), .pointer (some ⟨xt, 0, none⟩)] w fun e w' =>
        e = .returned (.tuple #[]) ∧ Own w0 w' (Star (plA pb b fi (rd (visX rd fi pg tb l fr fst x)).L (rd (visX rd fi pg tb l fr fst x)).s) (Star (B (visX rd fi pg tb l fr fst x)) (eachA xp xg xv xt pb (.func (.func gp) #[] cp) (.func (.func gt) #[] ct) R))) ∧ Ok (k + dD (l + 1)) (visX rd fi pg tb l fr fst x)) (k : Nat) (x : X) (fr fst : Int) (w : World) (R : Asn) (hR : Stable R) (hk : Ok k x) (hl : l ≤ 1) (hk2 : k + dD (l + 2) ≤ 40000) (hf : 0 ≤ fr ∧ fr < 256) (hs : 0 ≤ fst ∧ fst < 32 ^ (1 - l))
    (h : Own w0 w (Star (plA pb b fi (rd x).L (rd x).s) (Star (B x) (eachA xp xg xv xt pb (.func (.func gp) #[] cp) (.func (.func gt) #[] ct) R)))) :
    Calls Try.prog 53 #[.int .i64 fr, .int .i64 ((l + 1 : Nat) : Int), .int .i64 fst, .pointer (some ⟨xp, 0, none⟩), .pointer (some ⟨xg, 0, none⟩), .pointer (some ⟨xv, 0, none⟩), .pointer (some ⟨xt, 0, none⟩)] w fun e w' =>
      e = .returned (.tuple #[]) ∧ Own w0 w' (Star (plA pb b fi (rd (visX rd fi pg tb (l + 1) fr fst x)).L (rd (visX rd fi pg tb (l + 1) fr fst x)).s) (Star (B (visX rd fi pg tb (l + 1) fr fst x)) (eachA xp xg xv xt pb (.func (.func gp) #[] cp) (.func (.func gt) #[] ct) R))) ∧ Ok (k + dD (l + 2)) (visX rd fi pg tb (l + 1) fr fst x) := by
  have SE := stable_each xp xg xv xt pb (.func (.func gp) #[] cp) (.func (.func gt) #[] ct) hR
  have H := Lib.hid h
  have HK := Lib.hid hk
  have HC := Lib.hid C
  have HSE := Lib.hid SE
  have HR := Lib.hid hR
  rw [visX_lv]
  obtain ⟨f0, f1⟩ := hf
  obtain ⟨s0, s1⟩ := hs
  have CP := C.callp
  have CT := C.callt
  have hp32 : (32 : Int) ^ (1 - l) ≤ 32 := by
    rcases (show l = 0 ∨ l = 1 by omega) with rfl | rfl <;> decide
  have s2 : fst * 32 + 32 ≤ 32768 := by omega
  have hns : RowKit.Hid (∀ j : Int, j < 32 → fst * 32 + j < 32 ^ (2 - l)) := Lib.hid (fun j hj => by
    rcases (show l = 0 ∨ l = 1 by omega) with rfl | rfl
    · have e1 : (32 : Int) ^ (1 - 0) = 32 := by decide
      have e2 : (32 : Int) ^ (2 - 0) = 1024 := by decide
      rw [e1] at s1; rw [e2]; omega
    · have e1 : (32 : Int) ^ (1 - 1) = 1 := by decide
      have e2 : (32 : Int) ^ (2 - 1) = 32 := by decide
      rw [e1] at s1; rw [e2]; omega)
  have HNS := hns
  clear hns
  have hdd : dD (l + 2) = 32 * dD (l + 1) + 1 := rfl
  have lvz : lvX rd fi pg tb (l + 1) = fun n nx _ x => visX rd fi pg tb l nx n x := rfl
  have IH := Lib.hid IH
  have lpos : ((l + 1 : Nat) : Int) ≠ 0 := by omega
  have hlb : (((l + 1 : Nat) : Int) == 0) = false := by simpa using lpos
  have hlm : IntKind.i64.wrap (((l + 1 : Nat) : Int) - 1) = (l : Int) := by rw [IntKind.wrap_i64]; omega
  generalize hL1 : ((l + 1 : Nat) : Int) = L1 at *
  obtain ⟨fL, hfL⟩ : ∃ f, lvX rd fi pg tb (l + 1) = f := ⟨_, rfl⟩
  rw [hfL] at lvz ⊢
  clear h hk C SE hR hfL
  go_enter Try.func53, Try.ntmps53
  go_wp2_with fail
  go_loopg [15] 33 (fun t v15 wr => ∃ (j : Nat) (y : X), j ≤ 32 ∧ t = 33 - j ∧ v15 = .int .i64 (j : Int) ∧ lpX rd fi fr fst fL j x = y ∧ Ok (k + j * dD (l + 1)) y ∧ Own w0 wr (Star (plA pb b fi (rd y).L (rd y).s) (Star (B y) (eachA xp xg xv xt pb (.func (.func gp) #[] cp) (.func (.func gt) #[] ct) R))))
  case atStart => exact ⟨0, x, by decide, rfl, rfl, rfl, by rw [Nat.zero_mul]; exact HK.out, H.out⟩
  case round =>
    clear H HK
    obtain ⟨j, y, hj, rfl, rfl, hy, hok, ho⟩ := hrel
    have HOKY := Lib.hid hok
    have HO := Lib.hid ho
    have HY := Lib.hid hy
    have c0 := blk_cell ho.right.right.blk 0 (v := .pointer (some ⟨pb, 0, none⟩)) rfl
    have c3 := blk_cell ho.right.right.right.right.right.blk 0 (v := .func (.func gt) #[] ct) rfl
    clear hok ho hy
    have e5 : IntKind.i64.wrap ((j : Int) + 1) = (j : Int) + 1 := by rw [IntKind.wrap_i64]; omega
    by_cases hj2 : j < 32
    · have k1 : IntKind.i64.wrap (fr * 256) = fr * 256 := wrapI _ (by omega) (by omega)
      have k2 : IntKind.i64.wrap ((j : Int) * 8) = (j : Int) * 8 := wrapI _ (by omega) (by omega)
      have k3 : IntKind.i64.wrap (fr * 256 + (j : Int) * 8) = fr * 256 + (j : Int) * 8 := wrapI _ (by omega) (by omega)
      have k4 : IntKind.u64.wrap (fr * 256 + (j : Int) * 8) = fr * 256 + (j : Int) * 8 := wrapU _ (by omega) (by omega)
      have k5 : IntKind.i64.wrap (fst * 32) = fst * 32 := wrapI _ (by omega) (by omega)
      have k6 : IntKind.i64.wrap (fst * 32 + (j : Int)) = fst * 32 + (j : Int) := wrapI _ (by omega) (by omega)
      have hlt : (j : Int) < 32 := by omega
      have hSY := Lib.hid (stable_star (HC.out.stB y) HSE.out)
      obtain ⟨P, hP⟩ : ∃ P, fr * 256 + (j : Int) * 8 = P := ⟨_, rfl⟩
      have hPu : u64 P := ⟨by omega, by omega⟩
      replace k3 := k3.trans hP
      rw [hP] at k4
      obtain ⟨F, hF⟩ : ∃ F, validF (rd y).s P = F := ⟨_, rfl⟩
      obtain ⟨G, hG⟩ : ∃ G, validG (rd y).s P = G := ⟨_, rfl⟩
      obtain ⟨V, hV⟩ : ∃ V, validB (rd y).s P = V := ⟨_, rfl⟩
      obtain ⟨K, hK⟩ : ∃ K, tknB (rd y).L fi F = K := ⟨_, rfl⟩
      have hb := valid_bd (rd y).s P
      rw [hF, hG] at hb
      have CV := Lib.hid (o_valid HO.out hSY.out P hPu F G V hF hG hV)
      have hst : lpX rd fi fr fst fL (j + 1) x = bif V && K then fL (fst * 32 + j) F G y else y := by
        rw [lpX, HY.out]; unfold rndX; rw [hP, hF, hG, hV, hK]
      have HGB : RowKit.Hid (0 ≤ G ∧ G < 32) := Lib.hid hb.2.2
      have HCK : RowKit.Hid (∀ w2, Own w0 w2 (Star (plA pb b fi (rd y).L (rd y).s) (Star (B y) (eachA xp xg xv xt pb (.func (.func gp) #[] cp) (.func (.func gt) #[] ct) R))) → _) := Lib.hid (fun w2 h2 => o_ptaken (w0 := w0) (w := w2) h2 hSY.out F ⟨by omega, by omega⟩ K hK)
      have HFB : RowKit.Hid (K = true → 0 ≤ F ∧ F < 256) := Lib.hid (fun e => by rw [e] at hK; have := tkn_bd hK; have := (o_plen HO.out).2.2.1; omega)
      have HST := Lib.hid hst
      clear hF hG hV hK hPu hP hb hst
      cases V with
      | false =>
        rw [Bool.false_and, cond_false] at HST
        clear HCK HFB
        go_wp2_with (go_at_call 54; refine CV.out.mono ?_; rintro e w2 ⟨rfl, h2⟩; have H2 := Lib.hid h2; clear h2)
        go_roundg (33 - (j + 1))
        case measure => omega
        case rel => exact ⟨j + 1, y, by omega, by omega, by go_num, HST.out, HC.out.mono _ _ y HOKY.out (by rw [Nat.succ_mul]; omega), H2.out⟩
      | true =>
        rw [Bool.true_and] at HST
        cases K with
        | false =>
          rw [cond_false] at HST
          clear HFB
          go_wp2_with (first
            | (go_at_call 54; refine CV.out.mono ?_; rintro e w2 ⟨rfl, h2⟩; have H2 := Lib.hid h2; have d0 := blk_cell h2.right.right.blk 0 (v := .pointer (some ⟨pb, 0, none⟩)) rfl; clear h2)
            | (go_at_call 35; refine (HCK.out _ H2.out).mono ?_; rintro e w3 ⟨rfl, h3⟩; have H3 := Lib.hid h3; clear h3))
          go_roundg (33 - (j + 1))
          case measure => omega
          case rel => exact ⟨j + 1, y, by omega, by omega, by go_num, HST.out, HC.out.mono _ _ y HOKY.out (by rw [Nat.succ_mul]; omega), H3.out⟩
        | true =>
          rw [cond_true] at HST
          have HFX := Lib.hid (HFB.out rfl)
          clear HFB
          go_upto_region 6 with (first
            | (go_at_call 54; refine CV.out.mono ?_; rintro e w2 ⟨rfl, h2⟩; have H2 := Lib.hid h2; have d0 := blk_cell h2.right.right.blk 0 (v := .pointer (some ⟨pb, 0, none⟩)) rfl; clear h2)
            | (go_at_call 35; refine (HCK.out _ H2.out).mono ?_; rintro e w4 ⟨rfl, h3⟩; have H4 := Lib.hid h3; have b1 := blk_cell h3.right.right.right.blk 0 (v := .func (.func gp) #[] cp) rfl; have b2 := blk_cell h3.right.right.right.right.blk 0 (v := visV xp xg xv xt) rfl; clear h3))
          clear HCK CV H2 c0 d0 c3
          have hns : RowKit.Hid (fst * 32 + (j : Int) < 32 ^ (2 - l)) := Lib.hid (HNS.out j hlt)
          have HV := Lib.hid (IH.out (k + j * dD (l + 1)) y F (fst * 32 + j) w4 R HR.out HOKY.out (by rw [hdd] at hk2; have : (j + 1) * dD (l + 1) ≤ 32 * dD (l + 1) := Nat.mul_le_mul_right _ (by omega); rw [Nat.succ_mul] at this; omega) HFX.out ⟨by omega, hns.out⟩ H4.out)
          go_wp2_with (go_at_call 53; refine HV.out.mono ?_; rintro e w5 ⟨rfl, h5, ok5⟩; have H5 := Lib.hid h5; have HOK5 := Lib.hid ok5; clear h5 ok5)
          go_roundg (33 - (j + 1))
          case measure => omega
          case rel => exact ⟨j + 1, _, by omega, by omega, by go_num, HST.out, (by rw [lvz, show k + (j + 1) * dD (l + 1) = k + j * dD (l + 1) + dD (l + 1) by rw [Nat.succ_mul]; omega]; exact HOK5.out), by rw [lvz]; exact H5.out⟩
    · obtain rfl : j = 32 := by omega
      have hSY := Lib.hid (stable_star (HC.out.stB y) HSE.out)
      have hcall := CT fr wr
      have CTB := Lib.hid (HC.out.table (k + 32 * dD (l + 1)) y fr wr _ HSE.out HOKY.out (by omega) ⟨f0, f1⟩ HO.out)
      have HOK9 := Lib.hid (HC.out.okt (k + 32 * dD (l + 1)) y fr HOKY.out (by omega))
      go_wp2_with fail
      refine CTB.out.mono ?_
      rintro e w9 ⟨rfl, h9⟩
      have H9 := Lib.hid h9
      clear h9
      go_wp2_with fail
      go_end0
      rw [HY.out]
      exact ⟨rfl, H9.out, (by rw [hdd, ← Nat.add_assoc]; exact HOK9.out)⟩
theorem dd1 : dD 1 = 33 := rfl
theorem dd2 : dD 2 = 1057 := rfl
theorem dd3 : dD 3 = 33825 := rfl
/-- A whole space is gone through. -/
theorem o_each {X : Type} {rd : X → Sp} {B : X → Asn} {Ok : Nat → X → Prop} {pb b fi : Nat} {pg : Int → Int → Int → X → X} {tb : Int → X → X} {gp gt : FuncId} {cp ct : Array Value} {w0 : World} (C : Cbs rd B Ok pb b fi pg tb gp gt cp ct w0)
    (x : X) (fr : Int) (w : World) (R : Asn) (hR : Stable R) (hk : Ok 0 x) (hf : 0 ≤ fr ∧ fr < 256) (h : Own w0 w (Star (plA pb b fi (rd x).L (rd x).s) (Star (B x) R))) :
    Calls Try.prog 36 #[.pointer (some ⟨pb, 0, none⟩), .int .i64 fr, .func (.func gp) #[] cp, .func (.func gt) #[] ct] w fun e w' =>
      e = .returned (.tuple #[]) ∧ Own w0 w' (Star (plA pb b fi (rd (visX rd fi pg tb 2 fr 0 x)).L (rd (visX rd fi pg tb 2 fr 0 x)).s) (Star (B (visX rd fi pg tb 2 fr 0 x)) R)) ∧ Ok 33825 (visX rd fi pg tb 2 fr 0 x) := by
  have SB := stable_star (stable_pl pb b fi (rd x).L (rd x).s) (stable_star (C.stB x) hR)
  have S3 := stable_star (stable_blk (w.heap.size + 2) (.cells #[.func (.func gt) #[] ct] 94)) (stable_star (stable_blk (w.heap.size + 1) (.cells #[.func (.func gp) #[] cp] 93)) (stable_star (stable_blk w.heap.size (.cells #[.pointer (some ⟨pb, 0, none⟩)] 41)) SB))
  have H := Lib.hid h
  have V0 : RowKit.Hid (∀ (xp xg xv xt : Nat) (k : Nat) (x : X) (fr fst : Int) (w : World) (R : Asn), Stable R → Ok k x → k + dD 1 ≤ 40000 → (0 ≤ fr ∧ fr < 256) → (0 ≤ fst ∧ fst < 32 ^ 2) → _) := Lib.hid (fun xp xg xv xt k x fr fst w R hR hk hk2 hf hs h => o_visit0 C xp xg xv xt k x fr fst w R hR hk hk2 hf (by simpa using hs) h)
  have V1 : RowKit.Hid (∀ (xp xg xv xt : Nat) (k : Nat) (x : X) (fr fst : Int) (w : World) (R : Asn), Stable R → Ok k x → k + dD 2 ≤ 40000 → (0 ≤ fr ∧ fr < 256) → (0 ≤ fst ∧ fst < 32 ^ 1) → _) := Lib.hid (fun xp xg xv xt k x fr fst w R hR hk hk2 hf hs h => o_visitS C xp xg xv xt 0 (V0.out xp xg xv xt) k x fr fst w R hR hk (by decide) hk2 hf hs h)
  have V2 : RowKit.Hid (∀ (xp xg xv xt : Nat) (w : World), Own w0 w (Star (plA pb b fi (rd x).L (rd x).s) (Star (B x) (eachA xp xg xv xt pb (.func (.func gp) #[] cp) (.func (.func gt) #[] ct) R))) → _) := Lib.hid (fun xp xg xv xt w h => o_visitS C xp xg xv xt 1 (V1.out xp xg xv xt) 0 x fr 0 w R hR hk (by decide) (by decide) hf ⟨by decide, by decide⟩ h)
  clear V0 V1 h
  go_enter Try.func36, Try.ntmps36
  go_upto_region 2 with fail
  have K4 : RowKit.Hid (Own w0 ((((w.alloc (.cells #[.pointer (some ⟨pb, 0, none⟩)] 41)).alloc (.cells #[.func (.func gp) #[] cp] 93)).alloc (.cells #[.func (.func gt) #[] ct] 94)).alloc (.cells #[Value.nilFunc] 116))
      (Star (blkA (w.heap.size + 1 + 1 + 1) (.cells #[Value.nilFunc] 116)) (Star (blkA (w.heap.size + 1 + 1) (.cells #[.func (.func gt) #[] ct] 94)) (Star (blkA (w.heap.size + 1) (.cells #[.func (.func gp) #[] cp] 93)) (Star (blkA w.heap.size (.cells #[.pointer (some ⟨pb, 0, none⟩)] 41)) (Star (plA pb b fi (rd x).L (rd x).s) (Star (B x) R))))))) := Lib.hid (by
    have A1 := H.out.alloc SB (.cells #[.pointer (some ⟨pb, 0, none⟩)] 41)
    have T1 := stable_star (stable_blk w.heap.size (.cells #[.pointer (some ⟨pb, 0, none⟩)] 41)) SB
    have A2 := A1.alloc T1 (.cells #[.func (.func gp) #[] cp] 93)
    rw [size_alloc] at A2
    have T2 := stable_star (stable_blk (w.heap.size + 1) (.cells #[.func (.func gp) #[] cp] 93)) T1
    have A3 := A2.alloc T2 (.cells #[.func (.func gt) #[] ct] 94)
    rw [size_alloc, size_alloc] at A3
    have T3 := stable_star (stable_blk (w.heap.size + 1 + 1) (.cells #[.func (.func gt) #[] ct] 94)) T2
    have A4 := A3.alloc T3 (.cells #[Value.nilFunc] 116)
    rw [size_alloc, size_alloc, size_alloc] at A4
    exact A4)
  have T4 := Lib.hid (stable_star (stable_blk (w.heap.size + 1 + 1) (.cells #[.func (.func gt) #[] ct] 94)) (stable_star (stable_blk (w.heap.size + 1) (.cells #[.func (.func gp) #[] cp] 93)) (stable_star (stable_blk w.heap.size (.cells #[.pointer (some ⟨pb, 0, none⟩)] 41)) SB)))
  clear H S3
  generalize (World.alloc _ (.cells #[Value.nilFunc] 116)) = w4 at *
  generalize w.heap.size + 1 + 1 + 1 = xv at *
  generalize w.heap.size + 1 + 1 = xt at *
  generalize w.heap.size + 1 = xg at *
  generalize w.heap.size = xp at *
  have c0 := blk_cell K4.out.blk 0 (v := Value.nilFunc) rfl
  have f0 := blk_frozen K4.out.blk 0
  have K5 := Lib.hid (K4.out.set T4.out 0 (visV xp xg xv xt))
  have qs : ∀ (a : Addr) (w : World), (store a (visV xp xg xv xt)).run Try.prog w = stored Try.prog w a (visV xp xg xv xt) .plain := fun a w => run_store Try.prog w a _ .plain rfl
  go_upto_region 3 with fail
  have c1 : (w4.setCell ⟨xv, 0, none⟩ (visV xp xg xv xt)).cell? ⟨xv, 0, none⟩ = some (visV xp xg xv xt) := blk_cell K5.out.blk 0 rfl
  have K6 : RowKit.Hid (Own w0 (w4.setCell ⟨xv, 0, none⟩ (visV xp xg xv xt)) (Star (plA pb b fi (rd x).L (rd x).s) (Star (B x) (eachA xp xg xv xt pb (.func (.func gp) #[] cp) (.func (.func gt) #[] ct) R)))) := Lib.hid (K5.out.mono (fun F h => by
    -- visit, table, page, p, pool, B, R
    have h1 := st5 h
    refine star_mono_r (fun F h => ?_) h1
    have h2 := st5 h
    refine star_mono_r (fun F h => ?_) h2
    have h3 := st4 h
    refine star_mono_r (fun F h => ?_) h3
    exact st3 h))
  clear K4 K5 c0 f0
  generalize (w4.setCell ⟨xv, 0, none⟩ (visV xp xg xv xt)) = w5 at *
  have V3 := Lib.hid (V2.out xp xg xv xt w5 K6.out)
  go_wp2_with (go_at_call 53; refine V3.out.mono ?_; rintro e w6 ⟨rfl, h6, ok6⟩; have H6 := Lib.hid h6; have OK6 := Lib.hid ok6; clear h6 ok6)
  trace_state
  go_end0
  exact ⟨rfl, H6.out.mono (fun F h => star_mono_r (fun F h => star_drop2 (star_drop2 (star_drop2 (star_drop2 h)))) h), OK6.out⟩
end Go.Proofs.Ytdlglnoffpnonaa.P
