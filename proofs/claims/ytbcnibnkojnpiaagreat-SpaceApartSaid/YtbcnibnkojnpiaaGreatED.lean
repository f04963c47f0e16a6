/- Stage 11: each: a space gone through by a recursive closure. No condition. -/
import Derived.Test.YtbcnibnkojnpiaaGreatEA
import Derived.Test.YtbcnibnkojnpiaaGreatE3
import Derived.Deep.LoopGhost
import Derived.Deep.AppendLies
set_option linter.unusedVariables false
set_option linter.unusedSimpArgs false
set_option maxRecDepth 100000
namespace Go.Proofs.YtbcnibnkojnpiaaGreat.P
open Go.RowKit Go.MuLone Go.Maps
abbrev visV (xp xg xv xt : Nat) : Value := .func (.func 75) #[] #[.pointer (some ⟨xp, 0, none⟩), .pointer (some ⟨xg, 0, none⟩), .pointer (some ⟨xv, 0, none⟩), .pointer (some ⟨xt, 0, none⟩)]
abbrev eachA (xp xg xv xt pb : Nat) (pv tv : Value) (R : Asn) : Asn :=
  Star (blkA xp (.cells #[.pointer (some ⟨pb, 0, none⟩)] 25)) (Star (blkA xg (.cells #[pv] 84)) (Star (blkA xv (.cells #[visV xp xg xv xt] 144)) (Star (blkA xt (.cells #[tv] 85)) R)))
theorem stable_each (xp xg xv xt pb : Nat) (pv tv : Value) {R : Asn} (hR : Stable R) : Stable (eachA xp xg xv xt pb pv tv R) := stable_star (stable_blk _ _) (stable_star (stable_blk _ _) (stable_star (stable_blk _ _) (stable_star (stable_blk _ _) hR)))
/-- What the two closures do. -/
structure Cbs {X : Type} (rd : X → Sp) (B : X → Asn) (Ok : Nat → X → Prop) (pb b fi : Nat) (pg : Int → Int → Int → X → X) (tb : Int → X → X) (gp gt : FuncId) (cp ct : Array Value) (w0 : World) : Prop where
  stB : ∀ x, Stable (B x)
  mono : ∀ k k' x, Ok k x → k ≤ k' → Ok k' x
  okp : ∀ k x n f g, Ok k x → k < 40000 → Ok (k + 1) (pg n f g x)
  okt : ∀ k x f, Ok k x → k < 40000 → Ok (k + 1) (tb f x)
  callp : ∀ (n f g : Int) (w : World), (callFunc gp (#[.int .i64 n, .int .i64 f, .int .u64 g] ++ cp)).run Tryz.prog w = .ok (.enter gp (#[.int .i64 n, .int .i64 f, .int .u64 g] ++ cp)) w
  callt : ∀ (f : Int) (w : World), (callFunc gt (#[.int .i64 f] ++ ct)).run Tryz.prog w = .ok (.enter gt (#[.int .i64 f] ++ ct)) w
  page : ∀ k x n f g w R, Stable R → Ok k x → k < 40000 → (0 ≤ n ∧ n < 32768) → (0 ≤ f ∧ f < 256) → (0 ≤ g ∧ g < 32) → Own w0 w (Star (plA pb b fi (rd x).L (rd x).s) (Star (B x) R)) →
    Calls Tryz.prog gp (#[.int .i64 n, .int .i64 f, .int .u64 g] ++ cp) w fun e w' => e = .returned (.tuple #[]) ∧ Own w0 w' (Star (plA pb b fi (rd (pg n f g x)).L (rd (pg n f g x)).s) (Star (B (pg n f g x)) R))
  table : ∀ k x f w R, Stable R → Ok k x → k < 40000 → (0 ≤ f ∧ f < 256) → Own w0 w (Star (plA pb b fi (rd x).L (rd x).s) (Star (B x) R)) →
    Calls Tryz.prog gt (#[.int .i64 f] ++ ct) w fun e w' => e = .returned (.tuple #[]) ∧ Own w0 w' (Star (plA pb b fi (rd (tb f x)).L (rd (tb f x)).s) (Star (B (tb f x)) R))
/-- What a round calls, at a level. -/
def lvX {X : Type} (rd : X → Sp) (fi : Nat) (pg : Int → Int → Int → X → X) (tb : Int → X → X) : Nat → Int → Int → Int → X → X
  | 0 => pg
  | l + 1 => fun n nx _ x => visX rd fi pg tb l nx n x
theorem visX_lv {X : Type} (rd : X → Sp) (fi : Nat) (pg : Int → Int → Int → X → X) (tb : Int → X → X) (l : Nat) (fr fst : Int) (x : X) : visX rd fi pg tb l fr fst x = tb fr (lpX rd fi fr fst (lvX rd fi pg tb l) 32 x) := by
  cases l <;> rfl
def dD : Nat → Nat
  | 0 => 1
  | l + 1 => 32 * dD l + 1
set_option maxHeartbeats 1600000 in
theorem o_visit0 {X : Type} {rd : X → Sp} {B : X → Asn} {Ok : Nat → X → Prop} {pb b fi : Nat} {pg : Int → Int → Int → X → X} {tb : Int → X → X} {gp gt : FuncId} {cp ct : Array Value} {w0 : World} (C : Cbs rd B Ok pb b fi pg tb gp gt cp ct w0)
    (xp xg xv xt : Nat) (k : Nat) (x : X) (fr fst : Int) (w : World) (R : Asn) (hR : Stable R) (hk : Ok k x) (hk2 : k + 33 ≤ 40000) (hf : 0 ≤ fr ∧ fr < 256) (hs : 0 ≤ fst ∧ fst < 1024)
    (h : Own w0 w (Star (plA pb b fi (rd x).L (rd x).s) (Star (B x) (eachA xp xg xv xt pb (.func (.func gp) #[] cp) (.func (.func gt) #[] ct) R)))) :
    Calls Tryz.prog 75 #[.int .i64 fr, .int .i64 0, .int .i64 fst, .pointer (some ⟨xp, 0, none⟩), .pointer (some ⟨xg, 0, none⟩), .pointer (some ⟨xv, 0, none⟩), .pointer (some ⟨xt, 0, none⟩)] w fun e w' =>
      e = .returned (.tuple #[]) ∧ Own w0 w' (Star (plA pb b fi (rd (visX rd fi pg tb 0 fr fst x)).L (rd (visX rd fi pg tb 0 fr fst x)).s) (Star (B (visX rd fi pg tb 0 fr fst x)) (eachA xp xg xv xt pb (.func (.func gp) #[] cp) (.func (.func gt) #[] ct) R))) ∧ Ok (k + 33) (visX rd fi pg tb 0 fr fst x) := by
  have SE := stable_each xp xg xv xt pb (.func (.func gp) #[] cp) (.func (.func gt) #[] ct) hR
  have H := Lib.hid h
  have HK := Lib.hid hk
  have HC := Lib.hid C
  have HSE := Lib.hid SE
  have HR := Lib.hid hR
  rw [visX_lv]
  obtain ⟨f0, f1⟩ := hf
  obtain ⟨s0, s1⟩ := hs
  have CP := C.callp
  have CT := C.callt
  have s2 : fst * 32 + 32 ≤ 32768 := by omega
  have lvz : lvX rd fi pg tb 0 = pg := rfl
  obtain ⟨fL, hfL⟩ : ∃ f, lvX rd fi pg tb 0 = f := ⟨_, rfl⟩
  rw [hfL] at lvz ⊢
  clear h hk C SE hR hfL
  go_enter Tryz.func75, Tryz.ntmps75
  go_wp2_with fail
  go_loopg [15] 33 (fun t v15 wr => ∃ (j : Nat) (y : X), j ≤ 32 ∧ t = 33 - j ∧ v15 = .int .i64 (j : Int) ∧ lpX rd fi fr fst fL j x = y ∧ Ok (k + j) y ∧ Own w0 wr (Star (plA pb b fi (rd y).L (rd y).s) (Star (B y) (eachA xp xg xv xt pb (.func (.func gp) #[] cp) (.func (.func gt) #[] ct) R))))
  case atStart => exact ⟨0, x, by decide, rfl, rfl, rfl, by  exact HK.out, H.out⟩
  case round =>
    clear H HK
    obtain ⟨j, y, hj, rfl, rfl, hy, hok, ho⟩ := hrel
    have HOKY := Lib.hid hok
    have HO := Lib.hid ho
    have HY := Lib.hid hy
    have c0 := blk_cell ho.right.right.blk 0 (v := .pointer (some ⟨pb, 0, none⟩)) rfl
    have c3 := blk_cell ho.right.right.right.right.right.blk 0 (v := .func (.func gt) #[] ct) rfl
    clear hok ho hy
    have e5 : IntKind.i64.wrap ((j : Int) + 1) = (j : Int) + 1 := by rw [IntKind.wrap_i64]; omega
    by_cases hj2 : j < 32
    · have k1 : IntKind.i64.wrap (fr * 256) = fr * 256 := wrapI _ (by omega) (by omega)
      have k2 : IntKind.i64.wrap ((j : Int) * 8) = (j : Int) * 8 := wrapI _ (by omega) (by omega)
      have k3 : IntKind.i64.wrap (fr * 256 + (j : Int) * 8) = fr * 256 + (j : Int) * 8 := wrapI _ (by omega) (by omega)
      have k4 : IntKind.u64.wrap (fr * 256 + (j : Int) * 8) = fr * 256 + (j : Int) * 8 := wrapU _ (by omega) (by omega)
      have k5 : IntKind.i64.wrap (fst * 32) = fst * 32 := wrapI _ (by omega) (by omega)
      have k6 : IntKind.i64.wrap (fst * 32 + (j : Int)) = fst * 32 + (j : Int) := wrapI _ (by omega) (by omega)
      have hlt : (j : Int) < 32 := by omega
      have hSY := Lib.hid (stable_star (HC.out.stB y) HSE.out)
      obtain ⟨P, hP⟩ : ∃ P, fr * 256 + (j : Int) * 8 = P := ⟨_, rfl⟩
      have hPu : u64 P := ⟨by omega, by omega⟩
      replace k3 := k3.trans hP
      rw [hP] at k4
      obtain ⟨F, hF⟩ : ∃ F, validF (rd y).s P = F := ⟨_, rfl⟩
      obtain ⟨G, hG⟩ : ∃ G, validG (rd y).s P = G := ⟨_, rfl⟩
      obtain ⟨V, hV⟩ : ∃ V, validB (rd y).s P = V := ⟨_, rfl⟩
      obtain ⟨K, hK⟩ : ∃ K, tknB (rd y).L fi F = K := ⟨_, rfl⟩
      have hb := valid_bd (rd y).s P
      rw [hF, hG] at hb
      have CV := Lib.hid (o_valid HO.out hSY.out P hPu F G V hF hG hV)
      have hst : lpX rd fi fr fst fL (j + 1) x = bif V && K then fL (fst * 32 + j) F G y else y := by
        rw [lpX, HY.out]; unfold rndX; rw [hP, hF, hG, hV, hK]
      have HGB : RowKit.Hid (0 ≤ G ∧ G < 32) := Lib.hid hb.2.2
      have HCK : RowKit.Hid (∀ w2, Own w0 w2 (Star (plA pb b fi (rd y).L (rd y).s) (Star (B y) (eachA xp xg xv xt pb (.func (.func gp) #[] cp) (.func (.func gt) #[] ct) R))) → _) := Lib.hid (fun w2 h2 => o_ptaken (w0 := w0) (w := w2) h2 hSY.out F ⟨by omega, by omega⟩ K hK)
      have HFB : RowKit.Hid (K = true → 0 ≤ F ∧ F < 256) := Lib.hid (fun e => by rw [e] at hK; have := tkn_bd hK; have := (o_plen HO.out).2.2.1; omega)
      have HST := Lib.hid hst
      clear hF hG hV hK hPu hP hb hst
      cases V with
      | false =>
        rw [Bool.false_and, cond_false] at HST
        clear HCK HFB
        go_wp2_with (go_at_call 60; refine CV.out.mono ?_; rintro e w2 ⟨rfl, h2⟩; have H2 := Lib.hid h2; clear h2)
        go_roundg (33 - (j + 1))
        case measure => omega
        case rel => exact ⟨j + 1, y, by omega, by omega, by go_num, HST.out, HC.out.mono _ _ y HOKY.out (by omega), H2.out⟩
      | true =>
        rw [Bool.true_and] at HST
        cases K with
        | false =>
          rw [cond_false] at HST
          clear HFB
          go_wp2_with (first
            | (go_at_call 60; refine CV.out.mono ?_; rintro e w2 ⟨rfl, h2⟩; have H2 := Lib.hid h2; have d0 := blk_cell h2.right.right.blk 0 (v := .pointer (some ⟨pb, 0, none⟩)) rfl; clear h2)
            | (go_at_call 32; refine (HCK.out _ H2.out).mono ?_; rintro e w3 ⟨rfl, h3⟩; have H3 := Lib.hid h3; clear h3))
          go_roundg (33 - (j + 1))
          case measure => omega
          case rel => exact ⟨j + 1, y, by omega, by omega, by go_num, HST.out, HC.out.mono _ _ y HOKY.out (by omega), H3.out⟩
        | true =>
          rw [cond_true] at HST
          have HFX := Lib.hid (HFB.out rfl)
          clear HFB
          go_upto_region 6 with (first
            | (go_at_call 60; refine CV.out.mono ?_; rintro e w2 ⟨rfl, h2⟩; have H2 := Lib.hid h2; have d0 := blk_cell h2.right.right.blk 0 (v := .pointer (some ⟨pb, 0, none⟩)) rfl; clear h2)
            | (go_at_call 32; refine (HCK.out _ H2.out).mono ?_; rintro e w4 ⟨rfl, h3⟩; have H4 := Lib.hid h3; have b1 := blk_cell h3.right.right.right.blk 0 (v := .func (.func gp) #[] cp) rfl; have b2 := blk_cell h3.right.right.right.right.blk 0 (v := visV xp xg xv xt) rfl; clear h3))
          clear HCK CV H2 c0 d0 c3
          have hcall := CP (fst * 32 + j) F G w4
          have CPG := Lib.hid (HC.out.page (k + j) y (fst * 32 + j) F G w4 _ HSE.out HOKY.out (by omega) ⟨by omega, by omega⟩ HFX.out HGB.out H4.out)
          go_wp2_with fail
          refine CPG.out.mono ?_
          rintro e w5 ⟨rfl, h5⟩
          have H5 := Lib.hid h5
          clear h5
          have HOK5 := Lib.hid (HC.out.okp (k + j) y (fst * 32 + j) F G HOKY.out (by omega))
          go_wp2_with fail
          go_roundg (33 - (j + 1))
          case measure => omega
          case rel => exact ⟨j + 1, _, by omega, by omega, by go_num, HST.out, (by rw [lvz, show k + (j + 1) = k + j + 1 by omega]; exact HOK5.out), by rw [lvz]; exact H5.out⟩
    · obtain rfl : j = 32 := by omega
      have hSY := Lib.hid (stable_star (HC.out.stB y) HSE.out)
      have hcall := CT fr wr
      have CTB := Lib.hid (HC.out.table (k + 32) y fr wr _ HSE.out HOKY.out (by omega) ⟨f0, f1⟩ HO.out)
      have HOK9 := Lib.hid (HC.out.okt (k + 32) y fr HOKY.out (by omega))
      go_wp2_with fail
      refine CTB.out.mono ?_
      rintro e w9 ⟨rfl, h9⟩
      have H9 := Lib.hid h9
      clear h9
      go_wp2_with fail
      go_end0
      rw [HY.out]
      exact ⟨rfl, H9.out, HOK9.out⟩
set_option maxHeartbeats 1600000 in
theorem o_visitS {X : Type} {rd : X → Sp} {B : X → Asn} {Ok : Nat → X → Prop} {pb b fi : Nat} {pg : Int → Int → Int → X → X} {tb : Int → X → X} {gp gt : FuncId} {cp ct : Array Value} {w0 : World} (C : Cbs rd B Ok pb b fi pg tb gp gt cp ct w0)
    (xp xg xv xt : Nat) (l : Nat)
    (IH : ∀ (k : Nat) (x : X) (fr fst : Int) (w : World) (R : Asn), Stable R → Ok k x → k + dD (l + 1) ≤ 40000 → (0 ≤ fr ∧ fr < 256) → (0 ≤ fst ∧ fst < 32 ^ (2 - l)) →
      Own w0 w (Star (plA pb b fi (rd x).L (rd x).s) (Star (B x) (eachA xp xg xv xt pb (.func (.func gp) #[] cp) (.func (.func gt) #[] ct) R))) →
      Calls Tryz.prog 75 #[.int .i64 fr, .int .i64 (l : Int), .int .i64 fst, .pointer (some ⟨xp, 0, none⟩), .pointer (some ⟨xg, 0, none⟩), .pointer (some ⟨xv, 0, none⟩), .pointer (some ⟨xt, 0, none⟩)] w fun e w' =>
        e = .returned (.tuple #[]) ∧ Own w0 w' (Star (plA pb b fi (rd (visX rd fi pg tb l fr fst x)).L (rd (visX rd fi pg tb l fr fst x)).s) (Star (B (visX rd fi pg tb l fr fst x)) (eachA xp xg xv xt pb (.func (.func gp) #[] cp) (.func (.func gt) #[] ct) R))) ∧ Ok (k + dD (l + 1)) (visX rd fi pg tb l fr fst x)) (k : Nat) (x : X) (fr fst : Int) (w : World) (R : Asn) (hR : Stable R) (hk : Ok k x) (hl : l ≤ 1) (hk2 : k + dD (l + 2) ≤ 40000) (hf : 0 ≤ fr ∧ fr < 256) (hs : 0 ≤ fst ∧ fst < 32 ^ (1 - l))
    (h : Own w0 w (Star (plA pb b fi (rd x).L (rd x).s) (Star (B x) (eachA xp xg xv xt pb (.func (.func gp) #[] cp) (.func (.func gt) #[] ct) R)))) :
    Calls Tryz.prog 75 #[.int .i64 fr, .int .i64 ((l + 1 : Nat) : Int), .int .i64 fst, .pointer (some ⟨xp, 0, none⟩), .pointer (some ⟨xg, 0, none⟩), .pointer (some ⟨xv, 0, none⟩), .pointer (some ⟨xt, 0, none⟩)] w fun e w' =>
      e = .returned (.tuple #[]) ∧ Own w0 w' (Star (plA pb b fi (rd (visX rd fi pg tb (l + 1) fr fst x)).L (rd (visX rd fi pg tb (l + 1) fr fst x)).s) (Star (B (visX rd fi pg tb (l + 1) fr fst x)) (eachA xp xg xv xt pb (.func (.func gp) #[] cp) (.func (.func gt) #[] ct) R))) ∧ Ok (k + dD (l + 2)) (visX rd fi pg tb (l + 1) fr fst x) := by
  have SE := stable_each xp xg xv xt pb (.func (.func gp) #[] cp) (.func (.func gt) #[] ct) hR
  have H := Lib.hid h
  have HK := Lib.hid hk
  have HC := Lib.hid C
  have HSE := Lib.hid SE
  have HR := Lib.hid hR
  rw [visX_lv]
  obtain ⟨f0, f1⟩ := hf
  obtain ⟨s0, s1⟩ := hs
  have CP := C.callp
  have CT := C.callt
  have hp32 : (32 : Int) ^ (1 - l) ≤ 32 := by
    rcases (show l = 0 ∨ l = 1 by omega) with rfl | rfl <;> decide
  have s2 : fst * 32 + 32 ≤ 32768 := by omega
  have hns : RowKit.Hid (∀ j : Int, j < 32 → fst * 32 + j < 32 ^ (2 - l)) := Lib.hid (fun j hj => by
    rcases (show l = 0 ∨ l = 1 by omega) with rfl | rfl
    · have e1 : (32 : Int) ^ (1 - 0) = 32 := by decide
      have e2 : (32 : Int) ^ (2 - 0) = 1024 := by decide
      rw [e1] at s1; rw [e2]; omega
    · have e1 : (32 : Int) ^ (1 - 1) = 1 := by decide
      have e2 : (32 : Int) ^ (2 - 1) = 32 := by decide
      rw [e1] at s1; rw [e2]; omega)
  have HNS := hns
  clear hns
  have hdd : dD (l + 2) = 32 * dD (l + 1) + 1 := rfl
  have lvz : lvX rd fi pg tb (l + 1) = fun n nx _ x => visX rd fi pg tb l nx n x := rfl
  have IH := Lib.hid IH
  have lpos : ((l + 1 : Nat) : Int) ≠ 0 := by omega
  have hlb : (((l + 1 : Nat) : Int) == 0) = false := by simpa using lpos
  have hlm : IntKind.i64.wrap (((l + 1 : Nat) : Int) - 1) = (l : Int) := by rw [IntKind.wrap_i64]; omega
  generalize hL1 : ((l + 1 : Nat) : Int) = L1 at *
  obtain ⟨fL, hfL⟩ : ∃ f, lvX rd fi pg tb (l + 1) = f := ⟨_, rfl⟩
  rw [hfL] at lvz ⊢
  clear h hk C SE hR hfL
  go_enter Tryz.func75, Tryz.ntmps75
  go_wp2_with fail
  go_loopg [15] 33 (fun t v15 wr => ∃ (j : Nat) (y : X), j ≤ 32 ∧ t = 33 - j ∧ v15 = .int .i64 (j : Int) ∧ lpX rd fi fr fst fL j x = y ∧ Ok (k + j * dD (l + 1)) y ∧ Own w0 wr (Star (plA pb b fi (rd y).L (rd y).s) (Star (B y) (eachA xp xg xv xt pb (.func (.func gp) #[] cp) (.func (.func gt) #[] ct) R))))
  case atStart => exact ⟨0, x, by decide, rfl, rfl, rfl, by rw [Nat.zero_mul]; exact HK.out, H.out⟩
  case round =>
    clear H HK
    obtain ⟨j, y, hj, rfl, rfl, hy, hok, ho⟩ := hrel
    have HOKY := Lib.hid hok
    have HO := Lib.hid ho
    have HY := Lib.hid hy
    have c0 := blk_cell ho.right.right.blk 0 (v := .pointer (some ⟨pb, 0, none⟩)) rfl
    have c3 := blk_cell ho.right.right.right.right.right.blk 0 (v := .func (.func gt) #[] ct) rfl
    clear hok ho hy
    have e5 : IntKind.i64.wrap ((j : Int) + 1) = (j : Int) + 1 := by rw [IntKind.wrap_i64]; omega
    by_cases hj2 : j < 32
    · have k1 : IntKind.i64.wrap (fr * 256) = fr * 256 := wrapI _ (by omega) (by omega)
      have k2 : IntKind.i64.wrap ((j : Int) * 8) = (j : Int) * 8 := wrapI _ (by omega) (by omega)
      have k3 : IntKind.i64.wrap (fr * 256 + (j : Int) * 8) = fr * 256 + (j : Int) * 8 := wrapI _ (by omega) (by omega)
      have k4 : IntKind.u64.wrap (fr * 256 + (j : Int) * 8) = fr * 256 + (j : Int) * 8 := wrapU _ (by omega) (by omega)
      have k5 : IntKind.i64.wrap (fst * 32) = fst * 32 := wrapI _ (by omega) (by omega)
      have k6 : IntKind.i64.wrap (fst * 32 + (j : Int)) = fst * 32 + (j : Int) := wrapI _ (by omega) (by omega)
      have hlt : (j : Int) < 32 := by omega
      have hSY := Lib.hid (stable_star (HC.out.stB y) HSE.out)
      obtain ⟨P, hP⟩ : ∃ P, fr * 256 + (j : Int) * 8 = P := ⟨_, rfl⟩
      have hPu : u64 P := ⟨by omega, by omega⟩
      replace k3 := k3.trans hP
      rw [hP] at k4
      obtain ⟨F, hF⟩ : ∃ F, validF (rd y).s P = F := ⟨_, rfl⟩
      obtain ⟨G, hG⟩ : ∃ G, validG (rd y).s P = G := ⟨_, rfl⟩
      obtain ⟨V, hV⟩ : ∃ V, validB (rd y).s P = V := ⟨_, rfl⟩
      obtain ⟨K, hK⟩ : ∃ K, tknB (rd y).L fi F = K := ⟨_, rfl⟩
      have hb := valid_bd (rd y).s P
      rw [hF, hG] at hb
      have CV := Lib.hid (o_valid HO.out hSY.out P hPu F G V hF hG hV)
      have hst : lpX rd fi fr fst fL (j + 1) x = bif V && K then fL (fst * 32 + j) F G y else y := by
        rw [lpX, HY.out]; unfold rndX; rw [hP, hF, hG, hV, hK]
      have HGB : RowKit.Hid (0 ≤ G ∧ G < 32) := Lib.hid hb.2.2
      have HCK : RowKit.Hid (∀ w2, Own w0 w2 (Star (plA pb b fi (rd y).L (rd y).s) (Star (B y) (eachA xp xg xv xt pb (.func (.func gp) #[] cp) (.func (.func gt) #[] ct) R))) → _) := Lib.hid (fun w2 h2 => o_ptaken (w0 := w0) (w := w2) h2 hSY.out F ⟨by omega, by omega⟩ K hK)
      have HFB : RowKit.Hid (K = true → 0 ≤ F ∧ F < 256) := Lib.hid (fun e => by rw [e] at hK; have := tkn_bd hK; have := (o_plen HO.out).2.2.1; omega)
      have HST := Lib.hid hst
      clear hF hG hV hK hPu hP hb hst
      cases V with
      | false =>
        rw [Bool.false_and, cond_false] at HST
        clear HCK HFB
        go_wp2_with (go_at_call 60; refine CV.out.mono ?_; rintro e w2 ⟨rfl, h2⟩; have H2 := Lib.hid h2; clear h2)
        go_roundg (33 - (j + 1))
        case measure => omega
        case rel => exact ⟨j + 1, y, by omega, by omega, by go_num, HST.out, HC.out.mono _ _ y HOKY.out (by rw [Nat.succ_mul]; omega), H2.out⟩
      | true =>
        rw [Bool.true_and] at HST
        cases K with
        | false =>
          rw [cond_false] at HST
          clear HFB
          go_wp2_with (first
            | (go_at_call 60; refine CV.out.mono ?_; rintro e w2 ⟨rfl, h2⟩; have H2 := Lib.hid h2; have d0 := blk_cell h2.right.right.blk 0 (v := .pointer (some ⟨pb, 0, none⟩)) rfl; clear h2)
            | (go_at_call 32; refine (HCK.out _ H2.out).mono ?_; rintro e w3 ⟨rfl, h3⟩; have H3 := Lib.hid h3; clear h3))
          go_roundg (33 - (j + 1))
          case measure => omega
          case rel => exact ⟨j + 1, y, by omega, by omega, by go_num, HST.out, HC.out.mono _ _ y HOKY.out (by rw [Nat.succ_mul]; omega), H3.out⟩
        | true =>
          rw [cond_true] at HST
          have HFX := Lib.hid (HFB.out rfl)
          clear HFB
          go_upto_region 6 with (first
            | (go_at_call 60; refine CV.out.mono ?_; rintro e w2 ⟨rfl, h2⟩; have H2 := Lib.hid h2; have d0 := blk_cell h2.right.right.blk 0 (v := .pointer (some ⟨pb, 0, none⟩)) rfl; clear h2)
            | (go_at_call 32; refine (HCK.out _ H2.out).mono ?_; rintro e w4 ⟨rfl, h3⟩; have H4 := Lib.hid h3; have b1 := blk_cell h3.right.right.right.blk 0 (v := .func (.func gp) #[] cp) rfl; have b2 := blk_cell h3.right.right.right.right.blk 0 (v := visV xp xg xv xt) rfl; clear h3))
          clear HCK CV H2 c0 d0 c3
          have hns : RowKit.Hid (fst * 32 + (j : Int) < 32 ^ (2 - l)) := Lib.hid (HNS.out j hlt)
          have HV := Lib.hid (IH.out (k + j * dD (l + 1)) y F (fst * 32 + j) w4 R HR.out HOKY.out (by rw [hdd] at hk2; have : (j + 1) * dD (l + 1) ≤ 32 * dD (l + 1) := Nat.mul_le_mul_right _ (by omega); rw [Nat.succ_mul] at this; omega) HFX.out ⟨by omega, hns.out⟩ H4.out)
          go_wp2_with (go_at_call 75; refine HV.out.mono ?_; rintro e w5 ⟨rfl, h5, ok5⟩; have H5 := Lib.hid h5; have HOK5 := Lib.hid ok5; clear h5 ok5)
          go_roundg (33 - (j + 1))
          case measure => omega
          case rel => exact ⟨j + 1, _, by omega, by omega, by go_num, HST.out, (by rw [lvz, show k + (j + 1) * dD (l + 1) = k + j * dD (l + 1) + dD (l + 1) by rw [Nat.succ_mul]; omega]; exact HOK5.out), by rw [lvz]; exact H5.out⟩
    · obtain rfl : j = 32 := by omega
      have hSY := Lib.hid (stable_star (HC.out.stB y) HSE.out)
      have hcall := CT fr wr
      have CTB := Lib.hid (HC.out.table (k + 32 * dD (l + 1)) y fr wr _ HSE.out HOKY.out (by omega) ⟨f0, f1⟩ HO.out)
      have HOK9 := Lib.hid (HC.out.okt (k + 32 * dD (l + 1)) y fr HOKY.out (by omega))
      go_wp2_with fail
      refine CTB.out.mono ?_
      rintro e w9 ⟨rfl, h9⟩
      have H9 := Lib.hid h9
      clear h9
      go_wp2_with fail
      go_end0
      rw [HY.out]
      exact ⟨rfl, H9.out, (by rw [hdd, ← Nat.add_assoc]; exact HOK9.out)⟩
theorem dd1 : dD 1 = 33 := rfl
theorem dd2 : dD 2 = 1057 := rfl
theorem dd3 : dD 3 = 33825 := rfl
/-- A whole space is gone through. -/
theorem o_each {X : Type} {rd : X → Sp} {B : X → Asn} {Ok : Nat → X → Prop} {pb b fi : Nat} {pg : Int → Int → Int → X → X} {tb : Int → X → X} {gp gt : FuncId} {cp ct : Array Value} {w0 : World} (C : Cbs rd B Ok pb b fi pg tb gp gt cp ct w0)
    (x : X) (fr : Int) (w : World) (R : Asn) (hR : Stable R) (hk : Ok 0 x) (hf : 0 ≤ fr ∧ fr < 256) (h : Own w0 w (Star (plA pb b fi (rd x).L (rd x).s) (Star (B x) R))) :
    Calls Tryz.prog 33 #[.pointer (some ⟨pb, 0, none⟩), .int .i64 fr, .func (.func gp) #[] cp, .func (.func gt) #[] ct] w fun e w' =>
      e = .returned (.tuple #[]) ∧ Own w0 w' (Star (plA pb b fi (rd (visX rd fi pg tb 2 fr 0 x)).L (rd (visX rd fi pg tb 2 fr 0 x)).s) (Star (B (visX rd fi pg tb 2 fr 0 x)) R)) ∧ Ok 33825 (visX rd fi pg tb 2 fr 0 x) := by
  have SB := stable_star (stable_pl pb b fi (rd x).L (rd x).s) (stable_star (C.stB x) hR)
  have S3 := stable_star (stable_blk (w.heap.size + 2) (.cells #[.func (.func gt) #[] ct] 85)) (stable_star (stable_blk (w.heap.size + 1) (.cells #[.func (.func gp) #[] cp] 84)) (stable_star (stable_blk w.heap.size (.cells #[.pointer (some ⟨pb, 0, none⟩)] 25)) SB))
  have H := Lib.hid h
  have V0 : RowKit.Hid (∀ (xp xg xv xt : Nat) (k : Nat) (x : X) (fr fst : Int) (w : World) (R : Asn), Stable R → Ok k x → k + dD 1 ≤ 40000 → (0 ≤ fr ∧ fr < 256) → (0 ≤ fst ∧ fst < 32 ^ 2) → _) := Lib.hid (fun xp xg xv xt k x fr fst w R hR hk hk2 hf hs h => o_visit0 C xp xg xv xt k x fr fst w R hR hk hk2 hf (by simpa using hs) h)
  have V1 : RowKit.Hid (∀ (xp xg xv xt : Nat) (k : Nat) (x : X) (fr fst : Int) (w : World) (R : Asn), Stable R → Ok k x → k + dD 2 ≤ 40000 → (0 ≤ fr ∧ fr < 256) → (0 ≤ fst ∧ fst < 32 ^ 1) → _) := Lib.hid (fun xp xg xv xt k x fr fst w R hR hk hk2 hf hs h => o_visitS C xp xg xv xt 0 (V0.out xp xg xv xt) k x fr fst w R hR hk (by decide) hk2 hf hs h)
  have V2 : RowKit.Hid (∀ (xp xg xv xt : Nat) (w : World), Own w0 w (Star (plA pb b fi (rd x).L (rd x).s) (Star (B x) (eachA xp xg xv xt pb (.func (.func gp) #[] cp) (.func (.func gt) #[] ct) R))) → _) := Lib.hid (fun xp xg xv xt w h => o_visitS C xp xg xv xt 1 (V1.out xp xg xv xt) 0 x fr 0 w R hR hk (by decide) (by decide) hf ⟨by decide, by decide⟩ h)
  clear V0 V1 h
  go_enter Tryz.func33, Tryz.ntmps33
  go_upto_region 2 with fail
  have K4 : RowKit.Hid (Own w0 ((((w.alloc (.cells #[.pointer (some ⟨pb, 0, none⟩)] 25)).alloc (.cells #[.func (.func gp) #[] cp] 84)).alloc (.cells #[.func (.func gt) #[] ct] 85)).alloc (.cells #[Value.nilFunc] 144))
      (Star (blkA (w.heap.size + 1 + 1 + 1) (.cells #[Value.nilFunc] 144)) (Star (blkA (w.heap.size + 1 + 1) (.cells #[.func (.func gt) #[] ct] 85)) (Star (blkA (w.heap.size + 1) (.cells #[.func (.func gp) #[] cp] 84)) (Star (blkA w.heap.size (.cells #[.pointer (some ⟨pb, 0, none⟩)] 25)) (Star (plA pb b fi (rd x).L (rd x).s) (Star (B x) R))))))) := Lib.hid (by
    have A1 := H.out.alloc SB (.cells #[.pointer (some ⟨pb, 0, none⟩)] 25)
    have T1 := stable_star (stable_blk w.heap.size (.cells #[.pointer (some ⟨pb, 0, none⟩)] 25)) SB
    have A2 := A1.alloc T1 (.cells #[.func (.func gp) #[] cp] 84)
    rw [size_alloc] at A2
    have T2 := stable_star (stable_blk (w.heap.size + 1) (.cells #[.func (.func gp) #[] cp] 84)) T1
    have A3 := A2.alloc T2 (.cells #[.func (.func gt) #[] ct] 85)
    rw [size_alloc, size_alloc] at A3
    have T3 := stable_star (stable_blk (w.heap.size + 1 + 1) (.cells #[.func (.func gt) #[] ct] 85)) T2
    have A4 := A3.alloc T3 (.cells #[Value.nilFunc] 144)
    rw [size_alloc, size_alloc, size_alloc] at A4
    exact A4)
  have T4 := Lib.hid (stable_star (stable_blk (w.heap.size + 1 + 1) (.cells #[.func (.func gt) #[] ct] 85)) (stable_star (stable_blk (w.heap.size + 1) (.cells #[.func (.func gp) #[] cp] 84)) (stable_star (stable_blk w.heap.size (.cells #[.pointer (some ⟨pb, 0, none⟩)] 25)) SB)))
  clear H S3
  generalize (World.alloc _ (.cells #[Value.nilFunc] 144)) = w4 at *
  generalize w.heap.size + 1 + 1 + 1 = xv at *
  generalize w.heap.size + 1 + 1 = xt at *
  generalize w.heap.size + 1 = xg at *
  generalize w.heap.size = xp at *
  have c0 := blk_cell K4.out.blk 0 (v := Value.nilFunc) rfl
  have f0 := blk_frozen K4.out.blk 0
  have K5 := Lib.hid (K4.out.set T4.out 0 (visV xp xg xv xt))
  have qs : ∀ (a : Addr) (w : World), (store a (visV xp xg xv xt)).run Tryz.prog w = stored Tryz.prog w a (visV xp xg xv xt) .plain := fun a w => run_store Tryz.prog w a _ .plain rfl
  go_upto_region 3 with fail
  have c1 : (w4.setCell ⟨xv, 0, none⟩ (visV xp xg xv xt)).cell? ⟨xv, 0, none⟩ = some (visV xp xg xv xt) := blk_cell K5.out.blk 0 rfl
  have K6 : RowKit.Hid (Own w0 (w4.setCell ⟨xv, 0, none⟩ (visV xp xg xv xt)) (Star (plA pb b fi (rd x).L (rd x).s) (Star (B x) (eachA xp xg xv xt pb (.func (.func gp) #[] cp) (.func (.func gt) #[] ct) R)))) := Lib.hid (K5.out.mono (fun F h => by
    -- visit, table, page, p, pool, B, R
    have h1 := st5 h
    refine star_mono_r (fun F h => ?_) h1
    have h2 := st5 h
    refine star_mono_r (fun F h => ?_) h2
    have h3 := st4 h
    refine star_mono_r (fun F h => ?_) h3
    exact st3 h))
  clear K4 K5 c0 f0
  generalize (w4.setCell ⟨xv, 0, none⟩ (visV xp xg xv xt)) = w5 at *
  have V3 := Lib.hid (V2.out xp xg xv xt w5 K6.out)
  go_wp2_with (go_at_call 75; refine V3.out.mono ?_; rintro e w6 ⟨rfl, h6, ok6⟩; have H6 := Lib.hid h6; have OK6 := Lib.hid ok6; clear h6 ok6)
  trace_state
  go_end0
  exact ⟨rfl, H6.out.mono (fun F h => star_mono_r (fun F h => star_drop2 (star_drop2 (star_drop2 (star_drop2 h)))) h), OK6.out⟩
end Go.Proofs.YtbcnibnkojnpiaaGreat.P
namespace Go.Proofs.YtbcnibnkojnpiaaGreat.P
open Go.RowKit Go.MuLone Go.Maps
theorem star_assoc {A B C : Asn} {w : World} {F : Nat → Prop} (h : Star (Star A B) C w F) : Star A (Star B C) w F := by
  obtain ⟨F1, F2, ⟨G1, G2, a, b, hd1, s1, s2⟩, c, hd, t1, t2⟩ := h
  exact ⟨G1, fun x => G2 x ∨ F2 x, a, ⟨G2, F2, b, c, fun x hx hy => hd x (s2 x hx) hy, fun x h => .inl h, fun x h => .inr h⟩, fun x hx hy => hy.elim (hd1 x hx) (hd x (s1 x hx)), fun x hx => t1 x (s1 x hx), fun x hx => hx.elim (fun e => t1 x (s2 x e)) (t2 x)⟩
theorem star_unassoc {A B C : Asn} {w : World} {F : Nat → Prop} (h : Star A (Star B C) w F) : Star (Star A B) C w F := by
  obtain ⟨F1, F2, a, ⟨G1, G2, b, c, hd1, s1, s2⟩, hd, t1, t2⟩ := h
  exact ⟨fun x => F1 x ∨ G1 x, G2, ⟨F1, G1, a, b, fun x hx hy => hd x hx (s1 x hy), fun x h => .inl h, fun x h => .inr h⟩, c, fun x hx hy => hx.elim (fun e => hd x e (s2 x hy)) (fun e => hd1 x e hy), fun x hx => hx.elim (t1 x) (fun e => t2 x (s1 x e)), fun x hx => t2 x (s2 x hx)⟩
theorem intInfo : (Tryz.prog.info? 3).map (fun i => (i.zero, i.size, i.bytes)) = some (some (.int .i64 0), 1, 8) := by kernel_rfl
def ints (l : List Int) : List Value := l.map fun i => .int .i64 i
/-- A variable that holds a slice of numbers, its row one's own. -/
def outA (ob : Nat) (l : List Int) : Asn := fun w F => ∃ (o : Option Addr) (c : Nat), Star (blkA ob (.cells #[.slice o l.length c] 29)) (rowA 3 1 (.slice o l.length c) l.length (ints l)) w F
theorem stable_out (ob : Nat) (l : List Int) : Stable (outA ob l) := by
  rintro w w' F G ⟨o, c, h⟩ hc hg
  exact ⟨o, c, stable_star (stable_blk _ _) (stable_row _ _ _ _ _) w w' F G h hc hg⟩
theorem own_ex2 {w0 w : World} {A : Option Addr → Nat → Asn} {X R : Asn} (h : Own w0 w (Star X (Star (fun w F => ∃ o c, A o c w F) R))) : ∃ o c, Own w0 w (Star X (Star (A o c) R)) := by
  obtain ⟨F, ⟨F1, F2, a, ⟨G1, G2, ⟨o, c, b⟩, d, e1, e2, e3⟩, hd, s1, s2⟩, hb, g⟩ := h
  exact ⟨o, c, F, ⟨F1, F2, a, ⟨G1, G2, b, d, e1, e2, e3⟩, hd, s1, s2⟩, hb, g⟩
set_option maxHeartbeats 1600000 in
theorem o_pages1 {w0 w : World} {ob : Nat} {l : List Int} {A R : Asn} (h : Own w0 w (Star A (Star (outA ob l) R))) (hA : Stable A) (hR : Stable R) (hl : l.length < 100000) (n f g : Int) :
    Calls Tryz.prog 34 #[.int .i64 n, .int .i64 f, .int .u64 g, .pointer (some ⟨ob, 0, none⟩)] w fun e w' => e = .returned (.tuple #[]) ∧ Own w0 w' (Star A (Star (outA ob (l ++ [n])) R)) := by
  obtain ⟨o, c, h⟩ := own_ex2 (A := fun o c => Star (blkA ob (.cells #[.slice o l.length c] 29)) (rowA 3 1 (.slice o l.length c) l.length (ints l))) h
  have h2 : Own w0 w (Star (blkA ob (.cells #[.slice o l.length c] 29)) (Star (rowA 3 1 (.slice o l.length c) l.length (ints l)) (Star A R))) := h.mono (fun F h => star_mono_r (fun F h => star_swap2 h) (star_swap2 (star_mono_r (fun F h => star_assoc h) h)))
  have c0 := blk_cell h2.blk 0 (v := .slice o l.length c) rfl
  have SA := stable_star hA hR
  have HSA := Lib.hid SA
  have H2 := Lib.hid h2
  obtain ⟨i0, hi0, hz0, hz1, hz2⟩ := info_parts intInfo
  have hlen : (ints l).length = l.length := List.length_map _
  clear h h2 hA hR SA
  go_enter Tryz.func34, Tryz.ntmps34
  have H6 := Lib.hid (H2.out.gr (stable_star (stable_blk _ _) (stable_star (stable_row _ _ _ _ _) HSA.out)) ((Gr.refl _).alloc (Nat.le_refl _) (.cells #[.int .i64 n] 3)))
  have HROW := Lib.hid H6.out.right.row
  go_wp2_with (at_builtin; refine wpList_append_lies _ rfl _ _ _ rfl 0 3 i0 (.int .i64 0) 1 8 Tryz.underlying29 hi0 hz0 hz1 hz2 rfl (by omega) (.slice o l.length c) l.length (ints l) rfl HROW.out ⟨_, 0, none⟩ 1 1 [.int .i64 n] rfl rfl (World.news_of_block (cs := #[.int .i64 n]) (blk_new _ _)) (by simp [Value.oneCell']) (by omega) (by unfold maxLen; omega) (by omega) (by omega) (w.heap.size + 1) (by simp) ?_; intro g2 cap2 w8 hown8 hgrow8 hat8 hlt8; have H9 := Lib.hid (H6.out.swap2.grown (g := g2) (stable_star (stable_blk _ _) HSA.out) hown8 rfl hgrow8 (hat8.elim .inl (fun e => .inr (by simp; omega))) hlt8).swap2; have c8 := blk_cell H9.out.blk 0 (v := .slice o l.length c) rfl; have f8 := blk_frozen H9.out.blk 0; clear hown8 hgrow8 hat8 hlt8)
  go_end0
  have e1 : l.length + 1 = (l ++ [n]).length := by simp
  have e2 : ints l ++ [.int .i64 n] = ints (l ++ [n]) := by unfold ints; simp
  have H10 := H9.out.set (stable_star (stable_row _ _ _ _ _) HSA.out) 0 (.slice (some ⟨g2, 0, none⟩) (l.length + 1) cap2)
  rw [e2] at H10
  refine ⟨rfl, H10.mono (fun F h => star_mono_r (fun F h => ?_) (st3 h))⟩
  obtain ⟨F1, F2, a, b, d, s1, s2⟩ := star_unassoc h
  exact ⟨F1, F2, ⟨some ⟨g2, 0, none⟩, cap2, by rw [← e1]; exact a⟩, b, d, s1, s2⟩
theorem o_pages2 (w : World) (f : Int) : Calls Tryz.prog 35 #[.int .i64 f] w fun e w' => e = .returned (.tuple #[]) ∧ w' = w := by
  go_enter Tryz.func35, Tryz.ntmps35
  go_wp2_with fail
  go_end0
  exact ⟨rfl, rfl⟩
theorem cbs_pages (w0 : World) (pb b fi ob : Nat) : Cbs (X := Sp × List Int) (·.1) (fun x => outA ob x.2) (fun k x => x.2.length ≤ k) pb b fi (fun n _ _ x => (x.1, x.2 ++ [n])) (fun _ x => x) 34 35 #[.pointer (some ⟨ob, 0, none⟩)] #[] w0 := by
  refine ⟨fun x => stable_out _ _, fun k k' x h1 h2 => Nat.le_trans h1 h2, fun k x n f g h _ => ?_, fun k x f h _ => Nat.le_succ_of_le h, ?_, ?_, ?_, ?_⟩
  · show (x.2 ++ [n]).length ≤ k + 1
    rw [List.length_append]; exact Nat.succ_le_succ h
  · intro n f g w; simp [go_sem]
  · intro f w; simp [go_sem]
  · intro k x n f g w R hR hk hk2 _ _ _ h
    exact o_pages1 h (stable_pl _ _ _ _ _) hR (by omega) n f g
  · intro k x f w R hR hk hk2 _ h
    refine (o_pages2 w f).mono ?_
    rintro e w' ⟨rfl, rfl⟩
    exact ⟨rfl, h⟩
end Go.Proofs.YtbcnibnkojnpiaaGreat.P
namespace Go.Proofs.YtbcnibnkojnpiaaGreat.P
open Go.RowKit Go.MuLone Go.Maps
theorem rnd_inv {X : Type} {rd : X → Sp} {fi : Nat} {I : X → Prop} {fr fst : Int} {f : Int → Int → Int → X → X} (hf : ∀ n k g x, I x → I (f n k g x)) (i : Nat) (x : X) (h : I x) : I (rndX rd fi fr fst f i x) := by
  unfold rndX
  cases (validB (rd x).s (fr * 256 + i * 8) && tknB (rd x).L fi (validF (rd x).s (fr * 256 + i * 8)))
  · exact h
  · exact hf _ _ _ _ h
theorem lp_inv {X : Type} {rd : X → Sp} {fi : Nat} {I : X → Prop} {fr fst : Int} {f : Int → Int → Int → X → X} (hf : ∀ n k g x, I x → I (f n k g x)) : ∀ (k : Nat) (x : X), I x → I (lpX rd fi fr fst f k x)
  | 0, x, h => h
  | k + 1, x, h => rnd_inv hf k _ (lp_inv hf k x h)
theorem visX_inv {X : Type} {rd : X → Sp} {fi : Nat} {I : X → Prop} {pg : Int → Int → Int → X → X} {tb : Int → X → X} (hp : ∀ n f g x, I x → I (pg n f g x)) (ht : ∀ f x, I x → I (tb f x)) : ∀ (l : Nat) (fr fst : Int) (x : X), I x → I (visX rd fi pg tb l fr fst x)
  | 0, fr, fst, x, h => ht _ _ (lp_inv hp 32 x h)
  | l + 1, fr, fst, x, h => ht _ _ (lp_inv (fun n f g x h => visX_inv hp ht l f n x h) 32 x h)
theorem pages_same (fi : Nat) (z : Sp) (root : Int) : (pagesX fi z root).1 = z := by
  unfold pagesX
  generalize 2 = l
  refine visX_inv (I := fun x : Sp × List Int => x.1 = z) (fun n f g x h => ?_) (fun f x h => ?_) l root 0 (z, []) rfl <;> exact h
theorem count_same (fi : Nat) (z : Sp) (root : Int) : (countX fi z root).1 = z := by
  unfold countX
  generalize 2 = l
  refine visX_inv (I := fun x : Sp × Int => x.1 = z) (fun n f g x h => ?_) (fun f x h => ?_) l root 0 (z, 0) rfl <;> exact h
variable {w0 w : World} {pb b first : Nat} {z : Sp} {R : Asn}
/-- The answer of Pages: a slice, its row one's own. -/
def PagesP (w0 : World) (A : Asn) (l : List Int) (R : Asn) (e : Ending) (w' : World) : Prop :=
  ∃ (o : Option Addr) (c : Nat), e = .returned (.tuple #[.slice o l.length c, .int .i64 0]) ∧ Own w0 w' (Star A (Star (rowA 3 1 (.slice o l.length c) l.length (ints l)) R))
theorem o_pages (h : Own w0 w (Star (plA pb b first z.L z.s) R)) (hR : Stable R) (r : Int) (hr : i64 r) (ht : tknB z.L first r = true) :
    Calls Tryz.prog 11 #[.pointer (some ⟨pb, 0, none⟩), .int .i64 r] w (PagesP w0 (plA pb b first z.L z.s) (pagesX first z r).2 R) := by
  have hb := tkn_bd ht
  have hl := (o_plen h).2.2.1
  have TK := Lib.hid (o_ptaken h hR r hr true ht)
  have HR := Lib.hid hR
  have EA : RowKit.Hid (∀ (w : World) (ob : Nat), Own w0 w (Star (plA pb b first z.L z.s) (Star (outA ob []) R)) → Calls Tryz.prog 33 #[.pointer (some ⟨pb, 0, none⟩), .int .i64 r, .func (.func 34) #[] #[.pointer (some ⟨ob, 0, none⟩)], .func (.func 35) #[] #[]] w fun e w' =>
      e = .returned (.tuple #[]) ∧ Own w0 w' (Star (plA pb b first z.L z.s) (Star (outA ob (pagesX first z r).2) R))) := Lib.hid (fun w ob h => by
    refine (o_each (cbs_pages w0 pb b first ob) (z, []) r w R hR (Nat.zero_le _) ⟨by omega, by omega⟩ h).mono ?_
    rintro e w' ⟨rfl, h', _⟩
    have e1 := pages_same first z r
    have h' : Own w0 w' (Star (plA pb b first (pagesX first z r).1.L (pagesX first z r).1.s) (Star (outA ob (pagesX first z r).2) R)) := h'
    rw [e1] at h'
    exact ⟨rfl, h'⟩)
  generalize (pagesX first z r).2 = l at *
  have SP := Lib.hid (stable_star (stable_pl pb b first z.L z.s) hR)
  clear h hR hr ht hb hl
  go_enter Tryz.func11, Tryz.ntmps11
  go_upto_region 3 with (go_at_call 32; refine TK.out.mono ?_; rintro e w2 ⟨rfl, h2⟩; have H2 := Lib.hid h2; clear h2)
  clear TK
  go_upto_region 4 with fail
  have A1 := H2.out.alloc SP.out (.cells #[.slice none 0 0] 29)
  have A2 : RowKit.Hid (Own w0 (w2.alloc (.cells #[.slice none 0 0] 29)) (Star (plA pb b first z.L z.s) (Star (outA w2.heap.size []) R))) := Lib.hid (by
    have a := (A1.add (stable_star (stable_blk _ _) SP.out) (Gr.refl _) (A := rowA 3 1 (.slice none 0 0) 0 []) ⟨fun _ => False, ⟨⟨rfl, .inl ⟨rfl, rfl⟩⟩, fun b hb => by cases hb⟩, fun x hx => hx.elim⟩)
    refine a.mono (fun F h => star_mono_r (fun F h => ?_) (st3 h))
    obtain ⟨F1, F2, a, b, d, s1, s2⟩ := star_unassoc (star_swap2 h)
    exact ⟨F1, F2, ⟨none, 0, a⟩, b, d, s1, s2⟩)
  clear A1 H2
  generalize (World.alloc w2 _) = w3 at *
  generalize w2.heap.size = ob at *
  have E3 := Lib.hid (EA.out w3 ob A2.out)
  clear EA
  go_upto_region 5 with (go_at_call 33; refine E3.out.mono ?_; rintro e w4 ⟨rfl, h4⟩; have H4 := Lib.hid h4; clear h4)
  obtain ⟨o, c, h5⟩ := own_ex2 (A := fun o c => Star (blkA ob (.cells #[.slice o l.length c] 29)) (rowA 3 1 (.slice o l.length c) l.length (ints l))) H4.out
  have h6 : Own w0 w4 (Star (blkA ob (.cells #[.slice o l.length c] 29)) (Star (plA pb b first z.L z.s) (Star (rowA 3 1 (.slice o l.length c) l.length (ints l)) R))) := h5.mono (fun F h => star_swap2 (star_mono_r (fun F h => star_assoc h) h))
  have c0 := blk_cell h6.blk 0 (v := .slice o l.length c) rfl
  have H6 := Lib.hid h6.right
  clear h5 h6
  go_wp2_with fail
  go_ret2
  exact ⟨o, c, rfl, H6.out⟩
theorem o_pages_bad (h : Own w0 w (Star (plA pb b first z.L z.s) R)) (hR : Stable R) (r : Int) (hr : i64 r) (ht : tknB z.L first r = false) :
    Calls Tryz.prog 11 #[.pointer (some ⟨pb, 0, none⟩), .int .i64 r] w fun e w' => e = .returned (.tuple #[.slice none 0 0, .int .i64 1]) ∧ Own w0 w' (Star (plA pb b first z.L z.s) R) := by
  have TK := Lib.hid (o_ptaken h hR r hr false ht)
  clear h hR hr ht
  go_enter Tryz.func11, Tryz.ntmps11
  go_wp2_with (go_at_call 32; refine TK.out.mono ?_; rintro e w2 ⟨rfl, h2⟩; have H2 := Lib.hid h2; clear h2)
  go_ret2
  exact ⟨rfl, H2.out⟩
-- Free
abbrev giveV (xq : Nat) : Value := .func (.func 63) #[] #[.pointer (some ⟨xq, 0, none⟩)]
abbrev freeB (xq gb pb : Nat) : Asn := Star (blkA xq (.cells #[.pointer (some ⟨pb, 0, none⟩)] 25)) (blkA gb (.cells #[giveV xq] 85))
theorem o_free1 {xq gb : Nat} (h : Own w0 w (Star (plA pb b first z.L z.s) (Star (freeB xq gb pb) R))) (hR : Stable R) (f : Int) (hf : i64 f) :
    Calls Tryz.prog 63 #[.int .i64 f, .pointer (some ⟨xq, 0, none⟩)] w fun e w' => e = .returned (.tuple #[]) ∧ Own w0 w' (Star (plA pb b first (giveX first f z).L (giveX first f z).s) (Star (freeB xq gb pb) R)) := by
  have SB := stable_star (stable_star (stable_blk xq (.cells #[.pointer (some ⟨pb, 0, none⟩)] 25)) (stable_blk gb (.cells #[giveV xq] 85))) hR
  have c0 := blk_cell (h.mono (fun F h => star_assoc (star_swap2 h))).blk 0 (v := .pointer (some ⟨pb, 0, none⟩)) rfl
  obtain ⟨E, hE⟩ : ∃ E, giveE z.L first f = E := ⟨_, rfl⟩
  have G := Lib.hid (o_pgive h SB f hf E _ _ hE rfl rfl)
  clear h SB hR hf hE
  go_enter Tryz.func63, Tryz.ntmps63
  go_wp2_with (go_at_call 64; refine G.out.mono ?_; rintro e w2 ⟨rfl, h2⟩; have H2 := Lib.hid h2; clear h2)
  go_end0
  exact ⟨rfl, H2.out⟩
theorem o_free2 {xq gb : Nat} (h : Own w0 w (Star (plA pb b first z.L z.s) (Star (freeB xq gb pb) R))) (hR : Stable R) (n f g : Int) (hf : i64 f) :
    Calls Tryz.prog 65 #[.int .i64 n, .int .i64 f, .int .u64 g, .pointer (some ⟨gb, 0, none⟩)] w fun e w' => e = .returned (.tuple #[]) ∧ Own w0 w' (Star (plA pb b first (giveX first f z).L (giveX first f z).s) (Star (freeB xq gb pb) R)) := by
  have c0 := blk_cell (h.mono (fun F h => star_swap2 (star_assoc (star_swap2 h)))).blk 0 (v := giveV xq) rfl
  have G := Lib.hid (o_free1 h hR f hf)
  clear h hR hf
  go_enter Tryz.func65, Tryz.ntmps65
  go_wp2_with (go_at_call 63; refine G.out.mono ?_; rintro e w2 ⟨rfl, h2⟩; have H2 := Lib.hid h2; clear h2)
  go_end0
  exact ⟨rfl, H2.out⟩
theorem cbs_free (w0 : World) (pb b fi xq gb : Nat) : Cbs (X := Sp) id (fun x => freeB xq gb pb) (fun k x => True) pb b fi (fun _ f _ x => giveX fi f x) (fun f x => giveX fi f x) 65 63 #[.pointer (some ⟨gb, 0, none⟩)] #[.pointer (some ⟨xq, 0, none⟩)] w0 := by
  refine ⟨fun x => stable_star (stable_blk _ _) (stable_blk _ _), fun _ _ _ _ _ => trivial, fun _ _ _ _ _ _ _ => trivial, fun _ _ _ _ _ => trivial, ?_, ?_, ?_, ?_⟩
  · intro n f g w; simp [go_sem]
  · intro f w; simp [go_sem]
  · intro k x n f g w R hR hk hk2 _ hf _ h
    exact o_free2 h hR n f g ⟨by omega, by omega⟩
  · intro k x f w R hR hk hk2 hf h
    exact o_free1 h hR f ⟨by omega, by omega⟩
-- counting
theorem o_copy1 {A : Asn} {nb : Nat} {m : Int} (h : Own w0 w (Star A (Star (blkA nb (.cells #[.int .i64 m] 3)) R))) (hA : Stable A) (hR : Stable R) (n f g : Int) :
    Calls Tryz.prog 57 #[.int .i64 n, .int .i64 f, .int .u64 g, .pointer (some ⟨nb, 0, none⟩)] w fun e w' => e = .returned (.tuple #[]) ∧ Own w0 w' (Star A (Star (blkA nb (.cells #[.int .i64 (IntKind.i64.wrap (m + 1))] 3)) R)) := by
  obtain ⟨M, hM⟩ : ∃ M, IntKind.i64.wrap (m + 1) = M := ⟨_, rfl⟩
  rw [hM]
  have h2 := h.swap2
  have c0 := blk_cell h2.blk 0 (v := .int .i64 m) rfl
  have f0 := blk_frozen h2.blk 0
  have K := Lib.hid (h2.set (stable_star hA hR) 0 (.int .i64 M))
  clear h h2 hA hR
  go_enter Tryz.func57, Tryz.ntmps57
  go_wp2_with fail
  go_end0
  exact ⟨rfl, K.out.swap2⟩
theorem o_copy2 {A : Asn} {nb : Nat} {m : Int} (h : Own w0 w (Star A (Star (blkA nb (.cells #[.int .i64 m] 3)) R))) (hA : Stable A) (hR : Stable R) (f : Int) :
    Calls Tryz.prog 58 #[.int .i64 f, .pointer (some ⟨nb, 0, none⟩)] w fun e w' => e = .returned (.tuple #[]) ∧ Own w0 w' (Star A (Star (blkA nb (.cells #[.int .i64 (IntKind.i64.wrap (m + 1))] 3)) R)) := by
  obtain ⟨M, hM⟩ : ∃ M, IntKind.i64.wrap (m + 1) = M := ⟨_, rfl⟩
  rw [hM]
  have h2 := h.swap2
  have c0 := blk_cell h2.blk 0 (v := .int .i64 m) rfl
  have f0 := blk_frozen h2.blk 0
  have K := Lib.hid (h2.set (stable_star hA hR) 0 (.int .i64 M))
  clear h h2 hA hR
  go_enter Tryz.func58, Tryz.ntmps58
  go_wp2_with fail
  go_end0
  exact ⟨rfl, K.out.swap2⟩
theorem cbs_count (w0 : World) (pb b fi nb : Nat) : Cbs (X := Sp × Int) (·.1) (fun x => blkA nb (.cells #[.int .i64 x.2] 3)) (fun k x => True) pb b fi (fun _ _ _ x => (x.1, IntKind.i64.wrap (x.2 + 1))) (fun _ x => (x.1, IntKind.i64.wrap (x.2 + 1))) 57 58 #[.pointer (some ⟨nb, 0, none⟩)] #[.pointer (some ⟨nb, 0, none⟩)] w0 := by
  refine ⟨fun x => stable_blk _ _, fun _ _ _ _ _ => trivial, fun _ _ _ _ _ _ _ => trivial, fun _ _ _ _ _ => trivial, ?_, ?_, ?_, ?_⟩
  · intro n f g w; simp [go_sem]
  · intro f w; simp [go_sem]
  · intro k x n f g w R hR hk hk2 _ hf _ h
    exact o_copy1 h (stable_pl _ _ _ _ _) hR n f g
  · intro k x f w R hR hk hk2 hf h
    exact o_copy2 h (stable_pl _ _ _ _ _) hR f
end Go.Proofs.YtbcnibnkojnpiaaGreat.P
