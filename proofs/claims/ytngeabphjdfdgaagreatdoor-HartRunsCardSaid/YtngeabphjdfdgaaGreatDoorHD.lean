/- Stage 5: a hart's cells and a step's, plain. No condition. -/
import Derived.Test.YtngeabphjdfdgaaGreatDoorO
import Derived.Test.YtngeabphjdfdgaaGreatDoorON
import Derived.Test.YtngeabphjdfdgaaGreatDoorW5
import Derived.Test.YtngeabphjdfdgaaGreatDoorW11
import Derived.Deep.RegionWith
import Derived.StillTailTactics
set_option linter.unusedVariables false
set_option linter.unusedSimpArgs false
set_option maxRecDepth 100000
namespace Go.Proofs.YtngeabphjdfdgaaGreatDoor.P
open Go.RowKit
structure HS where
  X : Nat → Int
  pc : Int
  hd : Bool
  at_ : Int
structure EvS where
  k : Int
  ad : Int
  wr : Bool
structure InS where
  op : Int
  rd : Nat
  a : Nat
  b : Nat
  i : Int
def e0 : EvS := ⟨0, 0, false⟩
def xC (X : Nat → Int) : List Value := [.int .u64 (X 0), .int .u64 (X 1), .int .u64 (X 2), .int .u64 (X 3), .int .u64 (X 4), .int .u64 (X 5), .int .u64 (X 6), .int .u64 (X 7), .int .u64 (X 8), .int .u64 (X 9), .int .u64 (X 10), .int .u64 (X 11), .int .u64 (X 12), .int .u64 (X 13), .int .u64 (X 14), .int .u64 (X 15), .int .u64 (X 16), .int .u64 (X 17), .int .u64 (X 18), .int .u64 (X 19), .int .u64 (X 20), .int .u64 (X 21), .int .u64 (X 22), .int .u64 (X 23), .int .u64 (X 24), .int .u64 (X 25), .int .u64 (X 26), .int .u64 (X 27), .int .u64 (X 28), .int .u64 (X 29), .int .u64 (X 30), .int .u64 (X 31)]
def hC (H : HS) : Array Value := ⟨xC H.X ++ [.int .u64 H.pc, .bool H.hd, .int .u64 H.at_]⟩
def evV (e : EvS) : Value := .agg #[.int .i64 e.k, .int .u64 e.ad, .bool e.wr]
def upX (X : Nat → Int) (i : Nat) (v : Int) : Nat → Int := fun j => if j = i then v else X j
def HS.set (H : HS) (i : Nat) (v : Int) : HS := { H with X := upX H.X i v }
def HS.ok (H : HS) : Prop := (∀ i, i < 32 → u64 (H.X i)) ∧ u64 H.pc ∧ u64 H.at_
/-- A step's cells. -/
def sC (I : InS) (a b m : Int) (A : HS) (e : EvS) (ld st : Value) : Array Value :=
  ⟨[.int .i64 I.op, .int .i64 (I.rd : Int), .int .i64 (I.a : Int), .int .i64 (I.b : Int), .int .i64 I.i, .int .u64 a, .int .u64 b, .int .u64 m] ++ xC A.X ++ [.int .u64 A.pc, .bool A.hd, .int .u64 A.at_, .int .i64 e.k, .int .u64 e.ad, .bool e.wr, ld, st]⟩
theorem hC_size (H : HS) : (hC H).size = 35 := rfl
theorem sC_size (I : InS) (a b m : Int) (A : HS) (e : EvS) (ld st : Value) : (sC I a b m A e ld st).size = 48 := rfl
theorem thirty2 {p : Nat → Prop} (h0 : p 0) (h1 : p 1) (h2 : p 2) (h3 : p 3) (h4 : p 4) (h5 : p 5) (h6 : p 6) (h7 : p 7) (h8 : p 8) (h9 : p 9) (h10 : p 10) (h11 : p 11) (h12 : p 12) (h13 : p 13) (h14 : p 14) (h15 : p 15) (h16 : p 16) (h17 : p 17) (h18 : p 18) (h19 : p 19) (h20 : p 20) (h21 : p 21) (h22 : p 22) (h23 : p 23) (h24 : p 24) (h25 : p 25) (h26 : p 26) (h27 : p 27) (h28 : p 28) (h29 : p 29) (h30 : p 30) (h31 : p 31) : ∀ i, i < 32 → p i
  | 0, _ => h0
  | 1, _ => h1
  | 2, _ => h2
  | 3, _ => h3
  | 4, _ => h4
  | 5, _ => h5
  | 6, _ => h6
  | 7, _ => h7
  | 8, _ => h8
  | 9, _ => h9
  | 10, _ => h10
  | 11, _ => h11
  | 12, _ => h12
  | 13, _ => h13
  | 14, _ => h14
  | 15, _ => h15
  | 16, _ => h16
  | 17, _ => h17
  | 18, _ => h18
  | 19, _ => h19
  | 20, _ => h20
  | 21, _ => h21
  | 22, _ => h22
  | 23, _ => h23
  | 24, _ => h24
  | 25, _ => h25
  | 26, _ => h26
  | 27, _ => h27
  | 28, _ => h28
  | 29, _ => h29
  | 30, _ => h30
  | 31, _ => h31
  | n + 32, h => absurd h (by omega)
theorem hC_x (H : HS) (i : Nat) (h : i < 32) : (hC H)[i]? = some (.int .u64 (H.X i)) := thirty2 (p := fun i => (hC H)[i]? = some (.int .u64 (H.X i))) rfl rfl rfl rfl rfl rfl rfl rfl rfl rfl rfl rfl rfl rfl rfl rfl rfl rfl rfl rfl rfl rfl rfl rfl rfl rfl rfl rfl rfl rfl rfl rfl i h
theorem hC_setx (H : HS) (v : Int) (i : Nat) (h : i < 32) : (hC H).setIfInBounds i (.int .u64 v) = hC (H.set i v) := thirty2 (p := fun i => (hC H).setIfInBounds i (.int .u64 v) = hC (H.set i v)) rfl rfl rfl rfl rfl rfl rfl rfl rfl rfl rfl rfl rfl rfl rfl rfl rfl rfl rfl rfl rfl rfl rfl rfl rfl rfl rfl rfl rfl rfl rfl rfl i h
theorem sC_x (I : InS) (a b m : Int) (A : HS) (e : EvS) (ld st : Value) (i : Nat) (h : i < 32) : (sC I a b m A e ld st)[8 + i]? = some (.int .u64 (A.X i)) := thirty2 (p := fun i => (sC I a b m A e ld st)[8 + i]? = some (.int .u64 (A.X i))) rfl rfl rfl rfl rfl rfl rfl rfl rfl rfl rfl rfl rfl rfl rfl rfl rfl rfl rfl rfl rfl rfl rfl rfl rfl rfl rfl rfl rfl rfl rfl rfl i h
theorem sC_setx (I : InS) (a b m : Int) (A : HS) (e : EvS) (ld st : Value) (v : Int) (i : Nat) (h : i < 32) : (sC I a b m A e ld st).setIfInBounds (8 + i) (.int .u64 v) = sC I a b m (A.set i v) e ld st := thirty2 (p := fun i => (sC I a b m A e ld st).setIfInBounds (8 + i) (.int .u64 v) = sC I a b m (A.set i v) e ld st) rfl rfl rfl rfl rfl rfl rfl rfl rfl rfl rfl rfl rfl rfl rfl rfl rfl rfl rfl rfl rfl rfl rfl rfl rfl rfl rfl rfl rfl rfl rfl rfl i h
theorem upX_ok {X : Nat → Int} (h : ∀ i, i < 32 → u64 (X i)) (k : Nat) {v : Int} (hv : u64 v) : ∀ i, i < 32 → u64 (upX X k v i) := by
  intro i hi
  unfold upX
  split
  · exact hv
  · exact h i hi
theorem HS.set_ok {H : HS} (h : H.ok) (k : Nat) {v : Int} (hv : u64 v) : (H.set k v).ok := ⟨upX_ok h.1 k hv, h.2.1, h.2.2⟩
theorem hC_all1 (H : HS) : (hC H).all (·.oneCell') = true := by simp [hC, xC, Value.oneCell']
theorem hC_szs (H K : HS) : (hC H).size = (hC K).size := rfl
end Go.Proofs.YtngeabphjdfdgaaGreatDoor.P
namespace Go.Proofs.YtngeabphjdfdgaaGreatDoor.P
open Go.RowKit Go.Proofs.YtngeabphjdfdgaaGreatDoor.W
def w64 (a : Int) : Int := a % 18446744073709551616
/-- The physical address of an access, and whether it may be. -/
def rchV (fr : Nat) (s : List UInt8) (r a n acc : Int) : Int := if a % n = 0 then walkV fr s r a acc else 0
def rchB (fr : Nat) (s : List UInt8) (r a n acc : Int) : Bool := decide (a % n = 0) && decide (walkR fr s r a acc = 0)
structure DS where
  A : HS
  e : EvS
  s : List UInt8
def aluL : List Int := [35, 38, 39, 40, 43, 44, 37, 41, 42, 45, 47, 48, 49]
def holdF (op a b : Int) : Bool :=
  if op = 5 then decide (a = b) else if op = 6 then !decide (a = b) else if op = 7 then decide (s64 a < s64 b) else if op = 8 then !decide (s64 a < s64 b) else if op = 9 then decide (a < b) else !decide (a < b)
def jumpF (A : HS) (s : List UInt8) (tg : Int) : DS := if tg % 4 = 0 then ⟨{ A with pc := tg }, e0, s⟩ else ⟨A, ⟨4, tg, false⟩, s⟩
def loadF (fr : Nat) (s : List UInt8) (r op : Int) (rd : Nat) (p n : Int) (A : HS) : DS :=
  if rchB fr s r p n 1 = true then ⟨A.set rd (if op ≤ 14 then sgnF (loadV s (rchV fr s r p n 1) n) (8 * n) else loadV s (rchV fr s r p n 1) n), e0, s⟩ else ⟨A, ⟨5, p, false⟩, s⟩
def storF (fr : Nat) (s : List UInt8) (r p n b : Int) (A : HS) : DS :=
  if rchB fr s r p n 2 = true then ⟨A, ⟨0, rchV fr s r p n 2, true⟩, storeS s (rchV fr s r p n 2) n b⟩ else ⟨A, ⟨6, p, false⟩, s⟩
def moveF (fr : Nat) (s : List UInt8) (r op : Int) (rd : Nat) (p b : Int) (A : HS) : DS :=
  if 18 ≤ op then storF fr s r p (2 ^ (op - 18).toNat) b A else loadF fr s r op rd p (2 ^ ((op - 11) % 4).toNat) A
def lrF (fr : Nat) (s : List UInt8) (r : Int) (rd : Nat) (p n : Int) (A : HS) : DS :=
  if rchB fr s r p n 1 = true then ⟨{ A.set rd (sgnF (loadV s (rchV fr s r p n 1) n) (8 * n)) with hd := true, at_ := rchV fr s r p n 1 }, e0, s⟩ else ⟨A, ⟨5, p, false⟩, s⟩
def scF (fr : Nat) (s : List UInt8) (r : Int) (rd : Nat) (p n b : Int) (A : HS) : DS :=
  if rchB fr s r p n 2 = true then
    (if (A.hd && decide (A.at_ = rchV fr s r p n 2)) = true then ⟨{ A.set rd 0 with hd := false, at_ := 0 }, ⟨0, rchV fr s r p n 2, true⟩, storeS s (rchV fr s r p n 2) n b⟩
    else ⟨{ A.set rd 1 with hd := false, at_ := 0 }, e0, s⟩)
  else ⟨A, ⟨6, p, false⟩, s⟩
def amF (fr : Nat) (s : List UInt8) (r op : Int) (rd : Nat) (p n b : Int) (A : HS) : DS :=
  if rchB fr s r p n 1 = true then
    (if rchB fr s r p n 2 = true then ⟨A.set rd (sgnF (loadV s (rchV fr s r p n 1) n) (8 * n)), ⟨0, rchV fr s r p n 2, true⟩, storeS s (rchV fr s r p n 2) n (amoV op (loadV s (rchV fr s r p n 1) n) b)⟩
    else ⟨A, ⟨6, p, false⟩, s⟩)
  else ⟨A, ⟨6, p, false⟩, s⟩
def atomF (fr : Nat) (s : List UInt8) (r op : Int) (rd : Nat) (p b : Int) (A : HS) : DS :=
  if op = 66 then lrF fr s r rd p 4 A else if op = 77 then lrF fr s r rd p 8 A else if op = 67 then scF fr s r rd p 4 b A else if op = 78 then scF fr s r rd p 8 b A
  else if op ≤ 76 then amF fr s r op rd p 4 b A else amF fr s r op rd p 8 b A
/-- What an instruction does that stands at pc. -/
def doF (fr : Nat) (s : List UInt8) (r : Int) (op : Int) (rd : Nat) (a b m pc : Int) (A : HS) : DS :=
  if op = 1 then ⟨A.set rd m, e0, s⟩
  else if op = 2 then ⟨A.set rd (w64 (pc + m)), e0, s⟩
  else if op = 3 then jumpF (A.set rd (w64 (pc + 4))) s (w64 (pc + m))
  else if op = 4 then jumpF (A.set rd (w64 (pc + 4))) s (w64 (a + m) / 2 * 2)
  else if op ≤ 10 then (if holdF op a b = true then jumpF A s (w64 (pc + m)) else ⟨A, e0, s⟩)
  else if op ≤ 21 then moveF fr s r op rd (w64 (a + m)) b A
  else if op ≤ 34 then ⟨A.set rd (reckV (aluL.getD (op - 22).toNat 0) a m), e0, s⟩
  else if op ≤ 62 then ⟨A.set rd (reckV op a b), e0, s⟩
  else if op = 63 then ⟨A, e0, s⟩
  else if op = 64 then ⟨A, ⟨1, 0, false⟩, s⟩
  else if op = 65 then ⟨A, ⟨2, 0, false⟩, s⟩
  else atomF fr s r op rd a b A
end Go.Proofs.YtngeabphjdfdgaaGreatDoor.P
namespace Go.Proofs.YtngeabphjdfdgaaGreatDoor.P
open Go.RowKit Go.MuLone
theorem Own.set {w0 w : World} {B : Nat} {cs : Array Value} {T : TypeId} {R : Asn} (h : Own w0 w (Star (blkA B (.cells cs T)) R)) (hR : Stable R) (i : Nat) (v : Value) : Own w0 (w.setCell ⟨B, i, none⟩ v) (Star (blkA B (.cells (cs.setIfInBounds i v) T)) R) :=
  h.step hR (fun F hF => ⟨fun x => x = B, ⟨rfl, blk_set hF.2 i v⟩, fun x hx => ⟨.inl (by rw [hx]; exact hF.1), by rw [hx, size_setCell]; exact blk_lt hF.2⟩, Ch.setCell (Ch.refl _ _) (.inl hF.1) v⟩)
theorem gr_dN2 (w : World) (n : Nat) : Gr w (w.drewN n) := Gr.drewN (Gr.refl _) n
theorem walk_yes {fr : Nat} {s : List UInt8} {r a acc : Int} (ha : u64 a) (h : walkR fr s r a acc = 0) : walkV fr s r a acc = walkE fr s r a / 1024 * 256 + a % 256 ∧ 0 ≤ walkE fr s r a ∧ walkE fr s r a / 1024 < fr := by
  have hw : W.word (walkE fr s r a) := ent_word s _
  have hv : walkV fr s r a acc = walkE fr s r a / 1024 * 256 + a % 256 := by unfold walkV; rw [h]; rfl
  refine ⟨hv, hw.1, ?_⟩
  unfold walkR at h
  cases h1 : decide (neededI acc = 0) with
  | true => rw [h1] at h; cases h
  | false =>
    rw [h1, cond_false] at h
    cases h2 : decide (leafR fr s r a = 0) with
    | false => rw [h2, cond_false] at h; exact absurd h (of_decide_eq_false h2)
    | true =>
      rw [h2, cond_true] at h
      cases h3 : mayB (neededI acc) (walkE fr s r a) && decide (walkE fr s r a / 1024 < fr) with
      | false => rw [h3] at h; cases h
      | true =>
        rw [Bool.and_eq_true, decide_eq_true_eq] at h3
        exact h3.2
theorem walk_u64 {fr : Nat} (hf : fr ≤ 256) {s : List UInt8} {r a acc : Int} (ha : u64 a) : u64 (walkV fr s r a acc) ∧ walkV fr s r a acc < 65536 := by
  cases hx : decide (walkR fr s r a acc = 0) with
  | true =>
    obtain ⟨h1, h2, h3⟩ := walk_yes ha (of_decide_eq_true hx)
    rw [h1]
    generalize walkE fr s r a = E at *
    have := ha.1
    refine ⟨⟨by omega, by omega⟩, by omega⟩
  | false =>
    have : walkV fr s r a acc = 0 := by unfold walkV; rw [hx]; rfl
    rw [this]
    exact ⟨⟨by decide, by decide⟩, by decide⟩
theorem rch_u64 {fr : Nat} (hf : fr ≤ 256) {s : List UInt8} {r a n acc : Int} (ha : u64 a) : u64 (rchV fr s r a n acc) ∧ rchV fr s r a n acc < 65536 := by
  unfold rchV
  split
  · exact walk_u64 hf ha
  · exact ⟨⟨by decide, by decide⟩, by decide⟩
theorem o_reach {w0 w : World} {b fr : Nat} {s : List UInt8} {R : Asn} (h : Own w0 w (Star (memA b fr s) R)) (hR : Stable R) (r a n acc : Int) (ha : u64 a) (hr : i64 r) (hn : n = 1 ∨ n = 2 ∨ n = 4 ∨ n = 8) (v : Int) (c : Bool) (hv : rchV fr s r a n acc = v) (hc : rchB fr s r a n acc = c) :
    Calls Tryz.prog 16 #[.pointer (some ⟨b, 0, none⟩), .int .i64 r, .int .u64 a, .int .i64 n, .int .i64 acc] w fun e w' => e = .returned (.tuple #[.int .u64 v, .bool c]) ∧ Own w0 w' (Star (memA b fr s) R) := by
  subst hv; subst hc
  have C := o_mwalk h hR r a acc _ _ ha hr rfl rfl
  unfold rchV rchB
  have H := Lib.hid h
  clear h
  obtain ⟨x, hx⟩ : ∃ x, walkR fr s r a acc = x := ⟨_, rfl⟩
  rw [hx] at C ⊢
  generalize walkV fr s r a acc = V at *
  have b0 := ha.1
  have b1 := ha.2
  have hm : a % n = 0 ∨ ¬ a % n = 0 := by omega
  rcases hm with hm | hm
  · rw [if_pos hm, decide_eq_true hm, Bool.true_and]
    have hd : decide (x = 0) = (x == 0) := rfl
    rcases hn with rfl | rfl | rfl | rfl
    all_goals
      go_enter Tryz.func16, Tryz.ntmps16
      go_wp2_with (go_at_call 34; refine C.mono ?_; rintro e w' ⟨rfl, hO⟩)
      go_ret2
      exact ⟨by first | rfl | simp, hO⟩
  · rw [if_neg hm, decide_eq_false hm, Bool.false_and]
    rcases hn with rfl | rfl | rfl | rfl
    all_goals
      first
        | exact absurd (Int.emod_one a) hm
        | (go_enter Tryz.func16, Tryz.ntmps16
           go_wp2_with fail
           go_ret2
           exact ⟨rfl, H.out⟩)
end Go.Proofs.YtngeabphjdfdgaaGreatDoor.P
namespace Go.Proofs.YtngeabphjdfdgaaGreatDoor.P
open Go.RowKit Go.MuLone Go.Proofs.YtngeabphjdfdgaaGreatDoor.W
abbrev stA (sb : Nat) (I : InS) (a b m : Int) (A : HS) (e : EvS) (ld st : Value) : Asn := blkA sb (.cells (sC I a b m A e ld st) 67)
theorem o_set {w0 w : World} {sb : Nat} {I : InS} {a b m : Int} {A : HS} {e : EvS} {ld st : Value} {R : Asn} (h : Own w0 w (Star (stA sb I a b m A e ld st) R)) (hR : Stable R) (hrd : I.rd < 32) (v : Int) :
    Calls Tryz.prog 41 #[.pointer (some ⟨sb, 0, none⟩), .int .u64 v] w fun e' w' => e' = .returned (.tuple #[]) ∧ Own w0 w' (Star (stA sb I a b m (A.set I.rd v) e ld st) R) := by
  have c1 := blk_cell h.blk 1 (v := .int .i64 (I.rd : Int)) rfl
  have cx := blk_cell h.blk (8 + I.rd) (sC_x I a b m A e ld st I.rd hrd)
  have fx := blk_frozen h.blk (8 + I.rd)
  have hs := h.set hR (8 + I.rd) (.int .u64 v)
  rw [sC_setx I a b m A e ld st v I.rd hrd] at hs
  have HS := Lib.hid hs
  clear hs h
  have h1 : (I.rd : Int) < 32 := by omega
  generalize I.rd = k at *
  go_enter Tryz.func41, Tryz.ntmps41
  go_wp2_with fail
  go_still_tail 11, (by kernel_rfl)
  go_wp2_with fail
  go_end0
  exact ⟨rfl, HS.out.drew (stable_star (stable_blk _ _) hR)⟩
theorem o_jump {w0 w : World} {sb : Nat} {I : InS} {a b m : Int} {A : HS} {e : EvS} {ld st : Value} {R : Asn} (h : Own w0 w (Star (stA sb I a b m A e ld st) R)) (hR : Stable R) (tg : Int) (ht : u64 tg) (s : List UInt8) :
    Calls Tryz.prog 42 #[.pointer (some ⟨sb, 0, none⟩), .int .u64 tg] w fun e' w' => e' = .returned (.tuple #[]) ∧ Own w0 w' (Star (stA sb I a b m (jumpF A s tg).A (if tg % 4 = 0 then e else ⟨4, tg, false⟩) ld st) R) := by
  have c40 := blk_cell h.blk 40 (v := .int .u64 A.pc) rfl
  have f40 := blk_frozen h.blk 40
  have c43 := blk_cell h.blk 43 (v := .int .i64 e.k) rfl
  have c44 := blk_cell h.blk 44 (v := .int .u64 e.ad) rfl
  have c45 := blk_cell h.blk 45 (v := .bool e.wr) rfl
  have f43 := blk_frozen h.blk 43
  have f44 := blk_frozen h.blk 44
  have f45 := blk_frozen h.blk 45
  obtain ⟨t0, t1⟩ := ht
  have hm : tg % 4 = 0 ∨ ¬ tg % 4 = 0 := by omega
  rcases hm with hm | hm
  · unfold jumpF
    rw [if_pos hm, if_pos hm]
    have hs : Own w0 (w.setCell ⟨sb, 40, none⟩ (.int .u64 tg)) (Star (stA sb I a b m { A with pc := tg } e ld st) R) := h.set hR 40 (.int .u64 tg)
    have HS := Lib.hid hs
    clear hs h
    go_enter Tryz.func42, Tryz.ntmps42
    go_wp2_with fail
    go_end0
    exact ⟨rfl, HS.out⟩
  · unfold jumpF
    rw [if_neg hm, if_neg hm]
    have hs : Own w0 (((w.setCell ⟨sb, 43, none⟩ (.int .i64 4)).setCell ⟨sb, 44, none⟩ (.int .u64 tg)).setCell ⟨sb, 45, none⟩ (.bool false)) (Star (stA sb I a b m A ⟨4, tg, false⟩ ld st) R) := ((h.set hR 43 (.int .i64 4)).set hR 44 (.int .u64 tg)).set hR 45 (.bool false)
    have HS := Lib.hid hs
    clear hs h
    go_enter Tryz.func42, Tryz.ntmps42
    go_wp2_with fail
    refine bodyPost_ret (results_none rfl _ _ _) rfl ?_
    exact ⟨rfl, HS.out⟩
end Go.Proofs.YtngeabphjdfdgaaGreatDoor.P
