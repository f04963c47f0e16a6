/- Stage 10: a pool in memory; Taken, Left, Mem, Give. No condition. -/
import Derived.Test.YtbcnibnkojnpiaaGreatR4
import Derived.Maps.OwnSet
import Derived.Maps.OwnOps
import Derived.WalkLawsBesides
set_option linter.unusedVariables false
namespace Go.Proofs.YtbcnibnkojnpiaaGreat.P
open Go.RowKit Go.MuLone Go.Maps
def hasI (D : DataW Unit) (k : Int) : Bool := Maps.has D (.int .i64 k)
def u0 : DataW Unit := .agg []
theorem key_i64 (t : Int) : WideAt.IsKeyLit (.int .i64 t) := by trivial
theorem hasI_put (D : DataW Unit) (hD : Maps.IsMap D) (a t : Int) : hasI (D.put (.int .i64 a) u0) t = (decide (t = a) || hasI D t) := by
  unfold hasI
  by_cases h : t = a
  · subst h; rw [Maps.has_put_same hD (key_i64 _)]; simp
  · rw [Maps.has_put_other (by simpa using h)]; simp [h]
theorem hasI_del (D : DataW Unit) (a t : Int) : hasI (D.del (.int .i64 a)) t = (!decide (t = a) && hasI D t) := by
  unfold hasI
  by_cases h : t = a
  · subst h; rw [Maps.has_del_same]; simp
  · rw [Maps.has_del_other (by simpa using h)]; simp [h]
/-- How many of the n numbers from a on are in the set. -/
def cntD (D : DataW Unit) (a : Nat) : Nat → Nat
  | 0 => 0
  | n + 1 => cntD D a n + (if hasI D ((a + n : Nat) : Int) = true then 1 else 0)
theorem cnt_le (D : DataW Unit) (a : Nat) : ∀ n, cntD D a n ≤ n
  | 0 => Nat.le_refl _
  | n + 1 => by have := cnt_le D a n; unfold cntD; split <;> omega
theorem cnt_put (D : DataW Unit) (hD : Maps.IsMap D) (a k : Nat) (hk : hasI D k = false) : ∀ n, cntD (D.put (.int .i64 k) u0) a n = cntD D a n + (if a ≤ k ∧ k < a + n then 1 else 0)
  | 0 => by rw [if_neg (by omega)]; rfl
  | n + 1 => by
    rw [cntD, cntD, cnt_put D hD a k hk n, hasI_put D hD]
    by_cases h2 : a + n = k
    · subst h2; rw [hk, if_neg (show ¬ (a ≤ a + n ∧ a + n < a + n) by omega), if_pos (show a ≤ a + n ∧ a + n < a + (n + 1) by omega)]; simp
    · have h : ¬ ((a + n : Nat) : Int) = (k : Int) := by omega
      rw [decide_eq_false h, Bool.false_or]
      by_cases h1 : a ≤ k ∧ k < a + n
      · rw [if_pos h1, if_pos (show a ≤ k ∧ k < a + (n + 1) by omega)]; omega
      · rw [if_neg h1, if_neg (show ¬ (a ≤ k ∧ k < a + (n + 1)) by omega)]; omega
theorem cnt_del (D : DataW Unit) (a k : Nat) (hk : hasI D k = true) : ∀ n, cntD (D.del (.int .i64 k)) a n + (if a ≤ k ∧ k < a + n then 1 else 0) = cntD D a n
  | 0 => by rw [if_neg (by omega)]; rfl
  | n + 1 => by
    have ih := cnt_del D a k hk n
    rw [cntD, cntD, hasI_del]
    by_cases h2 : a + n = k
    · rw [if_neg (by omega)] at ih
      rw [h2, hk, if_pos (show a ≤ k ∧ k < a + (n + 1) by omega)]; simp; omega
    · have h : ¬ ((a + n : Nat) : Int) = (k : Int) := by omega
      rw [decide_eq_false h, Bool.not_false, Bool.true_and]
      by_cases h1 : a ≤ k ∧ k < a + n
      · rw [if_pos h1] at ih; rw [if_pos (show a ≤ k ∧ k < a + (n + 1) by omega)]; omega
      · rw [if_neg h1] at ih; rw [if_neg (show ¬ (a ≤ k ∧ k < a + (n + 1)) by omega)]; omega
/-- A set of frames from first to fr. -/
def FreeO (D : DataW Unit) (first fr : Nat) : Prop := Maps.Tidy D ∧ (∀ k : Int, hasI D k = true → (first : Int) ≤ k ∧ k < fr) ∧ Maps.size D = cntD D first (fr - first)
def PoolO (w : World) (pb mb b : Nat) (y : Option Nat) (fr first : Nat) (D : DataW Unit) (s : List UInt8) (t : Int) : Prop :=
  w.heap[pb]? = some (.cells #[.pointer (some ⟨b, 0, none⟩), .int .i64 first, .map (some mb)] 82) ∧ w.ownsMap Tryz.prog 3 unitElem mb (Maps.size D) D ∧ FreeO D first fr ∧ first ≤ fr ∧
    MemO w b y fr s t ∧ mb ≠ pb ∧ Sep b y pb (some mb)
theorem own_tight {P : Program} {k : TypeId} {R : Value → Option (DataW Unit × List MemPlace)} {w : World} {b n : Nat} {D : DataW Unit} (h : w.ownsMap P k R b n D) : w.ownsMap P k R b (Maps.size D) D := by
  obtain ⟨es, cl, hb, hF, hs, rfl⟩ := h
  refine ⟨es, cl, hb, hF, ?_, rfl⟩
  rw [Maps.size_eq, length_read]
  exact Nat.le_refl _
theorem own_keep {S : Nat → Prop} {P : Program} {k : TypeId} {R : Value → Option (DataW Unit × List MemPlace)} {w w' : World} {b n : Nat} {D : DataW Unit} (h : w.ownsMap P k R b n D) (hc : Ch S w w') (hn : ¬ S b) : w'.ownsMap P k R b n D := by
  obtain ⟨es, cl, hb, hr⟩ := h
  exact ⟨es, cl, hc.blk hb hn, hr⟩
theorem own_lt {P : Program} {k : TypeId} {R : Value → Option (DataW Unit × List MemPlace)} {w : World} {b n : Nat} {D : DataW Unit} (h : w.ownsMap P k R b n D) : b < w.heap.size := by
  obtain ⟨es, cl, hb, hr⟩ := h; exact blk_lt hb
theorem Ch.of_grown {w w' : World} {row : Option Nat} (h : w.grownBy w' row) : Ch (fun x => row = some x) w w' := ⟨h.os, h.tape, h.output, h.size, fun k hk hs => h.block k hk (fun e => hs e.symm)⟩
theorem PoolO.keep {S : Nat → Prop} {w w' : World} {pb mb b : Nat} {y : Option Nat} {fr first : Nat} {D : DataW Unit} {s : List UInt8} {t : Int} (h : PoolO w pb mb b y fr first D s t) (hc : Ch S w w') (h1 : ¬ S pb) (h2 : ¬ S mb) (h3 : ¬ S b) (h4 : ∀ x, y = some x → ¬ S x) : PoolO w' pb mb b y fr first D s t := by
  obtain ⟨a1, a2, a3, a4, a5, a6, a7⟩ := h
  exact ⟨hc.blk a1 h1, own_keep a2 hc h2, a3, a4, a5.keep hc h3 h4, a6, a7⟩
theorem PoolO.keepG {w w' : World} {pb mb b : Nat} {y : Option Nat} {fr first : Nat} {D : DataW Unit} {s : List UInt8} {t : Int} (h : PoolO w pb mb b y fr first D s t) (g : Gr w w') : PoolO w' pb mb b y fr first D s t :=
  h.keep (S := fun _ => False) (Ch.of_gr g) (fun h => h) (fun h => h) (fun h => h) (fun _ _ h => h)
/-- Only the map turned. -/
theorem PoolO.mapped {w w' : World} {pb mb b : Nat} {y : Option Nat} {fr first : Nat} {D D' : DataW Unit} {n : Nat} {s : List UInt8} {t : Int} (h : PoolO w pb mb b y fr first D s t) (hc : Ch (fun x => some mb = some x) w w') (ho : w'.ownsMap Tryz.prog 3 unitElem mb n D') (hf : FreeO D' first fr) : PoolO w' pb mb b y fr first D' s t := by
  obtain ⟨a1, a2, a3, a4, a5, a6, a7⟩ := h
  refine ⟨hc.blk a1 (fun e => a6 (by injection e)), own_tight ho, hf, a4, a5.keep hc (fun e => ?_) (fun x hx e => ?_), a6, a7⟩
  · injection e with e; exact a7.2.2.1 (by rw [e])
  · exact a7.2.2.2 x hx e
/-- Only the memory turned. -/
theorem PoolO.memed {w w' : World} {pb mb b : Nat} {y y' : Option Nat} {fr first : Nat} {D : DataW Unit} {s s' : List UInt8} {t t' : Int} (h : PoolO w pb mb b y fr first D s t) (hk : KeptM b y w w' y') (hM : MemO w' b y' fr s' t') : PoolO w' pb mb b y' fr first D s' t' := by
  obtain ⟨a1, a2, a3, a4, a5, a6, a7⟩ := h
  have ho := a7.out
  exact ⟨hk.1.blk a1 ho.1, own_keep a2 hk.1 (ho.2 mb rfl), a3, a4, hM, a6, a7.step hk (blk_lt a1) (fun x hx => by injection hx with hx; rw [← hx]; exact own_lt a2)⟩
/-- What a call leaves of a pool. -/
def KeptP (pb mb b : Nat) (y : Option Nat) (w w' : World) (y' : Option Nat) : Prop := Ch (fun x => x = pb ∨ x = mb ∨ x = b ∨ y = some x) w w' ∧ (y' = y ∨ (y = none ∧ ∃ g, y' = some g ∧ w.heap.size ≤ g))
theorem c_left (pb mb b : Nat) (y : Option Nat) (fr first : Nat) (D : DataW Unit) (s : List UInt8) (t : Int) (w : World) (h : PoolO w pb mb b y fr first D s t) :
    Calls Tryz.prog 9 #[.pointer (some ⟨pb, 0, none⟩)] w fun e w' => e = .returned (.int .i64 (Maps.size D)) ∧ w' = w := by
  have c2 := blk_cell h.1 2 (v := .map (some mb)) rfl
  have hown := h.2.1
  clear h
  go_enter Tryz.func9, Tryz.ntmps9
  go_wp2_with (at_len; refine wpList_len_own _ rfl _ 80 rfl 3 105 Tryz.underlying80 unitElem mb (Maps.size D) D rfl hown ?_)
  go_ret
  exact ⟨rfl, rfl⟩
theorem c_mem (pb mb b : Nat) (y : Option Nat) (fr first : Nat) (D : DataW Unit) (s : List UInt8) (t : Int) (w : World) (h : PoolO w pb mb b y fr first D s t) :
    Calls Tryz.prog 42 #[.pointer (some ⟨pb, 0, none⟩)] w fun e w' => e = .returned (.pointer (some ⟨b, 0, none⟩)) ∧ w' = w := by
  have c0 := blk_cell h.1 0 (v := .pointer (some ⟨b, 0, none⟩)) rfl
  clear h
  go_enter Tryz.func42, Tryz.ntmps42
  go_wp2_with fail
  go_ret
  exact ⟨rfl, rfl⟩
def takenB (D : DataW Unit) (first fr : Nat) (k : Int) : Bool := decide ((first : Int) ≤ k) && decide (k < fr) && !(hasI D k)
set_option maxRecDepth 100000 in
theorem c_taken (pb mb b : Nat) (y : Option Nat) (fr first : Nat) (D : DataW Unit) (s : List UInt8) (t : Int) (w : World) (h : PoolO w pb mb b y fr first D s t) (k : Int) (hk : i64 k) :
    Calls Tryz.prog 32 #[.pointer (some ⟨pb, 0, none⟩), .int .i64 k] w fun e w' => e = .returned (.bool (takenB D first fr k)) ∧ Gr w w' := by
  have hkey := keyOf_int_mk Tryz.underlying3 (q := .i64) (a := k) (by
    show (decide (-9223372036854775808 ≤ k) && decide (k ≤ 9223372036854775807)) = true
    rw [decide_eq_true hk.1, decide_eq_true hk.2]; rfl)
  have law := int_keyed (P := Tryz.prog) Tryz.underlying3
  have c0 := blk_cell h.1 0 (v := .pointer (some ⟨b, 0, none⟩)) rfl
  have c1 := blk_cell h.1 1 (v := .int .i64 first) rfl
  have c2 := blk_cell h.1 2 (v := .map (some mb)) rfl
  have hown := h.2.1
  have HM := Lib.hid h.2.2.2.2.1
  clear h hk
  by_cases h1 : k < first
  · have d1 : decide (k < (first : Int)) = true := decide_eq_true h1
    have e : takenB D first fr k = false := by unfold takenB; rw [decide_eq_false (by omega)]; rfl
    rw [e]
    clear e h1
    go_enter Tryz.func32, Tryz.ntmps32
    go_wp2_with fail
    go_ret
    exact ⟨rfl, Gr.refl _⟩
  · have d1 : decide (k < (first : Int)) = false := decide_eq_false h1
    by_cases h2 : (fr : Int) ≤ k
    · have d2 : decide ((fr : Int) ≤ k) = true := decide_eq_true h2
      have e : takenB D first fr k = false := by unfold takenB; rw [decide_eq_false (show ¬ k < (fr : Int) by omega)]; simp
      rw [e]
      clear e h1 h2
      go_enter Tryz.func32, Tryz.ntmps32
      go_wp2_with (go_at_call 49; refine (c_frames b y fr s t _ HM.out).mono ?_; rintro e w' ⟨rfl, rfl⟩)
      go_ret
      exact ⟨rfl, Gr.refl _⟩
    · have d2 : decide ((fr : Int) ≤ k) = false := decide_eq_false h2
      have e : takenB D first fr k = !(hasI D k) := by unfold takenB; rw [decide_eq_true (show (first : Int) ≤ k by omega), decide_eq_true (show k < (fr : Int) by omega)]; rfl
      rw [e]
      clear e h1 h2
      unfold hasI
      go_enter Tryz.func32, Tryz.ntmps32
      go_wp2_with (first
        | (go_at_call 49; refine (c_frames b y fr s t _ HM.out).mono ?_; rintro e w' ⟨rfl, rfl⟩)
        | (at_lookup; refine wpList_lookup_own_unit _ rfl _ _ 80 rfl 3 105 law Tryz.underlying80 (Tryz.zeroValue105 _) mb (Maps.size D) D rfl hown _ _ rfl hkey ?_))
      go_ret
      exact ⟨rfl, (Gr.refl _).alloc (Nat.le_refl _) _⟩
end Go.Proofs.YtbcnibnkojnpiaaGreat.P
