/- Stage 10: Give, Take. No condition. -/
import Derived.Test.YtbcnibnkojnpiaaF1
set_option linter.unusedVariables false
namespace Go.Proofs.Ytbcnibnkojnpiaa.P
open Go.RowKit Go.MuLone Go.Maps
theorem FreeO.put {D : DataW Unit} {first fr k : Nat} (h : FreeO D first fr) (h1 : first ≤ k) (h2 : k < fr) (h3 : hasI D k = false) : FreeO (D.put (.int .i64 k) u0) first fr := by
  refine ⟨h.1.put (key_i64 _) _, fun j hj => ?_, ?_⟩
  · rw [hasI_put D h.1.isMap] at hj
    by_cases e : j = (k : Int)
    · subst e; omega
    · rw [decide_eq_false e, Bool.false_or] at hj; exact h.2.1 j hj
  · rw [cnt_put D h.1.isMap first k h3, if_pos (show first ≤ k ∧ k < first + (fr - first) by omega), ← h.2.2, Maps.size_put h.1]
    unfold hasI at h3; rw [h3]; rfl
theorem FreeO.del {D : DataW Unit} {first fr k : Nat} (h : FreeO D first fr) (h1 : first ≤ k) (h2 : k < fr) (h3 : hasI D k = true) : FreeO (D.del (.int .i64 k)) first fr := by
  refine ⟨h.1.del _, fun j hj => ?_, ?_⟩
  · rw [hasI_del, Bool.and_eq_true] at hj; exact h.2.1 j hj.2
  · have a := cnt_del D first k h3 (fr - first)
    have b := Maps.size_del (k := .int .i64 k) h.1
    unfold hasI at h3
    rw [if_pos (show first ≤ k ∧ k < first + (fr - first) by omega)] at a
    rw [h3, if_pos rfl] at b
    have c := h.2.2
    omega
theorem FreeO.small {D : DataW Unit} {first fr : Nat} (h : FreeO D first fr) (hf : fr ≤ 256) : Maps.size D < maxLen := by
  have := cnt_le D first (fr - first)
  rw [h.2.2]; unfold maxLen; omega
theorem KeptP.of_gr {pb mb b : Nat} {y : Option Nat} {w w' : World} (h : Gr w w') : KeptP pb mb b y w w' y := ⟨Ch.of_gr h, .inl rfl⟩
/-- First a growing, then the map alone, then the memory alone. -/
theorem KeptP.of3 {pb mb b : Nat} {y y' : Option Nat} {w w1 w2 w3 : World} (g : Gr w w1) (h : Ch (fun x => some mb = some x) w1 w2) (k : KeptM b y w2 w3 y') : KeptP pb mb b y w w3 y' := by
  refine ⟨((Ch.of_gr g).trans (h.mono fun x e => ?_)).trans (k.1.mono fun x e => ?_), ?_⟩
  · injection e with e; exact .inr (.inl e.symm)
  · rcases e with e | e
    · exact .inr (.inr (.inl e))
    · exact .inr (.inr (.inr e))
  · rcases k.2 with e | ⟨e, z, e2, e3⟩
    · exact .inl e
    · exact .inr ⟨e, z, e2, by have := g.size; have := h.size; omega⟩
/-- An answer v; the pool with another set and another memory. -/
def PoolP (pb mb b : Nat) (y : Option Nat) (fr first : Nat) (D : DataW Unit) (s : List UInt8) (t : Int) (v : Value) (w : World) (e : Ending) (w' : World) : Prop :=
  e = .returned v ∧ ∃ y', PoolO w' pb mb b y' fr first D s t ∧ KeptP pb mb b y w w' y'
theorem taken_t {D : DataW Unit} {first fr k : Nat} (h1 : first ≤ k) (h2 : k < fr) (h3 : hasI D k = false) : takenB D first fr k = true := by
  unfold takenB; rw [decide_eq_true (show (first : Int) ≤ k by omega), decide_eq_true (show (k : Int) < fr by omega), h3]; rfl
theorem clearR_t {fr k : Nat} (h : k < fr) : clearR fr k = 0 := by
  unfold clearR; rw [if_pos (frB_t ⟨by omega, by omega⟩)]
set_option maxRecDepth 100000 in
theorem c_give_yes (pb mb b : Nat) (y : Option Nat) (fr first : Nat) (D : DataW Unit) (s : List UInt8) (t : Int) (w : World) (h : PoolO w pb mb b y fr first D s t) (k : Nat) (h1 : first ≤ k) (h2 : k < fr) (h3 : hasI D k = false) :
    Calls Try.prog 40 #[.pointer (some ⟨pb, 0, none⟩), .int .i64 k] w (PoolP pb mb b y fr first (D.put (.int .i64 k) u0) (clearS fr s k) t (.int .i64 0) w) := by
  have hfr : fr ≤ 256 := h.2.2.2.2.1.2.2.1
  have hi : i64 (k : Int) := ⟨by omega, by omega⟩
  have hkey := keyOf_int_mk Try.underlying3 (q := .i64) (a := (k : Int)) (by
    show (decide (-9223372036854775808 ≤ (k : Int)) && decide ((k : Int) ≤ 9223372036854775807)) = true
    rw [decide_eq_true hi.1, decide_eq_true hi.2]; rfl)
  have law := int_keyed (P := Try.prog) Try.underlying3
  have hT := c_taken pb mb b y fr first D s t w h k hi
  rw [taken_t h1 h2 h3] at hT
  have HT := Lib.hid hT
  have hsm := h.2.2.1.small hfr
  have HF := Lib.hid (h.2.2.1.put h1 h2 h3)
  have H := Lib.hid h
  have HR := Lib.hid (clearR_t h2)
  clear h hT h1 h2 h3 hi hfr
  go_enter Try.func40, Try.ntmps40
  go_wp2_with (first
    | (go_at_call 23; refine HT.out.mono ?_; rintro e w1 ⟨rfl, g1⟩
       have G1 := Lib.hid g1; have H1 := Lib.hid (H.out.keepG g1); clear g1
       have c2 := blk_cell H1.out.1 2 (v := .map (some mb)) rfl; have hown := H1.out.2.1)
    | (at_mapUpdate; refine wpList_mapUpdate_own _ rfl _ _ _ 53 rfl 3 87 law Try.underlying53 unitElem mb (Maps.size D) D rfl hown hsm _ _ (.int .i64 k) rfl rfl hkey (.agg []) [] unitElem_mk ?_
       intro w2 hown2 hgrow2
       have G2 := Lib.hid (Ch.of_grown hgrow2)
       have H2 := Lib.hid (H1.out.mapped G2.out hown2 HF.out); clear hown hown2 hgrow2 c2
       have c0 := blk_cell H2.out.1 0 (v := .pointer (some ⟨b, 0, none⟩)) rfl)
    | (go_at_call 54; refine (c_clear b y fr s t _ H2.out.2.2.2.2.1 k).mono ?_; rintro e w3 ⟨rfl, y', hM, hK⟩
       have HM := Lib.hid hM; have HK := Lib.hid hK; clear hM hK c0))
  go_ret
  exact ⟨by rw [HR.out]; rfl, y', H2.out.memed HK.out HM.out, KeptP.of3 G1.out G2.out HK.out⟩
set_option maxRecDepth 100000 in
theorem c_give_no (pb mb b : Nat) (y : Option Nat) (fr first : Nat) (D : DataW Unit) (s : List UInt8) (t : Int) (w : World) (h : PoolO w pb mb b y fr first D s t) (k : Int) (hi : i64 k) (h1 : takenB D first fr k = false) :
    Calls Try.prog 40 #[.pointer (some ⟨pb, 0, none⟩), .int .i64 k] w (PoolP pb mb b y fr first D s t (.int .i64 1) w) := by
  have hT := c_taken pb mb b y fr first D s t w h k hi
  rw [h1] at hT
  have HT := Lib.hid hT
  have H := Lib.hid h
  clear h hT h1 hi
  go_enter Try.func40, Try.ntmps40
  go_wp2_with (go_at_call 23; refine HT.out.mono ?_; rintro e w1 ⟨rfl, g1⟩
               have G1 := Lib.hid g1; clear g1)
  go_ret
  exact ⟨rfl, y, H.out.keepG G1.out, .of_gr G1.out⟩
set_option maxRecDepth 100000 in
theorem c_take_yes (pb mb b : Nat) (y : Option Nat) (fr first : Nat) (D : DataW Unit) (s : List UInt8) (t : Int) (w : World) (h : PoolO w pb mb b y fr first D s t) (k : Nat) (h1 : first ≤ k) (h2 : k < fr) (h3 : hasI D k = true) (h4 : ∀ j : Nat, first ≤ j → j < k → hasI D j = false) :
    Calls Try.prog 22 #[.pointer (some ⟨pb, 0, none⟩)] w (PoolP pb mb b y fr first (D.del (.int .i64 k)) (clearS fr s k) t (.tuple #[.int .i64 k, .int .i64 0]) w) := by
  have hfr : fr ≤ 256 := h.2.2.2.2.1.2.2.1
  have law := int_keyed (P := Try.prog) Try.underlying3
  have HK := Lib.hid (show ∀ j : Nat, j < 256 → keyOf Try.prog 3 (.int .i64 (j : Int)) = some (.int .i64 j) from fun j hj => keyOf_int_mk Try.underlying3 (q := .i64) (a := (j : Int)) (by
    show (decide (-9223372036854775808 ≤ (j : Int)) && decide ((j : Int) ≤ 9223372036854775807)) = true
    rw [decide_eq_true (by omega), decide_eq_true (by omega)]; rfl))
  have HF := Lib.hid (h.2.2.1.del h1 h2 h3)
  have H := Lib.hid h
  have HN := Lib.hid (And.intro h3 h4)
  have c1 := blk_cell h.1 1 (v := .int .i64 first) rfl
  clear h h3 h4
  go_enter Try.func22, Try.ntmps22
  go_wp2
  go_step3
  go_wp2
  go_step3
  go_wp2
  go_loopw [4] (fun v4 wr => ∃ j : Nat, first ≤ j ∧ j ≤ k ∧ v4 = .int .i64 j ∧ Gr w wr) (fun v4 _ => k - (intOf v4).toNat)
  case atStart => exact ⟨first, Nat.le_refl _, h1, rfl, Gr.refl _⟩
  case round =>
    clear c1
    obtain ⟨j, hj1, hj2, rfl, g⟩ := hrel
    have HR := Lib.hid (H.out.keepG g)
    have G := Lib.hid g
    clear g
    have c0 := blk_cell HR.out.1 0 (v := .pointer (some ⟨b, 0, none⟩)) rfl
    have c2 := blk_cell HR.out.1 2 (v := .map (some mb)) rfl
    have hown := HR.out.2.1
    have hkey := HK.out j (by omega)
    have hz := (Try.zeroValue87 wr)
    have dl : decide ((j : Int) < (fr : Int)) = true := decide_eq_true (by omega)
    by_cases hlt : j < k
    · have hh : Maps.has D (.int .i64 (j : Int)) = false := HN.out.2 j hj1 hlt
      go_wp2_with (first
        | (go_at_call 53; refine (c_frames b y fr s t _ HR.out.2.2.2.2.1).mono ?_; rintro e w' ⟨rfl, hw'⟩; have hq := hw'.symm; subst hq)
        | (at_lookup; refine wpList_lookup_own_unit _ rfl _ _ 53 rfl 3 87 law Try.underlying53 (Try.zeroValue87 _) mb (Maps.size D) D rfl hown _ _ rfl hkey ?_))
      go_roundw
      case rel => exact ⟨j + 1, by omega, by omega, by go_num, G.out.alloc G.out.size _⟩
      case measure => simp [intOf]; omega
    · obtain rfl : j = k := by omega
      have hh : Maps.has D (.int .i64 (j : Int)) = true := HN.out.1
      have HA := Lib.hid (show ∀ o, PoolO (wr.alloc o) pb mb b y fr first D s t from fun o => HR.out.keepG ((Gr.refl wr).alloc (Nat.le_refl _) o))
      have ca0 := fun o => blk_cell (HA.out o).1 0 (v := .pointer (some ⟨b, 0, none⟩)) rfl
      have ca2 := fun o => blk_cell (HA.out o).1 2 (v := .map (some mb)) rfl
      have dn : decide ((j : Int) = (fr : Int)) = false := decide_eq_false (by omega)
      go_wp2_with (first
        | (go_at_call 53; refine (c_frames b y fr s t _ HR.out.2.2.2.2.1).mono ?_; rintro e w' ⟨rfl, hw'⟩; have hq := hw'.symm; subst hq)
        | (at_lookup; refine wpList_lookup_own_unit _ rfl _ _ 53 rfl 3 87 law Try.underlying53 (Try.zeroValue87 _) mb (Maps.size D) D rfl hown _ _ rfl hkey ?_)
        | (go_at_call 53; refine (c_frames b y fr s t _ (HA.out _).2.2.2.2.1).mono ?_; rintro e w' ⟨rfl, hw'⟩; have hq := hw'.symm; subst hq)
        | (at_delete; refine wpList_delete_own _ rfl _ _ 53 3 rfl 87 law Try.underlying53 unitElem mb (Maps.size D) D rfl (HA.out _).2.1 _ _ rfl hkey ?_
           intro w2 hown2 hturn2
           have G2 := Lib.hid (Ch.of_grown hturn2.grown)
           have H2 := Lib.hid ((HA.out _).mapped G2.out hown2 HF.out); clear hown2 hturn2
           have c00 := blk_cell H2.out.1 0 (v := .pointer (some ⟨b, 0, none⟩)) rfl)
        | (go_at_call 54; refine (c_clear b y fr s t _ H2.out.2.2.2.2.1 j).mono ?_; rintro e w3 ⟨rfl, y', hM, hK⟩
           have HM := Lib.hid hM; have HK3 := Lib.hid hK; clear hM hK c00))
      try rw [Exit.noGoto_ret]
      go_ret2
      exact ⟨rfl, y', H2.out.memed HK3.out HM.out, KeptP.of3 (G.out.alloc G.out.size _) G2.out HK3.out⟩
end Go.Proofs.Ytbcnibnkojnpiaa.P
