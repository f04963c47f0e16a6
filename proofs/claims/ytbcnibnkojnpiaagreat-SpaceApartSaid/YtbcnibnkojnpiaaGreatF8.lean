/- Stage 10: Give, Take. No condition. -/
import Derived.Test.YtbcnibnkojnpiaaGreatF1
set_option linter.unusedVariables false
namespace Go.Proofs.YtbcnibnkojnpiaaGreat.P
open Go.RowKit Go.MuLone Go.Maps
theorem FreeO.put {D : DataW Unit} {first fr k : Nat} (h : FreeO D first fr) (h1 : first ≤ k) (h2 : k < fr) (h3 : hasI D k = false) : FreeO (D.put (.int .i64 k) u0) first fr := by
  refine ⟨h.1.put (key_i64 _) _, fun j hj => ?_, ?_⟩
  · rw [hasI_put D h.1.isMap] at hj
    by_cases e : j = (k : Int)
    · subst e; omega
    · rw [decide_eq_false e, Bool.false_or] at hj; exact h.2.1 j hj
  · rw [cnt_put D h.1.isMap first k h3, if_pos (show first ≤ k ∧ k < first + (fr - first) by omega), ← h.2.2, Maps.size_put h.1]
    unfold hasI at h3; rw [h3]; rfl
theorem FreeO.del {D : DataW Unit} {first fr k : Nat} (h : FreeO D first fr) (h1 : first ≤ k) (h2 : k < fr) (h3 : hasI D k = true) : FreeO (D.del (.int .i64 k)) first fr := by
  refine ⟨h.1.del _, fun j hj => ?_, ?_⟩
  · rw [hasI_del, Bool.and_eq_true] at hj; exact h.2.1 j hj.2
  · have a := cnt_del D first k h3 (fr - first)
    have b := Maps.size_del (k := .int .i64 k) h.1
    unfold hasI at h3
    rw [if_pos (show first ≤ k ∧ k < first + (fr - first) by omega)] at a
    rw [h3, if_pos rfl] at b
    have c := h.2.2
    omega
theorem FreeO.small {D : DataW Unit} {first fr : Nat} (h : FreeO D first fr) (hf : fr ≤ 256) : Maps.size D < maxLen := by
  have := cnt_le D first (fr - first)
  rw [h.2.2]; unfold maxLen; omega
theorem KeptP.of_gr {pb mb b : Nat} {y : Option Nat} {w w' : World} (h : Gr w w') : KeptP pb mb b y w w' y := ⟨Ch.of_gr h, .inl rfl⟩
/-- First a growing, then the map alone, then the memory alone. -/
theorem KeptP.of3 {pb mb b : Nat} {y y' : Option Nat} {w w1 w2 w3 : World} (g : Gr w w1) (h : Ch (fun x => some mb = some x) w1 w2) (k : KeptM b y w2 w3 y') : KeptP pb mb b y w w3 y' := by
  refine ⟨((Ch.of_gr g).trans (h.mono fun x e => ?_)).trans (k.1.mono fun x e => ?_), ?_⟩
  · injection e with e; exact .inr (.inl e.symm)
  · rcases e with e | e
    · exact .inr (.inr (.inl e))
    · exact .inr (.inr (.inr e))
  · rcases k.2 with e | ⟨e, z, e2, e3⟩
    · exact .inl e
    · exact .inr ⟨e, z, e2, by have := g.size; have := h.size; omega⟩
/-- An answer v; the pool with another set and another memory. -/
def PoolP (pb mb b : Nat) (y : Option Nat) (fr first : Nat) (D : DataW Unit) (s : List UInt8) (t : Int) (v : Value) (w : World) (e : Ending) (w' : World) : Prop :=
  e = .returned v ∧ ∃ y', PoolO w' pb mb b y' fr first D s t ∧ KeptP pb mb b y w w' y'
theorem taken_t {D : DataW Unit} {first fr k : Nat} (h1 : first ≤ k) (h2 : k < fr) (h3 : hasI D k = false) : takenB D first fr k = true := by
  unfold takenB; rw [decide_eq_true (show (first : Int) ≤ k by omega), decide_eq_true (show (k : Int) < fr by omega), h3]; rfl
theorem clearR_t {fr k : Nat} (h : k < fr) : clearR fr k = 0 := by
  unfold clearR; rw [if_pos (frB_t ⟨by omega, by omega⟩)]
set_option maxRecDepth 100000 in
theorem c_give_yes (pb mb b : Nat) (y : Option Nat) (fr first : Nat) (D : DataW Unit) (s : List UInt8) (t : Int) (w : World) (h : PoolO w pb mb b y fr first D s t) (k : Nat) (h1 : first ≤ k) (h2 : k < fr) (h3 : hasI D k = false) :
    Calls Tryz.prog 64 #[.pointer (some ⟨pb, 0, none⟩), .int .i64 k] w (PoolP pb mb b y fr first (D.put (.int .i64 k) u0) (clearS fr s k) t (.int .i64 0) w) := by
  have hfr : fr ≤ 256 := h.2.2.2.2.1.2.2.1
  have hi : i64 (k : Int) := ⟨by omega, by omega⟩
  have hkey := keyOf_int_mk Tryz.underlying3 (q := .i64) (a := (k : Int)) (by
    show (decide (-9223372036854775808 ≤ (k : Int)) && decide ((k : Int) ≤ 9223372036854775807)) = true
    rw [decide_eq_true hi.1, decide_eq_true hi.2]; rfl)
  have law := int_keyed (P := Tryz.prog) Tryz.underlying3
  have hT := c_taken pb mb b y fr first D s t w h k hi
  rw [taken_t h1 h2 h3] at hT
  have HT := Lib.hid hT
  have hsm := h.2.2.1.small hfr
  have HF := Lib.hid (h.2.2.1.put h1 h2 h3)
  have H := Lib.hid h
  have HR := Lib.hid (clearR_t h2)
  clear h hT h1 h2 h3 hi hfr
  go_enter Tryz.func64, Tryz.ntmps64
  go_wp2_with (first
    | (go_at_call 32; refine HT.out.mono ?_; rintro e w1 ⟨rfl, g1⟩
       have G1 := Lib.hid g1; have H1 := Lib.hid (H.out.keepG g1); clear g1
       have c2 := blk_cell H1.out.1 2 (v := .map (some mb)) rfl; have hown := H1.out.2.1)
    | (at_mapUpdate; refine wpList_mapUpdate_own _ rfl _ _ _ 80 rfl 3 105 law Tryz.underlying80 unitElem mb (Maps.size D) D rfl hown hsm _ _ (.int .i64 k) rfl rfl hkey (.agg []) [] unitElem_mk ?_
       intro w2 hown2 hgrow2
       have G2 := Lib.hid (Ch.of_grown hgrow2)
       have H2 := Lib.hid (H1.out.mapped G2.out hown2 HF.out); clear hown hown2 hgrow2 c2
       have c0 := blk_cell H2.out.1 0 (v := .pointer (some ⟨b, 0, none⟩)) rfl)
    | (go_at_call 84; refine (c_clear b y fr s t _ H2.out.2.2.2.2.1 k).mono ?_; rintro e w3 ⟨rfl, y', hM, hK⟩
       have HM := Lib.hid hM; have HK := Lib.hid hK; clear hM hK c0))
  go_ret
  exact ⟨by rw [HR.out]; rfl, y', H2.out.memed HK.out HM.out, KeptP.of3 G1.out G2.out HK.out⟩
set_option maxRecDepth 100000 in
theorem c_give_no (pb mb b : Nat) (y : Option Nat) (fr first : Nat) (D : DataW Unit) (s : List UInt8) (t : Int) (w : World) (h : PoolO w pb mb b y fr first D s t) (k : Int) (hi : i64 k) (h1 : takenB D first fr k = false) :
    Calls Tryz.prog 64 #[.pointer (some ⟨pb, 0, none⟩), .int .i64 k] w (PoolP pb mb b y fr first D s t (.int .i64 1) w) := by
  have hT := c_taken pb mb b y fr first D s t w h k hi
  rw [h1] at hT
  have HT := Lib.hid hT
  have H := Lib.hid h
  clear h hT h1 hi
  go_enter Tryz.func64, Tryz.ntmps64
  go_wp2_with (go_at_call 32; refine HT.out.mono ?_; rintro e w1 ⟨rfl, g1⟩
               have G1 := Lib.hid g1; clear g1)
  go_ret
  exact ⟨rfl, y, H.out.keepG G1.out, .of_gr G1.out⟩
set_option maxRecDepth 100000 in
theorem c_take_yes (pb mb b : Nat) (y : Option Nat) (fr first : Nat) (D : DataW Unit) (s : List UInt8) (t : Int) (w : World) (h : PoolO w pb mb b y fr first D s t) (k : Nat) (h1 : first ≤ k) (h2 : k < fr) (h3 : hasI D k = true) (h4 : ∀ j : Nat, first ≤ j → j < k → hasI D j = false) :
    Calls Tryz.prog 50 #[.pointer (some ⟨pb, 0, none⟩)] w (PoolP pb mb b y fr first (D.del (.int .i64 k)) (clearS fr s k) t (.tuple #[.int .i64 k, .int .i64 0]) w) := by
  have hfr : fr ≤ 256 := h.2.2.2.2.1.2.2.1
  have law := int_keyed (P := Tryz.prog) Tryz.underlying3
  have HK := Lib.hid (show ∀ j : Nat, j < 256 → keyOf Tryz.prog 3 (.int .i64 (j : Int)) = some (.int .i64 j) from fun j hj => keyOf_int_mk Tryz.underlying3 (q := .i64) (a := (j : Int)) (by
    show (decide (-9223372036854775808 ≤ (j : Int)) && decide ((j : Int) ≤ 9223372036854775807)) = true
    rw [decide_eq_true (by omega), decide_eq_true (by omega)]; rfl))
  have HF := Lib.hid (h.2.2.1.del h1 h2 h3)
  have H := Lib.hid h
  have HN := Lib.hid (And.intro h3 h4)
  have c1 := blk_cell h.1 1 (v := .int .i64 first) rfl
  clear h h3 h4
  go_enter Tryz.func50, Tryz.ntmps50
  go_wp2
  go_step3
  go_wp2
  go_step3
  go_wp2
  go_loopw [4] (fun v4 wr => ∃ j : Nat, first ≤ j ∧ j ≤ k ∧ v4 = .int .i64 j ∧ Gr w wr) (fun v4 _ => k - (intOf v4).toNat)
  case atStart => exact ⟨first, Nat.le_refl _, h1, rfl, Gr.refl _⟩
  case round =>
    clear c1
    obtain ⟨j, hj1, hj2, rfl, g⟩ := hrel
    have HR := Lib.hid (H.out.keepG g)
    have G := Lib.hid g
    clear g
    have c0 := blk_cell HR.out.1 0 (v := .pointer (some ⟨b, 0, none⟩)) rfl
    have c2 := blk_cell HR.out.1 2 (v := .map (some mb)) rfl
    have hown := HR.out.2.1
    have hkey := HK.out j (by omega)
    have hz := (Tryz.zeroValue105 wr)
    have dl : decide ((j : Int) < (fr : Int)) = true := decide_eq_true (by omega)
    by_cases hlt : j < k
    · have hh : Maps.has D (.int .i64 (j : Int)) = false := HN.out.2 j hj1 hlt
      go_wp2_with (first
        | (go_at_call 49; refine (c_frames b y fr s t _ HR.out.2.2.2.2.1).mono ?_; rintro e w' ⟨rfl, hw'⟩; have hq := hw'.symm; subst hq)
        | (at_lookup; refine wpList_lookup_own_unit _ rfl _ _ 80 rfl 3 105 law Tryz.underlying80 (Tryz.zeroValue105 _) mb (Maps.size D) D rfl hown _ _ rfl hkey ?_))
      go_roundw
      case rel => exact ⟨j + 1, by omega, by omega, by go_num, G.out.alloc G.out.size _⟩
      case measure => simp [intOf]; omega
    · obtain rfl : j = k := by omega
      have hh : Maps.has D (.int .i64 (j : Int)) = true := HN.out.1
      have HA := Lib.hid (show ∀ o, PoolO (wr.alloc o) pb mb b y fr first D s t from fun o => HR.out.keepG ((Gr.refl wr).alloc (Nat.le_refl _) o))
      have ca0 := fun o => blk_cell (HA.out o).1 0 (v := .pointer (some ⟨b, 0, none⟩)) rfl
      have ca2 := fun o => blk_cell (HA.out o).1 2 (v := .map (some mb)) rfl
      have dn : decide ((j : Int) = (fr : Int)) = false := decide_eq_false (by omega)
      go_wp2_with (first
        | (go_at_call 49; refine (c_frames b y fr s t _ HR.out.2.2.2.2.1).mono ?_; rintro e w' ⟨rfl, hw'⟩; have hq := hw'.symm; subst hq)
        | (at_lookup; refine wpList_lookup_own_unit _ rfl _ _ 80 rfl 3 105 law Tryz.underlying80 (Tryz.zeroValue105 _) mb (Maps.size D) D rfl hown _ _ rfl hkey ?_)
        | (go_at_call 49; refine (c_frames b y fr s t _ (HA.out _).2.2.2.2.1).mono ?_; rintro e w' ⟨rfl, hw'⟩; have hq := hw'.symm; subst hq)
        | (at_delete; refine wpList_delete_own _ rfl _ _ 80 3 rfl 105 law Tryz.underlying80 unitElem mb (Maps.size D) D rfl (HA.out _).2.1 _ _ rfl hkey ?_
           intro w2 hown2 hturn2
           have G2 := Lib.hid (Ch.of_grown hturn2.grown)
           have H2 := Lib.hid ((HA.out _).mapped G2.out hown2 HF.out); clear hown2 hturn2
           have c00 := blk_cell H2.out.1 0 (v := .pointer (some ⟨b, 0, none⟩)) rfl)
        | (go_at_call 84; refine (c_clear b y fr s t _ H2.out.2.2.2.2.1 j).mono ?_; rintro e w3 ⟨rfl, y', hM, hK⟩
           have HM := Lib.hid hM; have HK3 := Lib.hid hK; clear hM hK c00))
      try rw [Exit.noGoto_ret]
      go_ret2
      exact ⟨rfl, y', H2.out.memed HK3.out HM.out, KeptP.of3 (G.out.alloc G.out.size _) G2.out HK3.out⟩
end Go.Proofs.YtbcnibnkojnpiaaGreat.P
namespace Go.Proofs.YtbcnibnkojnpiaaGreat.P
open Go.RowKit Go.MuLone Go.Maps
theorem key_small (j : Nat) (hj : j < 256) : keyOf Tryz.prog 3 (.int .i64 (j : Int)) = some (.int .i64 j) :=
  keyOf_int_mk Tryz.underlying3 (q := .i64) (a := (j : Int)) (by
    show (decide (-9223372036854775808 ≤ (j : Int)) && decide ((j : Int) ≤ 9223372036854775807)) = true
    rw [decide_eq_true (by omega), decide_eq_true (by omega)]; rfl)
set_option maxRecDepth 100000 in
theorem c_take_no (pb mb b : Nat) (y : Option Nat) (fr first : Nat) (D : DataW Unit) (s : List UInt8) (t : Int) (w : World) (h : PoolO w pb mb b y fr first D s t) (h4 : ∀ j : Nat, first ≤ j → j < fr → hasI D j = false) :
    Calls Tryz.prog 50 #[.pointer (some ⟨pb, 0, none⟩)] w (PoolP pb mb b y fr first D s t (.tuple #[.int .i64 0, .int .i64 4]) w) := by
  have hfr : fr ≤ 256 := h.2.2.2.2.1.2.2.1
  have h1 : first ≤ fr := h.2.2.2.1
  have law := int_keyed (P := Tryz.prog) Tryz.underlying3
  have H := Lib.hid h
  have HN := Lib.hid h4
  have c1 := blk_cell h.1 1 (v := .int .i64 first) rfl
  clear h h4
  go_enter Tryz.func50, Tryz.ntmps50
  go_wp2
  go_step3
  go_wp2
  go_step3
  go_wp2
  go_loopw [4] (fun v4 wr => ∃ j : Nat, first ≤ j ∧ j ≤ fr ∧ v4 = .int .i64 j ∧ Gr w wr) (fun v4 _ => fr - (intOf v4).toNat)
  case atStart => exact ⟨first, Nat.le_refl _, h1, rfl, Gr.refl _⟩
  case round =>
    clear c1
    obtain ⟨j, hj1, hj2, rfl, g⟩ := hrel
    have HR := Lib.hid (H.out.keepG g)
    have G := Lib.hid g
    clear g
    have c0 := blk_cell HR.out.1 0 (v := .pointer (some ⟨b, 0, none⟩)) rfl
    have c2 := blk_cell HR.out.1 2 (v := .map (some mb)) rfl
    have hown := HR.out.2.1
    by_cases hlt : j < fr
    · have dl : decide ((j : Int) < (fr : Int)) = true := decide_eq_true (by omega)
      have hkey := key_small j (by omega)
      have hh : Maps.has D (.int .i64 (j : Int)) = false := HN.out j hj1 hlt
      go_wp2_with (first
        | (go_at_call 49; refine (c_frames b y fr s t _ HR.out.2.2.2.2.1).mono ?_; rintro e w' ⟨rfl, hw'⟩; have hq := hw'.symm; subst hq)
        | (at_lookup; refine wpList_lookup_own_unit _ rfl _ _ 80 rfl 3 105 law Tryz.underlying80 (Tryz.zeroValue105 _) mb (Maps.size D) D rfl hown _ _ rfl hkey ?_))
      go_roundw
      case rel => exact ⟨j + 1, by omega, by omega, by go_num, G.out.alloc G.out.size _⟩
      case measure => simp [intOf]; omega
    · obtain rfl : j = fr := by omega
      have dl : decide ((j : Int) < (j : Int)) = false := decide_eq_false (by omega)
      go_wp2_with (go_at_call 49; refine (c_frames b y j s t _ HR.out.2.2.2.2.1).mono ?_; rintro e w' ⟨rfl, hw'⟩; have hq := hw'.symm; subst hq)
      try rw [Exit.noGoto_ret]
      go_ret2
      exact ⟨rfl, y, HR.out, .of_gr G.out⟩
theorem n_take (w : World) : Calls Tryz.prog 50 #[.pointer none] w fun e w' => e = .returned (.tuple #[.int .i64 0, .int .i64 1]) ∧ w' = w := by
  go_enter Tryz.func50, Tryz.ntmps50
  go_wp2
  go_step3
  go_wp2
  try rw [Exit.noGoto_ret]
  go_ret2
  exact ⟨rfl, rfl⟩
theorem n_taken (w : World) (k : Int) : Calls Tryz.prog 32 #[.pointer none, .int .i64 k] w fun e w' => e = .returned (.bool false) ∧ w' = w := by
  go_enter Tryz.func32, Tryz.ntmps32
  go_wp2
  go_ret
  exact ⟨rfl, rfl⟩
theorem n_left (w : World) : Calls Tryz.prog 9 #[.pointer none] w fun e w' => e = .returned (.int .i64 0) ∧ w' = w := by
  go_enter Tryz.func9, Tryz.ntmps9
  go_wp2
  go_ret
  exact ⟨rfl, rfl⟩
theorem n_pmem (w : World) : Calls Tryz.prog 42 #[.pointer none] w fun e w' => e = .returned (.pointer none) ∧ w' = w := by
  go_enter Tryz.func42, Tryz.ntmps42
  go_wp2
  go_ret
  exact ⟨rfl, rfl⟩
theorem n_give (w : World) (k : Int) : Calls Tryz.prog 64 #[.pointer none, .int .i64 k] w fun e w' => e = .returned (.int .i64 1) ∧ w' = w := by
  go_enter Tryz.func64, Tryz.ntmps64
  go_wp2_with (go_at_call 32; refine (n_taken w k).mono ?_; rintro e w' ⟨rfl, rfl⟩)
  go_ret
  exact ⟨rfl, rfl⟩
end Go.Proofs.YtbcnibnkojnpiaaGreat.P
namespace Go.Proofs.YtbcnibnkojnpiaaGreat.P
open Go.RowKit Go.MuLone Go.Maps
def NewPool (b : Nat) (y : Option Nat) (fr first : Nat) (s : List UInt8) (t : Int) (w : World) (e : Ending) (w' : World) : Prop :=
  ∃ pb mb D, e = .returned (.tuple #[.pointer (some ⟨pb, 0, none⟩), .int .i64 0]) ∧ PoolO w' pb mb b y fr first D s t ∧ w.heap.size ≤ pb ∧ w.heap.size ≤ mb ∧ Gr w w' ∧ ∀ k : Nat, hasI D k = decide (first ≤ k ∧ k < fr)
theorem cnt_empty (a : Nat) : ∀ n, cntD (.map []) a n = 0
  | 0 => rfl
  | n + 1 => by rw [cntD, cnt_empty a n]; rfl
theorem pool_made (b : Nat) (y : Option Nat) (fr first : Nat) (s : List UInt8) (t : Int) (w : World) (h : MemO w b y fr s t) (hf : first ≤ fr) :
    PoolO ((w.alloc (.map #[] 0)).alloc (.cells #[.pointer (some ⟨b, 0, none⟩), .int .i64 first, .map (some w.heap.size)] 82)) (w.heap.size + 1) w.heap.size b y fr first (.map []) s t := by
  have hl := h.lt
  have hF : FreeO (.map []) first fr := ⟨tidy_empty, fun k hk => Bool.noConfusion (show false = true from hk), by rw [cnt_empty]; rfl⟩
  refine ⟨blk_new' _ _ _ (by simp), (World.ownsMap_made _ _ _ _).alloc _, hF, hf, ?_, by omega, ?_⟩
  · exact h.keep (S := fun _ => False) (Ch.of_gr (((Gr.refl w).alloc (Nat.le_refl _) _).alloc (by simp) _)) (fun h => h) (fun _ _ h => h)
  · refine ⟨by omega, fun e => ?_, fun e => ?_, fun x hx e => ?_⟩
    · have := hl.2 _ e; omega
    · injection e with e; omega
    · have := hl.2 _ hx; injection e with e; omega
set_option maxRecDepth 100000 in
theorem c_pool_no (b : Nat) (y : Option Nat) (fr : Nat) (first : Int) (s : List UInt8) (t : Int) (w : World) (h : MemO w b y fr s t) (hf : ¬ (0 ≤ first ∧ first ≤ fr)) :
    Calls Tryz.prog 19 #[.pointer (some ⟨b, 0, none⟩), .int .i64 first] w fun e w' => e = .returned (.tuple #[.pointer none, .int .i64 1]) ∧ w' = w := by
  have H := Lib.hid h
  by_cases h1 : first < 0
  · have d1 : decide (first < 0) = true := decide_eq_true h1
    clear h hf h1
    go_enter Tryz.func19, Tryz.ntmps19
    go_wp2
    go_ret2
    exact ⟨rfl, rfl⟩
  · have d1 : decide (first < 0) = false := decide_eq_false h1
    have d2 : decide ((fr : Int) < first) = true := decide_eq_true (by omega)
    clear h hf h1
    go_enter Tryz.func19, Tryz.ntmps19
    go_wp2_with (go_at_call 49; refine (c_frames b y fr s t _ H.out).mono ?_; rintro e w' ⟨rfl, hw'⟩; have hq := hw'.symm; subst hq)
    go_ret2
    exact ⟨rfl, rfl⟩
theorem n_pool (w : World) (first : Int) : Calls Tryz.prog 19 #[.pointer none, .int .i64 first] w fun e w' => e = .returned (.tuple #[.pointer none, .int .i64 1]) ∧ w' = w := by
  go_enter Tryz.func19, Tryz.ntmps19
  go_wp2
  go_ret2
  exact ⟨rfl, rfl⟩
set_option maxRecDepth 100000 in
theorem c_pool (b : Nat) (y : Option Nat) (fr first : Nat) (s : List UInt8) (t : Int) (w : World) (h : MemO w b y fr s t) (hf : first ≤ fr) :
    Calls Tryz.prog 19 #[.pointer (some ⟨b, 0, none⟩), .int .i64 first] w (NewPool b y fr first s t w) := by
  have hmm := @run_makeMap Tryz.prog
  have hfr : fr ≤ 256 := h.2.2.1
  have law := int_keyed (P := Tryz.prog) Tryz.underlying3
  have d1 : decide ((first : Int) < 0) = false := decide_eq_false (by omega)
  have d2 : decide (fr < first) = false := decide_eq_false (by omega)
  have H := Lib.hid h
  have HP := Lib.hid (pool_made b y fr first s t w h hf)
  clear h
  go_enter Tryz.func19, Tryz.ntmps19
  go_wp2_with (go_at_call 49; refine (c_frames b y fr s t _ H.out).mono ?_; rintro e w' ⟨rfl, hw'⟩; have hq := hw'.symm; subst hq)
  go_loopw [7] (fun v7 wr => ∃ (j : Nat) (D : DataW Unit), first ≤ j ∧ j ≤ fr ∧ v7 = .int .i64 j ∧ PoolO wr (w.heap.size + 1) w.heap.size b y fr first D s t ∧ Gr w wr ∧ ∀ k : Nat, hasI D k = decide (first ≤ k ∧ k < j)) (fun v7 _ => fr - (intOf v7).toNat)
  case atStart =>
    refine ⟨first, _, Nat.le_refl _, hf, rfl, HP.out, ((Gr.refl w).alloc (Nat.le_refl _) _).alloc (by simp) _, fun k => ?_⟩
    rw [decide_eq_false (by omega)]; rfl
  case round =>
    clear HP
    obtain ⟨j, D, hj1, hj2, rfl, hp, g, hi⟩ := hrel
    have HR := Lib.hid hp
    have G := Lib.hid g
    have HI := Lib.hid hi
    clear g hp hi
    by_cases hlt : j < fr
    · have hj0 : hasI D j = false := by rw [HI.out]; exact decide_eq_false (by omega)
      have HF := Lib.hid (HR.out.2.2.1.put hj1 hlt hj0)
      have c2 := blk_cell HR.out.1 2 (v := .map (some w.heap.size)) rfl
      have hown := HR.out.2.1
      have hsm := HR.out.2.2.1.small hfr
      clear hj0
      have dl : decide ((j : Int) < (fr : Int)) = true := decide_eq_true (by omega)
      have hkey := key_small j (by omega)
      go_wp2_with (first
        | (go_at_call 49; refine (c_frames b y fr s t _ HR.out.2.2.2.2.1).mono ?_; rintro e w' ⟨rfl, hw'⟩; have hq := hw'.symm; subst hq)
        | (at_mapUpdate; refine wpList_mapUpdate_own _ rfl _ _ _ 80 rfl 3 105 law Tryz.underlying80 unitElem w.heap.size (Maps.size D) D rfl hown hsm _ _ (.int .i64 j) rfl rfl hkey (.agg []) [] unitElem_mk ?_
           intro w2 hown2 hgrow2
           have G2 := Lib.hid (Ch.of_grown hgrow2)
           have H2 := Lib.hid (HR.out.mapped G2.out hown2 HF.out); clear hown hown2 hgrow2 c2))
      go_roundw
      case rel =>
        refine ⟨j + 1, _, by omega, by omega, by go_num, H2.out, gr_ch G.out G2.out (fun x hx => by injection hx with hx; omega), fun k => ?_⟩
        rw [show (DataW.agg [] : DataW Unit) = u0 from rfl, hasI_put D HR.out.2.2.1.1.isMap, HI.out]
        by_cases e : k = j
        · rw [decide_eq_true (show (k : Int) = (j : Int) by omega), decide_eq_true (show first ≤ k ∧ k < j + 1 by omega)]; rfl
        · rw [decide_eq_false (show ¬ (k : Int) = (j : Int) by omega), Bool.false_or]
          by_cases e2 : first ≤ k ∧ k < j
          · rw [decide_eq_true e2, decide_eq_true (by omega)]
          · rw [decide_eq_false e2, decide_eq_false (by omega)]
      case measure => simp [intOf]; omega
    · obtain rfl : j = fr := by omega
      have dl : decide ((j : Int) < (j : Int)) = false := decide_eq_false (by omega)
      go_wp2_with (go_at_call 49; refine (c_frames b y j s t _ HR.out.2.2.2.2.1).mono ?_; rintro e w' ⟨rfl, hw'⟩; have hq := hw'.symm; subst hq)
      go_ret2
      exact ⟨_, _, D, rfl, HR.out, by omega, Nat.le_refl _, G.out, HI.out⟩
end Go.Proofs.YtbcnibnkojnpiaaGreat.P
namespace Go.Proofs.YtbcnibnkojnpiaaGreat.P
open Go.RowKit Go.MuLone Go.Maps
def isL (L : List Bool) (k : Nat) : Bool := L.getD k false
/-- The least free one of the n from a on; or a + n. -/
def nextL (L : List Bool) (a : Nat) : Nat → Nat
  | 0 => a
  | n + 1 => if isL L a = true then a else nextL L (a + 1) n
theorem nextL_ge (L : List Bool) : ∀ n a, a ≤ nextL L a n
  | 0, a => Nat.le_refl _
  | n + 1, a => by unfold nextL; split; exact Nat.le_refl _; have := nextL_ge L n (a + 1); omega
theorem nextL_le (L : List Bool) : ∀ n a, nextL L a n ≤ a + n
  | 0, a => Nat.le_refl _
  | n + 1, a => by unfold nextL; split; omega; have := nextL_le L n (a + 1); omega
theorem nextL_is (L : List Bool) : ∀ n a, nextL L a n < a + n → isL L (nextL L a n) = true
  | 0, a, h => by unfold nextL at h; omega
  | n + 1, a, h => by
    unfold nextL at h ⊢
    split
    · assumption
    · rename_i e; rw [if_neg e] at h; exact nextL_is L n (a + 1) (by omega)
theorem nextL_not (L : List Bool) : ∀ n a j, a ≤ j → j < nextL L a n → isL L j = false
  | 0, a, j, h, k => by unfold nextL at k; omega
  | n + 1, a, j, h, k => by
    unfold nextL at k
    split at k
    · omega
    · rename_i e
      by_cases q : a = j
      · subst q; simpa using e
      · exact nextL_not L n (a + 1) j (by omega) k
def cntL (L : List Bool) (a : Nat) : Nat → Nat
  | 0 => 0
  | n + 1 => cntL L a n + (if isL L (a + n) = true then 1 else 0)
theorem cnt_eq (D : DataW Unit) (L : List Bool) (a : Nat) (h : ∀ k : Nat, hasI D k = isL L k) : ∀ n, cntD D a n = cntL L a n
  | 0 => rfl
  | n + 1 => by rw [cntD, cntL, cnt_eq D L a h n, h]
def takeB (L : List Bool) (first : Nat) : Bool := decide (nextL L first (L.length - first) < L.length)
def takeN (L : List Bool) (first : Nat) : Int := bif takeB L first then (nextL L first (L.length - first) : Nat) else 0
def takeE (L : List Bool) (first : Nat) : Int := bif takeB L first then 0 else 4
def takeL (L : List Bool) (first : Nat) : List Bool := bif takeB L first then L.set (nextL L first (L.length - first)) false else L
def takeS (L : List Bool) (first : Nat) (s : List UInt8) : List UInt8 := bif takeB L first then clearS L.length s (nextL L first (L.length - first) : Nat) else s
def tknB (L : List Bool) (first : Nat) (k : Int) : Bool := decide ((first : Int) ≤ k) && decide (k < L.length) && !isL L k.toNat
def giveE (L : List Bool) (first : Nat) (k : Int) : Int := bif tknB L first k then 0 else 1
def giveL (L : List Bool) (first : Nat) (k : Int) : List Bool := bif tknB L first k then L.set k.toNat true else L
def giveS (L : List Bool) (first : Nat) (k : Int) (s : List UInt8) : List UInt8 := bif tknB L first k then clearS L.length s k.toNat else s
/-- From w0 on only new memory turned; a pool at pb of the memory at b; which are free: L. -/
def PG (w0 w : World) (pb b first : Nat) (L : List Bool) (s : List UInt8) : Prop :=
  Gr w0 w ∧ ∃ mb y D t, w0.heap.size ≤ pb ∧ w0.heap.size ≤ mb ∧ w0.heap.size ≤ b ∧ (∀ x, y = some x → w0.heap.size ≤ x) ∧ PoolO w pb mb b y L.length first D s t ∧ ∀ k : Nat, hasI D k = isL L k
theorem PG.keep {w0 w w' : World} {pb b first : Nat} {L : List Bool} {s : List UInt8} (h : PG w0 w pb b first L s) (g : Gr w w') : PG w0 w' pb b first L s := by
  obtain ⟨g0, mb, y, D, t, a1, a2, a3, a4, a5, a6⟩ := h
  exact ⟨gr_ch g0 (Ch.of_gr (S := fun _ => False) g) (fun _ h => h.elim), mb, y, D, t, a1, a2, a3, a4, a5.keepG g, a6⟩
theorem PG.step {w0 w w' : World} {pb mb b first : Nat} {y y' : Option Nat} {L : List Bool} {D : DataW Unit} {s : List UInt8} {t : Int} (g : Gr w0 w) (a1 : w0.heap.size ≤ pb) (a2 : w0.heap.size ≤ mb) (a3 : w0.heap.size ≤ b) (a4 : ∀ x, y = some x → w0.heap.size ≤ x)
    (hk : KeptP pb mb b y w w' y') (hp : PoolO w' pb mb b y' L.length first D s t) (a6 : ∀ k : Nat, hasI D k = isL L k) : PG w0 w' pb b first L s := by
  refine ⟨gr_ch g hk.1 (fun x hx => ?_), mb, y', D, t, a1, a2, a3, fun x hx => ?_, hp, a6⟩
  · rcases hx with rfl | rfl | rfl | hx
    · exact a1
    · exact a2
    · exact a3
    · exact a4 x hx
  · rcases hk.2 with e | ⟨e, z, e2, e3⟩
    · exact a4 x (by rw [← e, hx])
    · rw [e2] at hx; injection hx with hx; have := g.size; omega
theorem isL_set (L : List Bool) (k j : Nat) (v : Bool) (hk : k < L.length) : isL (L.set k v) j = if j = k then v else isL L j := by
  unfold isL
  by_cases e : j = k
  · subst e; rw [if_pos rfl]; simp [List.getD, hk]
  · rw [if_neg e]; simp [List.getD, Ne.symm e]
theorem pg_taken (w0 w : World) (pb b first : Nat) (L : List Bool) (s : List UInt8) (h : PG w0 w pb b first L s) (k : Int) (hk : i64 k) :
    Calls Tryz.prog 32 #[.pointer (some ⟨pb, 0, none⟩), .int .i64 k] w fun e w' => e = .returned (.bool (tknB L first k)) ∧ PG w0 w' pb b first L s := by
  have h2 := h
  obtain ⟨g0, mb, y, D, t, a1, a2, a3, a4, a5, a6⟩ := h
  refine (c_taken pb mb b y L.length first D s t w a5 k hk).mono ?_
  rintro e w' ⟨rfl, g⟩
  refine ⟨?_, h2.keep g⟩
  unfold takenB tknB
  by_cases q : (first : Int) ≤ k
  · rw [show hasI D k = isL L k.toNat from by rw [← a6, Int.toNat_of_nonneg (by omega)]]
  · rw [decide_eq_false q]; rfl
theorem pg_left (w0 w : World) (pb b first : Nat) (L : List Bool) (s : List UInt8) (h : PG w0 w pb b first L s) :
    Calls Tryz.prog 9 #[.pointer (some ⟨pb, 0, none⟩)] w fun e w' => e = .returned (.int .i64 (cntL L first (L.length - first) : Nat)) ∧ w' = w := by
  obtain ⟨g0, mb, y, D, t, a1, a2, a3, a4, a5, a6⟩ := h
  refine (c_left pb mb b y L.length first D s t w a5).mono ?_
  rintro e w' ⟨rfl, rfl⟩
  exact ⟨by rw [a5.2.2.1.2.2, cnt_eq D L first a6], rfl⟩
theorem pg_mem (w0 w : World) (pb b first : Nat) (L : List Bool) (s : List UInt8) (h : PG w0 w pb b first L s) :
    Calls Tryz.prog 42 #[.pointer (some ⟨pb, 0, none⟩)] w fun e w' => e = .returned (.pointer (some ⟨b, 0, none⟩)) ∧ w' = w := by
  obtain ⟨g0, mb, y, D, t, a1, a2, a3, a4, a5, a6⟩ := h
  exact c_mem pb mb b y L.length first D s t w a5
theorem pg_take (w0 w : World) (pb b first : Nat) (L : List Bool) (s : List UInt8) (h : PG w0 w pb b first L s) :
    Calls Tryz.prog 50 #[.pointer (some ⟨pb, 0, none⟩)] w fun e w' => e = .returned (.tuple #[.int .i64 (takeN L first), .int .i64 (takeE L first)]) ∧ PG w0 w' pb b first (takeL L first) (takeS L first s) := by
  obtain ⟨g0, mb, y, D, t, a1, a2, a3, a4, a5, a6⟩ := h
  have hf := a5.2.2.2.1
  have hge := nextL_ge L (L.length - first) first
  have hle := nextL_le L (L.length - first) first
  have his := nextL_is L (L.length - first) first
  have hnot := nextL_not L (L.length - first) first
  unfold takeN takeE takeL takeS
  cases hb : takeB L first
  · have hq : ¬ nextL L first (L.length - first) < L.length := of_decide_eq_false hb
    refine (c_take_no pb mb b y L.length first D s t w a5 (fun j hj hj2 => by rw [a6]; exact hnot j hj (by omega))).mono ?_
    rintro e w' ⟨rfl, y', hp, hk⟩
    exact ⟨rfl, PG.step g0 a1 a2 a3 a4 hk hp a6⟩
  · have hq : nextL L first (L.length - first) < L.length := of_decide_eq_true hb
    refine (c_take_yes pb mb b y L.length first D s t w a5 _ hge hq (by rw [a6]; exact his (by omega)) (fun j hj hj2 => by rw [a6]; exact hnot j hj hj2)).mono ?_
    rintro e w' ⟨rfl, y', hp, hk⟩
    refine ⟨rfl, PG.step g0 a1 a2 a3 a4 hk (by rw [show (cond true (L.set (nextL L first (L.length - first)) false) L).length = L.length from List.length_set]; exact hp) (fun k => ?_)⟩
    show _ = isL (L.set _ _) k
    rw [hasI_del, a6, isL_set _ _ _ _ hq]
    by_cases e : k = nextL L first (L.length - first)
    · rw [if_pos e, decide_eq_true (by omega)]; rfl
    · rw [if_neg e, decide_eq_false (by omega)]; rfl
theorem pg_give (w0 w : World) (pb b first : Nat) (L : List Bool) (s : List UInt8) (h : PG w0 w pb b first L s) (k : Int) (hk : i64 k) :
    Calls Tryz.prog 64 #[.pointer (some ⟨pb, 0, none⟩), .int .i64 k] w fun e w' => e = .returned (.int .i64 (giveE L first k)) ∧ PG w0 w' pb b first (giveL L first k) (giveS L first k s) := by
  obtain ⟨g0, mb, y, D, t, a1, a2, a3, a4, a5, a6⟩ := h
  have ht : takenB D first L.length k = tknB L first k := by
    unfold takenB tknB
    by_cases q : (first : Int) ≤ k
    · rw [show hasI D k = isL L k.toNat from by rw [← a6, Int.toNat_of_nonneg (by omega)]]
    · rw [decide_eq_false q]; rfl
  unfold giveE giveL giveS
  cases hb : tknB L first k
  · refine (c_give_no pb mb b y L.length first D s t w a5 k hk (by rw [ht, hb])).mono ?_
    rintro e w' ⟨rfl, y', hp, hk⟩
    exact ⟨rfl, PG.step g0 a1 a2 a3 a4 hk hp a6⟩
  · have hb2 := hb
    unfold tknB at hb2
    simp only [Bool.and_eq_true, decide_eq_true_eq, Bool.not_eq_true'] at hb2
    obtain ⟨⟨b1, b2⟩, b3⟩ := hb2
    obtain ⟨n, rfl⟩ : ∃ n : Nat, k = (n : Int) := ⟨k.toNat, by omega⟩
    rw [Int.toNat_natCast] at b3 ⊢
    refine (c_give_yes pb mb b y L.length first D s t w a5 n (by omega) (by omega) (by rw [a6]; exact b3)).mono ?_
    rintro e w' ⟨rfl, y', hp, hk⟩
    refine ⟨rfl, PG.step g0 a1 a2 a3 a4 hk (by rw [show (cond true (L.set n true) L).length = L.length from List.length_set]; exact hp) (fun k => ?_)⟩
    show _ = isL (L.set _ _) k
    rw [hasI_put D a5.2.2.1.1.isMap, a6, isL_set _ _ _ _ (by omega)]
    by_cases e : k = n
    · rw [if_pos e, decide_eq_true (by omega)]; rfl
    · rw [if_neg e, decide_eq_false (by omega)]; rfl
end Go.Proofs.YtbcnibnkojnpiaaGreat.P
namespace Go.Proofs.YtbcnibnkojnpiaaGreat.P
open Go.RowKit Go.MuLone Go.Maps
def freshL (fr first : Nat) : List Bool := (List.range fr).map fun k => decide (first ≤ k)
theorem fresh_len (fr first : Nat) : (freshL fr first).length = fr := by simp [freshL]
theorem fresh_is (fr first k : Nat) : isL (freshL fr first) k = decide (first ≤ k ∧ k < fr) := by
  unfold isL freshL
  by_cases h : k < fr
  · simp [List.getD, h]
  · simp [List.getD, h]
theorem mem_new (w0 w : World) (g : Gr w0 w) (fr : Nat) (h1 : 1 ≤ fr) (h2 : fr ≤ 256) :
    Calls Tryz.prog 18 #[.int .i64 fr] w fun e w' => ∃ b, e = .returned (.tuple #[.pointer (some ⟨b, 0, none⟩), .int .i64 0]) ∧ MG w0 w' b fr (List.replicate (fr * 256) 0) 0 := by
  refine (c_new fr h1 h2 w).mono ?_
  rintro e w' ⟨b, rfl, hm, hb, g2⟩
  exact ⟨b, rfl, gr_ch g (Ch.of_gr (S := fun _ => False) g2) (fun _ h => h.elim), by have := g.size; omega, none, (fun x hx => by cases hx), hm⟩
theorem pg_new (w0 w : World) (b fr first : Nat) (s : List UInt8) (t : Int) (h : MG w0 w b fr s t) (hf : first ≤ fr) :
    Calls Tryz.prog 19 #[.pointer (some ⟨b, 0, none⟩), .int .i64 first] w fun e w' => ∃ pb, e = .returned (.tuple #[.pointer (some ⟨pb, 0, none⟩), .int .i64 0]) ∧ PG w0 w' pb b first (freshL fr first) s := by
  obtain ⟨g, hb, y, hy, hm⟩ := h
  refine (c_pool b y fr first s t w hm hf).mono ?_
  rintro e w' ⟨pb, mb, D, rfl, hp, h1, h2, g2, hd⟩
  have := g.size
  exact ⟨pb, rfl, gr_ch g (Ch.of_gr (S := fun _ => False) g2) (fun _ h => h.elim), mb, y, D, t, by omega, by omega, hb, hy, by rw [fresh_len]; exact hp, fun k => by rw [hd, fresh_is]⟩
/-- The memory's bytes left out. -/
def PS (w0 w : World) (pb b first : Nat) (L : List Bool) : Prop := ∃ s, PG w0 w pb b first L s
theorem ps_take {w0 w : World} {pb b first : Nat} {L : List Bool} (h : PS w0 w pb b first L) (n e : Int) (L' : List Bool) (hn : takeN L first = n) (he : takeE L first = e) (hL : takeL L first = L') :
    Calls Tryz.prog 50 #[.pointer (some ⟨pb, 0, none⟩)] w fun x w' => x = .returned (.tuple #[.int .i64 n, .int .i64 e]) ∧ PS w0 w' pb b first L' := by
  obtain ⟨s, h⟩ := h
  subst hn; subst he; subst hL
  exact (pg_take w0 w pb b first L s h).mono fun x w' h => ⟨h.1, _, h.2⟩
theorem ps_give {w0 w : World} {pb b first : Nat} {L : List Bool} (h : PS w0 w pb b first L) (k : Int) (hk : i64 k) (e : Int) (L' : List Bool) (he : giveE L first k = e) (hL : giveL L first k = L') :
    Calls Tryz.prog 64 #[.pointer (some ⟨pb, 0, none⟩), .int .i64 k] w fun x w' => x = .returned (.int .i64 e) ∧ PS w0 w' pb b first L' := by
  obtain ⟨s, h⟩ := h
  subst he; subst hL
  exact (pg_give w0 w pb b first L s h k hk).mono fun x w' h => ⟨h.1, _, h.2⟩
theorem ps_taken {w0 w : World} {pb b first : Nat} {L : List Bool} (h : PS w0 w pb b first L) (k : Int) (hk : i64 k) (v : Bool) (hv : tknB L first k = v) :
    Calls Tryz.prog 32 #[.pointer (some ⟨pb, 0, none⟩), .int .i64 k] w fun x w' => x = .returned (.bool v) ∧ PS w0 w' pb b first L := by
  obtain ⟨s, h⟩ := h
  subst hv
  exact (pg_taken w0 w pb b first L s h k hk).mono fun x w' h => ⟨h.1, _, h.2⟩
theorem ps_left {w0 w : World} {pb b first : Nat} {L : List Bool} (h : PS w0 w pb b first L) (n : Int) (hn : (cntL L first (L.length - first) : Int) = n) :
    Calls Tryz.prog 9 #[.pointer (some ⟨pb, 0, none⟩)] w fun x w' => x = .returned (.int .i64 n) ∧ w' = w := by
  obtain ⟨s, h⟩ := h
  subst hn
  exact pg_left w0 w pb b first L s h
theorem ps_new (w0 w : World) (b fr first : Nat) (s : List UInt8) (t : Int) (h : MG w0 w b fr s t) (hf : first ≤ fr) (L : List Bool) (hL : freshL fr first = L) :
    Calls Tryz.prog 19 #[.pointer (some ⟨b, 0, none⟩), .int .i64 first] w fun e w' => ∃ pb, e = .returned (.tuple #[.pointer (some ⟨pb, 0, none⟩), .int .i64 0]) ∧ PS w0 w' pb b first L := by
  subst hL
  exact (pg_new w0 w b fr first s t h hf).mono fun e w' ⟨pb, h1, h2⟩ => ⟨pb, h1, _, h2⟩
def k0 : List Bool := [false, true, true, true]
def k1 : List Bool := [false, false, true, true]
def k2 : List Bool := [false, false, false, true]
def k3 : List Bool := [false, false, false, false]
def k4 : List Bool := [false, false, true, false]
end Go.Proofs.YtbcnibnkojnpiaaGreat.P
namespace Go.Proofs.YtbcnibnkojnpiaaGreat.P
open Go.RowKit Go.MuLone Go.Maps
/-- From wE to w only blocks of S turned; a pool, in blocks of S or new ones. -/
def PZ (wE : World) (S : Nat → Prop) (w : World) (pb b first : Nat) (L : List Bool) (s : List UInt8) : Prop :=
  Ch S wE w ∧ ∃ mb y D t, S pb ∧ S mb ∧ S b ∧ (∀ x, y = some x → S x ∨ wE.heap.size ≤ x) ∧ PoolO w pb mb b y L.length first D s t ∧ ∀ k : Nat, hasI D k = isL L k
theorem PZ.keep {wE : World} {S : Nat → Prop} {w w' : World} {pb b first : Nat} {L : List Bool} {s : List UInt8} (h : PZ wE S w pb b first L s) (g : Gr w w') : PZ wE S w' pb b first L s := by
  obtain ⟨g0, mb, y, D, t, a1, a2, a3, a4, a5, a6⟩ := h
  exact ⟨g0.trans (Ch.of_gr g), mb, y, D, t, a1, a2, a3, a4, a5.keepG g, a6⟩
theorem PZ.step {wE : World} {S : Nat → Prop} {w w' : World} {pb mb b first : Nat} {y y' : Option Nat} {L : List Bool} {D : DataW Unit} {s : List UInt8} {t : Int} (g : Ch S wE w) (a1 : S pb) (a2 : S mb) (a3 : S b) (a4 : ∀ x, y = some x → S x ∨ wE.heap.size ≤ x)
    (hk : KeptP pb mb b y w w' y') (hp : PoolO w' pb mb b y' L.length first D s t) (a6 : ∀ k : Nat, hasI D k = isL L k) : PZ wE S w' pb b first L s := by
  refine ⟨g.trans2 hk.1 (fun x hx hlt => ?_), mb, y', D, t, a1, a2, a3, fun x hx => ?_, hp, a6⟩
  · rcases hx with rfl | rfl | rfl | hx
    · exact a1
    · exact a2
    · exact a3
    · rcases a4 x hx with e | e
      · exact e
      · omega
  · rcases hk.2 with e | ⟨e, z, e2, e3⟩
    · exact a4 x (by rw [← e, hx])
    · rw [e2] at hx; injection hx with hx; have := g.size; exact .inr (by omega)
/-- Its own blocks, from here on. -/
theorem PZ.base {wE : World} {S : Nat → Prop} {w : World} {pb b first : Nat} {L : List Bool} {s : List UInt8} (h : PZ wE S w pb b first L s) : ∃ S' : Nat → Prop, PZ w S' w pb b first L s ∧ ∀ x, S' x → x < w.heap.size ∧ (S x ∨ wE.heap.size ≤ x) := by
  obtain ⟨g0, mb, y, D, t, a1, a2, a3, a4, a5, a6⟩ := h
  have l1 : pb < w.heap.size := blk_lt a5.1
  have l2 : mb < w.heap.size := own_lt a5.2.1
  have l3 := a5.2.2.2.2.1.lt
  refine ⟨fun x => x = pb ∨ x = mb ∨ x = b ∨ y = some x, ⟨Ch.refl _ _, mb, y, D, t, .inl rfl, .inr (.inl rfl), .inr (.inr (.inl rfl)), fun x hx => .inl (.inr (.inr (.inr hx))), a5, a6⟩, fun x hx => ?_⟩
  rcases hx with rfl | rfl | rfl | hx
  · exact ⟨l1, .inl a1⟩
  · exact ⟨l2, .inl a2⟩
  · exact ⟨l3.1, .inl a3⟩
  · exact ⟨l3.2 x hx, a4 x hx⟩
/-- Something else turned. -/
theorem PZ.other {S T : Nat → Prop} {w w' : World} {pb b first : Nat} {L : List Bool} {s : List UInt8} (h : PZ w S w pb b first L s) (hc : Ch T w w') (hd : ∀ x, S x → ¬ T x) (hl : ∀ x, S x → x < w.heap.size) : ∃ S' : Nat → Prop, PZ w' S' w' pb b first L s ∧ ∀ x, S' x → S x := by
  obtain ⟨g0, mb, y, D, t, a1, a2, a3, a4, a5, a6⟩ := h
  have l3 := a5.2.2.2.2.1.lt
  have h4 : ∀ x, y = some x → S x := fun x hx => by
    rcases a4 x hx with e | e
    · exact e
    · have := l3.2 x hx; omega
  refine ⟨fun x => x = pb ∨ x = mb ∨ x = b ∨ y = some x, ⟨Ch.refl _ _, mb, y, D, t, .inl rfl, .inr (.inl rfl), .inr (.inr (.inl rfl)), fun x hx => .inl (.inr (.inr (.inr hx))), a5.keep hc (hd _ a1) (hd _ a2) (hd _ a3) (fun x hx => hd _ (h4 x hx)), a6⟩, fun x hx => ?_⟩
  rcases hx with rfl | rfl | rfl | hx
  · exact a1
  · exact a2
  · exact a3
  · exact h4 x hx
theorem pz_taken {wE : World} {S : Nat → Prop} {w : World} {pb b first : Nat} {L : List Bool} {s : List UInt8} (h : PZ wE S w pb b first L s) (k : Int) (hk : i64 k) :
    Calls Tryz.prog 32 #[.pointer (some ⟨pb, 0, none⟩), .int .i64 k] w fun e w' => e = .returned (.bool (tknB L first k)) ∧ PZ wE S w' pb b first L s := by
  have h2 := h
  obtain ⟨g0, mb, y, D, t, a1, a2, a3, a4, a5, a6⟩ := h
  refine (c_taken pb mb b y L.length first D s t w a5 k hk).mono ?_
  rintro e w' ⟨rfl, g⟩
  refine ⟨?_, h2.keep g⟩
  unfold takenB tknB
  by_cases q : (first : Int) ≤ k
  · rw [show hasI D k = isL L k.toNat from by rw [← a6, Int.toNat_of_nonneg (by omega)]]
  · rw [decide_eq_false q]; rfl
theorem pz_left {wE : World} {S : Nat → Prop} {w : World} {pb b first : Nat} {L : List Bool} {s : List UInt8} (h : PZ wE S w pb b first L s) :
    Calls Tryz.prog 9 #[.pointer (some ⟨pb, 0, none⟩)] w fun e w' => e = .returned (.int .i64 (cntL L first (L.length - first) : Nat)) ∧ w' = w := by
  obtain ⟨g0, mb, y, D, t, a1, a2, a3, a4, a5, a6⟩ := h
  refine (c_left pb mb b y L.length first D s t w a5).mono ?_
  rintro e w' ⟨rfl, rfl⟩
  exact ⟨by rw [a5.2.2.1.2.2, cnt_eq D L first a6], rfl⟩
theorem pz_mem {wE : World} {S : Nat → Prop} {w : World} {pb b first : Nat} {L : List Bool} {s : List UInt8} (h : PZ wE S w pb b first L s) :
    Calls Tryz.prog 42 #[.pointer (some ⟨pb, 0, none⟩)] w fun e w' => e = .returned (.pointer (some ⟨b, 0, none⟩)) ∧ w' = w := by
  obtain ⟨g0, mb, y, D, t, a1, a2, a3, a4, a5, a6⟩ := h
  exact c_mem pb mb b y L.length first D s t w a5
theorem pz_take {wE : World} {S : Nat → Prop} {w : World} {pb b first : Nat} {L : List Bool} {s : List UInt8} (h : PZ wE S w pb b first L s) :
    Calls Tryz.prog 50 #[.pointer (some ⟨pb, 0, none⟩)] w fun e w' => e = .returned (.tuple #[.int .i64 (takeN L first), .int .i64 (takeE L first)]) ∧ PZ wE S w' pb b first (takeL L first) (takeS L first s) := by
  obtain ⟨g0, mb, y, D, t, a1, a2, a3, a4, a5, a6⟩ := h
  have hf := a5.2.2.2.1
  have hge := nextL_ge L (L.length - first) first
  have hle := nextL_le L (L.length - first) first
  have his := nextL_is L (L.length - first) first
  have hnot := nextL_not L (L.length - first) first
  unfold takeN takeE takeL takeS
  cases hb : takeB L first
  · have hq : ¬ nextL L first (L.length - first) < L.length := of_decide_eq_false hb
    refine (c_take_no pb mb b y L.length first D s t w a5 (fun j hj hj2 => by rw [a6]; exact hnot j hj (by omega))).mono ?_
    rintro e w' ⟨rfl, y', hp, hk⟩
    exact ⟨rfl, PZ.step g0 a1 a2 a3 a4 hk hp a6⟩
  · have hq : nextL L first (L.length - first) < L.length := of_decide_eq_true hb
    refine (c_take_yes pb mb b y L.length first D s t w a5 _ hge hq (by rw [a6]; exact his (by omega)) (fun j hj hj2 => by rw [a6]; exact hnot j hj hj2)).mono ?_
    rintro e w' ⟨rfl, y', hp, hk⟩
    refine ⟨rfl, PZ.step g0 a1 a2 a3 a4 hk (by rw [show (cond true (L.set (nextL L first (L.length - first)) false) L).length = L.length from List.length_set]; exact hp) (fun k => ?_)⟩
    show _ = isL (L.set _ _) k
    rw [hasI_del, a6, isL_set _ _ _ _ hq]
    by_cases e : k = nextL L first (L.length - first)
    · rw [if_pos e, decide_eq_true (by omega)]; rfl
    · rw [if_neg e, decide_eq_false (by omega)]; rfl
theorem pz_give {wE : World} {S : Nat → Prop} {w : World} {pb b first : Nat} {L : List Bool} {s : List UInt8} (h : PZ wE S w pb b first L s) (k : Int) (hk : i64 k) :
    Calls Tryz.prog 64 #[.pointer (some ⟨pb, 0, none⟩), .int .i64 k] w fun e w' => e = .returned (.int .i64 (giveE L first k)) ∧ PZ wE S w' pb b first (giveL L first k) (giveS L first k s) := by
  obtain ⟨g0, mb, y, D, t, a1, a2, a3, a4, a5, a6⟩ := h
  have ht : takenB D first L.length k = tknB L first k := by
    unfold takenB tknB
    by_cases q : (first : Int) ≤ k
    · rw [show hasI D k = isL L k.toNat from by rw [← a6, Int.toNat_of_nonneg (by omega)]]
    · rw [decide_eq_false q]; rfl
  unfold giveE giveL giveS
  cases hb : tknB L first k
  · refine (c_give_no pb mb b y L.length first D s t w a5 k hk (by rw [ht, hb])).mono ?_
    rintro e w' ⟨rfl, y', hp, hk⟩
    exact ⟨rfl, PZ.step g0 a1 a2 a3 a4 hk hp a6⟩
  · have hb2 := hb
    unfold tknB at hb2
    simp only [Bool.and_eq_true, decide_eq_true_eq, Bool.not_eq_true'] at hb2
    obtain ⟨⟨b1, b2⟩, b3⟩ := hb2
    obtain ⟨n, rfl⟩ : ∃ n : Nat, k = (n : Int) := ⟨k.toNat, by omega⟩
    rw [Int.toNat_natCast] at b3 ⊢
    refine (c_give_yes pb mb b y L.length first D s t w a5 n (by omega) (by omega) (by rw [a6]; exact b3)).mono ?_
    rintro e w' ⟨rfl, y', hp, hk⟩
    refine ⟨rfl, PZ.step g0 a1 a2 a3 a4 hk (by rw [show (cond true (L.set n true) L).length = L.length from List.length_set]; exact hp) (fun k => ?_)⟩
    show _ = isL (L.set _ _) k
    rw [hasI_put D a5.2.2.1.1.isMap, a6, isL_set _ _ _ _ (by omega)]
    by_cases e : k = n
    · rw [if_pos e, decide_eq_true (by omega)]; rfl
    · rw [if_neg e, decide_eq_false (by omega)]; rfl
theorem PZ.mem {wE : World} {S : Nat → Prop} {w : World} {pb b first : Nat} {L : List Bool} {s : List UInt8} (h : PZ wE S w pb b first L s) : s.length = L.length * 256 ∧ L.length ≤ 256 := by
  obtain ⟨g0, mb, y, D, t, a1, a2, a3, a4, a5, a6⟩ := h
  have := a5.2.2.2.2.1
  exact ⟨this.1, this.2.2.1⟩
theorem pz_get {wE : World} {S : Nat → Prop} {w : World} {pb b first : Nat} {L : List Bool} {s : List UInt8} (h : PZ wE S w pb b first L s) (a n : Int) (ha0 : 0 ≤ a) (ha1 : a ≤ 18446744073709551615) (hn1 : n ≤ 9223372036854775807) :
    Calls Tryz.prog 13 #[.pointer (some ⟨b, 0, none⟩), .int .u64 a, .int .i64 n] w fun e w' => e = .returned (.tuple #[.string (getV s a n), .int .i64 (getR s a n)]) ∧ PZ wE S w' pb b first L s := by
  obtain ⟨g0, mb, y, D, t, a1, a2, a3, a4, a5, a6⟩ := h
  refine (c_get b y L.length s t w a5.2.2.2.2.1 a n ha0 ha1 hn1).mono ?_
  rintro e w' ⟨rfl, y', hM', hK⟩
  exact ⟨rfl, PZ.step g0 a1 a2 a3 a4 ⟨hK.1.mono (fun x hx => .inr (.inr hx)), hK.2⟩ (a5.memed hK hM') a6⟩
theorem pz_put {wE : World} {S : Nat → Prop} {w : World} {pb b first : Nat} {L : List Bool} {s : List UInt8} (h : PZ wE S w pb b first L s) (a : Int) (x : ByteArray) (ha0 : 0 ≤ a) (ha1 : a ≤ 18446744073709551615) (hx : x.size ≤ maxLen) :
    Calls Tryz.prog 43 #[.pointer (some ⟨b, 0, none⟩), .int .u64 a, .string x] w fun e w' => e = .returned (.int .i64 (putR s a x)) ∧ PZ wE S w' pb b first L (putS s a x) := by
  obtain ⟨g0, mb, y, D, t, a1, a2, a3, a4, a5, a6⟩ := h
  refine (c_put b y L.length s t w a5.2.2.2.2.1 a x ha0 ha1 hx).mono ?_
  rintro e w' ⟨rfl, y', hM', hK⟩
  exact ⟨rfl, PZ.step g0 a1 a2 a3 a4 ⟨hK.1.mono (fun x hx => .inr (.inr hx)), hK.2⟩ (a5.memed hK hM') a6⟩
theorem pz_of {w0 w : World} {pb b first : Nat} {L : List Bool} {s : List UInt8} (h : PG w0 w pb b first L s) : ∃ S : Nat → Prop, PZ w S w pb b first L s ∧ ∀ x, S x → x < w.heap.size ∧ w0.heap.size ≤ x := by
  obtain ⟨g0, mb, y, D, t, a1, a2, a3, a4, a5, a6⟩ := h
  have l1 : pb < w.heap.size := blk_lt a5.1
  have l2 : mb < w.heap.size := own_lt a5.2.1
  have l3 := a5.2.2.2.2.1.lt
  refine ⟨fun x => x = pb ∨ x = mb ∨ x = b ∨ y = some x, ⟨Ch.refl _ _, mb, y, D, t, .inl rfl, .inr (.inl rfl), .inr (.inr (.inl rfl)), fun x hx => .inl (.inr (.inr (.inr hx))), a5, a6⟩, fun x hx => ?_⟩
  rcases hx with rfl | rfl | rfl | hx
  · exact ⟨l1, a1⟩
  · exact ⟨l2, a2⟩
  · exact ⟨l3.1, a3⟩
  · exact ⟨l3.2 x hx, a4 x hx⟩
end Go.Proofs.YtbcnibnkojnpiaaGreat.P
