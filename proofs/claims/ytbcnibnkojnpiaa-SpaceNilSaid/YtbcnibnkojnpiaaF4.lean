/- Stage 10: New. No condition. -/
import Derived.Test.YtbcnibnkojnpiaaF3
set_option linter.unusedVariables false
namespace Go.Proofs.Ytbcnibnkojnpiaa.P
open Go.RowKit Go.MuLone Go.Maps
def NewPool (b : Nat) (y : Option Nat) (fr first : Nat) (s : List UInt8) (t : Int) (w : World) (e : Ending) (w' : World) : Prop :=
  ∃ pb mb D, e = .returned (.tuple #[.pointer (some ⟨pb, 0, none⟩), .int .i64 0]) ∧ PoolO w' pb mb b y fr first D s t ∧ w.heap.size ≤ pb ∧ w.heap.size ≤ mb ∧ Gr w w' ∧ ∀ k : Nat, hasI D k = decide (first ≤ k ∧ k < fr)
theorem cnt_empty (a : Nat) : ∀ n, cntD (.map []) a n = 0
  | 0 => rfl
  | n + 1 => by rw [cntD, cnt_empty a n]; rfl
theorem pool_made (b : Nat) (y : Option Nat) (fr first : Nat) (s : List UInt8) (t : Int) (w : World) (h : MemO w b y fr s t) (hf : first ≤ fr) :
    PoolO ((w.alloc (.map #[] 0)).alloc (.cells #[.pointer (some ⟨b, 0, none⟩), .int .i64 first, .map (some w.heap.size)] 55)) (w.heap.size + 1) w.heap.size b y fr first (.map []) s t := by
  have hl := h.lt
  have hF : FreeO (.map []) first fr := ⟨tidy_empty, fun k hk => Bool.noConfusion (show false = true from hk), by rw [cnt_empty]; rfl⟩
  refine ⟨blk_new' _ _ _ (by simp), (World.ownsMap_made _ _ _ _).alloc _, hF, hf, ?_, by omega, ?_⟩
  · exact h.keep (S := fun _ => False) (Ch.of_gr (((Gr.refl w).alloc (Nat.le_refl _) _).alloc (by simp) _)) (fun h => h) (fun _ _ h => h)
  · refine ⟨by omega, fun e => ?_, fun e => ?_, fun x hx e => ?_⟩
    · have := hl.2 _ e; omega
    · injection e with e; omega
    · have := hl.2 _ hx; injection e with e; omega
set_option maxRecDepth 100000 in
theorem c_pool_no (b : Nat) (y : Option Nat) (fr : Nat) (first : Int) (s : List UInt8) (t : Int) (w : World) (h : MemO w b y fr s t) (hf : ¬ (0 ≤ first ∧ first ≤ fr)) :
    Calls Try.prog 18 #[.pointer (some ⟨b, 0, none⟩), .int .i64 first] w fun e w' => e = .returned (.tuple #[.pointer none, .int .i64 1]) ∧ w' = w := by
  have H := Lib.hid h
  by_cases h1 : first < 0
  · have d1 : decide (first < 0) = true := decide_eq_true h1
    clear h hf h1
    go_enter Try.func18, Try.ntmps18
    go_wp2
    go_ret2
    exact ⟨rfl, rfl⟩
  · have d1 : decide (first < 0) = false := decide_eq_false h1
    have d2 : decide ((fr : Int) < first) = true := decide_eq_true (by omega)
    clear h hf h1
    go_enter Try.func18, Try.ntmps18
    go_wp2_with (go_at_call 53; refine (c_frames b y fr s t _ H.out).mono ?_; rintro e w' ⟨rfl, hw'⟩; have hq := hw'.symm; subst hq)
    go_ret2
    exact ⟨rfl, rfl⟩
theorem n_pool (w : World) (first : Int) : Calls Try.prog 18 #[.pointer none, .int .i64 first] w fun e w' => e = .returned (.tuple #[.pointer none, .int .i64 1]) ∧ w' = w := by
  go_enter Try.func18, Try.ntmps18
  go_wp2
  go_ret2
  exact ⟨rfl, rfl⟩
set_option maxRecDepth 100000 in
theorem c_pool (b : Nat) (y : Option Nat) (fr first : Nat) (s : List UInt8) (t : Int) (w : World) (h : MemO w b y fr s t) (hf : first ≤ fr) :
    Calls Try.prog 18 #[.pointer (some ⟨b, 0, none⟩), .int .i64 first] w (NewPool b y fr first s t w) := by
  have hmm := @run_makeMap Try.prog
  have hfr : fr ≤ 256 := h.2.2.1
  have law := int_keyed (P := Try.prog) Try.underlying3
  have d1 : decide ((first : Int) < 0) = false := decide_eq_false (by omega)
  have d2 : decide (fr < first) = false := decide_eq_false (by omega)
  have H := Lib.hid h
  have HP := Lib.hid (pool_made b y fr first s t w h hf)
  clear h
  go_enter Try.func18, Try.ntmps18
  go_wp2_with (go_at_call 53; refine (c_frames b y fr s t _ H.out).mono ?_; rintro e w' ⟨rfl, hw'⟩; have hq := hw'.symm; subst hq)
  go_loopw [7] (fun v7 wr => ∃ (j : Nat) (D : DataW Unit), first ≤ j ∧ j ≤ fr ∧ v7 = .int .i64 j ∧ PoolO wr (w.heap.size + 1) w.heap.size b y fr first D s t ∧ Gr w wr ∧ ∀ k : Nat, hasI D k = decide (first ≤ k ∧ k < j)) (fun v7 _ => fr - (intOf v7).toNat)
  case atStart =>
    refine ⟨first, _, Nat.le_refl _, hf, rfl, HP.out, ((Gr.refl w).alloc (Nat.le_refl _) _).alloc (by simp) _, fun k => ?_⟩
    rw [decide_eq_false (by omega)]; rfl
  case round =>
    clear HP
    obtain ⟨j, D, hj1, hj2, rfl, hp, g, hi⟩ := hrel
    have HR := Lib.hid hp
    have G := Lib.hid g
    have HI := Lib.hid hi
    clear g hp hi
    by_cases hlt : j < fr
    · have hj0 : hasI D j = false := by rw [HI.out]; exact decide_eq_false (by omega)
      have HF := Lib.hid (HR.out.2.2.1.put hj1 hlt hj0)
      have c2 := blk_cell HR.out.1 2 (v := .map (some w.heap.size)) rfl
      have hown := HR.out.2.1
      have hsm := HR.out.2.2.1.small hfr
      clear hj0
      have dl : decide ((j : Int) < (fr : Int)) = true := decide_eq_true (by omega)
      have hkey := key_small j (by omega)
      go_wp2_with (first
        | (go_at_call 53; refine (c_frames b y fr s t _ HR.out.2.2.2.2.1).mono ?_; rintro e w' ⟨rfl, hw'⟩; have hq := hw'.symm; subst hq)
        | (at_mapUpdate; refine wpList_mapUpdate_own _ rfl _ _ _ 53 rfl 3 87 law Try.underlying53 unitElem w.heap.size (Maps.size D) D rfl hown hsm _ _ (.int .i64 j) rfl rfl hkey (.agg []) [] unitElem_mk ?_
           intro w2 hown2 hgrow2
           have G2 := Lib.hid (Ch.of_grown hgrow2)
           have H2 := Lib.hid (HR.out.mapped G2.out hown2 HF.out); clear hown hown2 hgrow2 c2))
      go_roundw
      case rel =>
        refine ⟨j + 1, _, by omega, by omega, by go_num, H2.out, gr_ch G.out G2.out (fun x hx => by injection hx with hx; omega), fun k => ?_⟩
        rw [show (DataW.agg [] : DataW Unit) = u0 from rfl, hasI_put D HR.out.2.2.1.1.isMap, HI.out]
        by_cases e : k = j
        · rw [decide_eq_true (show (k : Int) = (j : Int) by omega), decide_eq_true (show first ≤ k ∧ k < j + 1 by omega)]; rfl
        · rw [decide_eq_false (show ¬ (k : Int) = (j : Int) by omega), Bool.false_or]
          by_cases e2 : first ≤ k ∧ k < j
          · rw [decide_eq_true e2, decide_eq_true (by omega)]
          · rw [decide_eq_false e2, decide_eq_false (by omega)]
      case measure => simp [intOf]; omega
    · obtain rfl : j = fr := by omega
      have dl : decide ((j : Int) < (j : Int)) = false := decide_eq_false (by omega)
      go_wp2_with (go_at_call 53; refine (c_frames b y j s t _ HR.out.2.2.2.2.1).mono ?_; rintro e w' ⟨rfl, hw'⟩; have hq := hw'.symm; subst hq)
      go_ret2
      exact ⟨_, _, D, rfl, HR.out, by omega, Nat.le_refl _, G.out, HI.out⟩
end Go.Proofs.Ytbcnibnkojnpiaa.P
