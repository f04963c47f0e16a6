/- Stage 12: Decode. No condition. -/
import Derived.Test.YtdlglnoffpnonaaGreatPF
import Derived.Laws.Rows
import Derived.Laws.Tables
import Derived.Laws.CopyOwn
import Derived.Deep.RegionHeld3
set_option linter.unusedVariables false
set_option linter.unusedSimpArgs false
set_option maxRecDepth 100000
namespace Go.Proofs.YtdlglnoffpnonaaGreat.P
open Go.RowKit Go.Proofs.YtdlglnoffpnonaaGreat.W
theorem res2' {fn : Func} {p u : Tmp} {ty : TypeId} (h : fn.results = #[.cell p ty, .tmp u]) (tmps : Array Value) (P : Program) (w : World) (g : Nat) (v0 : Value)
    (hp : tmps.getD p undef = .pointer (some ⟨g, 0, none⟩)) (hl : (loadVar ty ⟨g, 0, none⟩).run P w = .ok v0 w) :
    (results fn tmps).run P w = .ok (.tuple #[v0, tmps.getD u undef]) w := by
  have hp' : tmps[p]?.getD undef = .pointer (some ⟨g, 0, none⟩) := by simpa using hp
  simp [results, h, hp', asAddr, hl]
def pgC (x : Pg) : Array Value := #[.int .i64 x.en, .string x.tx, .string x.da, .int .i64 x.bs]
theorem ldP {w : World} {g : Nat} {x : Pg} (hg : w.heap[g]? = some (.cells (pgC x) 23)) : (loadVar 23 ⟨g, 0, none⟩).run Tryz.prog w = .ok (pgV x) w :=
  run_loadVar_row w g 23 23 _ (0, 0) _ hg Tryz.underlying23 rfl (show (Tryz.prog.info? 23).map (·.size) = some 4 by kernel_rfl)
/-- What Decode holds: its result, what is left of the file. -/
structure DC (w0 w : World) (xb rb : Nat) (s : ByteArray) (a : Nat) : Prop where
  g : Gr w0 w
  x : w.heap[xb]? = some (.cells (pgC pg0) 23)
  r : w.heap[rb]? = some (.cells #[.string (restS s a)] 9)
  xn : w0.heap.size ≤ xb
  rn : w0.heap.size ≤ rb
  ne : xb ≠ rb
def hdC (f : Nat → Int) : Array Value := #[.int .i64 (f 0), .int .i64 (f 1), .int .i64 (f 2), .int .i64 (f 3)]
structure DH (w0 w : World) (xb rb hb : Nat) (s : ByteArray) (a : Nat) (f : Nat → Int) : Prop where
  c : DC w0 w xb rb s a
  h : w.heap[hb]? = some (.cells (hdC f) 124)
  hn : w0.heap.size ≤ hb
  nr : hb ≠ rb
  nx : hb ≠ xb
theorem o_cut0 {w0 w : World} {xb rb a : Nat} {s : ByteArray} (h : DC w0 w xb rb s a) (ha : a ≤ s.size) (hs : s.size ≤ 4096) (n : Nat) :
    Calls Tryz.prog 51 #[.int .i64 n, .pointer (some ⟨rb, 0, none⟩)] w fun e w' => e = .returned (.string (s.extract a (a + min n (s.size - a)))) ∧ DC w0 w' xb rb s (a + min n (s.size - a)) ∧ ∀ q, q ≠ rb → w'.heap[q]? = w.heap[q]? := by
  refine (c_cut w rb (restS s a) n (by rw [rest_size]; omega) h.r).mono ?_
  rintro e w' ⟨rfl, rfl⟩
  rw [head_rest, tail_rest s a n ha]
  refine ⟨rfl, ⟨gset h.g h.rn _, blk_other h.x _ _ h.ne, blk_set h.r 0 _, h.xn, h.rn, h.ne⟩, fun q hq => Below.heap_setCell _ _ _ _ hq⟩
theorem o_cut {w0 w : World} {xb rb hb a : Nat} {s : ByteArray} {f : Nat → Int} (h : DH w0 w xb rb hb s a f) (ha : a ≤ s.size) (hs : s.size ≤ 4096) (n : Nat) :
    Calls Tryz.prog 51 #[.int .i64 n, .pointer (some ⟨rb, 0, none⟩)] w fun e w' => e = .returned (.string (s.extract a (a + min n (s.size - a)))) ∧ DH w0 w' xb rb hb s (a + min n (s.size - a)) f ∧ ∀ q, q ≠ rb → w'.heap[q]? = w.heap[q]? := by
  refine (o_cut0 h.c ha hs n).mono ?_
  rintro e w' ⟨rfl, h1, h2⟩
  exact ⟨rfl, ⟨h1, by rw [h2 _ h.nr]; exact h.h, h.hn, h.nr, h.nx⟩, h2⟩
theorem dh_alloc {w0 w : World} {xb rb hb a : Nat} {s : ByteArray} {f : Nat → Int} (o : Obj) (h : DH w0 w xb rb hb s a f) : DH w0 (w.alloc o) xb rb hb s a f := ⟨⟨h.c.g.alloc h.c.g.size o, blk_alloc o h.c.x, blk_alloc o h.c.r, h.c.xn, h.c.rn, h.c.ne⟩, blk_alloc o h.h, h.hn, h.nr, h.nx⟩
theorem dh_set {w0 w : World} {xb rb hb a : Nat} {s : ByteArray} {f : Nat → Int} (h : DH w0 w xb rb hb s a f) (i : Nat) (v : Int) (hi : i < 4) : DH w0 (w.setCell ⟨hb, i, none⟩ (.int .i64 v)) xb rb hb s a (fun j => if j = i then v else f j) := by
  refine ⟨⟨gset h.c.g h.hn _, blk_other h.c.x _ _ (Ne.symm h.nx), blk_other h.c.r _ _ (Ne.symm h.nr), h.c.xn, h.c.rn, h.c.ne⟩, ?_, h.hn, h.nr, h.nx⟩
  have := blk_set h.h i (.int .i64 v)
  rw [this]
  have hs : i = 0 ∨ i = 1 ∨ i = 2 ∨ i = 3 := by omega
  rcases hs with rfl | rfl | rfl | rfl <;> rfl
theorem dh_cell {w0 w : World} {xb rb hb a : Nat} {s : ByteArray} {f : Nat → Int} (h : DH w0 w xb rb hb s a f) (i : Nat) (hi : i < 4) : w.cell? ⟨hb, i, none⟩ = some (.int .i64 (f i)) ∧ w.frozen? ⟨hb, i, none⟩ = false := by
  refine ⟨blk_cell h.h i ?_, blk_frozen h.h i⟩
  have hs : i = 0 ∨ i = 1 ∨ i = 2 ∨ i = 3 := by omega
  rcases hs with rfl | rfl | rfl | rfl <;> rfl
theorem dh_drew {w0 w : World} {xb rb hb a : Nat} {s : ByteArray} {f : Nat → Int} (h : DH w0 w xb rb hb s a f) : DH w0 w.drew xb rb hb s a f := ⟨⟨Below.drew h.c.g, h.c.x, h.c.r, h.c.xn, h.c.rn, h.c.ne⟩, h.h, h.hn, h.nr, h.nx⟩
theorem dh_setRow {w0 w : World} {xb rb hb a q : Nat} {s : ByteArray} {f : Nat → Int} (h : DH w0 w xb rb hb s a f) (n1 : q ≠ rb) (n2 : q ≠ hb) (n3 : q ≠ xb) (n4 : w0.heap.size ≤ q) (cs : Array Value) : DH w0 (w.setRow q cs) xb rb hb s a f := by
  refine ⟨⟨below_setRow h.c.g n4 cs, ?_, ?_, h.c.xn, h.c.rn, h.c.ne⟩, ?_, h.hn, h.nr, h.nx⟩
  · rw [setRow_other _ _ _ _ (Ne.symm n3)]; exact h.c.x
  · rw [setRow_other _ _ _ _ (Ne.symm n1)]; exact h.c.r
  · rw [setRow_other _ _ _ _ (Ne.symm n2)]; exact h.h
theorem tlp_ne {x s : ByteArray} (h : ¬ x = s) : (x.toList == s.toList) = false :=
  beq_eq_false_iff_ne.2 (fun e => h (by rw [Go.ByteArray.toList_eq, Go.ByteArray.toList_eq] at e; exact ByteArray.ext (Array.toList_inj.1 e)))
theorem pg_info : (Tryz.prog.info? 23).map (·.size) = some 4 := by kernel_rfl
theorem pgC_all (x : Pg) : (pgC x).all (·.oneCell') = true := by simp [pgC, Value.oneCell']
def hdF (s : ByteArray) (k : Nat) : Nat → Int := fun j => if j < k then fldF s (4 + 4 * j) else 0
theorem hdF_succ (s : ByteArray) (k : Nat) : (fun j => if j = k then fldF s (4 + 4 * k) else hdF s k j) = hdF s (k + 1) := by
  funext j
  unfold hdF
  by_cases h : j = k
  · subst h; rw [if_pos rfl, if_pos (by omega)]
  · rw [if_neg h]
    by_cases h2 : j < k
    · rw [if_pos h2, if_pos (by omega)]
    · rw [if_neg h2, if_neg (by omega)]
set_option maxHeartbeats 6400000 in
theorem c_decode (s : ByteArray) (hs : s.size ≤ maxLen) (w : World) :
    Calls Tryz.prog 23 #[.string s] w fun e w' => e = .returned (.tuple #[pgV (decP s), .int .i64 (decE s)]) ∧ Gr w w' := by
  unfold maxLen at hs
  by_cases h1 : 32 ≤ s.size
  rotate_left
  · have hd : decOK s = false := by unfold decOK; rw [decide_eq_false h1, Bool.false_and]
    unfold decP decE
    rw [hd]
    have m1 : (s.size : Int) < 32 := by omega
    go_enter Tryz.func23, Tryz.ntmps23
    go_wp2_with fail
    refine bodyPost_ret (res2' rfl _ _ _ w.heap.size (pgV pg0) rfl (ldP (blk_new _ _))) rfl ?_
    exact ⟨rfl, (Gr.refl w).alloc (Nat.le_refl _) _⟩
  by_cases h2 : s.size ≤ 2368
  rotate_left
  · have hd : decOK s = false := by unfold decOK; rw [decide_eq_false h2, Bool.false_and, Bool.and_false]
    unfold decP decE
    rw [hd]
    have m1 : ¬ (s.size : Int) < 32 := by omega
    have m2 : 2368 < (s.size : Int) := by omega
    go_enter Tryz.func23, Tryz.ntmps23
    go_wp2_with fail
    refine bodyPost_ret (res2' rfl _ _ _ w.heap.size (pgV pg0) rfl (ldP (blk_new _ _))) rfl ?_
    exact ⟨rfl, (Gr.refl w).alloc (Nat.le_refl _) _⟩
  · have m1 : ¬ (s.size : Int) < 32 := by omega
    have m2 : ¬ 2368 < (s.size : Int) := by omega
    have bd := fun k => fld_bd s k
    have BD := Lib.hid bd
    clear bd
    have OF : RowKit.Hid (∀ k w, k + 4 ≤ s.size → Calls Tryz.prog 52 #[.string (s.extract k (k + 4))] w fun e w' => e = .returned (.int .u64 (fldF s k)) ∧ w' = w) := Lib.hid (fun k w hk => c_of _ (by rw [ByteArray.size_extract]; unfold maxLen; omega) w)
    have cut4 : ∀ a, a + 4 ≤ s.size → a + min 4 (s.size - a) = a + 4 := fun a h => by omega
    have C4 := Lib.hid cut4
    clear cut4
    go_enter Tryz.func23, Tryz.ntmps23
    go_upto_region 4 with fail
    have D0 : RowKit.Hid (DC w ((w.alloc (.cells (pgC pg0) 23)).alloc (.cells #[.string s] 9)) w.heap.size (w.heap.size + 1) s 0) := Lib.hid ⟨((Gr.refl w).alloc (Nat.le_refl _) _).alloc (Nat.le_trans (Nat.le_succ _) (Nat.le_of_eq (World.size_alloc _ _).symm)) _, blk_alloc _ (blk_new _ _), by rw [rest_zero]; have := blk_new (w.alloc (.cells (pgC pg0) 23)) (.cells #[.string s] 9); rw [World.size_alloc] at this; exact this, Nat.le_refl _, Nat.le_succ _, by omega⟩
    have hpc : pgC pg0 = #[.int .i64 0, .string ⟨#[]⟩, .string ⟨#[]⟩, .int .i64 0] := rfl
    rw [hpc] at D0
    clear hpc
    generalize ((w.alloc (.cells #[.int .i64 0, .string ⟨#[]⟩, .string ⟨#[]⟩, .int .i64 0] 23)).alloc (.cells #[.string s] 9)) = w2 at *
    generalize w.heap.size + 1 = rb at *
    generalize hxb : w.heap.size = xb at *
    have CUT0 : RowKit.Hid (Calls Tryz.prog 51 #[.int .i64 4, .pointer (some ⟨rb, 0, none⟩)] w2 fun e w' => e = .returned (.string (s.extract 0 4)) ∧ DC w w' xb rb s 4) := Lib.hid ((o_cut0 D0.out (Nat.zero_le _) (by omega) 4).mono (by rw [C4.out 0 (by omega)]; exact fun e w' h => ⟨h.1, h.2.1⟩))
    clear D0
    go_upto_region 7 with (go_at_call 51; refine CUT0.out.mono ?_; rintro e w3 ⟨rfl, h3⟩; have H3 := Lib.hid h3; clear h3)
    have A0 : DH w (w3.alloc (.cells (hdC (hdF s 0)) 124)) xb rb w3.heap.size s 4 (hdF s 0) := by
      have hh := H3.out
      have l1 := blk_lt hh.r
      have l2 := blk_lt hh.x
      exact ⟨⟨hh.g.alloc hh.g.size _, blk_alloc _ hh.x, blk_alloc _ hh.r, hh.xn, hh.rn, hh.ne⟩, blk_new _ _, hh.g.size, by omega, by omega⟩
    have HA : RowKit.Hid (DH w (w3.alloc (.cells #[.int .i64 0, .int .i64 0, .int .i64 0, .int .i64 0] 124)) xb rb w3.heap.size s 4 (hdF s 0)) := Lib.hid A0
    clear A0 CUT0 H3
    generalize (w3.alloc (.cells #[.int .i64 0, .int .i64 0, .int .i64 0, .int .i64 0] 124)) = w5 at *
    generalize w3.heap.size = hb at *
    go_wp2_with fail
    go_loopg [24] 5 (fun t v24 wr => ∃ k : Nat, k ≤ 4 ∧ t = 5 - k ∧ v24 = .int .i64 (k : Int) ∧ DH w wr xb rb hb s (4 + 4 * k) (hdF s k))
    case atStart => exact ⟨0, by omega, rfl, rfl, HA.out⟩
    case round =>
      clear HA
      obtain ⟨k, hk, rfl, rfl, hdh⟩ := hrel
      have HD := Lib.hid hdh
      clear hdh
      by_cases hlt : k < 4
      · have n1 : (k : Int) < 4 := by omega
        have n2 : 0 ≤ (k : Int) := by omega
        have n3 : (k : Int).toNat = k := by omega
        have e5 : IntKind.i64.wrap ((k : Int) + 1) = (k : Int) + 1 := by rw [IntKind.wrap_i64]; omega
        have e6 : IntKind.i64.wrap (fldF s (4 + 4 * k)) = fldF s (4 + 4 * k) := by have := BD.out (4 + 4 * k); rw [IntKind.wrap_i64]; omega
        have CUT : RowKit.Hid (Calls Tryz.prog 51 #[.int .i64 4, .pointer (some ⟨rb, 0, none⟩)] wr fun e w' => e = .returned (.string (s.extract (4 + 4 * k) (4 + 4 * k + 4))) ∧ DH w w' xb rb hb s (4 + 4 * k + 4) (hdF s k)) := Lib.hid ((o_cut HD.out (by omega) (by omega) 4).mono (by rw [C4.out (4 + 4 * k) (by omega)]; exact fun e w' h => ⟨h.1, h.2.1⟩))
        have OF2 := Lib.hid (fun w => OF.out (4 + 4 * k) w (by omega))
        obtain ⟨X, hX⟩ : ∃ X, fldF s (4 + 4 * k) = X := ⟨_, rfl⟩
        rw [hX] at OF2 e6
        have HX := Lib.hid hX
        clear hX
        go_wp2_with (first
          | (go_at_call 51; refine CUT.out.mono ?_; rintro e w6 ⟨rfl, h6⟩; have c6 := (dh_cell h6 k hlt).1; have f6 := (dh_cell h6 k hlt).2; have H6 := Lib.hid h6; clear h6)
          | (go_at_call 52; refine (OF2.out _).mono ?_; rintro e w7 ⟨rfl, rfl⟩))
        go_roundg (5 - (k + 1))
        case measure => omega
        case rel =>
          refine ⟨k + 1, by omega, rfl, by go_num, ?_⟩
          have h9 := dh_set H6.out k X hlt
          have e9 : (fun j => if j = k then X else hdF s k j) = hdF s (k + 1) := by rw [← HX.out]; exact hdF_succ s k
          rw [e9] at h9
          rw [show 4 + 4 * (k + 1) = 4 + 4 * k + 4 by omega]
          exact h9
      · obtain rfl : k = 4 := by omega
        have H7 : RowKit.Hid (DH w wr xb rb hb s 20 (hdF s 4)) := Lib.hid HD.out
        have CUT : RowKit.Hid (Calls Tryz.prog 51 #[.int .i64 12, .pointer (some ⟨rb, 0, none⟩)] wr fun e w' => e = .returned (.string (s.extract 20 32)) ∧ DH w w' xb rb hb s 32 (hdF s 4)) := Lib.hid ((o_cut H7.out (by omega) (by omega) 12).mono (by rw [show 20 + min 12 (s.size - 20) = 32 by omega]; exact fun e w' h => ⟨h.1, h.2.1⟩))
        clear HD H7
        go_upto_region 13 with (go_at_call 51; refine CUT.out.mono ?_; rintro e w8 ⟨rfl, h8⟩; have c0 := (dh_cell h8 0 (by decide)).1; have c1 := (dh_cell h8 1 (by decide)).1; have c2 := (dh_cell h8 2 (by decide)).1; have c3 := (dh_cell h8 3 (by decide)).1; have H8 := Lib.hid h8; clear h8)
        have hf0 : hdF s 4 0 = fldF s 4 := rfl
        have hf1 : hdF s 4 1 = fldF s 8 := rfl
        have hf2 : hdF s 4 2 = fldF s 12 := rfl
        have hf3 : hdF s 4 3 = fldF s 16 := rfl
        rw [hf0] at c0; rw [hf1] at c1; rw [hf2] at c2; rw [hf3] at c3
        clear hf0 hf1 hf2 hf3
        obtain ⟨N, hN⟩ : ∃ N : Nat, fldF s 8 = N := ⟨(fldF s 8).toNat, by have := BD.out 8; omega⟩
        obtain ⟨K, hK⟩ : ∃ N : Nat, fldF s 12 = N := ⟨(fldF s 12).toNat, by have := BD.out 12; omega⟩
        have nTe : nT s = min N (s.size - 32) := by unfold nT; rw [hN, Int.toNat_natCast]
        have nDe : nD s = min K (s.size - 32 - nT s) := by unfold nD; rw [hK, Int.toNat_natCast]
        have C1 : RowKit.Hid (∀ w9, DH w w9 xb rb hb s 32 (hdF s 4) → Calls Tryz.prog 51 #[.int .i64 N, .pointer (some ⟨rb, 0, none⟩)] w9 fun e w' => e = .returned (.string (candP s).tx) ∧ DH w w' xb rb hb s (32 + nT s) (hdF s 4) ∧ ∀ q, q ≠ rb → w'.heap[q]? = w9.heap[q]?) := Lib.hid (fun w9 h => (o_cut h h1 (by omega) N).mono (by rw [← nTe]; exact fun e w' h => h))
        have C2 : RowKit.Hid (∀ w9, DH w w9 xb rb hb s (32 + nT s) (hdF s 4) → Calls Tryz.prog 51 #[.int .i64 K, .pointer (some ⟨rb, 0, none⟩)] w9 fun e w' => e = .returned (.string (candP s).da) ∧ DH w w' xb rb hb s (32 + nT s + nD s) (hdF s 4) ∧ ∀ q, q ≠ rb → w'.heap[q]? = w9.heap[q]?) := Lib.hid (fun w9 h => (o_cut h (by omega) (by omega) K).mono (by rw [show s.size - (32 + nT s) = s.size - 32 - nT s by omega, ← nDe]; exact fun e w' h => h))
        rw [hN] at c1
        rw [hK] at c2
        have hx1 : (candP s).en = fldF s 4 := rfl
        have hx2 : (candP s).bs = fldF s 16 := rfl
        rw [← hx1] at c0
        rw [← hx2] at c3
        have HDEC := Lib.hid (show decOK s = (mayP (candP s) && decide (encP (candP s) = s)) by unfold decOK; rw [decide_eq_true h1, decide_eq_true h2, Bool.true_and, Bool.true_and])
        have EN := Lib.hid (fun w => c_encode (candP s) (by unfold candP; show (s.extract 32 (32 + nT s)).size ≤ maxLen; rw [ByteArray.size_extract]; unfold maxLen; omega) (by unfold candP; show (s.extract (32 + nT s) (32 + nT s + nD s)).size ≤ maxLen; rw [ByteArray.size_extract]; unfold maxLen; omega) w)
        have HCX := Lib.hid (show hdC (hdF s 4) = #[.int .i64 (candP s).en, .int .i64 N, .int .i64 K, .int .i64 (candP s).bs] by
          show #[Value.int .i64 (hdF s 4 0), .int .i64 (hdF s 4 1), .int .i64 (hdF s 4 2), .int .i64 (hdF s 4 3)] = _
          rw [show hdF s 4 0 = (candP s).en from rfl, show hdF s 4 1 = fldF s 8 from rfl, show hdF s 4 2 = fldF s 12 from rfl, show hdF s 4 3 = (candP s).bs from rfl, hN, hK])
        have HP := Lib.hid (show decP s = bif decOK s then candP s else pg0 from rfl)
        generalize candP s = x at *
        obtain ⟨en, tx, da, bs⟩ := x
        clear hN hK nTe nDe hx1 hx2 BD OF C4 CUT
        have c0 : w8.cell? ⟨hb, 0, none⟩ = some (.int .i64 en) := c0
        have c3 : w8.cell? ⟨hb, 3, none⟩ = some (.int .i64 bs) := c3
        have C1 : RowKit.Hid (∀ w9, DH w w9 xb rb hb s 32 (hdF s 4) → Calls Tryz.prog 51 #[.int .i64 N, .pointer (some ⟨rb, 0, none⟩)] w9 fun e w' => e = .returned (.string tx) ∧ DH w w' xb rb hb s (32 + nT s) (hdF s 4) ∧ ∀ q, q ≠ rb → w'.heap[q]? = w9.heap[q]?) := Lib.hid C1.out
        have C2 : RowKit.Hid (∀ w9, DH w w9 xb rb hb s (32 + nT s) (hdF s 4) → Calls Tryz.prog 51 #[.int .i64 K, .pointer (some ⟨rb, 0, none⟩)] w9 fun e w' => e = .returned (.string da) ∧ DH w w' xb rb hb s (32 + nT s + nD s) (hdF s 4) ∧ ∀ q, q ≠ rb → w'.heap[q]? = w9.heap[q]?) := Lib.hid C2.out
        have HC : RowKit.Hid (hdC (hdF s 4) = #[.int .i64 en, .int .i64 N, .int .i64 K, .int .i64 bs]) := Lib.hid HCX.out
        have KD := Lib.hid (dh_drew H8.out)
        clear c0 c1 c2 c3
        refine wp_region_held_drew (S := fun w' => w'.heap[hb]? = some (.cells #[.int .i64 en, .int .i64 N, .int .i64 K, .int .i64 bs] 124)) (by kernel_rfl) (by rw [← HC.out]; exact KD.out.h) (fun hH => ?_)
        generalize w8.drew = wd at *
        refine wpAnyH_take (i := 0) (oi := { dst := some 36, op := Go.Op.indexAddr 124 (Go.Operand.tmp 6) (Go.Operand.const (Go.Value.int Go.IntKind.i64 0)), type := 0, pos := "prog.go:62", after := #[], guard := none }) (v := .pointer (some ⟨hb, 0, none⟩)) rfl (by kernel_rfl) (by kernel_rfl) (by kernel_rfl) (fun _ _ _ h => h) (Or.inl ⟨by rfl, fun w' hS' => by first | rfl | (go_simp; done) | (go_simp; rfl)⟩) hH ?_
        try simp only [Act.put, List.setIfInBounds_toArray, List.set_cons_zero, List.set_cons_succ]
        refine wpAnyH_take (i := 1) (oi := { dst := some 37, op := Go.Op.load 3 (Go.Operand.tmp 36), type := 3, pos := "prog.go:62", after := #[{ on := 0, ground := Go.Ground.data }], guard := none }) (v := .int .i64 en) rfl (by kernel_rfl) (by kernel_rfl) (by kernel_rfl) (fun _ _ _ h => h) (Or.inl ⟨by rfl, fun w' hS' => by have c := blk_cell hS' 0 (v := .int .i64 (en)) rfl; go_simp⟩) hH ?_
        try simp only [Act.put, List.setIfInBounds_toArray, List.set_cons_zero, List.set_cons_succ]
        refine wpAnyH_take (i := 2) (oi := { dst := some 38, op := Go.Op.move (Go.Operand.tmp 5), type := 127, pos := "prog.go:62", after := #[], guard := none }) (v := .func (.func 51) #[] #[.pointer (some ⟨rb, 0, none⟩)]) rfl (by kernel_rfl) (by kernel_rfl) (by kernel_rfl) (fun _ _ _ h => h) (Or.inl ⟨by rfl, fun w' hS' => by first | rfl | (go_simp; done) | (go_simp; rfl)⟩) hH ?_
        try simp only [Act.put, List.setIfInBounds_toArray, List.set_cons_zero, List.set_cons_succ]
        refine wpAnyH_take (i := 3) (oi := { dst := some 39, op := Go.Op.indexAddr 124 (Go.Operand.tmp 6) (Go.Operand.const (Go.Value.int Go.IntKind.i64 1)), type := 0, pos := "prog.go:62", after := #[], guard := none }) (v := .pointer (some ⟨hb, 1, none⟩)) rfl (by kernel_rfl) (by kernel_rfl) (by kernel_rfl) (fun _ _ _ h => h) (Or.inl ⟨by rfl, fun w' hS' => by first | rfl | (go_simp; done) | (go_simp; rfl)⟩) hH ?_
        try simp only [Act.put, List.setIfInBounds_toArray, List.set_cons_zero, List.set_cons_succ]
        refine wpAnyH_take (i := 4) (oi := { dst := some 40, op := Go.Op.load 3 (Go.Operand.tmp 39), type := 3, pos := "prog.go:62", after := #[{ on := 3, ground := Go.Ground.data }], guard := none }) (v := .int .i64 (N : Int)) rfl (by kernel_rfl) (by kernel_rfl) (by kernel_rfl) (fun _ _ _ h => h) (Or.inl ⟨by rfl, fun w' hS' => by have c := blk_cell hS' 1 (v := .int .i64 ((N : Int))) rfl; go_simp⟩) hH ?_
        try simp only [Act.put, List.setIfInBounds_toArray, List.set_cons_zero, List.set_cons_succ]
        refine wpAnyH_take (i := 6) (oi := { dst := some 42, op := Go.Op.move (Go.Operand.tmp 5), type := 127, pos := "prog.go:62", after := #[], guard := none }) (v := .func (.func 51) #[] #[.pointer (some ⟨rb, 0, none⟩)]) rfl (by kernel_rfl) (by kernel_rfl) (by kernel_rfl) (fun _ _ _ h => h) (Or.inl ⟨by rfl, fun w' hS' => by first | rfl | (go_simp; done) | (go_simp; rfl)⟩) hH ?_
        try simp only [Act.put, List.setIfInBounds_toArray, List.set_cons_zero, List.set_cons_succ]
        refine wpAnyH_take (i := 7) (oi := { dst := some 43, op := Go.Op.indexAddr 124 (Go.Operand.tmp 6) (Go.Operand.const (Go.Value.int Go.IntKind.i64 2)), type := 0, pos := "prog.go:62", after := #[], guard := none }) (v := .pointer (some ⟨hb, 2, none⟩)) rfl (by kernel_rfl) (by kernel_rfl) (by kernel_rfl) (fun _ _ _ h => h) (Or.inl ⟨by rfl, fun w' hS' => by first | rfl | (go_simp; done) | (go_simp; rfl)⟩) hH ?_
        try simp only [Act.put, List.setIfInBounds_toArray, List.set_cons_zero, List.set_cons_succ]
        refine wpAnyH_take (i := 8) (oi := { dst := some 44, op := Go.Op.load 3 (Go.Operand.tmp 43), type := 3, pos := "prog.go:62", after := #[{ on := 7, ground := Go.Ground.data }], guard := none }) (v := .int .i64 (K : Int)) rfl (by kernel_rfl) (by kernel_rfl) (by kernel_rfl) (fun _ _ _ h => h) (Or.inl ⟨by rfl, fun w' hS' => by have c := blk_cell hS' 2 (v := .int .i64 ((K : Int))) rfl; go_simp⟩) hH ?_
        try simp only [Act.put, List.setIfInBounds_toArray, List.set_cons_zero, List.set_cons_succ]
        refine wpAnyH_take (i := 10) (oi := { dst := some 46, op := Go.Op.indexAddr 124 (Go.Operand.tmp 6) (Go.Operand.const (Go.Value.int Go.IntKind.i64 3)), type := 0, pos := "prog.go:62", after := #[], guard := none }) (v := .pointer (some ⟨hb, 3, none⟩)) rfl (by kernel_rfl) (by kernel_rfl) (by kernel_rfl) (fun _ _ _ h => h) (Or.inl ⟨by rfl, fun w' hS' => by first | rfl | (go_simp; done) | (go_simp; rfl)⟩) hH ?_
        try simp only [Act.put, List.setIfInBounds_toArray, List.set_cons_zero, List.set_cons_succ]
        refine wpAnyH_take (i := 11) (oi := { dst := some 47, op := Go.Op.load 3 (Go.Operand.tmp 46), type := 3, pos := "prog.go:62", after := #[{ on := 10, ground := Go.Ground.data }], guard := none }) (v := .int .i64 bs) rfl (by kernel_rfl) (by kernel_rfl) (by kernel_rfl) (fun _ _ _ h => h) (Or.inl ⟨by rfl, fun w' hS' => by have c := blk_cell hS' 3 (v := .int .i64 (bs)) rfl; go_simp⟩) hH ?_
        try simp only [Act.put, List.setIfInBounds_toArray, List.set_cons_zero, List.set_cons_succ]
        refine wpAnyH_ready (rs := [5, 13]) (by kernel_rfl) (by simp) ?_
        refine AllReadyH.cons (o := { dst := some 41, op := Go.Op.call { callee := Go.Callee.value (Go.Operand.tmp 38), args := #[Go.Operand.tmp 40], argTypes := #[3] }, type := 9, pos := "prog.go:62", after := #[{ on := 2, ground := Go.Ground.data }, { on := 4, ground := Go.Ground.data }], guard := none }) rfl (fun K' hK => ?_) (AllReadyH.cons (o := { dst := some 8, op := Go.Op.alloc 23, type := 0, pos := "prog.go:62", after := #[], guard := none }) rfl (fun K' hK => ?_) AllReadyH.nil)
        · rw [if_pos (by rfl)]
          go_wp2_with (go_at_call 51; refine (C1.out _ (by first | exact KD.out | exact dh_drew KD.out)).mono ?_; rintro e wc1 ⟨rfl, hc2, qc3⟩)
          have H9 := Lib.hid hc2
          clear hc2 qc3
          refine hK.out _ _ (by rw [← HC.out]; exact H9.out.h) (fun hS9 => ?_)
          clear hK K'
          try simp only [Act.put, List.setIfInBounds_toArray, List.set_cons_zero, List.set_cons_succ]
          refine wpAnyH_ready (rs := [9, 13]) (by kernel_rfl) (by simp) ?_
          refine AllReadyH.cons (o := { dst := some 45, op := Go.Op.call { callee := Go.Callee.value (Go.Operand.tmp 42), args := #[Go.Operand.tmp 44], argTypes := #[3] }, type := 9, pos := "prog.go:62", after := #[{ on := 6, ground := Go.Ground.data }, { on := 8, ground := Go.Ground.data }, { on := 5, ground := Go.Ground.chain }], guard := none }) rfl (fun K' hK => ?_) (AllReadyH.cons (o := { dst := some 8, op := Go.Op.alloc 23, type := 0, pos := "prog.go:62", after := #[], guard := none }) rfl (fun K' hK => ?_) AllReadyH.nil)
          · rw [if_pos (by rfl)]
            go_wp2_with (go_at_call 51; refine (C2.out _ (by first | exact H9.out | exact dh_drew H9.out)).mono ?_; rintro e wc4 ⟨rfl, hc5, qc6⟩)
            have HA := Lib.hid hc5
            clear hc5 qc6
            refine hK.out _ _ (by rw [← HC.out]; exact HA.out.h) (fun hSA => ?_)
            clear hK K'
            try simp only [Act.put, List.setIfInBounds_toArray, List.set_cons_zero, List.set_cons_succ]
            refine wpAnyH_take (i := 12) (oi := { dst := some 48, op := Go.Op.build 23 #[(0, Go.Operand.tmp 37), (1, Go.Operand.tmp 41), (2, Go.Operand.tmp 45), (3, Go.Operand.tmp 47)], type := 23, pos := "prog.go:62", after := #[{ on := 1, ground := Go.Ground.data }, { on := 5, ground := Go.Ground.data }, { on := 9, ground := Go.Ground.data }, { on := 11, ground := Go.Ground.data }], guard := none }) (v := .agg (pgC ⟨en, tx, da, bs⟩)) rfl (by kernel_rfl) (by kernel_rfl) (by kernel_rfl) (fun _ _ _ h => h) (Or.inl ⟨by rfl, fun w' hS' => by first | rfl | (go_simp; done) | (go_simp; rfl)⟩) hSA ?_
            try simp only [Act.put, List.setIfInBounds_toArray, List.set_cons_zero, List.set_cons_succ]
            refine wpAnyH_ready (rs := [13]) (by kernel_rfl) (by simp) ?_
            refine AllReadyH.cons (o := { dst := some 8, op := Go.Op.alloc 23, type := 0, pos := "prog.go:62", after := #[], guard := none }) rfl (fun K' hK => ?_) AllReadyH.nil
            have NEB := Lib.hid (show _ ≠ rb from Nat.ne_of_gt (blk_lt HA.out.c.r))
            have NEH := Lib.hid (show _ ≠ hb from Nat.ne_of_gt (blk_lt HA.out.h))
            have NEX := Lib.hid (show _ ≠ xb from Nat.ne_of_gt (blk_lt HA.out.c.x))
            have NEW := Lib.hid HA.out.c.g.size
            have HB := Lib.hid (dh_alloc (.cells #[.int .i64 0, .string ⟨#[]⟩, .string ⟨#[]⟩, .int .i64 0] 23) HA.out)
            have BB := Lib.hid (blk_new (wc4) (.cells #[.int .i64 0, .string ⟨#[]⟩, .string ⟨#[]⟩, .int .i64 0] 23))
            rw [if_pos (by rfl)]
            go_simp
            refine hK.out _ _ (by rw [← HC.out]; exact HB.out.h) (fun hSB => ?_)
            clear hK K'
            try simp only [Act.put, List.setIfInBounds_toArray, List.set_cons_zero, List.set_cons_succ]
            refine wpAnyH_ready (rs := [14]) (by kernel_rfl) (by simp) ?_
            refine AllReadyH.cons (o := { dst := none, op := Go.Op.store 23 (Go.Operand.tmp 8) (Go.Operand.tmp 48), type := 0, pos := "prog.go:62", after := #[{ on := 13, ground := Go.Ground.data }, { on := 12, ground := Go.Ground.data }, { on := 9, ground := Go.Ground.chain }, { on := 0, ground := Go.Ground.phase }, { on := 1, ground := Go.Ground.phase }, { on := 2, ground := Go.Ground.phase }, { on := 3, ground := Go.Ground.phase }, { on := 4, ground := Go.Ground.phase }, { on := 5, ground := Go.Ground.phase }, { on := 6, ground := Go.Ground.phase }, { on := 7, ground := Go.Ground.phase }, { on := 8, ground := Go.Ground.phase }, { on := 9, ground := Go.Ground.phase }, { on := 10, ground := Go.Ground.phase }, { on := 11, ground := Go.Ground.phase }, { on := 12, ground := Go.Ground.phase }, { on := 13, ground := Go.Ground.phase }], guard := none }) rfl (fun K' hK => ?_) AllReadyH.nil
            rw [if_pos (by rfl)]
            refine wp_store_row 23 _ _ rfl _ (pgC ⟨en, tx, da, bs⟩) rfl rfl 23 _ BB.out (show (Tryz.prog.info? 23).map (·.size) = some 4 by kernel_rfl) rfl (by simp [pgC, Value.oneCell']) ?_
            have HF := Lib.hid (dh_setRow HB.out NEB.out NEH.out NEX.out NEW.out (pgC ⟨en, tx, da, bs⟩))
            have BF := Lib.hid (setRow_heap _ _ _ (pgC ⟨en, tx, da, bs⟩) _ _ BB.out)
            refine hK.out _ _ (by rw [← HC.out]; exact HF.out.h) (fun hHF => ?_)
            clear hK K'
            try simp only [Act.put, List.setIfInBounds_toArray, List.set_cons_zero, List.set_cons_succ]
            refine wpAnyH_done (by kernel_rfl) ?_ _
            generalize (World.setRow _ _ _) = wF at *
            have EN2 : RowKit.Hid (∀ w, Calls Tryz.prog 22 #[.agg (pgC ⟨en, tx, da, bs⟩)] w fun e w' => e = .returned (.tuple #[.string (encV ⟨en, tx, da, bs⟩), .int .i64 (encE ⟨en, tx, da, bs⟩)]) ∧ Gr w w') := Lib.hid EN.out
            clear EN hHF
            cases hm : mayP ⟨en, tx, da, bs⟩ with
            | false =>
              rw [hm, Bool.false_and] at HDEC
              have v1 : encV ⟨en, tx, da, bs⟩ = ⟨#[]⟩ := by unfold encV; rw [hm]; rfl
              have v2 : encE ⟨en, tx, da, bs⟩ = 6 := by unfold encE; rw [hm]; rfl
              rw [v1, v2] at EN2
              clear v1 v2 hm
              go_wp2_with (first
                | (refine wpList_load_row rfl 23 _ rfl _ rfl 23 _ (0, 0) _ BE.out Tryz.underlying23 rfl pg_info ?_)
                | (refine wpList_load_row rfl 23 _ rfl _ rfl 23 _ (0, 0) _ BF.out Tryz.underlying23 rfl pg_info ?_)
                | (refine wpList_store_row rfl 23 _ _ rfl _ (pgC pg0) rfl rfl 23 _ XE.out pg_info rfl (pgC_all _) ?_)
                | (go_at_call 22; refine (EN2.out _).mono ?_; rintro e wE ⟨rfl, gE⟩; have BE := Lib.hid (blk_gr gE BF.out); have XE := Lib.hid (blk_gr gE HF.out.c.x); have GE := Lib.hid (gtrans HF.out.c.g gE); clear gE))
              refine bodyPost_ret (res2' rfl _ _ _ xb (pgV pg0) rfl (ldP (setRow_heap _ _ _ (pgC pg0) _ _ XE.out))) rfl ⟨?_, below_setRow GE.out HF.out.c.xn _⟩
              rw [HP.out]; unfold decE; rw [HDEC.out]; rfl

            | true =>
              rw [hm, Bool.true_and] at HDEC
              have v1 : encV ⟨en, tx, da, bs⟩ = encP ⟨en, tx, da, bs⟩ := by unfold encV; rw [hm]; rfl
              have v2 : encE ⟨en, tx, da, bs⟩ = 0 := by unfold encE; rw [hm]; rfl
              rw [v1, v2] at EN2
              clear v1 v2 hm
              by_cases he : encP ⟨en, tx, da, bs⟩ = s
              · rw [he, decide_eq_true rfl] at HDEC
                rw [he] at EN2
                clear he
                have hb0 : (s.toList == s.toList) = true := beq_self_eq_true _
                have hb3 : (s.toList != s.toList) = false := by rw [bne, hb0]; rfl
                go_wp2_with (first
                  | (refine wpList_load_row rfl 23 _ rfl _ rfl 23 _ (0, 0) _ BE.out Tryz.underlying23 rfl pg_info ?_)
                  | (refine wpList_load_row rfl 23 _ rfl _ rfl 23 _ (0, 0) _ BF.out Tryz.underlying23 rfl pg_info ?_)
                  | (refine wpList_store_row rfl 23 _ _ rfl _ (pgC ⟨en, tx, da, bs⟩) rfl rfl 23 _ XE.out pg_info rfl (pgC_all _) ?_)
                  | (go_at_call 22; refine (EN2.out _).mono ?_; rintro e wE ⟨rfl, gE⟩; have BE := Lib.hid (blk_gr gE BF.out); have XE := Lib.hid (blk_gr gE HF.out.c.x); have GE := Lib.hid (gtrans HF.out.c.g gE); clear gE))
                refine bodyPost_ret (res2' rfl _ _ _ xb (pgV ⟨en, tx, da, bs⟩) rfl (ldP (setRow_heap _ _ _ (pgC ⟨en, tx, da, bs⟩) _ _ XE.out))) rfl ⟨?_, below_setRow GE.out HF.out.c.xn _⟩
                rw [HP.out]; unfold decE; rw [HDEC.out]; rfl

              · rw [decide_eq_false he] at HDEC
                generalize encP ⟨en, tx, da, bs⟩ = S1 at *
                have hb1 : (S1.toList == s.toList) = false := tlp_ne he
                have hb2 : (S1.toList != s.toList) = true := by rw [bne, hb1]; rfl
                clear he
                go_wp2_with (first
                  | (refine wpList_load_row rfl 23 _ rfl _ rfl 23 _ (0, 0) _ BE.out Tryz.underlying23 rfl pg_info ?_)
                  | (refine wpList_load_row rfl 23 _ rfl _ rfl 23 _ (0, 0) _ BF.out Tryz.underlying23 rfl pg_info ?_)
                  | (refine wpList_store_row rfl 23 _ _ rfl _ (pgC pg0) rfl rfl 23 _ XE.out pg_info rfl (pgC_all _) ?_)
                  | (go_at_call 22; refine (EN2.out _).mono ?_; rintro e wE ⟨rfl, gE⟩; have BE := Lib.hid (blk_gr gE BF.out); have XE := Lib.hid (blk_gr gE HF.out.c.x); have GE := Lib.hid (gtrans HF.out.c.g gE); clear gE))
                refine bodyPost_ret (res2' rfl _ _ _ xb (pgV pg0) rfl (ldP (setRow_heap _ _ _ (pgC pg0) _ _ XE.out))) rfl ⟨?_, below_setRow GE.out HF.out.c.xn _⟩
                rw [HP.out]; unfold decE; rw [HDEC.out]; rfl

          · have NEB := Lib.hid (show _ ≠ rb from Nat.ne_of_gt (blk_lt H9.out.c.r))
            have NEH := Lib.hid (show _ ≠ hb from Nat.ne_of_gt (blk_lt H9.out.h))
            have NEX := Lib.hid (show _ ≠ xb from Nat.ne_of_gt (blk_lt H9.out.c.x))
            have NEW := Lib.hid H9.out.c.g.size
            have HB := Lib.hid (dh_alloc (.cells #[.int .i64 0, .string ⟨#[]⟩, .string ⟨#[]⟩, .int .i64 0] 23) H9.out)
            have BB := Lib.hid (blk_new (wc1) (.cells #[.int .i64 0, .string ⟨#[]⟩, .string ⟨#[]⟩, .int .i64 0] 23))
            rw [if_pos (by rfl)]
            go_simp
            refine hK.out _ _ (by rw [← HC.out]; exact HB.out.h) (fun hSB => ?_)
            clear hK K'
            try simp only [Act.put, List.setIfInBounds_toArray, List.set_cons_zero, List.set_cons_succ]
            refine wpAnyH_ready (rs := [9]) (by kernel_rfl) (by simp) ?_
            refine AllReadyH.cons (o := { dst := some 45, op := Go.Op.call { callee := Go.Callee.value (Go.Operand.tmp 42), args := #[Go.Operand.tmp 44], argTypes := #[3] }, type := 9, pos := "prog.go:62", after := #[{ on := 6, ground := Go.Ground.data }, { on := 8, ground := Go.Ground.data }, { on := 5, ground := Go.Ground.chain }], guard := none }) rfl (fun K' hK => ?_) AllReadyH.nil
            rw [if_pos (by rfl)]
            go_wp2_with (go_at_call 51; refine (C2.out _ (by first | exact HB.out | exact dh_drew HB.out)).mono ?_; rintro e wc7 ⟨rfl, hc8, qc9⟩)
            have HC9 := Lib.hid hc8
            have BC := Lib.hid ((qc9 _ NEB.out).trans BB.out)
            clear hc8 qc9
            refine hK.out _ _ (by rw [← HC.out]; exact HC9.out.h) (fun hSC => ?_)
            clear hK K'
            try simp only [Act.put, List.setIfInBounds_toArray, List.set_cons_zero, List.set_cons_succ]
            refine wpAnyH_take (i := 12) (oi := { dst := some 48, op := Go.Op.build 23 #[(0, Go.Operand.tmp 37), (1, Go.Operand.tmp 41), (2, Go.Operand.tmp 45), (3, Go.Operand.tmp 47)], type := 23, pos := "prog.go:62", after := #[{ on := 1, ground := Go.Ground.data }, { on := 5, ground := Go.Ground.data }, { on := 9, ground := Go.Ground.data }, { on := 11, ground := Go.Ground.data }], guard := none }) (v := .agg (pgC ⟨en, tx, da, bs⟩)) rfl (by kernel_rfl) (by kernel_rfl) (by kernel_rfl) (fun _ _ _ h => h) (Or.inl ⟨by rfl, fun w' hS' => by first | rfl | (go_simp; done) | (go_simp; rfl)⟩) hSC ?_
            try simp only [Act.put, List.setIfInBounds_toArray, List.set_cons_zero, List.set_cons_succ]
            refine wpAnyH_ready (rs := [14]) (by kernel_rfl) (by simp) ?_
            refine AllReadyH.cons (o := { dst := none, op := Go.Op.store 23 (Go.Operand.tmp 8) (Go.Operand.tmp 48), type := 0, pos := "prog.go:62", after := #[{ on := 13, ground := Go.Ground.data }, { on := 12, ground := Go.Ground.data }, { on := 9, ground := Go.Ground.chain }, { on := 0, ground := Go.Ground.phase }, { on := 1, ground := Go.Ground.phase }, { on := 2, ground := Go.Ground.phase }, { on := 3, ground := Go.Ground.phase }, { on := 4, ground := Go.Ground.phase }, { on := 5, ground := Go.Ground.phase }, { on := 6, ground := Go.Ground.phase }, { on := 7, ground := Go.Ground.phase }, { on := 8, ground := Go.Ground.phase }, { on := 9, ground := Go.Ground.phase }, { on := 10, ground := Go.Ground.phase }, { on := 11, ground := Go.Ground.phase }, { on := 12, ground := Go.Ground.phase }, { on := 13, ground := Go.Ground.phase }], guard := none }) rfl (fun K' hK => ?_) AllReadyH.nil
            rw [if_pos (by rfl)]
            refine wp_store_row 23 _ _ rfl _ (pgC ⟨en, tx, da, bs⟩) rfl rfl 23 _ BC.out (show (Tryz.prog.info? 23).map (·.size) = some 4 by kernel_rfl) rfl (by simp [pgC, Value.oneCell']) ?_
            have HF := Lib.hid (dh_setRow HC9.out NEB.out NEH.out NEX.out NEW.out (pgC ⟨en, tx, da, bs⟩))
            have BF := Lib.hid (setRow_heap _ _ _ (pgC ⟨en, tx, da, bs⟩) _ _ BC.out)
            refine hK.out _ _ (by rw [← HC.out]; exact HF.out.h) (fun hHF => ?_)
            clear hK K'
            try simp only [Act.put, List.setIfInBounds_toArray, List.set_cons_zero, List.set_cons_succ]
            refine wpAnyH_done (by kernel_rfl) ?_ _
            generalize (World.setRow _ _ _) = wF at *
            have EN2 : RowKit.Hid (∀ w, Calls Tryz.prog 22 #[.agg (pgC ⟨en, tx, da, bs⟩)] w fun e w' => e = .returned (.tuple #[.string (encV ⟨en, tx, da, bs⟩), .int .i64 (encE ⟨en, tx, da, bs⟩)]) ∧ Gr w w') := Lib.hid EN.out
            clear EN hHF
            cases hm : mayP ⟨en, tx, da, bs⟩ with
            | false =>
              rw [hm, Bool.false_and] at HDEC
              have v1 : encV ⟨en, tx, da, bs⟩ = ⟨#[]⟩ := by unfold encV; rw [hm]; rfl
              have v2 : encE ⟨en, tx, da, bs⟩ = 6 := by unfold encE; rw [hm]; rfl
              rw [v1, v2] at EN2
              clear v1 v2 hm
              go_wp2_with (first
                | (refine wpList_load_row rfl 23 _ rfl _ rfl 23 _ (0, 0) _ BE.out Tryz.underlying23 rfl pg_info ?_)
                | (refine wpList_load_row rfl 23 _ rfl _ rfl 23 _ (0, 0) _ BF.out Tryz.underlying23 rfl pg_info ?_)
                | (refine wpList_store_row rfl 23 _ _ rfl _ (pgC pg0) rfl rfl 23 _ XE.out pg_info rfl (pgC_all _) ?_)
                | (go_at_call 22; refine (EN2.out _).mono ?_; rintro e wE ⟨rfl, gE⟩; have BE := Lib.hid (blk_gr gE BF.out); have XE := Lib.hid (blk_gr gE HF.out.c.x); have GE := Lib.hid (gtrans HF.out.c.g gE); clear gE))
              refine bodyPost_ret (res2' rfl _ _ _ xb (pgV pg0) rfl (ldP (setRow_heap _ _ _ (pgC pg0) _ _ XE.out))) rfl ⟨?_, below_setRow GE.out HF.out.c.xn _⟩
              rw [HP.out]; unfold decE; rw [HDEC.out]; rfl

            | true =>
              rw [hm, Bool.true_and] at HDEC
              have v1 : encV ⟨en, tx, da, bs⟩ = encP ⟨en, tx, da, bs⟩ := by unfold encV; rw [hm]; rfl
              have v2 : encE ⟨en, tx, da, bs⟩ = 0 := by unfold encE; rw [hm]; rfl
              rw [v1, v2] at EN2
              clear v1 v2 hm
              by_cases he : encP ⟨en, tx, da, bs⟩ = s
              · rw [he, decide_eq_true rfl] at HDEC
                rw [he] at EN2
                clear he
                have hb0 : (s.toList == s.toList) = true := beq_self_eq_true _
                have hb3 : (s.toList != s.toList) = false := by rw [bne, hb0]; rfl
                go_wp2_with (first
                  | (refine wpList_load_row rfl 23 _ rfl _ rfl 23 _ (0, 0) _ BE.out Tryz.underlying23 rfl pg_info ?_)
                  | (refine wpList_load_row rfl 23 _ rfl _ rfl 23 _ (0, 0) _ BF.out Tryz.underlying23 rfl pg_info ?_)
                  | (refine wpList_store_row rfl 23 _ _ rfl _ (pgC ⟨en, tx, da, bs⟩) rfl rfl 23 _ XE.out pg_info rfl (pgC_all _) ?_)
                  | (go_at_call 22; refine (EN2.out _).mono ?_; rintro e wE ⟨rfl, gE⟩; have BE := Lib.hid (blk_gr gE BF.out); have XE := Lib.hid (blk_gr gE HF.out.c.x); have GE := Lib.hid (gtrans HF.out.c.g gE); clear gE))
                refine bodyPost_ret (res2' rfl _ _ _ xb (pgV ⟨en, tx, da, bs⟩) rfl (ldP (setRow_heap _ _ _ (pgC ⟨en, tx, da, bs⟩) _ _ XE.out))) rfl ⟨?_, below_setRow GE.out HF.out.c.xn _⟩
                rw [HP.out]; unfold decE; rw [HDEC.out]; rfl

              · rw [decide_eq_false he] at HDEC
                generalize encP ⟨en, tx, da, bs⟩ = S1 at *
                have hb1 : (S1.toList == s.toList) = false := tlp_ne he
                have hb2 : (S1.toList != s.toList) = true := by rw [bne, hb1]; rfl
                clear he
                go_wp2_with (first
                  | (refine wpList_load_row rfl 23 _ rfl _ rfl 23 _ (0, 0) _ BE.out Tryz.underlying23 rfl pg_info ?_)
                  | (refine wpList_load_row rfl 23 _ rfl _ rfl 23 _ (0, 0) _ BF.out Tryz.underlying23 rfl pg_info ?_)
                  | (refine wpList_store_row rfl 23 _ _ rfl _ (pgC pg0) rfl rfl 23 _ XE.out pg_info rfl (pgC_all _) ?_)
                  | (go_at_call 22; refine (EN2.out _).mono ?_; rintro e wE ⟨rfl, gE⟩; have BE := Lib.hid (blk_gr gE BF.out); have XE := Lib.hid (blk_gr gE HF.out.c.x); have GE := Lib.hid (gtrans HF.out.c.g gE); clear gE))
                refine bodyPost_ret (res2' rfl _ _ _ xb (pgV pg0) rfl (ldP (setRow_heap _ _ _ (pgC pg0) _ _ XE.out))) rfl ⟨?_, below_setRow GE.out HF.out.c.xn _⟩
                rw [HP.out]; unfold decE; rw [HDEC.out]; rfl

        · have NEB := Lib.hid (show _ ≠ rb from Nat.ne_of_gt (blk_lt KD.out.c.r))
          have NEH := Lib.hid (show _ ≠ hb from Nat.ne_of_gt (blk_lt KD.out.h))
          have NEX := Lib.hid (show _ ≠ xb from Nat.ne_of_gt (blk_lt KD.out.c.x))
          have NEW := Lib.hid KD.out.c.g.size
          have HB := Lib.hid (dh_alloc (.cells #[.int .i64 0, .string ⟨#[]⟩, .string ⟨#[]⟩, .int .i64 0] 23) KD.out)
          have BB := Lib.hid (blk_new (wd) (.cells #[.int .i64 0, .string ⟨#[]⟩, .string ⟨#[]⟩, .int .i64 0] 23))
          rw [if_pos (by rfl)]
          go_simp
          refine hK.out _ _ (by rw [← HC.out]; exact HB.out.h) (fun hSB => ?_)
          clear hK K'
          try simp only [Act.put, List.setIfInBounds_toArray, List.set_cons_zero, List.set_cons_succ]
          refine wpAnyH_ready (rs := [5]) (by kernel_rfl) (by simp) ?_
          refine AllReadyH.cons (o := { dst := some 41, op := Go.Op.call { callee := Go.Callee.value (Go.Operand.tmp 38), args := #[Go.Operand.tmp 40], argTypes := #[3] }, type := 9, pos := "prog.go:62", after := #[{ on := 2, ground := Go.Ground.data }, { on := 4, ground := Go.Ground.data }], guard := none }) rfl (fun K' hK => ?_) AllReadyH.nil
          rw [if_pos (by rfl)]
          go_wp2_with (go_at_call 51; refine (C1.out _ (by first | exact HB.out | exact dh_drew HB.out)).mono ?_; rintro e wc10 ⟨rfl, hc11, qc12⟩)
          have H9 := Lib.hid hc11
          have BC := Lib.hid ((qc12 _ NEB.out).trans BB.out)
          clear hc11 qc12
          refine hK.out _ _ (by rw [← HC.out]; exact H9.out.h) (fun hS9 => ?_)
          clear hK K'
          try simp only [Act.put, List.setIfInBounds_toArray, List.set_cons_zero, List.set_cons_succ]
          refine wpAnyH_ready (rs := [9]) (by kernel_rfl) (by simp) ?_
          refine AllReadyH.cons (o := { dst := some 45, op := Go.Op.call { callee := Go.Callee.value (Go.Operand.tmp 42), args := #[Go.Operand.tmp 44], argTypes := #[3] }, type := 9, pos := "prog.go:62", after := #[{ on := 6, ground := Go.Ground.data }, { on := 8, ground := Go.Ground.data }, { on := 5, ground := Go.Ground.chain }], guard := none }) rfl (fun K' hK => ?_) AllReadyH.nil
          rw [if_pos (by rfl)]
          go_wp2_with (go_at_call 51; refine (C2.out _ (by first | exact H9.out | exact dh_drew H9.out)).mono ?_; rintro e wc13 ⟨rfl, hc14, qc15⟩)
          have HA := Lib.hid hc14
          have BD2 := Lib.hid ((qc15 _ NEB.out).trans BC.out)
          clear hc14 qc15
          refine hK.out _ _ (by rw [← HC.out]; exact HA.out.h) (fun hSA => ?_)
          clear hK K'
          try simp only [Act.put, List.setIfInBounds_toArray, List.set_cons_zero, List.set_cons_succ]
          refine wpAnyH_take (i := 12) (oi := { dst := some 48, op := Go.Op.build 23 #[(0, Go.Operand.tmp 37), (1, Go.Operand.tmp 41), (2, Go.Operand.tmp 45), (3, Go.Operand.tmp 47)], type := 23, pos := "prog.go:62", after := #[{ on := 1, ground := Go.Ground.data }, { on := 5, ground := Go.Ground.data }, { on := 9, ground := Go.Ground.data }, { on := 11, ground := Go.Ground.data }], guard := none }) (v := .agg (pgC ⟨en, tx, da, bs⟩)) rfl (by kernel_rfl) (by kernel_rfl) (by kernel_rfl) (fun _ _ _ h => h) (Or.inl ⟨by rfl, fun w' hS' => by first | rfl | (go_simp; done) | (go_simp; rfl)⟩) hSA ?_
          try simp only [Act.put, List.setIfInBounds_toArray, List.set_cons_zero, List.set_cons_succ]
          refine wpAnyH_ready (rs := [14]) (by kernel_rfl) (by simp) ?_
          refine AllReadyH.cons (o := { dst := none, op := Go.Op.store 23 (Go.Operand.tmp 8) (Go.Operand.tmp 48), type := 0, pos := "prog.go:62", after := #[{ on := 13, ground := Go.Ground.data }, { on := 12, ground := Go.Ground.data }, { on := 9, ground := Go.Ground.chain }, { on := 0, ground := Go.Ground.phase }, { on := 1, ground := Go.Ground.phase }, { on := 2, ground := Go.Ground.phase }, { on := 3, ground := Go.Ground.phase }, { on := 4, ground := Go.Ground.phase }, { on := 5, ground := Go.Ground.phase }, { on := 6, ground := Go.Ground.phase }, { on := 7, ground := Go.Ground.phase }, { on := 8, ground := Go.Ground.phase }, { on := 9, ground := Go.Ground.phase }, { on := 10, ground := Go.Ground.phase }, { on := 11, ground := Go.Ground.phase }, { on := 12, ground := Go.Ground.phase }, { on := 13, ground := Go.Ground.phase }], guard := none }) rfl (fun K' hK => ?_) AllReadyH.nil
          rw [if_pos (by rfl)]
          refine wp_store_row 23 _ _ rfl _ (pgC ⟨en, tx, da, bs⟩) rfl rfl 23 _ BD2.out (show (Tryz.prog.info? 23).map (·.size) = some 4 by kernel_rfl) rfl (by simp [pgC, Value.oneCell']) ?_
          have HF := Lib.hid (dh_setRow HA.out NEB.out NEH.out NEX.out NEW.out (pgC ⟨en, tx, da, bs⟩))
          have BF := Lib.hid (setRow_heap _ _ _ (pgC ⟨en, tx, da, bs⟩) _ _ BD2.out)
          refine hK.out _ _ (by rw [← HC.out]; exact HF.out.h) (fun hHF => ?_)
          clear hK K'
          try simp only [Act.put, List.setIfInBounds_toArray, List.set_cons_zero, List.set_cons_succ]
          refine wpAnyH_done (by kernel_rfl) ?_ _
          generalize (World.setRow _ _ _) = wF at *
          have EN2 : RowKit.Hid (∀ w, Calls Tryz.prog 22 #[.agg (pgC ⟨en, tx, da, bs⟩)] w fun e w' => e = .returned (.tuple #[.string (encV ⟨en, tx, da, bs⟩), .int .i64 (encE ⟨en, tx, da, bs⟩)]) ∧ Gr w w') := Lib.hid EN.out
          clear EN hHF
          cases hm : mayP ⟨en, tx, da, bs⟩ with
          | false =>
            rw [hm, Bool.false_and] at HDEC
            have v1 : encV ⟨en, tx, da, bs⟩ = ⟨#[]⟩ := by unfold encV; rw [hm]; rfl
            have v2 : encE ⟨en, tx, da, bs⟩ = 6 := by unfold encE; rw [hm]; rfl
            rw [v1, v2] at EN2
            clear v1 v2 hm
            go_wp2_with (first
              | (refine wpList_load_row rfl 23 _ rfl _ rfl 23 _ (0, 0) _ BE.out Tryz.underlying23 rfl pg_info ?_)
              | (refine wpList_load_row rfl 23 _ rfl _ rfl 23 _ (0, 0) _ BF.out Tryz.underlying23 rfl pg_info ?_)
              | (refine wpList_store_row rfl 23 _ _ rfl _ (pgC pg0) rfl rfl 23 _ XE.out pg_info rfl (pgC_all _) ?_)
              | (go_at_call 22; refine (EN2.out _).mono ?_; rintro e wE ⟨rfl, gE⟩; have BE := Lib.hid (blk_gr gE BF.out); have XE := Lib.hid (blk_gr gE HF.out.c.x); have GE := Lib.hid (gtrans HF.out.c.g gE); clear gE))
            refine bodyPost_ret (res2' rfl _ _ _ xb (pgV pg0) rfl (ldP (setRow_heap _ _ _ (pgC pg0) _ _ XE.out))) rfl ⟨?_, below_setRow GE.out HF.out.c.xn _⟩
            rw [HP.out]; unfold decE; rw [HDEC.out]; rfl

          | true =>
            rw [hm, Bool.true_and] at HDEC
            have v1 : encV ⟨en, tx, da, bs⟩ = encP ⟨en, tx, da, bs⟩ := by unfold encV; rw [hm]; rfl
            have v2 : encE ⟨en, tx, da, bs⟩ = 0 := by unfold encE; rw [hm]; rfl
            rw [v1, v2] at EN2
            clear v1 v2 hm
            by_cases he : encP ⟨en, tx, da, bs⟩ = s
            · rw [he, decide_eq_true rfl] at HDEC
              rw [he] at EN2
              clear he
              have hb0 : (s.toList == s.toList) = true := beq_self_eq_true _
              have hb3 : (s.toList != s.toList) = false := by rw [bne, hb0]; rfl
              go_wp2_with (first
                | (refine wpList_load_row rfl 23 _ rfl _ rfl 23 _ (0, 0) _ BE.out Tryz.underlying23 rfl pg_info ?_)
                | (refine wpList_load_row rfl 23 _ rfl _ rfl 23 _ (0, 0) _ BF.out Tryz.underlying23 rfl pg_info ?_)
                | (refine wpList_store_row rfl 23 _ _ rfl _ (pgC ⟨en, tx, da, bs⟩) rfl rfl 23 _ XE.out pg_info rfl (pgC_all _) ?_)
                | (go_at_call 22; refine (EN2.out _).mono ?_; rintro e wE ⟨rfl, gE⟩; have BE := Lib.hid (blk_gr gE BF.out); have XE := Lib.hid (blk_gr gE HF.out.c.x); have GE := Lib.hid (gtrans HF.out.c.g gE); clear gE))
              refine bodyPost_ret (res2' rfl _ _ _ xb (pgV ⟨en, tx, da, bs⟩) rfl (ldP (setRow_heap _ _ _ (pgC ⟨en, tx, da, bs⟩) _ _ XE.out))) rfl ⟨?_, below_setRow GE.out HF.out.c.xn _⟩
              rw [HP.out]; unfold decE; rw [HDEC.out]; rfl

            · rw [decide_eq_false he] at HDEC
              generalize encP ⟨en, tx, da, bs⟩ = S1 at *
              have hb1 : (S1.toList == s.toList) = false := tlp_ne he
              have hb2 : (S1.toList != s.toList) = true := by rw [bne, hb1]; rfl
              clear he
              go_wp2_with (first
                | (refine wpList_load_row rfl 23 _ rfl _ rfl 23 _ (0, 0) _ BE.out Tryz.underlying23 rfl pg_info ?_)
                | (refine wpList_load_row rfl 23 _ rfl _ rfl 23 _ (0, 0) _ BF.out Tryz.underlying23 rfl pg_info ?_)
                | (refine wpList_store_row rfl 23 _ _ rfl _ (pgC pg0) rfl rfl 23 _ XE.out pg_info rfl (pgC_all _) ?_)
                | (go_at_call 22; refine (EN2.out _).mono ?_; rintro e wE ⟨rfl, gE⟩; have BE := Lib.hid (blk_gr gE BF.out); have XE := Lib.hid (blk_gr gE HF.out.c.x); have GE := Lib.hid (gtrans HF.out.c.g gE); clear gE))
              refine bodyPost_ret (res2' rfl _ _ _ xb (pgV pg0) rfl (ldP (setRow_heap _ _ _ (pgC pg0) _ _ XE.out))) rfl ⟨?_, below_setRow GE.out HF.out.c.xn _⟩
              rw [HP.out]; unfold decE; rw [HDEC.out]; rfl


end Go.Proofs.YtdlglnoffpnonaaGreat.P
