/- Stage 12: a program's parts; how many frames they take. No condition. -/
import Derived.Test.YtdlglnoffpnonaaGreatPH
import Derived.Test.YtdlglnoffpnonaaGreatPG
import Derived.Deep.LoopGhost
import Derived.Test.YtdlglnoffpnonaaGreatEA
set_option linter.unusedVariables false
set_option linter.unusedSimpArgs false
set_option maxRecDepth 100000
namespace Go.Proofs.YtdlglnoffpnonaaGreat.P
open Go.RowKit Go.Proofs.YtdlglnoffpnonaaGreat.W
def prF (T : Nat) : Nat → Nat
  | 0 => 1
  | 1 => 1 + T
  | _ => 56
def prC (T D : Nat) : Nat → Nat
  | 0 => T
  | 1 => D
  | _ => 8
def prY (tx da : ByteArray) : Nat → ByteArray
  | 0 => tx
  | 1 => da
  | _ => ⟨#[]⟩
def prB : Nat → Int
  | 0 => 27
  | _ => 23
def prR (T D : Nat) (tx da : ByteArray) (i : Nat) : Array Value := #[.int .i64 (prF T i : Nat), .int .i64 (prC T D i : Nat), .string (prY tx da i), .int .u64 (prB i)]
def prL (T D : Nat) (tx da : ByteArray) : Array Value := #[.int .i64 1, .int .i64 (T : Int), .string tx, .int .u64 27, .int .i64 ((1 + T : Nat) : Int), .int .i64 (D : Int), .string da, .int .u64 23, .int .i64 56, .int .i64 8, .string ⟨#[]⟩, .int .u64 23]
theorem idxP (T D : Nat) (tx da : ByteArray) (i : Nat) (hi : i < 3) (w : World) :
    (Instr.index 75 (.agg (prL T D tx da)) (.int .i64 (i : Int))).run Tryz.prog w = .ok (.agg (prR T D tx da i)) w := by
  have hs : i = 0 ∨ i = 1 ∨ i = 2 := by omega
  unfold prL
  rcases hs with rfl | rfl | rfl <;> simp [Instr.index, run_underlying Tryz.underlying75, asIntOf, go_sem, part] <;> rfl
theorem prL_info : (Tryz.prog.info? 75).map (·.size) = some 12 := by kernel_rfl
theorem prL_all (T D : Nat) (tx da : ByteArray) : (prL T D tx da).all (·.oneCell') = true := by simp [prL, Value.oneCell']
theorem prR_info : (Tryz.prog.info? 74).map (·.size) = some 4 := by kernel_rfl
theorem prR_all (T D : Nat) (tx da : ByteArray) (i : Nat) : (prR T D tx da i).all (·.oneCell') = true := by simp [prR, Value.oneCell']
theorem res1c {fn : Func} {p : Tmp} {ty : TypeId} (h : fn.results = #[.cell p ty]) (tmps : Array Value) (P : Program) (w : World) (g : Nat) (v0 : Value)
    (hp : tmps.getD p undef = .pointer (some ⟨g, 0, none⟩)) (hl : (loadVar ty ⟨g, 0, none⟩).run P w = .ok v0 w) :
    (results fn tmps).run P w = .ok v0 w := by
  have hp' : tmps[p]?.getD undef = .pointer (some ⟨g, 0, none⟩) := by simpa using hp
  simp [results, h, hp', asAddr, hl]
theorem ldL {w : World} {g : Nat} {c : Array Value} (hs : c.size = 12) (hg : w.heap[g]? = some (.cells c 75)) : (loadVar 75 ⟨g, 0, none⟩).run Tryz.prog w = .ok (.agg c) w :=
  run_loadVar_row w g 75 75 _ (0, 0) _ hg Tryz.underlying75 rfl (show (Tryz.prog.info? 75).map (·.size) = some c.size by rw [hs]; kernel_rfl)
def zeroL : Array Value := #[.int .i64 0, .int .i64 0, .string ⟨#[]⟩, .int .u64 0, .int .i64 0, .int .i64 0, .string ⟨#[]⟩, .int .u64 0, .int .i64 0, .int .i64 0, .string ⟨#[]⟩, .int .u64 0]
set_option maxHeartbeats 3200000 in
theorem c_parts (x : Pg) (h1 : x.tx.size ≤ maxLen) (h2 : x.da.size ≤ maxLen) (w : World) :
    Calls Tryz.prog 26 #[pgV x] w fun e w' => e = .returned (.agg (prL (szT x) (szD x) x.tx x.da)) ∧ Gr w w' := by
  have CS := Lib.hid (fun w => c_size12 x h1 h2 w)
  obtain ⟨T, hT⟩ : ∃ T, szT x = T := ⟨_, rfl⟩
  obtain ⟨D, hD⟩ : ∃ D, szD x = D := ⟨_, rfl⟩
  have hTb : T ≤ 100000 := by
    rw [← hT]; unfold szT
    cases hm : mayP x with
    | false => exact Nat.zero_le _
    | true => have := (may_iff.1 hm).2.1; rw [cond_true]; unfold pgN; omega
  rw [hT, hD]
  rw [hT, hD] at CS
  clear hT hD h1 h2
  obtain ⟨en, tx, da, bs⟩ := x
  have CS2 : RowKit.Hid (∀ w, Calls Tryz.prog 56 #[.agg #[.int .i64 en, .string tx, .string da, .int .i64 bs]] w fun e w' => e = .returned (.tuple #[.int .i64 (T : Nat), .int .i64 (D : Nat)]) ∧ Gr w w') := Lib.hid CS.out
  have k1 : IntKind.i64.wrap (1 + (T : Int)) = ((1 + T : Nat) : Int) := by rw [IntKind.wrap_i64]; omega
  show Calls Tryz.prog 26 #[.agg #[.int .i64 en, .string tx, .string da, .int .i64 bs]] w _
  clear CS
  go_enter Tryz.func26, Tryz.ntmps26
  go_upto_region 1 with fail
  have B0 : RowKit.Hid (((w.alloc (.cells #[.int .i64 en, .string tx, .string da, .int .i64 bs] 23)).alloc (.cells zeroL 75)).heap[w.heap.size]? = some (.cells #[.int .i64 en, .string tx, .string da, .int .i64 bs] 23)) := Lib.hid (blk_alloc _ (blk_new _ _))
  have B1 : RowKit.Hid (((w.alloc (.cells #[.int .i64 en, .string tx, .string da, .int .i64 bs] 23)).alloc (.cells zeroL 75)).heap[w.heap.size + 1]? = some (.cells zeroL 75)) := Lib.hid (by have := blk_new (w.alloc (.cells #[.int .i64 en, .string tx, .string da, .int .i64 bs] 23)) (.cells zeroL 75); rw [World.size_alloc] at this; exact this)
  have GG : RowKit.Hid (Gr w ((w.alloc (.cells #[.int .i64 en, .string tx, .string da, .int .i64 bs] 23)).alloc (.cells zeroL 75))) := Lib.hid (((Gr.refl w).alloc (Nat.le_refl _) _).alloc (Nat.le_trans (Nat.le_succ _) (Nat.le_of_eq (World.size_alloc _ _).symm)) _)
  have NB := Lib.hid (Nat.le_succ w.heap.size)
  unfold zeroL at B0 B1 GG
  generalize ((w.alloc (.cells #[.int .i64 en, .string tx, .string da, .int .i64 bs] 23)).alloc _) = w2 at *
  generalize hb1 : w.heap.size + 1 = ob at *
  generalize hb0 : w.heap.size = xb at *
  have NO := Lib.hid (show xb ≤ ob by omega)
  have NH := Lib.hid hb0
  clear hb1 hb0 NB
  go_upto_region 2 with (first
    | (refine wpList_load_row rfl 23 _ rfl _ rfl 23 _ (0, 0) _ B0.out Tryz.underlying23 rfl pg_info ?_)
    | (go_at_call 56; refine (CS2.out _).mono ?_; rintro e w3 ⟨rfl, g3⟩; have c1 := blk_cell (blk_gr g3 B0.out) 1 (v := .string tx) rfl; have c2 := blk_cell (blk_gr g3 B0.out) 2 (v := .string da) rfl; have B3 := Lib.hid (blk_gr g3 B1.out); have G3 := Lib.hid (gtrans GG.out g3); clear g3))
  go_wp2_with (first
    | (refine wpList_store_row rfl 75 _ _ rfl _ (prL T D tx da) rfl rfl 75 _ B3.out prL_info rfl (prL_all _ _ _ _) ?_))
  refine bodyPost_ret (res1c rfl _ _ _ ob _ rfl (ldL rfl (setRow_heap _ _ _ (prL T D tx da) _ _ B3.out))) rfl ⟨rfl, below_setRow G3.out (by rw [NH.out]; exact NO.out) _⟩
end Go.Proofs.YtdlglnoffpnonaaGreat.P
namespace Go.Proofs.YtdlglnoffpnonaaGreat.P
open Go.RowKit Go.Proofs.YtdlglnoffpnonaaGreat.W
def stepS (P : Nat) (s : Nat × Int × Int) : Nat × Int × Int := (s.1 + 1 + (bif decide (((P / 32 : Nat) : Int) = s.2.1) then 0 else 1) + (bif decide (((P / 1024 : Nat) : Int) = s.2.2) then 0 else 1), ((P / 32 : Nat) : Int), ((P / 1024 : Nat) : Int))
def fpS : Nat → Nat → Nat × Int × Int → Nat × Int × Int
  | 0, _, s => s
  | k + 1, P, s => fpS k (P + 1) (stepS P s)
def frS (T D : Nat) : Nat → Nat → Nat × Int × Int → Nat × Int × Int
  | 0, _, s => s
  | j + 1, i, s => frS T D j (i + 1) (fpS (prC T D i) (prF T i) s)
def frAll : Bool := (List.range 9).all fun T => (List.range 21).all fun D => decide (T = 0 ∨ (frS T D 3 0 (1, -1, -1)).1 = T + D + 12)
theorem frAll_t : frAll = true := by decide +kernel
theorem fr_is (T D : Nat) (hT : 1 ≤ T ∧ T ≤ 8) (hD : D ≤ 20) : (frS T D 3 0 (1, -1, -1)).1 = T + D + 12 := by
  have h := frAll_t
  unfold frAll at h
  rw [List.all_eq_true] at h
  have h2 := h T (List.mem_range.2 (by omega))
  rw [List.all_eq_true] at h2
  have h3 := h2 D (List.mem_range.2 (by omega))
  rcases of_decide_eq_true h3 with h4 | h4
  · omega
  · exact h4
theorem fp_bd (k P : Nat) (s : Nat × Int × Int) (hs : s.1 ≤ 1000 ∧ -1 ≤ s.2.1 ∧ s.2.1 ≤ 1000 ∧ -1 ≤ s.2.2 ∧ s.2.2 ≤ 1000) : (stepS P s).1 ≤ s.1 + 3 := by
  unfold stepS
  show s.1 + 1 + _ + _ ≤ _
  cases decide (((P / 32 : Nat) : Int) = s.2.1) <;> cases decide (((P / 1024 : Nat) : Int) = s.2.2) <;> simp only [cond_true, cond_false] <;> omega
set_option maxHeartbeats 6400000 in
theorem c_frFor (T D : Nat) (tx da : ByteArray) (hT : T ≤ 8) (hD : D ≤ 20) (w : World) :
    Calls Tryz.prog 27 #[.agg (prL T D tx da)] w fun e w' => e = .returned (.int .i64 ((frS T D 3 0 (1, -1, -1)).1 : Nat)) ∧ Gr w w' := by
  obtain ⟨L, hL⟩ : ∃ L, prL T D tx da = L := ⟨_, rfl⟩
  have hsz : L.size = 12 := by rw [← hL]; rfl
  have hall := prL_all T D tx da
  have IX := Lib.hid (fun i hi w => idxP T D tx da i hi w)
  rw [hL] at hall IX
  rw [hL]
  obtain ⟨N, hN⟩ : ∃ N, (frS T D 3 0 (1, -1, -1)) = N := ⟨_, rfl⟩
  rw [hN]
  have HN := Lib.hid hN
  clear hN hL
  have hL12 : ∃ a0 a1 a2 a3 a4 a5 a6 a7 a8 a9 a10 a11, L = #[a0, a1, a2, a3, a4, a5, a6, a7, a8, a9, a10, a11] := by
    obtain ⟨l⟩ := L
    match l, hsz with
    | [a0, a1, a2, a3, a4, a5, a6, a7, a8, a9, a10, a11], _ => exact ⟨_, _, _, _, _, _, _, _, _, _, _, _, rfl⟩
  have HI := Lib.hid (show (Tryz.prog.info? 75).map (·.size) = some L.size by rw [hsz]; exact prL_info)
  have FC := Lib.hid (show ∀ i, prF T i ≤ 56 ∧ prC T D i ≤ 20 from fun i => match i with | 0 => ⟨show 1 ≤ 56 by decide, show T ≤ 20 by omega⟩ | 1 => ⟨show 1 + T ≤ 56 by omega, hD⟩ | _ + 2 => ⟨Nat.le_refl 56, show 8 ≤ 20 by decide⟩)
  have BX := Lib.hid (blk_new w (.cells L 75))
  have GX := Lib.hid ((Gr.refl w).alloc (Nat.le_refl _) (.cells L 75))
  go_enter Tryz.func27, Tryz.ntmps27
  go_upto_region 1 with fail
  clear hL12
  generalize (World.alloc w _) = w1 at *
  go_wp2_with (refine wpList_load_row rfl 75 _ rfl _ rfl 75 _ (0, 0) _ BX.out Tryz.underlying75 rfl HI.out ?_)
  go_loopg [3, 4, 5, 10] 4 (fun t v3 v4 v5 v10 wr => ∃ (i : Nat) (s : Nat × Int × Int), i ≤ 3 ∧ t = 4 - i ∧ v3 = .int .i64 (s.1 : Nat) ∧ v4 = .int .i64 s.2.1 ∧ v5 = .int .i64 s.2.2 ∧ v10 = .int .i64 (i : Int) ∧ s.1 ≤ 1 + 60 * i ∧ (-1 ≤ s.2.1 ∧ s.2.1 ≤ 1000 ∧ -1 ≤ s.2.2 ∧ s.2.2 ≤ 1000) ∧ frS T D (3 - i) i s = N ∧ Gr w wr)
  case atStart => exact ⟨0, (1, -1, -1), by omega, rfl, rfl, rfl, rfl, rfl, by omega, ⟨by decide, by decide, by decide, by decide⟩, HN.out, GX.out⟩
  case round =>
    clear GX BX HN
    obtain ⟨i, s, hi, rfl, rfl, rfl, rfl, rfl, hs1, hs2, hN, hg⟩ := hrel
    have G := Lib.hid hg
    clear hg
    by_cases hlt : i < 3
    · have n1 : (i : Int) < 3 := by omega
      have n2 : 0 ≤ (i : Int) := by omega
      have n3 : (i : Int).toNat = i := by omega
      have e5 : IntKind.i64.wrap ((i : Int) + 1) = (i : Int) + 1 := by rw [IntKind.wrap_i64]; omega
      have ix := fun w => IX.out i hlt w
      rw [show 3 - i = (3 - (i + 1)) + 1 by omega, frS] at hN
      have hN2 := Lib.hid hN
      clear hN
      unfold prR at ix
      have fc := FC.out i
      obtain ⟨F, hF⟩ : ∃ F, prF T i = F := ⟨_, rfl⟩
      obtain ⟨C, hC⟩ : ∃ C, prC T D i = C := ⟨_, rfl⟩
      obtain ⟨Y, hY⟩ : ∃ Y, prY tx da i = Y := ⟨_, rfl⟩
      obtain ⟨Bi, hB⟩ : ∃ Y, prB i = Y := ⟨_, rfl⟩
      rw [hF, hC, hY, hB] at ix
      rw [hF, hC] at fc hN2
      clear hF hC hY hB
      obtain ⟨wq, rfl⟩ : ∃ w4, w4 = wr := ⟨_, rfl⟩
      go_upto_region 6 with fail
      have BF := Lib.hid (blk_new wq (.cells #[.int .i64 (F : Int), .int .i64 (C : Int), .string Y, .int .u64 Bi] 74))
      have GF := Lib.hid (G.out.alloc G.out.size (.cells #[.int .i64 (F : Int), .int .i64 (C : Int), .string Y, .int .u64 Bi] 74))
      generalize (World.alloc wq _) = wf at *
      generalize wq.heap.size = fb at *
      have c0 := blk_cell BF.out 0 (v := .int .i64 (F : Int)) rfl
      go_wp2_with fail
      clear c0 G
      obtain ⟨f0, f1⟩ := fc
      have w1 : IntKind.i64.wrap ((F : Int) + (C : Int)) = (F : Int) + (C : Int) := wrapI _ (by omega) (by omega)
      obtain ⟨s1, s2, s3⟩ := s
      have hs1 : s1 ≤ 1 + 60 * i := hs1
      have hs2 : -1 ≤ s2 ∧ s2 ≤ 1000 ∧ -1 ≤ s3 ∧ s3 ≤ 1000 := hs2
      obtain ⟨RS, hRS⟩ : ∃ RS, fpS C F (s1, s2, s3) = RS := ⟨_, rfl⟩
      rw [hRS] at hN2
      have HRS := Lib.hid hRS
      clear hRS
      go_loopg [3, 4, 5, 8] (C + 1) (fun t v3 v4 v5 v8 wr => ∃ (j P : Nat) (a : Nat) (b c : Int), t = j + 1 ∧ P + j = F + C ∧ F ≤ P ∧ v3 = .int .i64 (a : Nat) ∧ v4 = .int .i64 b ∧ v5 = .int .i64 c ∧ v8 = .int .i64 (P : Int) ∧ a + 3 * j ≤ 1 + 60 * i + 3 * C ∧ (-1 ≤ b ∧ b ≤ 1000 ∧ -1 ≤ c ∧ c ≤ 1000) ∧ fpS j P (a, b, c) = RS ∧ Gr w wr ∧ wr.heap[fb]? = some (.cells #[.int .i64 (F : Int), .int .i64 (C : Int), .string Y, .int .u64 Bi] 74))
      case atStart => exact ⟨C, F, s1, s2, s3, rfl, rfl, Nat.le_refl _, rfl, rfl, rfl, rfl, by omega, hs2, HRS.out, GF.out, BF.out⟩
      case round =>
        clear GF BF HRS hs1 hs2
        obtain ⟨j, P, a, b, c, rfl, hP, hFP, rfl, rfl, rfl, rfl, ha, hb, hx, hg, hbl⟩ := hrel
        have G := Lib.hid hg
        have BF := Lib.hid hbl
        have c0 := blk_cell hbl 0 (v := .int .i64 (F : Int)) rfl
        have c1 := blk_cell hbl 1 (v := .int .i64 (C : Int)) rfl
        clear hg hbl
        cases j with
        | zero =>
          have d1 : ¬ (P : Int) < (F : Int) + (C : Int) := by omega
          have hx2 : (a, b, c) = RS := hx
          subst hx2
          clear hx
          go_wp2_with fail
          go_roundg (4 - (i + 1))
          case measure => omega
          case rel => exact ⟨i + 1, (a, b, c), by omega, rfl, rfl, rfl, rfl, by go_num, by show a ≤ _; omega, hb, hN2.out, G.out⟩
        | succ j =>
          have d1 : (P : Int) < (F : Int) + (C : Int) := by omega
          obtain ⟨q, hq⟩ : ∃ q : Nat, P / 32 = q := ⟨_, rfl⟩
          obtain ⟨r, hr⟩ : ∃ q : Nat, P / 1024 = q := ⟨_, rfl⟩
          have t1 : (P : Int).tdiv 32 = (q : Int) := by rw [Int.tdiv_eq_ediv_of_nonneg (by omega)]; omega
          have t2 : (P : Int) / 32 = (q : Int) := by omega
          have t3 : (P : Int).tdiv 1024 = (r : Int) := by rw [Int.tdiv_eq_ediv_of_nonneg (by omega)]; omega
          have t4 : (P : Int) / 1024 = (r : Int) := by omega
          have v1 : IntKind.i64.wrap (q : Int) = (q : Int) := wrapI _ (by omega) (by omega)
          have v2 : IntKind.i64.wrap (r : Int) = (r : Int) := wrapI _ (by omega) (by omega)
          have v3 : IntKind.i64.wrap ((a : Int) + 1) = ((a + 1 : Nat) : Int) := wrapI _ (by omega) (by omega)
          have v4 : IntKind.i64.wrap (((a + 1 : Nat) : Int) + 1) = ((a + 2 : Nat) : Int) := wrapI _ (by omega) (by omega)
          have v5 : IntKind.i64.wrap (((a + 2 : Nat) : Int) + 1) = ((a + 3 : Nat) : Int) := wrapI _ (by omega) (by omega)
          have v6 : IntKind.i64.wrap ((P : Int) + 1) = ((P + 1 : Nat) : Int) := wrapI _ (by omega) (by omega)
          rw [fpS, stepS, hq, hr] at hx
          have hqb : q ≤ 1000 ∧ r ≤ 1000 := by omega
          clear hq hr
          have HX := Lib.hid hx
          clear hx
          by_cases h1 : (q : Int) = b
          · by_cases h2 : (r : Int) = c
            · subst h1; subst h2
              have hX2 : fpS j (P + 1) (a + 1, (q : Int), (r : Int)) = RS := by have := HX.out; rw [decide_eq_true rfl, decide_eq_true rfl] at this; exact this
              have HX2 := Lib.hid hX2
              clear HX hX2
              go_wp2_with fail
              go_roundg (j + 1)
              case measure => omega
              case rel => exact ⟨j, P + 1, a + 1, q, r, rfl, by omega, by omega, by go_num, rfl, rfl, by go_num, by omega, by omega, HX2.out, G.out, BF.out⟩
            · subst h1
              have b1 : ((r : Int) == c) = false := by simpa using h2
              have b2 : ((r : Int) != c) = true := by simpa using h2
              have hX2 : fpS j (P + 1) (a + 2, (q : Int), (r : Int)) = RS := by have := HX.out; rw [decide_eq_true rfl, decide_eq_false h2] at this; exact this
              have HX2 := Lib.hid hX2
              clear HX hX2
              go_wp2_with fail
              go_roundg (j + 1)
              case measure => omega
              case rel => exact ⟨j, P + 1, a + 2, q, r, rfl, by omega, by omega, by go_num, rfl, rfl, by go_num, by omega, by omega, HX2.out, G.out, BF.out⟩
          · have b3 : ((q : Int) == b) = false := by simpa using h1
            have b4 : ((q : Int) != b) = true := by simpa using h1
            by_cases h2 : (r : Int) = c
            · subst h2
              have hX2 : fpS j (P + 1) (a + 2, (q : Int), (r : Int)) = RS := by have := HX.out; rw [decide_eq_false h1, decide_eq_true rfl] at this; exact this
              have HX2 := Lib.hid hX2
              clear HX hX2
              go_wp2_with fail
              go_roundg (j + 1)
              case measure => omega
              case rel => exact ⟨j, P + 1, a + 2, q, r, rfl, by omega, by omega, by go_num, rfl, rfl, by go_num, by omega, by omega, HX2.out, G.out, BF.out⟩
            · have b1 : ((r : Int) == c) = false := by simpa using h2
              have b2 : ((r : Int) != c) = true := by simpa using h2
              have hX2 : fpS j (P + 1) (a + 3, (q : Int), (r : Int)) = RS := by have := HX.out; rw [decide_eq_false h1, decide_eq_false h2] at this; exact this
              have HX2 := Lib.hid hX2
              clear HX hX2
              go_wp2_with fail
              go_roundg (j + 1)
              case measure => omega
              case rel => exact ⟨j, P + 1, a + 3, q, r, rfl, by omega, by omega, by go_num, rfl, rfl, by go_num, by omega, by omega, HX2.out, G.out, BF.out⟩
    · obtain rfl : i = 3 := by omega
      have hN3 : s = N := hN
      subst hN3
      go_wp2_with fail
      go_ret
      exact ⟨rfl, G.out⟩
end Go.Proofs.YtdlglnoffpnonaaGreat.P
