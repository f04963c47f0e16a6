/- Stage 8: lists that came in; the Stat of a file; VolLinks, walked. No condition. -/
import Derived.Test.YtlpcccpagmipnaaGreatWT
set_option linter.unusedVariables false
set_option linter.unusedSimpArgs false
set_option maxRecDepth 100000
namespace Go.Proofs.YtlpcccpagmipnaaGreat.P
open Go.RowKit Go.ChangeMaps Go.MapKept
section
open Go.ChangeShapes Go.WideShapes Go.Deep
variable {H : Type} {enc : TypeId × Value → H} {w : World} {base : Nat} {spare : Nat → Bool} {held : Bool}
theorem open_intsP {v : Value} {d : DataW H} {ps : List MemPlace} (hv : ∃ (o : Option Addr) (l c : Nat), v = .slice o l c) (h : DataW.Trod enc Tryz.prog w base spare held 77 v d ps) (HD : ∀ n ∈ d.weights Tryz.prog 77, n ≤ 140737488351232) :
    ∃ (o : Option Addr) (c : Nat) (A : List Int), v = .slice o A.length c ∧ A.length ≤ 4000000000000000 ∧ RowI w o A := by
  obtain ⟨o, l, c, rfl⟩ := hv
  obtain ⟨fuel, hf⟩ := h
  exact open_ints_c (y := (d, ps)) hf HD
theorem open_strsP {v : Value} {d : DataW H} {ps : List MemPlace} (hv : ∃ (o : Option Addr) (l c : Nat), v = .slice o l c) (h : DataW.Trod enc Tryz.prog w base spare held 42 v d ps) (HD : ∀ n ∈ d.weights Tryz.prog 42, n ≤ 140737488351232) :
    ∃ (o : Option Addr) (c : Nat) (A : List ByteArray), v = .slice o A.length c ∧ A.length ≤ 4000000000000000 ∧ RowS w o A ∧ ∀ s ∈ A, s.size ≤ 9223372036854770000 := by
  obtain ⟨o, l, c, rfl⟩ := hv
  obtain ⟨fuel, hf⟩ := h
  exact open_strs_c (y := (d, ps)) hf HD
end
/-! a Stat -/
def stI (lk sz : Nat) : Ino := ⟨1, lk, sz, []⟩
theorem eqSt (lk mk sz tz : Nat) (w : World) : (Op.equalIn 10000 56 (.agg (statL (stI lk sz))) (.agg (statL (stI mk tz)))).run Tryz.prog w = .ok (decide (lk = mk) && decide (sz = tz)) w := by
  have h1 : Tryz.prog.stoodInHeld 56 = false := by kernel_rfl
  have p0 : ∀ x : Ino, (part 3 (statL x) 0).run Tryz.prog w = .ok (.int .i64 (x.kind : Int)) w := fun x => run_part_plain w (by kernel_rfl) rfl
  have p1 : ∀ x : Ino, (part 3 (statL x) 1).run Tryz.prog w = .ok (.int .i64 (x.links : Int)) w := fun x => run_part_plain w (by kernel_rfl) rfl
  have p2 : ∀ x : Ino, (part 3 (statL x) 2).run Tryz.prog w = .ok (.int .i64 (x.size : Int)) w := fun x => run_part_plain w (by kernel_rfl) rfl
  have ei : ∀ a b : Nat, (Op.equalIn 9999 3 (.int .i64 (a : Int)) (.int .i64 (b : Int))).run Tryz.prog w = .ok (decide (a = b)) w := fun a b => by rw [← ncast]; exact int_eq _ _ 9998 w
  have e0 : (Op.equalIn 9999 3 (.int .i64 ((1 : Nat) : Int)) (.int .i64 ((1 : Nat) : Int))).run Tryz.prog w = .ok true w := ei 1 1
  have e1 := ei lk mk
  have e2 := ei sz tz
  have x0 := p0 (stI lk sz)
  have x1 := p1 (stI lk sz)
  have x2 := p2 (stI lk sz)
  have y0 := p0 (stI mk tz)
  have y1 := p1 (stI mk tz)
  have y2 := p2 (stI mk tz)
  clear p0 p1 p2 ei
  dsimp only [stI] at x0 x1 x2 y0 y1 y2
  unfold stI
  generalize statL ⟨1, lk, sz, []⟩ = X at *
  generalize statL ⟨1, mk, tz, []⟩ = Y at *
  generalize decide (lk = mk) = b1 at *
  generalize decide (sz = tz) = b2 at *
  generalize ((1 : Nat) : Int) = xk at *
  generalize (lk : Int) = xl at *
  generalize (mk : Int) = yl at *
  generalize (sz : Int) = xs at *
  generalize (tz : Int) = ys at *
  unfold Op.equalIn
  cases b1 <;> cases b2 <;> simp [Sem.run_bind, run_underlying Tryz.underlying56, h1, x0, x1, x2, y0, y1, y2, e0, e1, e2]
theorem wpList_neqSt {ops : Array Oper} {rest : List Oper} {o : Oper} {a : Act} {w : World} {Q : Exit → Act → World → Prop} (hg : o.guard = none) (x y : Operand) (t2 : TypeId) (hop : o.op = .binOp .neq 56 x y t2) (lk mk sz tz : Nat) (ex : a.eval x = .agg (statL (stI lk sz))) (ey : a.eval y = .agg (statL (stI mk tz))) (b : Bool) (hb : (!(decide (lk = mk) && decide (sz = tz))) = b)
    (h : wpList Tryz.prog ops Q rest (a.put o.dst (.bool b)) w) : wpList Tryz.prog ops Q (o :: rest) a w := by
  have hm : Tryz.prog.eqGuardType Tryz.prog.depth 56 = false := Tryz.eqGuardType56
  have h1 := run_eqGuard_agg (P := Tryz.prog) w .neq 56 x y (statL (stI lk sz)) (statL (stI mk tz)) hm
  have h2 := run_neq_struct (P := Tryz.prog) w 56 (statL (stI lk sz)) (statL (stI mk tz))
  rw [eqSt lk mk sz tz w] at h2
  simp only [Result.andThen_ok] at h2
  rw [hb] at h2
  generalize statL (stI lk sz) = XA at *
  generalize statL (stI mk tz) = YA at *
  refine wpList_plain hg fun K' hK' => ?_
  unfold Oper.wp
  have e : (execOp a.eval o).run Tryz.prog w = .ok (.value (.bool b)) w := by
    unfold execOp
    simp [hop, ex, ey, Sem.run_bind, h1, h2]
  rw [e]
  exact hK' _ _ h
theorem wpList_build3 {P : Program} {ops : Array Oper} {rest : List Oper} {o : Oper} {a : Act} {w : World} {Q : Exit → Act → World → Prop} (hgd : o.guard = none) (t : TypeId) (k1 k2 k3 : Nat) (x1 x2 x3 : Operand) (ho : o.op = .build t #[(k1, x1), (k2, x2), (k3, x3)]) (v1 v2 v3 : Value) (e1 : a.eval x1 = v1) (e2 : a.eval x2 = v2) (e3 : a.eval x3 = v3)
    (cells : Array Value) (hb : P.built t [(k1, v1), (k2, v2), (k3, v3)] = some cells) (h : wpList P ops Q rest (a.put o.dst (.agg cells)) w) : wpList P ops Q (o :: rest) a w := by
  have hb2 : P.built t ((#[(k1, x1), (k2, x2), (k3, x3)] : Array (Nat × Operand)).map fun (i, x) => (i, a.eval x)).toList = some cells := by
    simpa [e1, e2, e3] using hb
  refine wpList_plain hgd fun K' hK' => ?_
  unfold Oper.wp execOp
  simp only [ho, Sem.run_bind, run_build w t _ cells hb2, Result.andThen_ok, Sem.run_pure]
  exact hK' _ _ h
theorem built_stat (lk sz : Nat) : Tryz.prog.built 56 [(0, .int .i64 1), (1, .int .i64 (lk : Int)), (2, .int .i64 (sz : Int))] = some (statL (stI lk sz)) := by kernel_rfl
section
variable {w0 w : World} {d n l V m lk : Nat} {R : Asn} {D : List UInt8}
theorem q_stat (h : VS w0 d n l V R m (oneN lk D) w) (hs : Stable R) (h1 : 16 ≤ n) (h2 : n ≤ 512) :
    Calls Tryz.prog 31 #[.pointer (some ⟨V, 0, none⟩), .int .i64 0] w fun e w' => e = .returned (.tuple #[.agg (statL (stI lk D.length)), .int .i64 0]) ∧ VS w0 d n l V R m (oneN lk D) w' := by
  have e : statV (oneN lk D) 0 = statL (stI lk D.length) := rfl
  have := k_stat h hs h1 h2 0
  rw [e, find_one] at this
  exact this
/-- A Stat in a block of its own. -/
theorem vs_stat {N : Nat → NodeA} (h : VS w0 d n l V R m N w) (hs : Stable R) (S : Array Value) :
    ((w.alloc (.cells stat0 56)).setRow w.heap.size S).heap[w.heap.size]? = some (.cells S 56) ∧ VS w0 d n l V R m N ((w.alloc (.cells stat0 56)).setRow w.heap.size S) := by
  obtain ⟨z, ml, st, c1, c2, c3, c4, c5⟩ := h
  have hsv := stable_dl d z l ml st false (stable_star (stable_blk V (.cells #[.pointer (some ⟨l, 0, none⟩)] 89)) hs)
  have h1 := c3.alloc hsv (.cells stat0 56)
  have h2 := h1.setRow hsv S
  exact ⟨h2.blk, z, ml, st, c1, c2, h2.right, c4, c5⟩
theorem q_link (h : VS w0 d n l V R m (oneN lk D) w) (hs : Stable R) (h1 : 16 ≤ n) (h2 : n ≤ 512) (hm : m ≤ 16) (x : Int) (b : Bool) (hb : b = decide (0 ≤ (lk : Int) + x ∧ (lk : Int) + x ≤ 255)) :
    Calls Tryz.prog 38 #[.pointer (some ⟨V, 0, none⟩), .int .i64 0, .int .i64 x] w fun e w' => e = .returned (.int .i64 (bif b then 0 else 15)) ∧ VS w0 d n l V R (m + 1) (oneN (bif b then ((lk : Int) + x).toNat else lk) D) w' := by
  have := k_link h hs h1 h2 hm 0 x
  have e : linkN (oneN lk D) false 0 x = ((bif b then 0 else 15), oneN (bif b then ((lk : Int) + x).toNat else lk) D) := by
    have hl : ((oneN lk D (0 : Int).toNat).links : Int) = (lk : Int) := rfl
    unfold linkN
    rw [find_one, if_neg (fun e => e rfl), hl]
    by_cases hc : 0 ≤ (lk : Int) + x ∧ (lk : Int) + x ≤ 255
    · rw [decide_eq_true hc] at hb
      subst hb
      rw [if_neg (by omega), if_neg (by exact Bool.false_ne_true)]
      show (_, insN (oneN lk D) 0 ⟨1, ((lk : Int) + x).toNat, D⟩) = _
      rw [one_ins]; rfl
    · rw [decide_eq_false hc] at hb
      subst hb
      rw [if_pos (by omega)]; rfl
  rw [e] at this
  exact this
end
set_option maxHeartbeats 12800000 in
theorem l_links8 (w : World) (o : Option Addr) (c : Nat) (A : List Int) (hA : RowI w o A) (hlA : A.length ≤ 4000000000000000) : Calls Tryz.prog 10 #[.slice o A.length c] w fun e w' => e = .returned (.bool true) ∧ Gr w w' := by
  have CS := Lib.hid (c_shown8 w)
  have CF : Hid (∀ w1, Gr w w1 → Calls Tryz.prog 12 #[.int .i64 60] w1 (FreshP w (28 + 32) emp)) := Lib.hid (fun w1 g => c_fresh8 (Own.start g) stable_emp 60)
  unfold FreshP at CF
  have HA := Lib.hid hA
  have abc : (⟨#[97, 98, 99]⟩ : ByteArray).data.toList = [97, 98, 99] := rfl
  have CW : Hid (∀ wx d l V, VS w d 28 l V emp 1 (oneN 0 []) wx → Calls Tryz.prog 36 #[.pointer (some ⟨V, 0, none⟩), .int .i64 0, .int .i64 0, .string ⟨#[97, 98, 99]⟩] wx fun e w' => e = .returned (.int .i64 0) ∧ VS w d 28 l V emp 5 (oneN 0 [97, 98, 99]) w') := Lib.hid (fun wx d l V hw => by
    have := q_write hw stable_emp (by omega) (by omega) (by omega) 0 ⟨#[97, 98, 99]⟩ (Nat.zero_le _) (by decide) (by decide) (by decide)
    rw [abc, wrD_nil] at this
    exact this)
  have HB := Lib.hid built_stat
  have HI := Lib.hid stat_info
  have HZ := Lib.hid stat_zero
  have H1S := Lib.hid stat_one
  clear hA abc
  go_enter Tryz.func10, Tryz.ntmps10
  go_upto_region 2 with (go_at_call 11; refine CS.out.mono ?_; rintro e w1 ⟨rfl, g1⟩; have G1 := Lib.hid g1; clear g1)
  go_upto_region 3 with (go_at_call 12; refine (CF.out _ G1.out).mono ?_; rintro e w2 ⟨d, l, ml, rfl, h2⟩; have H2 := Lib.hid h2; clear h2)
  go_upto_region 6 with (go_at_call 13; refine (k_format H2.out stable_emp (by omega) (by omega)).mono ?_; rintro e w3 ⟨V, rfl, h3⟩; have H3 := Lib.hid h3; clear h3)
  go_upto_region 7 with (go_at_call 14; refine (k_commit H3.out stable_emp (by omega) (by omega)).mono ?_; rintro e w4 ⟨rfl, h4⟩; have H4 := Lib.hid h4; clear h4)
  go_upto_region 8 with (go_at_call 35; refine (q_new H4.out stable_emp (by omega) (by omega) (by omega)).mono ?_; rintro e w5 ⟨rfl, h5⟩; have H5 := Lib.hid h5; clear h5)
  go_upto_region 9 with (go_at_call 36; refine (CW.out _ _ _ _ H5.out).mono ?_; rintro e w6 ⟨rfl, h6⟩; have H6 := Lib.hid h6; clear h6)
  go_upto_region 10 with (go_at_call 14; refine (k_commit H6.out stable_emp (by omega) (by omega)).mono ?_; rintro e w7 ⟨rfl, h7⟩; have H7 := Lib.hid h7; clear h7)
  clear CS CF CW G1 H2 H3 H4 H5 H6
  go_wp2_with fail
  go_loopw [10, 11] (fun v10 v11 wr => ∃ k lk : Nat, k ≤ A.length ∧ lk ≤ 255 ∧ v11 = .int .i64 (k : Int) ∧ v10 = .int .i64 (lk : Int) ∧ VS w d 28 l V emp 0 (oneN lk [97, 98, 99]) wr) (fun _ v _ => A.length - (intOf v).toNat)
  case atStart => exact ⟨0, 0, Nat.zero_le _, Nat.zero_le _, rfl, rfl, H7.out⟩
  case round =>
    clear H7
    obtain ⟨k, lk, hk, hlk, rfl, rfl, ho⟩ := hrel
    have HO := Lib.hid ho
    clear ho
    by_cases hlt : k < A.length
    · have dl : decide (k < A.length) = true := decide_eq_true hlt
      obtain ⟨x, hx⟩ : ∃ x, A[k]? = some x := ⟨A[k], List.getElem?_eq_getElem hlt⟩
      obtain ⟨b, off, rfl, cx⟩ := HA.out.gr HO.out.sub k x hx
      have HKC : Hid (∀ wx, Gr w wx → wx.cell? ⟨b, off + k, none⟩ = some (.int .i64 x)) := Lib.hid (fun wx g => by
        obtain ⟨b2, off2, e2, c2⟩ := HA.out.gr g k x hx
        injection e2 with e2
        injection e2 with e3 e4
        rw [e3, e4]
        exact c2)
      clear hx
      have CST : Hid (∀ wx q, VS w d 28 l V emp 1 (oneN q [97, 98, 99]) wx → Calls Tryz.prog 31 #[.pointer (some ⟨V, 0, none⟩), .int .i64 0] wx fun e w' => e = .returned (.tuple #[.agg (statL (stI q 3)), .int .i64 0]) ∧ VS w d 28 l V emp 1 (oneN q [97, 98, 99]) w') := Lib.hid (fun wx q hw => q_stat hw stable_emp (by omega) (by omega))
      have CLN : Hid (¬ (0 ≤ (lk : Int) + x ∧ (lk : Int) + x ≤ 255) → Calls Tryz.prog 38 #[.pointer (some ⟨V, 0, none⟩), .int .i64 0, .int .i64 x] wr fun e w' => e = .returned (.int .i64 15) ∧ VS w d 28 l V emp 1 (oneN lk [97, 98, 99]) w') := Lib.hid (fun hn => q_link HO.out stable_emp (by omega) (by omega) (by omega) x false (decide_eq_false hn).symm)
      have CLE : Hid (∀ q : Nat, (lk : Int) + x = (q : Int) → q ≤ 255 → Calls Tryz.prog 38 #[.pointer (some ⟨V, 0, none⟩), .int .i64 0, .int .i64 x] wr fun e w' => e = .returned (.int .i64 0) ∧ VS w d 28 l V emp 1 (oneN q [97, 98, 99]) w') := Lib.hid (fun q hq h5 => by
        have := q_link HO.out stable_emp (by omega) (by omega) (by omega) x true (decide_eq_true (by omega)).symm
        rw [hq, cond_true, cond_true, Int.toNat_natCast] at this
        exact this)
      clear HO
      by_cases n1 : -255 ≤ x
      · have d1 : decide (-255 ≤ x) = true := decide_eq_true n1
        by_cases n2 : x ≤ 255
        · have d2 : decide (x ≤ 255) = true := decide_eq_true n2
          by_cases n3 : 0 ≤ (lk : Int) + x
          · have d3 : decide (0 ≤ (lk : Int) + x) = true := decide_eq_true n3
            by_cases n4 : (lk : Int) + x ≤ 255
            · have d4 : decide ((lk : Int) + x ≤ 255) = true := decide_eq_true n4
              obtain ⟨q, hq⟩ : ∃ q : Nat, (lk : Int) + x = (q : Int) := ⟨((lk : Int) + x).toNat, by omega⟩
              have hq5 : q ≤ 255 := by omega
              have HQ := Lib.hid hq
              clear hq
              have CL := Lib.hid (CLE.out q HQ.out (by omega))
              clear CLN CLE
              go_upto_region 15 with (go_at_call 38; refine CL.out.mono ?_; rintro e w8 ⟨rfl, h8⟩; have H8 := Lib.hid h8; clear h8)
              clear CL cx
              have c8 := HKC.out _ H8.out.sub
              go_upto_region 16 with fail
              go_upto_region 20 with fail
              rw [HQ.out]
              clear c8
              go_upto_region 21 with (first
                | (go_at_call 31; refine (CST.out _ _ H8.out).mono ?_; rintro e w9 ⟨rfl, h9⟩; have H9 := Lib.hid h9; clear h9)
                | (refine wpList_alloc_blk rfl 56 stat0 rfl (HZ.out _) ?_)
                | (refine wpList_store_row rfl _ _ _ rfl w9.heap.size (statL (stI q 3)) rfl rfl _ _ (blk_new w9 _) (HI.out (stI q 3)) rfl (H1S.out (stI q 3)) ?_))
              have H10 := Lib.hid (vs_stat H9.out stable_emp (statL (stI q 3)))
              generalize (World.setRow _ _ _) = w10 at *
              generalize w9.heap.size = g at *
              clear H8 H9 CST
              go_upto_region 23 with (first
                | (refine wpList_load_row rfl _ _ rfl g rfl _ (statL (stI q 3)) (0, 0) _ H10.out.1 Tryz.underlying56 rfl (HI.out _) ?_)
                | (refine wpList_build3 rfl 56 0 1 2 _ _ _ rfl (.int .i64 1) (.int .i64 (q : Int)) (.int .i64 ((3 : Nat) : Int)) rfl rfl rfl _ (HB.out q 3) ?_)
                | (refine wpList_neqSt rfl _ _ _ rfl q q 3 3 rfl rfl false (by simp) ?_))
              go_wp2_with (go_at_call 14; refine (k_commit H10.out.2 stable_emp (by omega) (by omega)).mono ?_; rintro e w11 ⟨rfl, h11⟩; have H11 := Lib.hid h11; clear h11)
              go_roundw
              case rel => exact ⟨k + 1, q, by omega, by omega, by go_num, rfl, H11.out⟩
              case measure => simp [intOf]; omega
            · have d4 : decide ((lk : Int) + x ≤ 255) = false := decide_eq_false n4
              have CL := Lib.hid (CLN.out (by omega))
              clear CLN CLE
              go_upto_region 15 with (go_at_call 38; refine CL.out.mono ?_; rintro e w8 ⟨rfl, h8⟩; have H8 := Lib.hid h8; clear h8)
              clear CL cx
              have c8 := HKC.out _ H8.out.sub
              go_upto_region 16 with fail
              clear c8
              go_upto_region 21 with (first
                | (go_at_call 31; refine (CST.out _ _ H8.out).mono ?_; rintro e w9 ⟨rfl, h9⟩; have H9 := Lib.hid h9; clear h9)
                | (refine wpList_alloc_blk rfl 56 stat0 rfl (HZ.out _) ?_)
                | (refine wpList_store_row rfl _ _ _ rfl w9.heap.size (statL (stI lk 3)) rfl rfl _ _ (blk_new w9 _) (HI.out (stI lk 3)) rfl (H1S.out (stI lk 3)) ?_))
              have H10 := Lib.hid (vs_stat H9.out stable_emp (statL (stI lk 3)))
              generalize (World.setRow _ _ _) = w10 at *
              generalize w9.heap.size = g at *
              clear H8 H9 CST
              go_upto_region 23 with (first
                | (refine wpList_load_row rfl _ _ rfl g rfl _ (statL (stI lk 3)) (0, 0) _ H10.out.1 Tryz.underlying56 rfl (HI.out _) ?_)
                | (refine wpList_build3 rfl 56 0 1 2 _ _ _ rfl (.int .i64 1) (.int .i64 (lk : Int)) (.int .i64 ((3 : Nat) : Int)) rfl rfl rfl _ (HB.out lk 3) ?_)
                | (refine wpList_neqSt rfl _ _ _ rfl lk lk 3 3 rfl rfl false (by simp) ?_))
              go_wp2_with (go_at_call 14; refine (k_commit H10.out.2 stable_emp (by omega) (by omega)).mono ?_; rintro e w11 ⟨rfl, h11⟩; have H11 := Lib.hid h11; clear h11)
              go_roundw
              case rel => exact ⟨k + 1, lk, by omega, by omega, by go_num, rfl, H11.out⟩
              case measure => simp [intOf]; omega
          · have d3 : decide (0 ≤ (lk : Int) + x) = false := decide_eq_false n3
            have CL := Lib.hid (CLN.out (by omega))
            clear CLN CLE
            go_upto_region 15 with (go_at_call 38; refine CL.out.mono ?_; rintro e w8 ⟨rfl, h8⟩; have H8 := Lib.hid h8; clear h8)
            clear CL cx
            have c8 := HKC.out _ H8.out.sub
            go_upto_region 16 with fail
            clear c8
            go_upto_region 21 with (first
              | (go_at_call 31; refine (CST.out _ _ H8.out).mono ?_; rintro e w9 ⟨rfl, h9⟩; have H9 := Lib.hid h9; clear h9)
              | (refine wpList_alloc_blk rfl 56 stat0 rfl (HZ.out _) ?_)
              | (refine wpList_store_row rfl _ _ _ rfl w9.heap.size (statL (stI lk 3)) rfl rfl _ _ (blk_new w9 _) (HI.out (stI lk 3)) rfl (H1S.out (stI lk 3)) ?_))
            have H10 := Lib.hid (vs_stat H9.out stable_emp (statL (stI lk 3)))
            generalize (World.setRow _ _ _) = w10 at *
            generalize w9.heap.size = g at *
            clear H8 H9 CST
            go_upto_region 23 with (first
              | (refine wpList_load_row rfl _ _ rfl g rfl _ (statL (stI lk 3)) (0, 0) _ H10.out.1 Tryz.underlying56 rfl (HI.out _) ?_)
              | (refine wpList_build3 rfl 56 0 1 2 _ _ _ rfl (.int .i64 1) (.int .i64 (lk : Int)) (.int .i64 ((3 : Nat) : Int)) rfl rfl rfl _ (HB.out lk 3) ?_)
              | (refine wpList_neqSt rfl _ _ _ rfl lk lk 3 3 rfl rfl false (by simp) ?_))
            go_wp2_with (go_at_call 14; refine (k_commit H10.out.2 stable_emp (by omega) (by omega)).mono ?_; rintro e w11 ⟨rfl, h11⟩; have H11 := Lib.hid h11; clear h11)
            go_roundw
            case rel => exact ⟨k + 1, lk, by omega, by omega, by go_num, rfl, H11.out⟩
            case measure => simp [intOf]; omega
        · have d2 : decide (x ≤ 255) = false := decide_eq_false n2
          have CL := Lib.hid (CLN.out (by omega))
          clear CLN CLE
          go_upto_region 15 with (go_at_call 38; refine CL.out.mono ?_; rintro e w8 ⟨rfl, h8⟩; have H8 := Lib.hid h8; clear h8)
          clear CL cx
          have c8 := HKC.out _ H8.out.sub
          go_upto_region 16 with fail
          clear c8
          go_upto_region 21 with (first
            | (go_at_call 31; refine (CST.out _ _ H8.out).mono ?_; rintro e w9 ⟨rfl, h9⟩; have H9 := Lib.hid h9; clear h9)
            | (refine wpList_alloc_blk rfl 56 stat0 rfl (HZ.out _) ?_)
            | (refine wpList_store_row rfl _ _ _ rfl w9.heap.size (statL (stI lk 3)) rfl rfl _ _ (blk_new w9 _) (HI.out (stI lk 3)) rfl (H1S.out (stI lk 3)) ?_))
          have H10 := Lib.hid (vs_stat H9.out stable_emp (statL (stI lk 3)))
          generalize (World.setRow _ _ _) = w10 at *
          generalize w9.heap.size = g at *
          clear H8 H9 CST
          go_upto_region 23 with (first
            | (refine wpList_load_row rfl _ _ rfl g rfl _ (statL (stI lk 3)) (0, 0) _ H10.out.1 Tryz.underlying56 rfl (HI.out _) ?_)
            | (refine wpList_build3 rfl 56 0 1 2 _ _ _ rfl (.int .i64 1) (.int .i64 (lk : Int)) (.int .i64 ((3 : Nat) : Int)) rfl rfl rfl _ (HB.out lk 3) ?_)
            | (refine wpList_neqSt rfl _ _ _ rfl lk lk 3 3 rfl rfl false (by simp) ?_))
          go_wp2_with (go_at_call 14; refine (k_commit H10.out.2 stable_emp (by omega) (by omega)).mono ?_; rintro e w11 ⟨rfl, h11⟩; have H11 := Lib.hid h11; clear h11)
          go_roundw
          case rel => exact ⟨k + 1, lk, by omega, by omega, by go_num, rfl, H11.out⟩
          case measure => simp [intOf]; omega
      · have d1 : decide (-255 ≤ x) = false := decide_eq_false n1
        have CL := Lib.hid (CLN.out (by omega))
        clear CLN CLE
        go_upto_region 15 with (go_at_call 38; refine CL.out.mono ?_; rintro e w8 ⟨rfl, h8⟩; have H8 := Lib.hid h8; clear h8)
        clear CL cx
        have c8 := HKC.out _ H8.out.sub
        go_upto_region 16 with fail
        clear c8
        go_upto_region 21 with (first
          | (go_at_call 31; refine (CST.out _ _ H8.out).mono ?_; rintro e w9 ⟨rfl, h9⟩; have H9 := Lib.hid h9; clear h9)
          | (refine wpList_alloc_blk rfl 56 stat0 rfl (HZ.out _) ?_)
          | (refine wpList_store_row rfl _ _ _ rfl w9.heap.size (statL (stI lk 3)) rfl rfl _ _ (blk_new w9 _) (HI.out (stI lk 3)) rfl (H1S.out (stI lk 3)) ?_))
        have H10 := Lib.hid (vs_stat H9.out stable_emp (statL (stI lk 3)))
        generalize (World.setRow _ _ _) = w10 at *
        generalize w9.heap.size = g at *
        clear H8 H9 CST
        go_upto_region 23 with (first
          | (refine wpList_load_row rfl _ _ rfl g rfl _ (statL (stI lk 3)) (0, 0) _ H10.out.1 Tryz.underlying56 rfl (HI.out _) ?_)
          | (refine wpList_build3 rfl 56 0 1 2 _ _ _ rfl (.int .i64 1) (.int .i64 (lk : Int)) (.int .i64 ((3 : Nat) : Int)) rfl rfl rfl _ (HB.out lk 3) ?_)
          | (refine wpList_neqSt rfl _ _ _ rfl lk lk 3 3 rfl rfl false (by simp) ?_))
        go_wp2_with (go_at_call 14; refine (k_commit H10.out.2 stable_emp (by omega) (by omega)).mono ?_; rintro e w11 ⟨rfl, h11⟩; have H11 := Lib.hid h11; clear h11)
        go_roundw
        case rel => exact ⟨k + 1, lk, by omega, by omega, by go_num, rfl, H11.out⟩
        case measure => simp [intOf]; omega
    · obtain rfl : k = A.length := by omega
      have dl : decide (A.length < A.length) = false := decide_eq_false (by omega)
      have H9 := Lib.hid HO.out.sub
      clear HO
      go_wp2_with fail
      go_ret
      exact ⟨rfl, H9.out⟩
end Go.Proofs.YtlpcccpagmipnaaGreat.P
