/- Stage 8: two inodes compared; New. No condition. -/
import Derived.Test.YtlpcccpagmipnaaGreatVV
import Derived.ChangeKeysEq
set_option linter.unusedVariables false
set_option linter.unusedSimpArgs false
set_option maxRecDepth 100000
namespace Go.Proofs.YtlpcccpagmipnaaGreat.P
open Go.RowKit Go.ChangeMaps Go.MapKept
theorem int_eq (a b : Int) (d : Nat) (w : World) : (Op.equalIn (d + 1) 3 (.int .i64 a) (.int .i64 b)).run Tryz.prog w = .ok (a == b) w := by
  simp [Op.equalIn, Sem.run_bind, run_underlying Tryz.underlying3]
theorem part_num (l : List Nat) (hl : l.length = 6) (i : Nat) (h : i < 6) (w : World) : (part 3 (nums l).toArray (i * 1)).run Tryz.prog w = .ok (.int .i64 ((l.getD i 0 : Nat) : Int)) w := by
  rw [Nat.mul_one]
  refine run_part_plain w (by kernel_rfl) ?_
  unfold nums
  rw [List.getElem?_toArray, List.getElem?_map, List.getD_eq_getElem?_getD, List.getElem?_eq_getElem (by omega)]
  rfl
theorem eqP6 (l m : List Nat) (hl : l.length = 6) (hm : m.length = 6) (d : Nat) (w : World) : ∀ is : List Nat, (∀ i ∈ is, i < 6) → (Op.eqItems (d + 2) 3 1 (nums l).toArray (nums m).toArray is).run Tryz.prog w = .ok (is.all fun i => decide (l.getD i 0 = m.getD i 0)) w
  | [], _ => by simp [Op.eqItems]
  | i :: is, h => by
    have h0 := part_num l hl i (h i (by simp)) w
    have h1 := part_num m hm i (h i (by simp)) w
    have h2 := int_eq (l.getD i 0 : Nat) (m.getD i 0 : Nat) (d + 1) w
    have h3 := eqP6 l m hl hm d w is (fun j hj => h j (by simp [hj]))
    rw [List.all_cons]
    generalize l.getD i 0 = a at *
    generalize m.getD i 0 = b at *
    by_cases e : a = b
    · have e2 : ((a : Int) == (b : Int)) = true := by rw [e]; exact beq_self_eq_true _
      rw [e2] at h2
      simp only [Op.eqItems, Sem.run_bind, h0, h1, h2, h3, Result.andThen_ok]
      simp [h3, e]
    · have e2 : ((a : Int) == (b : Int)) = false := by
        rw [beq_eq_false_iff_ne]
        intro e3
        exact e (by exact_mod_cast e3)
      rw [e2] at h2
      simp only [Op.eqItems, Sem.run_bind, h0, h1, h2, Result.andThen_ok]
      simp [e]
theorem eqA6 {l m : List Nat} (hl : l.length = 6) (hm : m.length = 6) (w : World) (d : Nat) : (Op.equalIn (d + 3) 130 (.agg (nums l).toArray) (.agg (nums m).toArray)).run Tryz.prog w = .ok ((List.range 6).all fun i => decide (l.getD i 0 = m.getD i 0)) w := by
  obtain ⟨inf, hi⟩ := info_of_underlying Tryz.underlying3
  have e4 : Tryz.prog.cellsOf 3 = 1 := by kernel_rfl
  rw [run_equalIn_array w (d + 2) (nums l).toArray (nums m).toArray Tryz.underlying130 hi, e4]
  exact eqP6 l m hl hm d w _ (fun i hi => by simpa using hi)
/-- Is an inode free, and nothing else? -/
def eqIno (x y : Ino) : Bool := decide (x.kind = y.kind) && (decide (x.links = y.links) && (decide (x.size = y.size) && (List.range 6).all fun i => decide (x.pl.getD i 0 = y.pl.getD i 0)))
theorem part_pl (x : Ino) (hx : x.pl.length = 6) (w : World) : (part 130 (inoL x).toArray 3).run Tryz.prog w = .ok (.agg (nums x.pl).toArray) w := by
  obtain ⟨inf, hi⟩ := info_of_underlying Tryz.underlying130
  have e4 : Tryz.prog.cellsOf 130 = 6 := by kernel_rfl
  have e : (inoL x).toArray.extract 3 9 = (nums x.pl).toArray := by
    obtain ⟨kd, lk, sz, pl⟩ := x
    dsimp only at hx
    obtain ⟨a, b, c, d, e, g, rfl⟩ := six hx
    rfl
  have e2 : List.take 6 (List.drop 3 (inoL x)) = nums x.pl := by
    obtain ⟨kd, lk, sz, pl⟩ := x
    dsimp only at hx
    obtain ⟨a, b, c, d, e, g, rfl⟩ := six hx
    rfl
  simp [part, isAgg, run_underlying Tryz.underlying130, e2]
theorem ncast (a b : Nat) : ((a : Int) == (b : Int)) = decide (a = b) := by
  by_cases e : a = b
  · rw [e, decide_eq_true rfl]; exact beq_self_eq_true _
  · rw [decide_eq_false e, beq_eq_false_iff_ne]
    intro e3
    exact e (by exact_mod_cast e3)
theorem eqInD (x y : Ino) (hx : x.pl.length = 6) (hy : y.pl.length = 6) (w : World) (d : Nat) : (Op.equalIn (d + 4) 132 (.agg (inoL x).toArray) (.agg (inoL y).toArray)).run Tryz.prog w = .ok (eqIno x y) w := by
  have h1 : Tryz.prog.stoodInHeld 132 = false := by kernel_rfl
  have p0 : ∀ x : Ino, (part 3 (inoL x).toArray 0).run Tryz.prog w = .ok (.int .i64 (x.kind : Int)) w := fun x => run_part_plain w (by kernel_rfl) rfl
  have p1 : ∀ x : Ino, (part 3 (inoL x).toArray 1).run Tryz.prog w = .ok (.int .i64 (x.links : Int)) w := fun x => run_part_plain w (by kernel_rfl) rfl
  have p2 : ∀ x : Ino, (part 3 (inoL x).toArray 2).run Tryz.prog w = .ok (.int .i64 (x.size : Int)) w := fun x => run_part_plain w (by kernel_rfl) rfl
  have p3 := part_pl x hx w
  have p4 := part_pl y hy w
  have ea := eqA6 hx hy w d
  have ei : ∀ a b : Nat, (Op.equalIn (d + 3) 3 (.int .i64 (a : Int)) (.int .i64 (b : Int))).run Tryz.prog w = .ok (decide (a = b)) w := fun a b => by rw [← ncast]; exact int_eq _ _ (d + 2) w
  have e0 := ei x.kind y.kind
  have e1 := ei x.links y.links
  have e2 := ei x.size y.size
  have x0 := p0 x
  have x1 := p1 x
  have x2 := p2 x
  have y0 := p0 y
  have y1 := p1 y
  have y2 := p2 y
  clear p0 p1 p2 ei
  unfold eqIno
  generalize ((List.range 6).all fun i => decide (x.pl.getD i 0 = y.pl.getD i 0)) = bb at *
  generalize (inoL x).toArray = X at *
  generalize (inoL y).toArray = Y at *
  generalize (nums x.pl).toArray = NX at *
  generalize (nums y.pl).toArray = NY at *
  generalize decide (x.kind = y.kind) = b0 at *
  generalize decide (x.links = y.links) = b1 at *
  generalize decide (x.size = y.size) = b2 at *
  generalize (x.kind : Int) = xk at *
  generalize (y.kind : Int) = yk at *
  generalize (x.links : Int) = xl at *
  generalize (y.links : Int) = yl at *
  generalize (x.size : Int) = xs at *
  generalize (y.size : Int) = ys at *
  unfold Op.equalIn
  cases b0 <;> cases b1 <;> cases b2 <;> cases bb <;> simp [Sem.run_bind, run_underlying Tryz.underlying132, h1, x0, x1, x2, y0, y1, y2, e0, e1, e2, ea, p3, p4]
theorem eqIn (x y : Ino) (hx : x.pl.length = 6) (hy : y.pl.length = 6) (w : World) : (Op.equalIn 10000 132 (.agg (inoL x).toArray) (.agg (inoL y).toArray)).run Tryz.prog w = .ok (eqIno x y) w := eqInD x y hx hy w 9996
end Go.Proofs.YtlpcccpagmipnaaGreat.P
namespace Go.Proofs.YtlpcccpagmipnaaGreat.P
open Go.RowKit Go.ChangeMaps Go.MapKept
theorem wpList_eqIno {ops : Array Oper} {rest : List Oper} {o : Oper} {a : Act} {w : World} {Q : Exit → Act → World → Prop} (hg : o.guard = none) (x y : Operand) (t2 : TypeId) (hop : o.op = .binOp .eql 132 x y t2) (X Y : Ino) (hx : X.pl.length = 6) (hy : Y.pl.length = 6) (ex : a.eval x = .agg (inoL X).toArray) (ey : a.eval y = .agg (inoL Y).toArray) (b : Bool) (hb : eqIno X Y = b)
    (h : wpList Tryz.prog ops Q rest (a.put o.dst (.bool b)) w) : wpList Tryz.prog ops Q (o :: rest) a w := by
  have hm : Tryz.prog.eqGuardType Tryz.prog.depth 132 = false := Tryz.eqGuardType132
  have h1 := run_eqGuard_agg (P := Tryz.prog) w .eql 132 x y (inoL X).toArray (inoL Y).toArray hm
  have h2 := run_eql_struct (P := Tryz.prog) w 132 (inoL X).toArray (inoL Y).toArray
  rw [eqIn X Y hx hy w, hb] at h2
  generalize (inoL X).toArray = XA at *
  generalize (inoL Y).toArray = YA at *
  refine wpList_plain hg fun K' hK' => ?_
  unfold Oper.wp
  have e : (execOp a.eval o).run Tryz.prog w = .ok (.value (.bool b)) w := by
    unfold execOp
    simp [hop, ex, ey, Sem.run_bind, h1, h2]
  rw [e]
  exact hK' _ _ h
def newI (kd : Nat) : Ino := ⟨kd, 0, 0, List.replicate 6 0⟩
theorem built_ino (kd : Nat) : Tryz.prog.built 132 [(0, .int .i64 (kd : Int))] = some (inoL (newI kd)).toArray := by kernel_rfl
/-- The first inode that is free. -/
def newF (z : DState) (st : List (Int × ByteArray)) : Option Nat := (List.range 32).find? (fun k => eqIno (inoV [] z st k) i0)
def newR (z : DState) (st : List (Int × ByteArray)) (k kd : Nat) : List (Int × ByteArray) := putR [] z st k (newI kd)
section
variable {w0 w : World} {d : Nat} {z : DState} {l ml V D mb : Nat} {st : List (Int × ByteArray)} {n : Nat} {R Y : Asn}
/-- What New answers. -/
def newA (z : DState) (st : List (Int × ByteArray)) (kd : Nat) : Int × Int × List (Int × ByteArray) := match newF z st with
  | some k => (bif decide ((stgF z.safe.length (strikeS z st (newR z st k kd)) st).1 = 0) then (k : Int) else 0, stgF z.safe.length (strikeS z st (newR z st k kd)) st)
  | none => (0, 4, st)
theorem ok_newI (kd : Nat) (h : kd < 256) : okI (newI kd) := ⟨h, Nat.zero_lt_succ _, Nat.zero_lt_succ _, rfl, ok_i0.2.2.2.2⟩
set_option maxHeartbeats 6400000 in
theorem c_vnew (h : Own w0 w (VL d z l ml st V R)) (hs : Stable R) (hz : LI z n) (hst : okSt (n + 32) st) (h16 : st.length ≤ 16) (kd : Nat) (hkd : kd = 1 ∨ kd = 2) :
    Calls Tryz.prog 35 #[.pointer (some ⟨V, 0, none⟩), .int .i64 (kd : Int)] w fun e w' => e = .returned (.tuple #[.int .i64 (newA z st kd).1, .int .i64 (newA z st kd).2.1]) ∧ Own w0 w' (VL d z l ml (newA z st kd).2.2 V R) := by
  have hlo := hz.lo
  have hhi := hz.hi
  have hsY : Stable (Star (volA V l) R) := stable_star (stable_blk _ _) hs
  have hsI : ∀ g x, Stable (Star (ik g x) (Star (volA V l) R)) := fun g x => stable_star (stable_blk _ _) hsY
  have CU := Lib.hid (c_usable h hs (by omega))
  have CND : Hid (∀ wx, Own w0 wx (VL d z l ml st V R) → wx.cell? ⟨V, 0, none⟩ = some (.pointer (some ⟨l, 0, none⟩)) ∧ Calls Tryz.prog 74 #[.pointer (some ⟨V, 0, none⟩)] wx (fun e w' => e = .returned (.int .i64 0) ∧ w' = wx) ∧ Calls Tryz.prog 57 #[.pointer (some ⟨l, 0, none⟩)] wx (NewDP w0 d z l ml st (Star (volA V l) R))) := Lib.hid (fun wx hw => ⟨vl_cell hw, c_roomX hw (vl_cell hw) h16, c_newDraft hw hsY⟩)
  have CVI : Hid (∀ (wx : World) (D mb k : Nat), k < 32 → Own w0 wx (VX d z l ml st D mb [] (Star (volA V l) R)) → Calls Tryz.prog 75 #[.pointer (some ⟨D, 0, none⟩), .int .i64 (k : Int)] wx fun e w' => e = .returned (.agg (inoL (inoV [] z st k)).toArray) ∧ Own w0 w' (VX d z l ml st D mb [] (Star (volA V l) R))) := Lib.hid (fun wx D mb k hk hw => c_vinode hw hsY hz hst k hk)
  have HB1 : Hid (∀ wx D mb x, Own w0 wx (VX d z l ml st D mb [] (Star (volA V l) R)) → (wx.alloc (.cells (inoL i0).toArray 132)).heap[wx.heap.size]? = some (.cells (inoL i0).toArray 132) ∧ Own w0 ((wx.alloc (.cells (inoL i0).toArray 132)).setRow wx.heap.size (inoL x).toArray) (VX d z l ml st D mb [] (Star (ik wx.heap.size x) (Star (volA V l) R)))) := Lib.hid (fun wx D mb x hw => own_ino hw hsY _)
  have HF : Hid (∀ wx D mb g x, Own w0 wx (VX d z l ml st D mb [] (Star (ik g x) (Star (volA V l) R))) → wx.heap[g]? = some (.cells (inoL x).toArray 132) ∧ wx.cell? ⟨D, 2, none⟩ = some (.int .i64 0) ∧ Own w0 wx (VX d z l ml st D mb [] (Star (volA V l) R))) := Lib.hid (fun wx D mb g x hw => ⟨hw.out4.blk, blk_cell (vx_map hw).1 2 rfl, hw.out4.right⟩)
  have CPI : Hid (∀ (wx : World) (D mb k : Nat), k < 32 → Own w0 wx (VX d z l ml st D mb [] (Star (volA V l) R)) → Calls Tryz.prog 76 #[.pointer (some ⟨D, 0, none⟩), .int .i64 (k : Int), .agg (inoL (newI kd)).toArray] wx fun e w' => e = .returned (.tuple #[]) ∧ Own w0 w' (VX d z l ml st D mb (newR z st k kd) (Star (volA V l) R))) := Lib.hid (fun wx D mb k hk hw => c_vputInode hw hsY hz hst (by simp) k hk _ (ok_newI kd (by omega)))
  have CSG : Hid (∀ (wx : World) (D mb k : Nat), k < 32 → Own w0 wx (VX d z l ml st D mb (newR z st k kd) (Star (volA V l) R)) → Calls Tryz.prog 77 #[.pointer (some ⟨D, 0, none⟩)] wx fun e w' => e = .returned (.int .i64 (stgF z.safe.length (strikeS z st (newR z st k kd)) st).1) ∧ Own w0 w' (VL d z l ml (stgF z.safe.length (strikeS z st (newR z st k kd)) st).2 V R)) := Lib.hid (fun wx D mb k hk hw => c_stage hw hsY hz hst (fun x hx => by
    rcases mem_putS hx with e | e
    · rw [e]; exact ⟨by show (0 : Int) ≤ ((1 + k / 4 : Nat) : Int); omega, by show ((1 + k / 4 : Nat) : Int) < _; omega⟩
    · cases e) (by
    have h1 := putS_len ((1 + k / 4 : Nat) : Int) ⟨(frI (rowL [] z st (1 + k / 4)) (k % 4 * 16) (newI kd)).toArray⟩ []
    have h3 : ([] : List (Int × ByteArray)).length = 0 := rfl
    show (putS _ _ _).length ≤ 100
    omega))
  have HLX : Hid (∀ k, (inoV [] z st k).pl.length = 6) := Lib.hid (fun k => inoV_len [] z st k)
  have HOUT : Hid (∀ wx D mb, Own w0 wx (VX d z l ml st D mb [] (Star (volA V l) R)) → Own w0 wx (VL d z l ml st V R)) := Lib.hid (fun wx D mb hw => own_drop (own_drop hw))
  have hkk : ((kd : Int) = 1 ∨ (kd : Int) = 2) := by omega
  have HAS : Hid (∀ k, k < 32 → eqIno (inoV [] z st k) i0 = true → (∀ j, j < k → eqIno (inoV [] z st j) i0 = false) → newA z st kd = (bif decide ((stgF z.safe.length (strikeS z st (newR z st k kd)) st).1 = 0) then (k : Int) else 0, stgF z.safe.length (strikeS z st (newR z st k kd)) st)) := Lib.hid (fun k hk hb hj => by
    have : newF z st = some k := by
      unfold newF
      rw [List.find?_range_eq_some]
      exact ⟨hb, List.mem_range.2 hk, fun j h => by rw [hj j h]; rfl⟩
    unfold newA
    rw [this])
  have HAN : Hid ((∀ j, j < 32 → eqIno (inoV [] z st j) i0 = false) → newA z st kd = (0, 4, st)) := Lib.hid (fun hj => by
    have : newF z st = none := by
      unfold newF
      rw [List.find?_range_eq_none]
      exact fun j h => by rw [hj j h]; rfl
    unfold newA
    rw [this])
  have HBI := Lib.hid (built_ino kd)
  clear h hs hz hst h16 hsY hsI hlo hhi hkd
  generalize newA z st kd = NA at *
  generalize inoV [] z st = IV at *
  have HC1 := Lib.hid (ino_infoX i0 rfl)
  go_enter Tryz.func35, Tryz.ntmps35
  go_upto_region 4 with (go_at_call 59; refine CU.out.mono ?_; rintro e w2 ⟨rfl, h2⟩; have H2 := Lib.hid h2; clear h2)
  obtain ⟨cV, crm, cnd⟩ := CND.out _ H2.out
  have CN2 := Lib.hid cnd
  have CR := Lib.hid crm
  clear cnd crm CND CU
  rcases hkk with e | e
  · have e1 : ((kd : Int) != 1) = false := by rw [e]; rfl
    clear e
    go_upto_region 10 with (first
      | (go_at_call 74; refine CR.out.mono ?_; rintro e w' ⟨rfl, hw'⟩; rw [hw']; clear hw' w')
      | (go_at_call 57; refine CN2.out.mono ?_; rintro e w3 ⟨D, mb, rfl, h3⟩; have H3 := Lib.hid h3; clear h3))
    clear CR CN2 cV H2
    go_wp2_with fail
    go_loopw [33] (fun v wr => ∃ k : Nat, k ≤ 32 ∧ v = .int .i64 (k : Int) ∧ (∀ j, j < k → eqIno (IV j) i0 = false) ∧ Own w0 wr (VX d z l ml st D mb [] (Star (volA V l) R))) (fun v _ => 32 - (intOf v).toNat)
    case atStart => exact ⟨0, by omega, rfl, fun j hj => by omega, H3.out⟩
    case round =>
      obtain ⟨k, hk, rfl, hj, ho⟩ := hrel
      have HO := Lib.hid ho
      have HJ := Lib.hid hj
      clear ho hj H3
      by_cases hlt : k < 32
      · have dl : decide (k < 32) = true := decide_eq_true hlt
        have k4 : (k : Int) < 32 := by omega
        have n5 : IntKind.i64.wrap ((k : Int) + 1) = (k : Int) + 1 := IntWalk.i64_in _ (by omega)
        have CV2 := Lib.hid (CVI.out _ _ _ k hlt HO.out)
        have HD1 := Lib.hid (ino_infoX (IV k) (HLX.out k))
        have HD2 := Lib.hid (ino_one (IV k))
        have HD3 : Hid ((inoL i0).toArray.size = (inoL (IV k)).toArray.size) := Lib.hid (by rw [ino_size _ (HLX.out k)]; rfl)
        cases hb : eqIno (IV k) i0 with
        | false =>
          have HNX : Hid (∀ j, j < k + 1 → eqIno (IV j) i0 = false) := Lib.hid (fun j hj => by
            by_cases e : j = k
            · rw [e]; exact hb
            · exact HJ.out j (by omega))
          have HEB := Lib.hid hb
          clear hb HAS HAN
          go_upto_region 14 with (first
            | (go_at_call 75; refine CV2.out.mono ?_; rintro e w4 ⟨rfl, h4⟩; have H4 := Lib.hid h4; clear h4)
            | (refine wpList_alloc_blk rfl 132 (inoL i0).toArray rfl (ino_zero _) ?_)
            | (refine wpList_store_row rfl _ _ _ rfl w4.heap.size (inoL (IV k)).toArray rfl rfl _ _ (HB1.out _ _ _ (IV k) H4.out).1 HD1.out HD3.out HD2.out ?_))
          have H5 := Lib.hid (HB1.out _ _ _ (IV k) H4.out).2
          generalize (World.setRow _ _ _) = w5 at *
          generalize w4.heap.size = g at *
          clear H4
          obtain ⟨b5, c5, h6⟩ := HF.out _ _ _ _ _ H5.out
          have H6 := Lib.hid h6
          clear h6
          go_wp2_with (first
            | (refine wpList_load_row rfl _ _ rfl g rfl _ (inoL (IV k)).toArray (0, 0) _ b5 Tryz.underlying132 rfl HD1.out ?_)
            | (refine wpList_eqIno rfl _ _ _ rfl (IV k) i0 (HLX.out k) rfl rfl rfl _ HEB.out ?_) | (refine wpList_build0 rfl 132 rfl (inoL i0).toArray (by kernel_rfl) ?_))
          go_roundw
          case rel => exact ⟨k + 1, by omega, by go_num, HNX.out, H6.out⟩
          case measure => simp [intOf]; omega
        | true =>
          have HA2 := Lib.hid (HAS.out k hlt hb HJ.out)
          have CP0 : Hid (∀ wx, Own w0 wx (VX d z l ml st D mb [] (Star (volA V l) R)) → Calls Tryz.prog 76 #[.pointer (some ⟨D, 0, none⟩), .int .i64 (k : Int), .agg #[.int .i64 (kd : Int), .int .i64 0, .int .i64 0, .int .i64 0, .int .i64 0, .int .i64 0, .int .i64 0, .int .i64 0, .int .i64 0]] wx fun e w' => e = .returned (.tuple #[]) ∧ Own w0 w' (VX d z l ml st D mb (newR z st k kd) (Star (volA V l) R))) := Lib.hid (fun wx hw => CPI.out _ _ _ k hlt hw)
          have CS0 : Hid (∀ wx, Own w0 wx (VX d z l ml st D mb (newR z st k kd) (Star (volA V l) R)) → Calls Tryz.prog 77 #[.pointer (some ⟨D, 0, none⟩)] wx fun e w' => e = .returned (.int .i64 (stgF z.safe.length (strikeS z st (newR z st k kd)) st).1) ∧ Own w0 w' (VL d z l ml (stgF z.safe.length (strikeS z st (newR z st k kd)) st).2 V R)) := Lib.hid (fun wx hw => CSG.out _ _ _ k hlt hw)
          have HEB := Lib.hid hb
          clear hb HAS HAN CPI CSG HJ
          generalize stgF z.safe.length (strikeS z st (newR z st k kd)) st = q at *
          obtain ⟨q1, q2⟩ := q
          dsimp only at *
          go_upto_region 14 with (first
            | (go_at_call 75; refine CV2.out.mono ?_; rintro e w4 ⟨rfl, h4⟩; have H4 := Lib.hid h4; clear h4)
            | (refine wpList_alloc_blk rfl 132 (inoL i0).toArray rfl (ino_zero _) ?_)
            | (refine wpList_store_row rfl _ _ _ rfl w4.heap.size (inoL (IV k)).toArray rfl rfl _ _ (HB1.out _ _ _ (IV k) H4.out).1 HD1.out HD3.out HD2.out ?_))
          have H5 := Lib.hid (HB1.out _ _ _ (IV k) H4.out).2
          generalize (World.setRow _ _ _) = w5 at *
          generalize w4.heap.size = g at *
          clear H4
          obtain ⟨b5, c5, h6⟩ := HF.out _ _ _ _ _ H5.out
          have H6 := Lib.hid h6
          clear h6
          by_cases hq : q1 = 0
          · rw [hq] at CS0
            go_wp2_with (first
              | (refine wpList_load_row rfl _ _ rfl g rfl _ (inoL (IV k)).toArray (0, 0) _ b5 Tryz.underlying132 rfl HD1.out ?_)
              | (refine wpList_eqIno rfl _ _ _ rfl (IV k) i0 (HLX.out k) rfl rfl rfl _ HEB.out ?_) | (refine wpList_build0 rfl 132 rfl (inoL i0).toArray (by kernel_rfl) ?_)
              | (go_at_call 76; refine (CP0.out _ H6.out).mono ?_; rintro e w7 ⟨rfl, h7⟩; have H7 := Lib.hid h7; clear h7)
              | (go_at_call 77; refine (CS0.out _ H7.out).mono ?_; rintro e w8 ⟨rfl, h8⟩; have H8 := Lib.hid h8; clear h8))
            go_ret2
            refine ⟨?_, ?_⟩
            · rw [HA2.out, hq]; rfl
            · rw [HA2.out]; exact H8.out
          · have hq2 : (q1 != 0) = true := by simp [hq]
            have hq3 : decide (q1 = 0) = false := decide_eq_false hq
            have HQ3 := Lib.hid hq3
            clear hq3
            go_wp2_with (first
              | (refine wpList_load_row rfl _ _ rfl g rfl _ (inoL (IV k)).toArray (0, 0) _ b5 Tryz.underlying132 rfl HD1.out ?_)
              | (refine wpList_eqIno rfl _ _ _ rfl (IV k) i0 (HLX.out k) rfl rfl rfl _ HEB.out ?_) | (refine wpList_build0 rfl 132 rfl (inoL i0).toArray (by kernel_rfl) ?_)
              | (go_at_call 76; refine (CP0.out _ H6.out).mono ?_; rintro e w7 ⟨rfl, h7⟩; have H7 := Lib.hid h7; clear h7)
              | (go_at_call 77; refine (CS0.out _ H7.out).mono ?_; rintro e w8 ⟨rfl, h8⟩; have H8 := Lib.hid h8; clear h8))
            go_ret2
            refine ⟨?_, ?_⟩
            · rw [HA2.out]; dsimp only; rw [HQ3.out]; rfl
            · rw [HA2.out]; exact H8.out
      · obtain rfl : k = 32 := by omega
        have HA2 := Lib.hid (HAN.out HJ.out)
        have H6 := Lib.hid (HOUT.out _ _ _ HO.out)
        clear HAS HAN HJ HO
        go_wp2_with fail
        go_ret2
        refine ⟨?_, ?_⟩
        · rw [HA2.out]; rfl
        · rw [HA2.out]; exact H6.out
  · have e1 : ((kd : Int) != 1) = true := by rw [e]; rfl
    have e2 : ((kd : Int) != 2) = false := by rw [e]; rfl
    clear e
    go_upto_region 10 with (first
      | (go_at_call 74; refine CR.out.mono ?_; rintro e w' ⟨rfl, hw'⟩; rw [hw']; clear hw' w')
      | (go_at_call 57; refine CN2.out.mono ?_; rintro e w3 ⟨D, mb, rfl, h3⟩; have H3 := Lib.hid h3; clear h3))
    clear CR CN2 cV H2
    go_wp2_with fail
    go_loopw [33] (fun v wr => ∃ k : Nat, k ≤ 32 ∧ v = .int .i64 (k : Int) ∧ (∀ j, j < k → eqIno (IV j) i0 = false) ∧ Own w0 wr (VX d z l ml st D mb [] (Star (volA V l) R))) (fun v _ => 32 - (intOf v).toNat)
    case atStart => exact ⟨0, by omega, rfl, fun j hj => by omega, H3.out⟩
    case round =>
      obtain ⟨k, hk, rfl, hj, ho⟩ := hrel
      have HO := Lib.hid ho
      have HJ := Lib.hid hj
      clear ho hj H3
      by_cases hlt : k < 32
      · have dl : decide (k < 32) = true := decide_eq_true hlt
        have k4 : (k : Int) < 32 := by omega
        have n5 : IntKind.i64.wrap ((k : Int) + 1) = (k : Int) + 1 := IntWalk.i64_in _ (by omega)
        have CV2 := Lib.hid (CVI.out _ _ _ k hlt HO.out)
        have HD1 := Lib.hid (ino_infoX (IV k) (HLX.out k))
        have HD2 := Lib.hid (ino_one (IV k))
        have HD3 : Hid ((inoL i0).toArray.size = (inoL (IV k)).toArray.size) := Lib.hid (by rw [ino_size _ (HLX.out k)]; rfl)
        cases hb : eqIno (IV k) i0 with
        | false =>
          have HNX : Hid (∀ j, j < k + 1 → eqIno (IV j) i0 = false) := Lib.hid (fun j hj => by
            by_cases e : j = k
            · rw [e]; exact hb
            · exact HJ.out j (by omega))
          have HEB := Lib.hid hb
          clear hb HAS HAN
          go_upto_region 14 with (first
            | (go_at_call 75; refine CV2.out.mono ?_; rintro e w4 ⟨rfl, h4⟩; have H4 := Lib.hid h4; clear h4)
            | (refine wpList_alloc_blk rfl 132 (inoL i0).toArray rfl (ino_zero _) ?_)
            | (refine wpList_store_row rfl _ _ _ rfl w4.heap.size (inoL (IV k)).toArray rfl rfl _ _ (HB1.out _ _ _ (IV k) H4.out).1 HD1.out HD3.out HD2.out ?_))
          have H5 := Lib.hid (HB1.out _ _ _ (IV k) H4.out).2
          generalize (World.setRow _ _ _) = w5 at *
          generalize w4.heap.size = g at *
          clear H4
          obtain ⟨b5, c5, h6⟩ := HF.out _ _ _ _ _ H5.out
          have H6 := Lib.hid h6
          clear h6
          go_wp2_with (first
            | (refine wpList_load_row rfl _ _ rfl g rfl _ (inoL (IV k)).toArray (0, 0) _ b5 Tryz.underlying132 rfl HD1.out ?_)
            | (refine wpList_eqIno rfl _ _ _ rfl (IV k) i0 (HLX.out k) rfl rfl rfl _ HEB.out ?_) | (refine wpList_build0 rfl 132 rfl (inoL i0).toArray (by kernel_rfl) ?_))
          go_roundw
          case rel => exact ⟨k + 1, by omega, by go_num, HNX.out, H6.out⟩
          case measure => simp [intOf]; omega
        | true =>
          have HA2 := Lib.hid (HAS.out k hlt hb HJ.out)
          have CP0 : Hid (∀ wx, Own w0 wx (VX d z l ml st D mb [] (Star (volA V l) R)) → Calls Tryz.prog 76 #[.pointer (some ⟨D, 0, none⟩), .int .i64 (k : Int), .agg #[.int .i64 (kd : Int), .int .i64 0, .int .i64 0, .int .i64 0, .int .i64 0, .int .i64 0, .int .i64 0, .int .i64 0, .int .i64 0]] wx fun e w' => e = .returned (.tuple #[]) ∧ Own w0 w' (VX d z l ml st D mb (newR z st k kd) (Star (volA V l) R))) := Lib.hid (fun wx hw => CPI.out _ _ _ k hlt hw)
          have CS0 : Hid (∀ wx, Own w0 wx (VX d z l ml st D mb (newR z st k kd) (Star (volA V l) R)) → Calls Tryz.prog 77 #[.pointer (some ⟨D, 0, none⟩)] wx fun e w' => e = .returned (.int .i64 (stgF z.safe.length (strikeS z st (newR z st k kd)) st).1) ∧ Own w0 w' (VL d z l ml (stgF z.safe.length (strikeS z st (newR z st k kd)) st).2 V R)) := Lib.hid (fun wx hw => CSG.out _ _ _ k hlt hw)
          have HEB := Lib.hid hb
          clear hb HAS HAN CPI CSG HJ
          generalize stgF z.safe.length (strikeS z st (newR z st k kd)) st = q at *
          obtain ⟨q1, q2⟩ := q
          dsimp only at *
          go_upto_region 14 with (first
            | (go_at_call 75; refine CV2.out.mono ?_; rintro e w4 ⟨rfl, h4⟩; have H4 := Lib.hid h4; clear h4)
            | (refine wpList_alloc_blk rfl 132 (inoL i0).toArray rfl (ino_zero _) ?_)
            | (refine wpList_store_row rfl _ _ _ rfl w4.heap.size (inoL (IV k)).toArray rfl rfl _ _ (HB1.out _ _ _ (IV k) H4.out).1 HD1.out HD3.out HD2.out ?_))
          have H5 := Lib.hid (HB1.out _ _ _ (IV k) H4.out).2
          generalize (World.setRow _ _ _) = w5 at *
          generalize w4.heap.size = g at *
          clear H4
          obtain ⟨b5, c5, h6⟩ := HF.out _ _ _ _ _ H5.out
          have H6 := Lib.hid h6
          clear h6
          by_cases hq : q1 = 0
          · rw [hq] at CS0
            go_wp2_with (first
              | (refine wpList_load_row rfl _ _ rfl g rfl _ (inoL (IV k)).toArray (0, 0) _ b5 Tryz.underlying132 rfl HD1.out ?_)
              | (refine wpList_eqIno rfl _ _ _ rfl (IV k) i0 (HLX.out k) rfl rfl rfl _ HEB.out ?_) | (refine wpList_build0 rfl 132 rfl (inoL i0).toArray (by kernel_rfl) ?_)
              | (go_at_call 76; refine (CP0.out _ H6.out).mono ?_; rintro e w7 ⟨rfl, h7⟩; have H7 := Lib.hid h7; clear h7)
              | (go_at_call 77; refine (CS0.out _ H7.out).mono ?_; rintro e w8 ⟨rfl, h8⟩; have H8 := Lib.hid h8; clear h8))
            go_ret2
            refine ⟨?_, ?_⟩
            · rw [HA2.out, hq]; rfl
            · rw [HA2.out]; exact H8.out
          · have hq2 : (q1 != 0) = true := by simp [hq]
            have hq3 : decide (q1 = 0) = false := decide_eq_false hq
            have HQ3 := Lib.hid hq3
            clear hq3
            go_wp2_with (first
              | (refine wpList_load_row rfl _ _ rfl g rfl _ (inoL (IV k)).toArray (0, 0) _ b5 Tryz.underlying132 rfl HD1.out ?_)
              | (refine wpList_eqIno rfl _ _ _ rfl (IV k) i0 (HLX.out k) rfl rfl rfl _ HEB.out ?_) | (refine wpList_build0 rfl 132 rfl (inoL i0).toArray (by kernel_rfl) ?_)
              | (go_at_call 76; refine (CP0.out _ H6.out).mono ?_; rintro e w7 ⟨rfl, h7⟩; have H7 := Lib.hid h7; clear h7)
              | (go_at_call 77; refine (CS0.out _ H7.out).mono ?_; rintro e w8 ⟨rfl, h8⟩; have H8 := Lib.hid h8; clear h8))
            go_ret2
            refine ⟨?_, ?_⟩
            · rw [HA2.out]; dsimp only; rw [HQ3.out]; rfl
            · rw [HA2.out]; exact H8.out
      · obtain rfl : k = 32 := by omega
        have HA2 := Lib.hid (HAN.out HJ.out)
        have H6 := Lib.hid (HOUT.out _ _ _ HO.out)
        clear HAS HAN HJ HO
        go_wp2_with fail
        go_ret2
        refine ⟨?_, ?_⟩
        · rw [HA2.out]; rfl
        · rw [HA2.out]; exact H6.out
end
end Go.Proofs.YtlpcccpagmipnaaGreat.P
namespace Go.Proofs.YtlpcccpagmipnaaGreat.P
open Go.RowKit Go.ChangeMaps Go.MapKept
/-- What a take that fails leaves: its inode's block. -/
theorem ino0_all (wx : World) : (wx.alloc (.cells (inoL i0).toArray 132)).heap[wx.heap.size]? = some (.cells (inoL i0).toArray 132) := blk_new _ _
set_option maxHeartbeats 1600000 in
theorem c_free_nil (k : Int) (w : World) : Calls Tryz.prog 37 #[.pointer none, .int .i64 k] w fun e w' => e = .returned (.int .i64 1) ∧ Gr w w' := by
  have CT := Lib.hid (c_take_nil k w)
  have HM1 := Lib.hid (ino_infoX i0 rfl)
  have HM2 := Lib.hid (ino_one i0)
  have HA := Lib.hid ino0_all
  go_enter Tryz.func37, Tryz.ntmps37
  go_wp2_with (first
    | (go_at_call 68; refine CT.out.mono ?_; rintro e w2 ⟨rfl, g2⟩; have G2 := Lib.hid g2; clear g2)
    | (refine wpList_alloc_blk rfl 132 (inoL i0).toArray rfl (ino_zero _) ?_)
    | (refine wpList_store_row rfl _ _ _ rfl w2.heap.size (inoL i0).toArray rfl rfl _ _ (HA.out w2) HM1.out rfl HM2.out ?_))
  go_ret
  exact ⟨rfl, below_setRow (G2.out.alloc G2.out.size _) G2.out.size _⟩
set_option maxHeartbeats 1600000 in
theorem c_link_nil (k by_ : Int) (w : World) : Calls Tryz.prog 38 #[.pointer none, .int .i64 k, .int .i64 by_] w fun e w' => e = .returned (.int .i64 1) ∧ Gr w w' := by
  have CT := Lib.hid (c_take_nil k w)
  have HM1 := Lib.hid (ino_infoX i0 rfl)
  have HM2 := Lib.hid (ino_one i0)
  have HA := Lib.hid ino0_all
  go_enter Tryz.func38, Tryz.ntmps38
  go_wp2_with (first
    | (go_at_call 68; refine CT.out.mono ?_; rintro e w2 ⟨rfl, g2⟩; have G2 := Lib.hid g2; clear g2)
    | (refine wpList_alloc_blk rfl 132 (inoL i0).toArray rfl (ino_zero _) ?_)
    | (refine wpList_store_row rfl _ _ _ rfl w2.heap.size (inoL i0).toArray rfl rfl _ _ (HA.out w2) HM1.out rfl HM2.out ?_))
  go_ret
  exact ⟨rfl, below_setRow (G2.out.alloc G2.out.size _) G2.out.size _⟩
set_option maxHeartbeats 1600000 in
theorem c_cut_nil (k size : Int) (w : World) : Calls Tryz.prog 39 #[.pointer none, .int .i64 k, .int .i64 size] w fun e w' => e = .returned (.int .i64 1) ∧ Gr w w' := by
  have CT := Lib.hid (c_take_nil k w)
  have HM1 := Lib.hid (ino_infoX i0 rfl)
  have HM2 := Lib.hid (ino_one i0)
  have HA := Lib.hid ino0_all
  go_enter Tryz.func39, Tryz.ntmps39
  go_wp2_with (first
    | (go_at_call 68; refine CT.out.mono ?_; rintro e w2 ⟨rfl, g2⟩; have G2 := Lib.hid g2; clear g2)
    | (refine wpList_alloc_blk rfl 132 (inoL i0).toArray rfl (ino_zero _) ?_)
    | (refine wpList_store_row rfl _ _ _ rfl w2.heap.size (inoL i0).toArray rfl rfl _ _ (HA.out w2) HM1.out rfl HM2.out ?_))
  go_ret
  exact ⟨rfl, below_setRow (G2.out.alloc G2.out.size _) G2.out.size _⟩
set_option maxHeartbeats 1600000 in
theorem c_new_nil (kd : Int) (w : World) : Calls Tryz.prog 35 #[.pointer none, .int .i64 kd] w fun e w' => e = .returned (.tuple #[.int .i64 0, .int .i64 1]) ∧ w' = w := by
  have CN := Lib.hid (c_usable_nil w)
  go_enter Tryz.func35, Tryz.ntmps35
  go_wp2_with (go_at_call 59; refine CN.out.mono ?_; rintro e w' ⟨rfl, hw'⟩; rw [hw']; clear hw' w')
  go_ret2
  exact ⟨rfl, rfl⟩
theorem c_room_nil (w : World) : Calls Tryz.prog 25 #[.pointer none] w fun e w' => e = .returned (.tuple #[.int .i64 0, .int .i64 1]) ∧ w' = w := by
  have CN := Lib.hid (c_usable_nil w)
  go_enter Tryz.func25, Tryz.ntmps25
  go_wp2_with (go_at_call 59; refine CN.out.mono ?_; rintro e w' ⟨rfl, hw'⟩; rw [hw']; clear hw' w')
  go_ret2
  exact ⟨rfl, rfl⟩
end Go.Proofs.YtlpcccpagmipnaaGreat.P
namespace Go.Proofs.YtlpcccpagmipnaaGreat.P
open Go.RowKit Go.ChangeMaps Go.MapKept
theorem c_format_nil (w : World) : Calls Tryz.prog 13 #[.pointer none] w fun e w' => e = .returned (.tuple #[.pointer none, .int .i64 1]) ∧ w' = w := by
  have CN := Lib.hid (c_lusable_nil w)
  go_enter Tryz.func13, Tryz.ntmps13
  go_wp2_with (go_at_call 43; refine CN.out.mono ?_; rintro e w' ⟨rfl, hw'⟩; rw [hw']; clear hw' w')
  go_ret2
  exact ⟨rfl, rfl⟩
theorem c_mount_nil (w : World) : Calls Tryz.prog 24 #[.pointer none] w fun e w' => e = .returned (.tuple #[.pointer none, .int .i64 1]) ∧ w' = w := by
  have CN := Lib.hid (c_lusable_nil w)
  go_enter Tryz.func24, Tryz.ntmps24
  go_wp2_with (go_at_call 43; refine CN.out.mono ?_; rintro e w' ⟨rfl, hw'⟩; rw [hw']; clear hw' w')
  go_ret2
  exact ⟨rfl, rfl⟩
set_option maxHeartbeats 1600000 in
theorem c_stat_nil (k : Int) (w : World) : Calls Tryz.prog 31 #[.pointer none, .int .i64 k] w fun e w' => e = .returned (.tuple #[.agg stat0, .int .i64 1]) ∧ Gr w w' := by
  have h0 : Gr w (w.alloc (.cells stat0 56)) := (Gr.refl w).alloc (Nat.le_refl _) _
  have H0 := Lib.hid h0
  have CT := Lib.hid (c_take_nil k (w.alloc (.cells stat0 56)))
  have HM1 := Lib.hid (ino_infoX i0 rfl)
  have HM2 := Lib.hid (ino_one i0)
  have HA := Lib.hid ino0_all
  have HS1 := Lib.hid (stat_info i0)
  have HS2 := Lib.hid (stat_one i0)
  have hn := blk_new w (.cells stat0 56)
  have HN := Lib.hid hn
  clear h0 hn
  obtain ⟨w1, hw1⟩ : ∃ w1, w1 = w.alloc (.cells stat0 56) := ⟨_, rfl⟩
  have HB : Hid (∀ w2 : World, Gr w1 w2 → ((w2.alloc (.cells (inoL i0).toArray 132)).setRow w2.heap.size (inoL i0).toArray).heap[w.heap.size]? = some (.cells stat0 56)) := Lib.hid (fun w2 g => by
    have hlt : w.heap.size < w1.heap.size := by rw [hw1]; simp
    have h1 := blk_gr g (by rw [hw1]; exact HN.out : w1.heap[w.heap.size]? = some (.cells stat0 56))
    have h2 := blk_alloc (.cells (inoL i0).toArray 132) h1
    rw [setRow_other _ _ _ _ (by have := g.size; omega)]
    exact h2)
  have HG : Hid (∀ w2 : World, Gr w1 w2 → Gr w ((w2.alloc (.cells (inoL i0).toArray 132)).setRow w2.heap.size (inoL i0).toArray)) := Lib.hid (fun w2 g => by
    have g1 : Gr w w2 := by rw [hw1] at g; exact gtrans H0.out g
    exact below_setRow (g1.alloc g1.size _) g1.size _)
  rw [← hw1] at CT
  go_enter Tryz.func31, Tryz.ntmps31
  go_upto_region 1 with (refine wpList_alloc_blk rfl 56 stat0 rfl (stat_zero _) ?_)
  rw [← hw1]
  clear hw1 H0 HN
  generalize hs : w.heap.size = s at *
  have HLE := Lib.hid (Nat.le_of_eq hs)
  clear hs
  go_upto_region 2 with (first
    | (go_at_call 68; refine CT.out.mono ?_; rintro e w2 ⟨rfl, g2⟩; have G2 := Lib.hid g2; clear g2)
    | (refine wpList_alloc_blk rfl 132 (inoL i0).toArray rfl (ino_zero _) ?_)
    | (refine wpList_store_row rfl _ _ _ rfl w2.heap.size (inoL i0).toArray rfl rfl _ _ (HA.out w2) HM1.out rfl HM2.out ?_))
  have e1 := HB.out w2 G2.out
  have g3 := HG.out w2 G2.out
  have G3 := Lib.hid g3
  clear g3 HB HG
  generalize (World.setRow _ _ _) = w3 at *
  have e2 := setRow_heap _ _ _ stat0 _ _ e1
  go_wp2_with (refine wpList_store_row rfl _ _ _ rfl s stat0 rfl rfl _ _ e1 HS1.out rfl HS2.out ?_)
  refine bodyPost_ret (res_ct rfl rfl (ld_stat e2 HS1.out)) rfl ?_
  exact ⟨rfl, below_setRow G3.out HLE.out _⟩
end Go.Proofs.YtlpcccpagmipnaaGreat.P
namespace Go.Proofs.YtlpcccpagmipnaaGreat.P
open Go.RowKit Go.ChangeMaps Go.MapKept
theorem ino_second (w2 : World) : ((w2.alloc (.cells #[.pointer none] 114)).alloc (.cells (inoL i0).toArray 132)).heap[w2.heap.size + 1]? = some (.cells (inoL i0).toArray 132) := by
  have h := blk_new (w2.alloc (.cells #[.pointer none] 114)) (.cells (inoL i0).toArray 132)
  have e : (w2.alloc (.cells #[.pointer none] 114)).heap.size = w2.heap.size + 1 := by simp
  rw [e] at h
  exact h
theorem gr_second {w w2 : World} (g : Gr w w2) : Gr w (((w2.alloc (.cells #[.pointer none] 114)).alloc (.cells (inoL i0).toArray 132)).setRow (w2.heap.size + 1) (inoL i0).toArray) := by
  have g1 := g.alloc g.size (.cells #[.pointer none] 114)
  exact below_setRow (g1.alloc g1.size _) (Nat.le_succ_of_le g.size) _
set_option maxHeartbeats 1600000 in
theorem c_write_nil (k off : Int) (s : ByteArray) (w : World) : Calls Tryz.prog 36 #[.pointer none, .int .i64 k, .int .i64 off, .string s] w fun e w' => e = .returned (.int .i64 1) ∧ Gr w w' := by
  have CT := Lib.hid (fun wx => c_take_nil k wx)
  have HM1 := Lib.hid (ino_infoX i0 rfl)
  have HM2 := Lib.hid (ino_one i0)
  have HA := Lib.hid ino_second
  go_enter Tryz.func36, Tryz.ntmps36
  go_upto_region 1 with fail
  have G0 : Hid (Gr w _) := Lib.hid (((Gr.refl w).alloc (Nat.le_refl _) (.cells #[.int .i64 off] 3)).alloc (by simp) (.cells #[.string s] 9))
  generalize (World.alloc (World.alloc w _) _) = w1 at *
  generalize w.heap.size + 1 = b1 at *
  go_wp2_with (first
    | (go_at_call 68; refine (CT.out _).mono ?_; rintro e w2 ⟨rfl, g2⟩; have G2 := Lib.hid g2; clear g2)
    | (refine wpList_alloc_blk rfl 132 (inoL i0).toArray rfl (ino_zero _) ?_)
    | (refine wpList_store_row rfl _ _ _ rfl (w2.heap.size + 1) (inoL i0).toArray rfl rfl _ _ (HA.out w2) HM1.out rfl HM2.out ?_))
  go_ret
  exact ⟨rfl, gr_second (gtrans G0.out G2.out)⟩
set_option maxHeartbeats 1600000 in
theorem c_read_nil (k off many : Int) (w : World) : Calls Tryz.prog 33 #[.pointer none, .int .i64 k, .int .i64 off, .int .i64 many] w fun e w' => e = .returned (.tuple #[.string ⟨#[]⟩, .int .i64 1]) ∧ Gr w w' := by
  have CT := Lib.hid (fun wx => c_take_nil k wx)
  have HM1 := Lib.hid (ino_infoX i0 rfl)
  have HM2 := Lib.hid (ino_one i0)
  have HA := Lib.hid ino_second
  go_enter Tryz.func33, Tryz.ntmps33
  go_upto_region 1 with fail
  have G0 : Hid (Gr w _) := Lib.hid ((Gr.refl w).alloc (Nat.le_refl _) (.cells #[.int .i64 off] 3))
  generalize (World.alloc w _) = w1 at *
  generalize w.heap.size = b1 at *
  go_wp2_with (first
    | (go_at_call 68; refine (CT.out _).mono ?_; rintro e w2 ⟨rfl, g2⟩; have G2 := Lib.hid g2; clear g2)
    | (refine wpList_alloc_blk rfl 132 (inoL i0).toArray rfl (ino_zero _) ?_)
    | (refine wpList_store_row rfl _ _ _ rfl (w2.heap.size + 1) (inoL i0).toArray rfl rfl _ _ (HA.out w2) HM1.out rfl HM2.out ?_))
  go_ret2
  exact ⟨rfl, gr_second (gtrans G0.out G2.out)⟩
end Go.Proofs.YtlpcccpagmipnaaGreat.P
namespace Go.Proofs.YtlpcccpagmipnaaGreat.P
open Go.RowKit Go.ChangeMaps Go.MapKept
theorem conv_blk (wx : World) (g : Nat) {L : List UInt8} (hl : L.length = 64) (hg : wx.heap[g]? = some (.cells (bcL L) 83)) : (convert 87 9 (.slice (some ⟨g, 0, none⟩) 64 64)).run Tryz.prog wx = .ok (.string ⟨L.toArray⟩) wx := by
  have h64 : (⟨L.toArray⟩ : ByteArray).size = 64 := by show (List.toArray _).size = 64; rw [List.size_toArray, hl]
  have := Go.Lib.run_convert_whole (P := Tryz.prog) wx 87 5 9 Tryz.underlying87 Tryz.underlying5 Tryz.underlying9 g 0 ⟨L.toArray⟩ (fun i hi => by
    have hi2 : i < L.length := by rw [hl]; rw [h64] at hi; exact hi
    have := blk_cell hg i (bcL_cell (L := L) (k := i) hi2)
    simp only [byL, List.getD_eq_getElem?_getD] at this
    rw [List.getElem?_eq_getElem hi2] at this
    have t2 : wx.cell? ⟨g, i, none⟩ = some (.int .u8 ((L[i]).toNat : Int)) := by simpa using this
    first | exact t2 | (rw [Nat.zero_add]; exact t2)) 64
  rw [h64] at this
  exact this
def fmtL (k : Nat) : List UInt8 := bif decide (k = 0) then mapK 9 else zL
theorem fmtL_len (k : Nat) : (fmtL k).length = 64 := by
  unfold fmtL
  cases decide (k = 0) with
  | true => exact mapK_len 9
  | false => rfl
/-- What Format has staged after k sectors. -/
def fmtK : Nat → List (Int × ByteArray)
  | 0 => []
  | k + 1 => putS (k : Int) ⟨(fmtL k).toArray⟩ (fmtK k)
theorem fmtK_len : ∀ k, (fmtK k).length ≤ k
  | 0 => Nat.le_refl _
  | k + 1 => by
    have h1 := fmtK_len k
    have h2 := putS_len (k : Int) ⟨(fmtL k).toArray⟩ (fmtK k)
    show (putS _ _ _).length ≤ k + 1
    omega
theorem fmt_set {len k : Nat} (hlen : 48 ≤ len) (hk : k < 9) : setR false len (fmtK k) (k : Int) ⟨(fmtL k).toArray⟩ = 0 := by
  have hr : refF false len (k : Int) = 0 := by
    unfold refF
    rw [cond_false, decide_eq_true (show (0 : Int) ≤ (k : Int) by omega), decide_eq_true (show (k : Int) < (len : Int) - 32 by omega)]; rfl
  have h64 : (⟨(fmtL k).toArray⟩ : ByteArray).size = 64 := by show (List.toArray _).size = 64; rw [List.size_toArray, fmtL_len]
  have hl := fmtK_len k
  unfold setR
  rw [hr, decide_eq_true rfl, cond_true, decide_eq_true h64, cond_true, decide_eq_false (show ¬ 30 ≤ (fmtK k).length by omega)]
  cases (lookS (k : Int) (fmtK k)).isSome <;> rfl
section
variable {w0 w : World} {d : Nat} {z : DState} {l ml : Nat} {n : Nat} {R : Asn}
def FmtP (w0 : World) (d : Nat) (z : DState) (l ml : Nat) (R : Asn) (e : Ending) (w' : World) : Prop := ∃ V, e = .returned (.tuple #[.pointer (some ⟨V, 0, none⟩), .int .i64 0]) ∧ Own w0 w' (VL d z l ml (fmtK 9) V R)
set_option maxHeartbeats 6400000 in
theorem c_format (h : Own w0 w (DL d z l ml [] false R)) (hs : Stable R) (hz : LI z n) : Calls Tryz.prog 13 #[.pointer (some ⟨l, 0, none⟩)] w (FmtP w0 d z l ml R) := by
  have hlo := hz.lo
  have hlen := hz.len
  have CU := Lib.hid (c_lusable h hs (by simp))
  have CSG : Hid (∀ wx, Own w0 wx (DL d z l ml [] false R) → Calls Tryz.prog 18 #[.pointer (some ⟨l, 0, none⟩)] wx fun e w' => e = .returned (.int .i64 0) ∧ w' = wx) := Lib.hid (fun wx hw => o_staged hw)
  have HGR : Hid (∀ wx w', Own w0 wx (DL d z l ml [] false R) → Gr wx w' → Own w0 w' (DL d z l ml [] false R)) := Lib.hid (fun wx w' hw g => hw.gr (stable_dl _ _ _ _ _ _ hs) g)
  have CSM := Lib.hid c_systemMap
  have HBX : Hid (∀ wx, Own w0 wx (DL d z l ml [] false R) → (wx.alloc (.cells (bcL zL) 83)).heap[wx.heap.size]? = some (.cells (bcL zL) 83) ∧ Own w0 ((wx.alloc (.cells (bcL zL) 83)).setRow wx.heap.size (bcL (mapK 9))) (Star (bk wx.heap.size (fmtL 0)) (DL d z l ml (fmtK 0) false R))) := Lib.hid (fun wx hw => ⟨blk_new _ _, (hw.alloc (stable_dl _ _ _ _ _ _ hs) _).setRow (stable_dl _ _ _ _ _ _ hs) _⟩)
  have CST : Hid (∀ wx G (k : Nat), k < 9 → Own w0 wx (Star (bk G (fmtL k)) (DL d z l ml (fmtK k) false R)) → (convert 87 9 (.slice (some ⟨G, 0, none⟩) 64 64)).run Tryz.prog wx = .ok (.string ⟨(fmtL k).toArray⟩) wx ∧ Calls Tryz.prog 45 #[.pointer (some ⟨l, 0, none⟩), .int .i64 (k : Int), .string ⟨(fmtL k).toArray⟩] wx fun e w' => e = .returned (.int .i64 0) ∧ w'.heap[G]? = some (.cells (bcL (fmtL k)) 83) ∧ Own w0 (w'.setRow G (bcL zL)) (Star (bk G (fmtL (k + 1))) (DL d z l ml (fmtK (k + 1)) false R))) := Lib.hid (fun wx G k hk hw => ⟨conv_blk wx G (fmtL_len k) hw.blk, by
    have h1 := o_set hw.rot3' (stable_star (stable_blk _ _) hs) (k : Int) ⟨(fmtL k).toArray⟩ (by have := fmtK_len k; omega)
    rw [fmt_set (by omega) hk] at h1
    refine h1.mono ?_
    rintro e w' ⟨rfl, h2⟩
    have h3 : Own w0 w' (Star (bk G (fmtL k)) (DL d z l ml (fmtK (k + 1)) false R)) := Own.rot3 h2
    exact ⟨rfl, h3.blk, h3.setRow (stable_dl _ _ _ _ _ _ hs) _⟩⟩)
  have HEN : Hid (∀ wx G, Own w0 wx (Star (bk G (fmtL 9)) (DL d z l ml (fmtK 9) false R)) → Own w0 (wx.alloc (.cells #[.pointer (some ⟨l, 0, none⟩)] 89)) (VL d z l ml (fmtK 9) wx.heap.size R)) := Lib.hid (fun wx G hw => (hw.right.alloc (stable_dl _ _ _ _ _ _ hs) _).rot3')
  have HC1 := Lib.hid (bc_info (mapK 9) (mapK_len 9))
  have HC2 := Lib.hid (bcL_all1 (mapK 9))
  have HC3 : Hid ((bcL zL).size = (bcL (mapK 9)).size) := Lib.hid (by rw [bcL_size, bcL_size, mapK_len]; rfl)
  have HD1 := Lib.hid (bc_info zL rfl)
  have HD2 := Lib.hid (bcL_all1 zL)
  have HD3 : Hid (∀ k, (bcL (fmtL k)).size = (bcL zL).size) := Lib.hid (fun k => by rw [bcL_size, bcL_size, fmtL_len]; rfl)
  unfold FmtP
  clear h hs hz hlo hlen
  generalize fmtK = FK at *
  generalize fmtL = FL at *
  generalize hM : bcL (mapK 9) = CM at *
  have HM := Lib.hid hM
  clear hM
  go_enter Tryz.func13, Tryz.ntmps13
  go_upto_region 7 with (first
    | (go_at_call 43; refine CU.out.mono ?_; rintro e w2 ⟨rfl, h2⟩; have H2 := Lib.hid h2; clear h2)
    | (go_at_call 18; refine (CSG.out _ H2.out).mono ?_; rintro e w' ⟨rfl, hw'⟩; rw [hw']; clear hw' w')
    | (go_at_call 44; refine (CSM.out _).mono ?_; rintro e w3 ⟨rfl, g3⟩; have H3 := Lib.hid (HGR.out _ _ H2.out g3); clear g3)
    | (refine wpList_alloc_blk rfl 83 (bcL zL) rfl (blk_zero _) ?_)
    | (refine wpList_store_row rfl _ _ _ rfl w3.heap.size CM rfl rfl _ _ (HBX.out _ H3.out).1 HC1.out HC3.out HC2.out ?_))
  have H4 := Lib.hid (HBX.out _ H3.out).2
  clear HBX CU CSG HGR CSM
  generalize (World.setRow _ _ _) = w4 at *
  generalize w3.heap.size = G at *
  clear H3 H2
  go_wp2_with fail
  go_loopw [17] (fun v wr => ∃ k : Nat, k ≤ 9 ∧ v = .int .i64 (k : Int) ∧ Own w0 wr (Star (bk G (FL k)) (DL d z l ml (FK k) false R))) (fun v _ => 9 - (intOf v).toNat)
  case atStart => exact ⟨0, by omega, rfl, H4.out⟩
  case round =>
    obtain ⟨k, hk, rfl, ho⟩ := hrel
    have HO := Lib.hid ho
    clear ho H4
    by_cases hlt : k < 9
    · have dl : decide (k < 9) = true := decide_eq_true hlt
      have k4 : (k : Int) < 9 := by omega
      have n5 : IntKind.i64.wrap ((k : Int) + 1) = (k : Int) + 1 := IntWalk.i64_in _ (by omega)
      obtain ⟨hcv, cst⟩ := CST.out _ _ k hlt HO.out
      have C1 := Lib.hid cst
      have d3 := HD3.out k
      have D3 := Lib.hid d3
      clear cst d3
      go_wp2_with (first
        | (go_at_call 45; refine C1.out.mono ?_; rintro e w6 ⟨rfl, b6, h6⟩; have H6 := Lib.hid h6; clear h6)
        | (refine wpList_build0 rfl 83 rfl (bcL zL) (by kernel_rfl) ?_)
        | (refine wpList_store_row rfl _ _ _ rfl G (bcL zL) rfl rfl _ _ b6 HD1.out D3.out HD2.out ?_))
      go_roundw
      case rel => exact ⟨k + 1, by omega, by go_num, H6.out⟩
      case measure => simp [intOf]; omega
    · obtain rfl : k = 9 := by omega
      have H6 := Lib.hid (HEN.out _ _ HO.out)
      clear HO CST
      go_wp2_with fail
      go_ret2
      exact ⟨_, rfl, H6.out⟩
end
end Go.Proofs.YtlpcccpagmipnaaGreat.P
namespace Go.Proofs.YtlpcccpagmipnaaGreat.P
open Go.RowKit Go.ChangeMaps Go.MapKept
set_option maxHeartbeats 1600000 in
theorem c_free_no {w0 w : World} {A : Asn} {pv : Value} {k er : Int} (hs : Stable A) (her : er ≠ 0) (hT : Calls Tryz.prog 68 #[pv, .int .i64 k] w fun e w' => e = .returned (.tuple #[.pointer none, .agg (inoL i0).toArray, .int .i64 er]) ∧ Own w0 w' A) : Calls Tryz.prog 37 #[pv, .int .i64 k] w fun e w' => e = .returned (.int .i64 er) ∧ Own w0 w' A := by
  have CT := Lib.hid hT
  have HM1 := Lib.hid (ino_infoX i0 rfl)
  have HM2 := Lib.hid (ino_one i0)
  have HA := Lib.hid ino0_all
  have HO : Hid (∀ wx, Own w0 wx A → Own w0 ((wx.alloc (.cells (inoL i0).toArray 132)).setRow wx.heap.size (inoL i0).toArray) A) := Lib.hid (fun wx hw => ((hw.alloc hs _).setRow hs _).right)
  have h1 : (er != 0) = true := by simp [her]
  have h2 : (er == 0) = false := by simp [her]
  clear hT hs her
  go_enter Tryz.func37, Tryz.ntmps37
  go_wp2_with (first
    | (go_at_call 68; refine CT.out.mono ?_; rintro e w2 ⟨rfl, g2⟩; have G2 := Lib.hid g2; clear g2)
    | (refine wpList_alloc_blk rfl 132 (inoL i0).toArray rfl (ino_zero _) ?_)
    | (refine wpList_store_row rfl _ _ _ rfl w2.heap.size (inoL i0).toArray rfl rfl _ _ (HA.out w2) HM1.out rfl HM2.out ?_))
  go_ret
  exact ⟨rfl, HO.out _ G2.out⟩
set_option maxHeartbeats 1600000 in
theorem c_link_no {w0 w : World} {A : Asn} {pv : Value} {k er : Int} {by_ : Int} (hs : Stable A) (her : er ≠ 0) (hT : Calls Tryz.prog 68 #[pv, .int .i64 k] w fun e w' => e = .returned (.tuple #[.pointer none, .agg (inoL i0).toArray, .int .i64 er]) ∧ Own w0 w' A) : Calls Tryz.prog 38 #[pv, .int .i64 k, .int .i64 by_] w fun e w' => e = .returned (.int .i64 er) ∧ Own w0 w' A := by
  have CT := Lib.hid hT
  have HM1 := Lib.hid (ino_infoX i0 rfl)
  have HM2 := Lib.hid (ino_one i0)
  have HA := Lib.hid ino0_all
  have HO : Hid (∀ wx, Own w0 wx A → Own w0 ((wx.alloc (.cells (inoL i0).toArray 132)).setRow wx.heap.size (inoL i0).toArray) A) := Lib.hid (fun wx hw => ((hw.alloc hs _).setRow hs _).right)
  have h1 : (er != 0) = true := by simp [her]
  have h2 : (er == 0) = false := by simp [her]
  clear hT hs her
  go_enter Tryz.func38, Tryz.ntmps38
  go_wp2_with (first
    | (go_at_call 68; refine CT.out.mono ?_; rintro e w2 ⟨rfl, g2⟩; have G2 := Lib.hid g2; clear g2)
    | (refine wpList_alloc_blk rfl 132 (inoL i0).toArray rfl (ino_zero _) ?_)
    | (refine wpList_store_row rfl _ _ _ rfl w2.heap.size (inoL i0).toArray rfl rfl _ _ (HA.out w2) HM1.out rfl HM2.out ?_))
  go_ret
  exact ⟨rfl, HO.out _ G2.out⟩
set_option maxHeartbeats 1600000 in
theorem c_cut_no {w0 w : World} {A : Asn} {pv : Value} {k er : Int} {size : Int} (hs : Stable A) (her : er ≠ 0) (hT : Calls Tryz.prog 68 #[pv, .int .i64 k] w fun e w' => e = .returned (.tuple #[.pointer none, .agg (inoL i0).toArray, .int .i64 er]) ∧ Own w0 w' A) : Calls Tryz.prog 39 #[pv, .int .i64 k, .int .i64 size] w fun e w' => e = .returned (.int .i64 er) ∧ Own w0 w' A := by
  have CT := Lib.hid hT
  have HM1 := Lib.hid (ino_infoX i0 rfl)
  have HM2 := Lib.hid (ino_one i0)
  have HA := Lib.hid ino0_all
  have HO : Hid (∀ wx, Own w0 wx A → Own w0 ((wx.alloc (.cells (inoL i0).toArray 132)).setRow wx.heap.size (inoL i0).toArray) A) := Lib.hid (fun wx hw => ((hw.alloc hs _).setRow hs _).right)
  have h1 : (er != 0) = true := by simp [her]
  have h2 : (er == 0) = false := by simp [her]
  clear hT hs her
  go_enter Tryz.func39, Tryz.ntmps39
  go_wp2_with (first
    | (go_at_call 68; refine CT.out.mono ?_; rintro e w2 ⟨rfl, g2⟩; have G2 := Lib.hid g2; clear g2)
    | (refine wpList_alloc_blk rfl 132 (inoL i0).toArray rfl (ino_zero _) ?_)
    | (refine wpList_store_row rfl _ _ _ rfl w2.heap.size (inoL i0).toArray rfl rfl _ _ (HA.out w2) HM1.out rfl HM2.out ?_))
  go_ret
  exact ⟨rfl, HO.out _ G2.out⟩
end Go.Proofs.YtlpcccpagmipnaaGreat.P
namespace Go.Proofs.YtlpcccpagmipnaaGreat.P
open Go.RowKit Go.ChangeMaps Go.MapKept
section
variable {w0 w : World} {d : Nat} {z : DState} {l ml V D mb : Nat} {st : List (Int × ByteArray)} {n : Nat} {R Y : Asn}
theorem c_roomX4 (h : Own w0 w (DL d z l ml st false R)) (cV : w.cell? ⟨V, 0, none⟩ = some (.pointer (some ⟨l, 0, none⟩))) (h16 : 16 < st.length) :
    Calls Tryz.prog 74 #[.pointer (some ⟨V, 0, none⟩)] w fun e w' => e = .returned (.int .i64 4) ∧ w' = w := by
  have CS := Lib.hid (o_staged h)
  have h1 : (16 : Int) < (st.length : Int) := by omega
  clear h
  generalize st.length = k at *
  go_enter Tryz.func74, Tryz.ntmps74
  go_wp2_with (go_at_call 18; refine CS.out.mono ?_; rintro e w' ⟨rfl, hw'⟩; rw [hw']; clear hw' w')
  go_ret
  exact ⟨rfl, rfl⟩
set_option maxHeartbeats 3200000 in
theorem c_vfree_full (h : Own w0 w (VL d z l ml st V R)) (hs : Stable R) (hz : LI z n) (hst : okSt (n + 32) st) (h16 : 16 < st.length) (k : Nat) (hk : k < 32) (hkd : ¬ (inoV [] z st k).kind = 0) :
    Calls Tryz.prog 37 #[.pointer (some ⟨V, 0, none⟩), .int .i64 (k : Int)] w fun e w' => e = .returned (.int .i64 4) ∧ Own w0 w' (VL d z l ml st V R) := by
  have hx6 : (minI (inoV [] z st k)).pl.length = 6 := inoV_len [] z st k
  have hsY : Stable (Star (volA V l) R) := stable_star (stable_blk _ _) hs
  have CT := Lib.hid (c_take_ok h hs hz hst k hk hkd)
  have HB1 : Hid (∀ wx D mb, Own w0 wx (VX d z l ml st D mb [] (Star (volA V l) R)) → (wx.alloc (.cells (inoL i0).toArray 132)).heap[wx.heap.size]? = some (.cells (inoL i0).toArray 132) ∧ Own w0 ((wx.alloc (.cells (inoL i0).toArray 132)).setRow wx.heap.size (inoL (minI (inoV [] z st k))).toArray) (VX d z l ml st D mb [] (Star (ik wx.heap.size (minI (inoV [] z st k))) (Star (volA V l) R)))) := Lib.hid (fun wx D mb hw => own_ino hw hsY _)
  have CRM : Hid (∀ wx D mb g, Own w0 wx (VX d z l ml st D mb [] (Star (ik g (minI (inoV [] z st k))) (Star (volA V l) R))) → Calls Tryz.prog 74 #[.pointer (some ⟨V, 0, none⟩)] wx (fun e w' => e = .returned (.int .i64 4) ∧ w' = wx) ∧ Own w0 wx (VL d z l ml st V R)) := Lib.hid (fun wx D mb g hw => ⟨c_roomX4 hw (blk_cell hw.swapR.out4.blk 0 rfl) h16, own_drop (own_drop hw.out4.right)⟩)
  have HM1 := Lib.hid (ino_infoX (minI (inoV [] z st k)) hx6)
  have HM2 := Lib.hid (ino_one (minI (inoV [] z st k)))
  have HM3 : Hid ((inoL i0).toArray.size = (inoL (minI (inoV [] z st k))).toArray.size) := Lib.hid (by rw [ino_size _ hx6]; rfl)
  unfold TakeP at CT
  clear h hs hz hst hk hkd hx6 hsY h16
  generalize minI (inoV [] z st k) = X at *
  go_enter Tryz.func37, Tryz.ntmps37
  go_upto_region 2 with (first
    | (go_at_call 68; refine CT.out.mono ?_; rintro e w2 ⟨D, mb, rfl, h2⟩; have H2 := Lib.hid h2; clear h2)
    | (refine wpList_alloc_blk rfl 132 (inoL i0).toArray rfl (ino_zero _) ?_)
    | (refine wpList_store_row rfl _ _ _ rfl w2.heap.size (inoL X).toArray rfl rfl _ _ (HB1.out _ _ _ H2.out).1 HM1.out HM3.out HM2.out ?_))
  have H3 := Lib.hid (HB1.out _ _ _ H2.out).2
  clear HB1 CT
  generalize (World.setRow _ _ _) = w3 at *
  generalize w2.heap.size = g at *
  clear H2
  obtain ⟨cr, h9⟩ := CRM.out _ _ _ _ H3.out
  have CR := Lib.hid cr
  have H9 := Lib.hid h9
  clear CRM cr h9
  go_wp2_with (go_at_call 74; refine CR.out.mono ?_; rintro e w' ⟨rfl, hw'⟩; rw [hw']; clear hw' w')
  go_ret
  exact ⟨rfl, H9.out⟩
end
end Go.Proofs.YtlpcccpagmipnaaGreat.P
namespace Go.Proofs.YtlpcccpagmipnaaGreat.P
open Go.RowKit
theorem new_all : ∀ x < 256, ∀ r < 8, ∀ q < 8, bitL (newN x r true) q = (if q = r then 1 else bitL x q) ∧ bitL (newN x r false) q = (if q = r then 0 else bitL x q) ∧ newN x r true < 256 ∧ newN x r false < 256 := by decide +kernel
theorem byL_set (L : List UInt8) (j k x : Nat) (hj : j < L.length) (hx : x < 256) : byL (L.set j (UInt8.ofNat x)) k = if k = j then x else byL L k := by
  unfold byL
  rw [List.getD_eq_getElem?_getD, List.getD_eq_getElem?_getD, List.getElem?_set]
  by_cases h : j = k
  · subst h
    rw [if_pos rfl, if_pos rfl, if_pos hj]
    show (UInt8.ofNat x).toNat = x
    rw [UInt8.toNat_ofNat']; exact Nat.mod_eq_of_lt hx
  · rw [if_neg h, if_neg (fun e => h e.symm)]
theorem newN_lt {x r : Nat} (hx : x < 256) (hr : r < 8) (b : Bool) : newN x r b < 256 := by
  have := new_all x hx r hr 0 (by omega)
  cases b
  · exact this.2.2.2
  · exact this.2.2.1
theorem bit_new {x r q : Nat} (hx : x < 256) (hr : r < 8) (hq : q < 8) (b : Bool) : decide (bitL (newN x r b) q = 1) = if q = r then b else decide (bitL x q = 1) := by
  have := new_all x hx r hr q hq
  cases b
  · rw [this.2.1]; split <;> simp
  · rw [this.1]; split <;> simp
theorem used_set {L : List UInt8} (hl : L.length = 64) {i j : Nat} (hi : i < 512) (hj : j < 512) (b : Bool) : usedB (setB L i b) j = if j = i then b else usedB L j := by
  unfold usedB setB
  rw [byL_set _ _ _ _ (by omega) (newN_lt (byL_lt _ _) (by omega) b)]
  by_cases h : j / 8 = i / 8
  · rw [if_pos h, bit_new (byL_lt _ _) (by omega) (by omega), h]
    by_cases h2 : j = i
    · rw [if_pos h2, if_pos (by rw [h2])]
    · rw [if_neg h2, if_neg (by omega)]
  · rw [if_neg h, if_neg (by intro e; exact h (by rw [e]))]
/-! counting -/
theorem freeN_filter (L : List UInt8) : ∀ k, freeN L k + ((List.range k).filter fun i => usedB L i).length = k
  | 0 => rfl
  | k + 1 => by
    have ih := freeN_filter L k
    show freeN L k + (bif usedB L k then 0 else 1) + _ = _
    rw [List.range_succ, List.filter_append, List.length_append]
    cases h : usedB L k with
    | true => rw [cond_true, List.filter_cons_of_pos h]; show _ + (_ + 1) = _; omega
    | false => rw [cond_false, List.filter_cons_of_neg (by rw [h]; exact Bool.false_ne_true)]; show _ + (_ + 0) = _; omega
/-- Used are the first nine, and just these. -/
theorem freeN_is {L : List UInt8} {n : Nat} (h9 : 9 ≤ n) (hn : n ≤ 512) {ow : List Nat} (hnd : ow.Nodup) (hin : ∀ o ∈ ow, 9 ≤ o ∧ o < n) (hu : ∀ i, i < 512 → (usedB L i = true ↔ (i < 9 ∨ i ∈ ow))) : freeN L n + (9 + ow.length) = n := by
  have h1 := freeN_filter L n
  have h2 : ((List.range n).filter fun i => usedB L i).Perm (List.range 9 ++ ow) := by
    rw [List.perm_ext_iff_of_nodup]
    · intro a
      rw [List.mem_filter, List.mem_append, List.mem_range, List.mem_range]
      constructor
      · rintro ⟨h, k⟩
        exact (hu a (by omega)).1 k
      · rintro (h | h)
        · exact ⟨by omega, (hu a (by omega)).2 (.inl h)⟩
        · have := hin a h
          exact ⟨by omega, (hu a (by omega)).2 (.inr h)⟩
    · exact List.Pairwise.filter _ List.nodup_range
    · rw [List.nodup_append]
      refine ⟨List.nodup_range, hnd, fun a ha b hb e => ?_⟩
      have := hin b hb
      rw [List.mem_range] at ha
      omega
  have h3 := h2.length_eq
  rw [List.length_append, List.length_range] at h3
  omega
theorem byL_app_left {L M : List UInt8} {k : Nat} (h : k < L.length) : byL (L ++ M) k = byL L k := by
  unfold byL; rw [List.getD_eq_getElem?_getD, List.getElem?_append_left h, ← List.getD_eq_getElem?_getD]
theorem byL_app_right {L M : List UInt8} {k : Nat} (h : L.length ≤ k) : byL (L ++ M) k = byL M (k - L.length) := by
  unfold byL; rw [List.getD_eq_getElem?_getD, List.getElem?_append_right h, ← List.getD_eq_getElem?_getD]
theorem byL_drop (L : List UInt8) (o k : Nat) : byL (L.drop o) k = byL L (o + k) := by
  unfold byL; rw [List.getD_eq_getElem?_getD, List.getElem?_drop, ← List.getD_eq_getElem?_getD]
theorem byL_take {L : List UInt8} {o k : Nat} (h : k < o) : byL (L.take o) k = byL L k := by
  unfold byL; rw [List.getD_eq_getElem?_getD, List.getElem?_take_of_lt h, ← List.getD_eq_getElem?_getD]
theorem byL_splice {L X : List UInt8} {o : Nat} (h : o + X.length ≤ L.length) (k : Nat) : byL (splice L o X) k = if o ≤ k ∧ k < o + X.length then byL X (k - o) else byL L k := by
  unfold splice
  have h1 : (L.take o).length = o := by rw [List.length_take]; omega
  by_cases ha : k < o
  · rw [if_neg (by omega), byL_app_left (by omega), byL_take ha]
  · rw [byL_app_right (by omega), h1]
    by_cases hb : k < o + X.length
    · rw [if_pos (by omega), byL_app_left (by omega)]
    · rw [if_neg (by omega), byL_app_right (by omega), byL_drop]
      congr 1; omega
theorem byL_ext {L M : List UInt8} (h : L.length = M.length) (hb : ∀ k, k < L.length → byL L k = byL M k) : L = M := by
  apply List.ext_getElem h
  intro i h1 h2
  have := hb i h1
  unfold byL at this
  rw [List.getD_eq_getElem?_getD, List.getD_eq_getElem?_getD, List.getElem?_eq_getElem h1, List.getElem?_eq_getElem h2] at this
  exact UInt8.toNat_inj.1 this
theorem byL_two (a b : Nat) (j : Nat) (hj : j < 2) : byL [UInt8.ofNat (a % 256), UInt8.ofNat (b % 256)] j = if j = 0 then a % 256 else b % 256 := by
  rcases (by omega : j = 0 ∨ j = 1) with rfl | rfl
  · show (UInt8.ofNat (a % 256)).toNat = _
    rw [UInt8.toNat_ofNat']; show _ = a % 256; omega
  · show (UInt8.ofNat (b % 256)).toNat = _
    rw [UInt8.toNat_ofNat']; show _ = b % 256; omega
theorem byL_put2 {L : List UInt8} {k : Nat} (n : Nat) (h : k + 2 ≤ L.length) (j : Nat) : byL (put2 L k n) j = if j = k then n % 256 else if j = k + 1 then n / 256 % 256 else byL L j := by
  unfold put2
  rw [byL_splice h]
  by_cases h1 : j = k
  · rw [if_pos (by rw [h1]; exact ⟨Nat.le_refl _, by show k < k + 2; omega⟩), if_pos h1, byL_two _ _ _ (by omega), if_pos (by omega)]
  · rw [if_neg h1]
    by_cases h2 : j = k + 1
    · rw [if_pos (by rw [h2]; exact ⟨Nat.le_succ _, by show k + 1 < k + 2; omega⟩), if_pos h2, byL_two _ _ _ (by omega), if_neg (by omega)]
    · rw [if_neg h2, if_neg (by show ¬ (k ≤ j ∧ j < k + 2); omega)]
theorem b2_put2 {L : List UInt8} {k n : Nat} (h : k + 2 ≤ L.length) (hn : n < 65536) : b2 (put2 L k n) k = n := by
  unfold b2
  rw [byL_put2 n h, byL_put2 n h, if_pos rfl, if_neg (by omega), if_pos rfl]; omega
theorem b2_put2_other {L : List UInt8} {k n j : Nat} (h : k + 2 ≤ L.length) (hj : j + 2 ≤ k ∨ k + 2 ≤ j) : b2 (put2 L k n) j = b2 L j := by
  unfold b2
  rw [byL_put2 n h, byL_put2 n h, if_neg (by omega), if_neg (by omega), if_neg (by omega), if_neg (by omega)]
/-! an inode's bytes -/
theorem fr_out (L : List UInt8) (o : Nat) (x : Ino) (h : o + 16 ≤ L.length) (j : Nat) (hj : j < o ∨ o + 16 ≤ j) : ∀ k, k ≤ 6 → byL (frK L o x k) j = byL L j
  | 0, _ => by
    unfold frK
    rw [byL_put2 _ (by rw [List.length_set, List.length_set]; omega), if_neg (by omega), if_neg (by omega)]
    unfold byL
    rw [List.getD_eq_getElem?_getD, List.getElem?_set_ne (by omega), List.getElem?_set_ne (by omega), ← List.getD_eq_getElem?_getD]
  | k + 1, hk => by
    unfold frK
    rw [byL_put2 _ (by rw [frK_len L o x h k (by omega)]; omega), if_neg (by omega), if_neg (by omega)]
    exact fr_out L o x h j hj k (by omega)
theorem fr_keep (L : List UInt8) (o : Nat) (x : Ino) (h : o + 16 ≤ L.length) (j m : Nat) (hj : j < o + (4 + 2 * m)) : ∀ k, m ≤ k → k ≤ 6 → byL (frK L o x k) j = byL (frK L o x m) j
  | 0, h1, _ => by rw [show m = 0 by omega]
  | k + 1, h1, hk => by
    by_cases e : m = k + 1
    · rw [e]
    · have ih := fr_keep L o x h j m hj k (by omega) (by omega)
      rw [← ih]
      show byL (put2 (frK L o x k) _ _) j = _
      rw [byL_put2 _ (by rw [frK_len L o x h k (by omega)]; omega), if_neg (by omega), if_neg (by omega)]
theorem b2_of {L M : List UInt8} {k : Nat} (h0 : byL L k = byL M k) (h1 : byL L (k + 1) = byL M (k + 1)) : b2 L k = b2 M k := by unfold b2; rw [h0, h1]
theorem fr_head (L : List UInt8) (o : Nat) (x : Ino) (h : o + 16 ≤ L.length) (hx : okI x) : byL (frI L o x) o = x.kind ∧ byL (frI L o x) (o + 1) = x.links ∧ b2 (frI L o x) (o + 2) = x.size := by
  obtain ⟨x1, x2, x3, x4, x5⟩ := hx
  have hl1 : (L.set o (UInt8.ofNat x.kind)).length = L.length := List.length_set
  have hl : ((L.set o (UInt8.ofNat x.kind)).set (o + 1) (UInt8.ofNat x.links)).length = L.length := by rw [List.length_set, hl1]
  have k0 : ∀ j, j < o + 4 → byL (frI L o x) j = byL (frK L o x 0) j := fun j hj => fr_keep L o x h j 0 (by omega) 6 (by omega) (by omega)
  refine ⟨?_, ?_, ?_⟩
  · rw [k0 o (by omega)]
    unfold frK
    rw [byL_put2 _ (by rw [hl]; omega), if_neg (by omega), if_neg (by omega), byL_set _ _ _ _ (by rw [hl1]; omega) x2, if_neg (by omega), byL_set _ _ _ _ (by omega) x1, if_pos rfl]
  · rw [k0 (o + 1) (by omega)]
    unfold frK
    rw [byL_put2 _ (by rw [hl]; omega), if_neg (by omega), if_neg (by omega), byL_set _ _ _ _ (by rw [hl1]; omega) x2, if_pos rfl]
  · rw [b2_of (k0 (o + 2) (by omega)) (k0 (o + 2 + 1) (by omega))]
    unfold frK
    exact b2_put2 (by rw [hl]; omega) x3
theorem fr_place (L : List UInt8) (o : Nat) (x : Ino) (h : o + 16 ≤ L.length) (hx : okI x) (k : Nat) (hk : k < 6) : b2 (frI L o x) (o + (4 + 2 * k)) = x.pl.getD k 0 := by
  obtain ⟨x1, x2, x3, x4, x5⟩ := hx
  have k0 : ∀ j, j < o + (4 + 2 * (k + 1)) → byL (frI L o x) j = byL (frK L o x (k + 1)) j := fun j hj => fr_keep L o x h j (k + 1) hj 6 (by omega) (by omega)
  rw [b2_of (k0 _ (by omega)) (k0 _ (by omega))]
  unfold frK
  exact b2_put2 (by rw [frK_len L o x h k (by omega)]; omega) (x5 k hk)
theorem ino_eta {x y : Ino} (h1 : x.kind = y.kind) (h2 : x.links = y.links) (h3 : x.size = y.size) (h4 : x.pl = y.pl) : x = y := by
  cases x; cases y; dsimp only at *; subst h1 h2 h3 h4; rfl
theorem toF_fr (L : List UInt8) (o : Nat) (x : Ino) (h : o + 16 ≤ L.length) (hx : okI x) : toF (frI L o x) o = x := by
  obtain ⟨e1, e2, e3⟩ := fr_head L o x h hx
  have e4 := fr_place L o x h hx
  generalize frI L o x = A at *
  refine @ino_eta (toF A o) x e1 e2 e3 ?_
  show (List.range 6).map (fun j => b2 A (o + (4 + 2 * j))) = x.pl
  apply List.ext_getElem
  · rw [List.length_map, List.length_range]; exact hx.2.2.2.1.symm
  · intro i h1 h2
    have hi : i < 6 := by rw [List.length_map, List.length_range] at h1; exact h1
    have := e4 i hi
    rw [List.getElem_map, List.getElem_range, this, List.getD_eq_getElem?_getD, List.getElem?_eq_getElem h2]; rfl
theorem toF_same {L M : List UInt8} {o : Nat} (h : ∀ j, o ≤ j → j < o + 16 → byL L j = byL M j) : toF L o = toF M o := by
  refine @ino_eta (toF L o) (toF M o) (h o (by omega) (by omega)) (h (o + 1) (by omega) (by omega)) (b2_of (h _ (by omega) (by omega)) (h _ (by omega) (by omega))) ?_
  show toPl L o 6 = toPl M o 6
  unfold toPl
  apply List.map_congr_left
  intro j hj
  rw [List.mem_range] at hj
  exact b2_of (h _ (by omega) (by omega)) (h _ (by omega) (by omega))
theorem toF_fr_other (L : List UInt8) (o p : Nat) (x : Ino) (h : o + 16 ≤ L.length) (hp : p + 16 ≤ o ∨ o + 16 ≤ p) : toF (frI L o x) p = toF L p :=
  toF_same fun j h1 h2 => fr_out L o x h j (by omega) 6 (by omega)
/-! an indirect sector's bytes -/
theorem ind_keep (f : Fil) (j m : Nat) (hj : j < 2 * m) : ∀ k, m ≤ k → k ≤ 32 → byL (indK f k) j = byL (indK f m) j
  | 0, h1, _ => by rw [show m = 0 by omega]
  | k + 1, h1, hk => by
    by_cases e : m = k + 1
    · rw [e]
    · rw [← ind_keep f j m hj k (by omega) (by omega)]
      show byL (put2 (indK f k) _ _) j = _
      rw [byL_put2 _ (by rw [indK_len f k (by omega)]; omega), if_neg (by omega), if_neg (by omega)]
theorem num_ind (f : Fil) (h : ∀ k, k < 37 → f.all.getD k 0 < 65536) : numK (indK f 32) 32 = (List.range 32).map fun k => f.all.getD (5 + k) 0 := by
  unfold numK
  apply List.map_congr_left
  intro j hj
  rw [List.mem_range] at hj
  rw [b2_of (ind_keep f (2 * j) (j + 1) (by omega) 32 (by omega) (by omega)) (ind_keep f (2 * j + 1) (j + 1) (by omega) 32 (by omega) (by omega))]
  unfold indK
  exact b2_put2 (by rw [indK_len f j (by omega)]; omega) (h _ (by omega))
theorem drop_range (l : List Nat) (h : l.length = 37) : ((List.range 32).map fun k => l.getD (5 + k) 0) = l.drop 5 := by
  apply List.ext_getElem
  · rw [List.length_map, List.length_range, List.length_drop, h]
  · intro i h1 h2
    rw [List.getElem_map, List.getElem_range, List.getElem_drop, List.getD_eq_getElem?_getD, List.getElem?_eq_getElem (by rw [List.length_drop] at h2; omega)]; rfl
end Go.Proofs.YtlpcccpagmipnaaGreat.P
namespace Go.Proofs.YtlpcccpagmipnaaGreat.P
open Go.RowKit
/-! files, by what they are -/
structure FA where
  kind : Nat
  links : Nat
  size : Nat
  secs : List Nat
  ind : Nat
def padN (m : Nat) (l : List Nat) : List Nat := l ++ List.replicate (m - l.length) 0
def FA.ino (a : FA) : Ino := ⟨a.kind, a.links, a.size, padN 5 (a.secs.take 5) ++ [a.ind]⟩
def FA.own (a : FA) : List Nat := a.secs ++ (if a.ind = 0 then [] else [a.ind])
def fa0 : FA := ⟨0, 0, 0, [], 0⟩
structure FA.ok (n : Nat) (a : FA) : Prop where
  kind : a.kind ≤ 2
  links : a.links ≤ 255
  size : a.size ≤ 2368
  len : a.secs.length = cntN a.size
  ind : a.ind ≠ 0 ↔ 5 < cntN a.size
  free : a.kind = 0 → a.links = 0 ∧ a.size = 0
  inn : ∀ o ∈ a.own, 9 ≤ o ∧ o < n
structure Rep (V : Nat → List UInt8) (n : Nat) (S : Nat → FA) : Prop where
  len : ∀ i, i < n → (V i).length = 64
  ok : ∀ k, k < 32 → (S k).ok n
  ino : ∀ k, k < 32 → toF (V (1 + k / 4)) (k % 4 * 16) = (S k).ino
  ind : ∀ k, k < 32 → (S k).ind ≠ 0 → numK (V (S k).ind) 32 = padN 32 ((S k).secs.drop 5)
  nodup : ∀ k, k < 32 → (S k).own.Nodup
  apart : ∀ j k, j < 32 → k < 32 → j ≠ k → ∀ o ∈ (S j).own, o ∉ (S k).own
  map : ∀ i, i < 512 → (usedB (V 0) i = true ↔ (i < 9 ∨ ∃ k, k < 32 ∧ i ∈ (S k).own))
theorem padN_len {m : Nat} {l : List Nat} (h : l.length ≤ m) : (padN m l).length = m := by
  unfold padN; rw [List.length_append, List.length_replicate]; omega
theorem getD_pad (m : Nat) (l : List Nat) (j : Nat) : (padN m l).getD j 0 = l.getD j 0 := by
  unfold padN
  rw [List.getD_eq_getElem?_getD, List.getD_eq_getElem?_getD]
  by_cases h : j < l.length
  · rw [List.getElem?_append_left h]
  · rw [List.getElem?_append_right (by omega), List.getElem?_eq_none (by omega : l.length ≤ j), List.getElem?_replicate]
    split <;> rfl
theorem getD_ext {l m : List Nat} (h : l.length = m.length) (hb : ∀ j, j < l.length → l.getD j 0 = m.getD j 0) : l = m := by
  apply List.ext_getElem h
  intro i h1 h2
  have := hb i h1
  rw [List.getD_eq_getElem?_getD, List.getD_eq_getElem?_getD, List.getElem?_eq_getElem h1, List.getElem?_eq_getElem h2] at this
  exact this
theorem getD_app_left {l m : List Nat} {j : Nat} (h : j < l.length) : (l ++ m).getD j 0 = l.getD j 0 := by
  rw [List.getD_eq_getElem?_getD, List.getElem?_append_left h, ← List.getD_eq_getElem?_getD]
theorem getD_app_right {l m : List Nat} {j : Nat} (h : l.length ≤ j) : (l ++ m).getD j 0 = m.getD (j - l.length) 0 := by
  rw [List.getD_eq_getElem?_getD, List.getElem?_append_right h, ← List.getD_eq_getElem?_getD]
theorem getD_take {l : List Nat} {o j : Nat} (h : j < o) : (l.take o).getD j 0 = l.getD j 0 := by
  rw [List.getD_eq_getElem?_getD, List.getElem?_take_of_lt h, ← List.getD_eq_getElem?_getD]
theorem getD_drop (l : List Nat) (o j : Nat) : (l.drop o).getD j 0 = l.getD (o + j) 0 := by
  rw [List.getD_eq_getElem?_getD, List.getElem?_drop, ← List.getD_eq_getElem?_getD]
theorem getD_none {l : List Nat} {j : Nat} (h : l.length ≤ j) : l.getD j 0 = 0 := by
  rw [List.getD_eq_getElem?_getD, List.getElem?_eq_none h]; rfl
theorem getD_mem {l : List Nat} {j : Nat} (h : j < l.length) : l.getD j 0 ∈ l := by
  rw [List.getD_eq_getElem?_getD, List.getElem?_eq_getElem h]; exact List.getElem_mem h
theorem cnt_le37 {s : Nat} (h : s ≤ 2368) : cntN s ≤ 37 := by unfold cntN; omega
theorem pad_take5 (l : List Nat) (h : l.length ≤ 37) : (padN 37 l).take 5 = padN 5 (l.take 5) := by
  apply getD_ext
  · rw [List.length_take, padN_len h, padN_len (by rw [List.length_take]; omega)]; rfl
  · intro j hj
    rw [List.length_take, padN_len h] at hj
    rw [getD_take (by omega), getD_pad, getD_pad, getD_take (by omega)]
theorem pad_drop5 (l : List Nat) (h : l.length ≤ 37) : (padN 37 l).drop 5 = padN 32 (l.drop 5) := by
  apply getD_ext
  · rw [List.length_drop, padN_len h, padN_len (by rw [List.length_drop]; omega)]
  · intro j hj
    rw [getD_drop, getD_pad, getD_pad, getD_drop]
theorem take_drop_pad (l : List Nat) (h : l.length ≤ 37) : padN 5 (l.take 5) ++ padN 32 (l.drop 5) = padN 37 l := by
  rw [← pad_take5 l h, ← pad_drop5 l h, List.take_append_drop]
/-- A file out of an inode, in a view. -/
def filV (V : Nat → List UInt8) (x : Ino) : Fil := ⟨x, bif decide (x.pl.getD 5 0 = 0) then x.pl.take 5 ++ List.replicate 32 0 else allK x (V (x.pl.getD 5 0)) 32⟩
theorem FA.ino_five {a : FA} : (a.ino).pl.getD 5 0 = a.ind := by
  show (padN 5 (a.secs.take 5) ++ [a.ind]).getD 5 0 = _
  have h : (padN 5 (a.secs.take 5)).length = 5 := padN_len (by rw [List.length_take]; omega)
  rw [getD_app_right (by omega), h]; rfl
theorem FA.ino_take {a : FA} : (a.ino).pl.take 5 = padN 5 (a.secs.take 5) := by
  have h : (padN 5 (a.secs.take 5)).length = 5 := padN_len (by rw [List.length_take]; omega)
  show (padN 5 (a.secs.take 5) ++ [a.ind]).take 5 = _
  rw [List.take_append_of_le_length (by omega), List.take_of_length_le (by omega)]
theorem FA.ino_len {a : FA} : (a.ino).pl.length = 6 := by
  show (padN 5 (a.secs.take 5) ++ [a.ind]).length = 6
  rw [List.length_append, padN_len (by rw [List.length_take]; omega)]; rfl
theorem FA.ok.le {n : Nat} {a : FA} (h : a.ok n) : a.secs.length ≤ 37 := by rw [h.len]; exact cnt_le37 h.size
theorem fil_rep {V : Nat → List UInt8} {n : Nat} {S : Nat → FA} (h : Rep V n S) {k : Nat} (hk : k < 32) : filV V (S k).ino = ⟨(S k).ino, padN 37 (S k).secs⟩ := by
  have hle := (h.ok k hk).le
  unfold filV allK
  rw [FA.ino_five, FA.ino_take]
  congr 1
  by_cases h0 : (S k).ind = 0
  · rw [decide_eq_true h0, cond_true]
    have h5 : cntN (S k).size ≤ 5 := by
      rcases Nat.lt_or_ge 5 (cntN (S k).size) with e | e
      · exact absurd h0 ((h.ok k hk).ind.2 e)
      · exact e
    have hl := (h.ok k hk).len
    rw [← take_drop_pad _ hle, List.drop_of_length_le (by omega)]; rfl
  · rw [decide_eq_false h0, cond_false, h.ind k hk h0]
    show _ ++ (_ ++ []) = _
    rw [List.append_nil, take_drop_pad _ hle]
theorem FA.ok.okI {n : Nat} {a : FA} (h : a.ok n) (hn : n ≤ 512) : okI a.ino := by
  refine ⟨by have := h.kind; show a.kind < 256; omega, by have := h.links; show a.links < 256; omega, by have := h.size; show a.size < 65536; omega, FA.ino_len, fun k hk => ?_⟩
  by_cases h5 : k = 5
  · rw [h5, FA.ino_five]
    by_cases h0 : a.ind = 0
    · omega
    · have := h.inn a.ind (by unfold FA.own; rw [if_neg h0]; exact List.mem_append_right _ (List.mem_singleton.2 rfl))
      omega
  · have e : (a.ino).pl.getD k 0 = a.secs.getD k 0 := by
      have hl : (padN 5 (a.secs.take 5)).length = 5 := padN_len (by rw [List.length_take]; omega)
      show (padN 5 (a.secs.take 5) ++ [a.ind]).getD k 0 = _
      rw [getD_app_left (by omega), getD_pad, getD_take (by omega)]
    rw [e]
    by_cases hj : k < a.secs.length
    · have := h.inn _ (by unfold FA.own; exact List.mem_append_left _ (getD_mem hj))
      omega
    · rw [getD_none (by omega)]; omega
theorem FA.ok.sec {n : Nat} {a : FA} (h : a.ok n) (hn : n ≤ 512) (j : Nat) : a.secs.getD j 0 < 512 := by
  by_cases hj : j < a.secs.length
  · have := h.inn _ (by unfold FA.own; exact List.mem_append_left _ (getD_mem hj))
    omega
  · rw [getD_none (by omega)]; omega
theorem FA.ok.indlt {n : Nat} {a : FA} (h : a.ok n) (hn : 9 ≤ n) : a.ind < n := by
  by_cases h0 : a.ind = 0
  · omega
  · have := h.inn a.ind (by unfold FA.own; rw [if_neg h0]; exact List.mem_append_right _ (List.mem_singleton.2 rfl))
    omega
/-! views -/
def putV (V : Nat → List UInt8) (i : Nat) (L : List UInt8) : Nat → List UInt8 := fun j => if j = i then L else V j
theorem putV_at (V : Nat → List UInt8) (i : Nat) (L : List UInt8) : putV V i L i = L := by unfold putV; rw [if_pos rfl]
theorem putV_ne {V : Nat → List UInt8} {i : Nat} {L : List UInt8} {j : Nat} (h : j ≠ i) : putV V i L j = V j := by unfold putV; rw [if_neg h]
/-- An inode put. -/
def putRV (W : Nat → List UInt8) (k : Nat) (x : Ino) : Nat → List UInt8 := putV W (1 + k / 4) (frI (W (1 + k / 4)) (k % 4 * 16) x)
def insS (S : Nat → FA) (k : Nat) (a : FA) : Nat → FA := fun j => if j = k then a else S j
theorem insS_at (S : Nat → FA) (k : Nat) (a : FA) : insS S k a k = a := by unfold insS; rw [if_pos rfl]
theorem insS_ne {S : Nat → FA} {k j : Nat} {a : FA} (h : j ≠ k) : insS S k a j = S j := by unfold insS; rw [if_neg h]
/-- What became of a volume whose file k became a; W: the view ahead of the inode. -/
theorem rep_put {V W : Nat → List UInt8} {n : Nat} {S : Nat → FA} (h : Rep V n S) (h9 : 9 ≤ n) {k : Nat} (hk : k < 32) {a : FA} (ha : a.ok n) (hn : n ≤ 512)
    (hlen : ∀ i, i < n → (W i).length = 64) (hino : ∀ i, 1 ≤ i → i < 9 → W i = V i) (hind : ∀ j, j < 32 → j ≠ k → (S j).ind ≠ 0 → W (S j).ind = V (S j).ind)
    (hind2 : a.ind ≠ 0 → numK (W a.ind) 32 = padN 32 (a.secs.drop 5)) (hnd : a.own.Nodup) (hap : ∀ j, j < 32 → j ≠ k → ∀ o ∈ a.own, o ∉ (S j).own)
    (hmap : ∀ i, i < 512 → (usedB (W 0) i = true ↔ (i < 9 ∨ i ∈ a.own ∨ ∃ j, j < 32 ∧ j ≠ k ∧ i ∈ (S j).own))) : Rep (putRV W k a.ino) n (insS S k a) := by
  have hi9 : 1 + k / 4 < 9 := by omega
  have hl : (W (1 + k / 4)).length = 64 := hlen _ (by omega)
  have hne : ∀ o, 9 ≤ o → o ≠ 1 + k / 4 := fun o ho => by omega
  have hb : ∀ {j : Nat}, j < 32 → (insS S k a j).ind ≠ 0 → 9 ≤ (insS S k a j).ind := fun {j} hj h0 => by
    by_cases e : j = k
    · rw [e, insS_at] at h0 ⊢
      exact (ha.inn _ (by unfold FA.own; rw [if_neg h0]; exact List.mem_append_right _ (List.mem_singleton.2 rfl))).1
    · rw [insS_ne e] at h0 ⊢
      exact ((h.ok j hj).inn _ (by unfold FA.own; rw [if_neg h0]; exact List.mem_append_right _ (List.mem_singleton.2 rfl))).1
  refine ⟨fun i hi => ?_, fun j hj => ?_, fun j hj => ?_, fun j hj h0 => ?_, fun j hj => ?_, fun j q hj hq hjq o ho => ?_, fun i hi => ?_⟩
  · unfold putRV
    by_cases e : i = 1 + k / 4
    · rw [e, putV_at]; unfold frI; rw [frK_len _ _ _ (by omega) 6 (by omega), hl]
    · rw [putV_ne e, hlen i hi]
  · by_cases e : j = k
    · rw [e, insS_at]; exact ha
    · rw [insS_ne e]; exact h.ok j hj
  · unfold putRV
    by_cases e : j = k
    · rw [e, insS_at, putV_at]
      exact toF_fr _ _ _ (by omega) (ha.okI hn)
    · rw [insS_ne e]
      by_cases e2 : 1 + j / 4 = 1 + k / 4
      · rw [e2, putV_at, toF_fr_other _ _ _ _ (by omega) (by omega), hino _ (by omega) hi9, ← e2, h.ino j hj]
      · rw [putV_ne e2, hino _ (by omega) (by omega), h.ino j hj]
  · have h9 := hb hj h0
    unfold putRV
    rw [putV_ne (hne _ h9)]
    by_cases e : j = k
    · rw [e, insS_at] at h0 ⊢
      exact hind2 h0
    · rw [insS_ne e] at h0 ⊢
      rw [hind j hj e h0]
      exact h.ind j hj h0
  · by_cases e : j = k
    · rw [e, insS_at]; exact hnd
    · rw [insS_ne e]; exact h.nodup j hj
  · by_cases e : j = k
    · rw [e, insS_at] at ho
      rw [insS_ne (by omega)]
      exact hap q hq (by omega) o ho
    · rw [insS_ne e] at ho
      by_cases e2 : q = k
      · rw [e2, insS_at]
        intro h2
        exact hap j hj e o h2 ho
      · rw [insS_ne e2]
        exact h.apart j q hj hq hjq o ho
  · unfold putRV
    rw [putV_ne (by omega), hmap i hi]
    constructor
    · rintro (e | e | ⟨j, hj, hjk, e⟩)
      · exact .inl e
      · exact .inr ⟨k, hk, by rw [insS_at]; exact e⟩
      · exact .inr ⟨j, hj, by rw [insS_ne hjk]; exact e⟩
    · rintro (e | ⟨j, hj, e⟩)
      · exact .inl e
      · by_cases hjk : j = k
        · rw [hjk, insS_at] at e; exact .inr (.inl e)
        · rw [insS_ne hjk] at e; exact .inr (.inr ⟨j, hj, hjk, e⟩)
/-- What a file's bytes are. -/
def datA (V : Nat → List UInt8) (a : FA) : List UInt8 := (List.range a.size).map fun j => (V (a.secs.getD (j / 64) 0)).getD (j % 64) 0
theorem datA_len (V : Nat → List UInt8) (a : FA) : (datA V a).length = a.size := by unfold datA; rw [List.length_map, List.length_range]
theorem datA_at (V : Nat → List UInt8) (a : FA) {j : Nat} (h : j < a.size) : (datA V a).getD j 0 = (V (a.secs.getD (j / 64) 0)).getD (j % 64) 0 := by
  unfold datA
  rw [List.getD_eq_getElem?_getD, List.getElem?_map, List.getElem?_range h]; rfl
theorem datA_congr {V W : Nat → List UInt8} {a : FA} (hl : a.secs.length = cntN a.size) (h : ∀ o ∈ a.secs, W o = V o) : datA W a = datA V a := by
  unfold datA
  apply List.map_congr_left
  intro j hj
  rw [List.mem_range] at hj
  rw [h _ (getD_mem (by rw [hl]; unfold cntN; omega))]
structure NodeA where
  kind : Nat
  links : Nat
  data : List UInt8
def node0 : NodeA := ⟨0, 0, []⟩
def nodA (V : Nat → List UInt8) (a : FA) : NodeA := ⟨a.kind, a.links, datA V a⟩
/-- What a view is, as a volume. -/
def IsVol (V : Nat → List UInt8) (n : Nat) (N : Nat → NodeA) : Prop := ∃ S, Rep V n S ∧ ∀ k, k < 32 → N k = nodA V (S k)
def insN (N : Nat → NodeA) (k : Nat) (a : NodeA) : Nat → NodeA := fun j => if j = k then a else N j
theorem own_secs {a : FA} {o : Nat} (h : o ∈ a.secs) : o ∈ a.own := List.mem_append_left _ h
theorem own_ind {a : FA} (h : a.ind ≠ 0) : a.ind ∈ a.own := by unfold FA.own; rw [if_neg h]; exact List.mem_append_right _ (List.mem_singleton.2 rfl)
/-- The volume behind. -/
theorem vol_put {V W : Nat → List UInt8} {n : Nat} {S : Nat → FA} {N : Nat → NodeA} (hN : ∀ k, k < 32 → N k = nodA V (S k)) (h : Rep V n S) {k : Nat} (hk : k < 32) {a : FA} {x : NodeA}
    (h2 : Rep (putRV W k a.ino) n (insS S k a)) (hw : ∀ j, j < 32 → j ≠ k → ∀ o ∈ (S j).own, W o = V o) (hx : nodA W a = x) : IsVol (putRV W k a.ino) n (insN N k x) := by
  refine ⟨_, h2, fun j hj => ?_⟩
  have hd : ∀ (b : FA), b.ok n → datA (putRV W k a.ino) b = datA W b := fun b hb => datA_congr hb.len (fun o ho => by
    have := hb.inn o (own_secs ho)
    unfold putRV
    rw [putV_ne (by omega)])
  unfold insN
  by_cases e : j = k
  · have ha : a.ok n := by have := h2.ok k hk; rw [insS_at] at this; exact this
    rw [if_pos e, e, insS_at, ← hx]
    unfold nodA
    rw [hd a ha]
  · rw [if_neg e, insS_ne e, hN j hj]
    unfold nodA
    rw [hd _ (h.ok j hj), datA_congr (h.ok j hj).len (fun o ho => hw j hj e o (own_secs ho))]
/-! New, Link, Free -/
theorem own_nil {a : FA} {n : Nat} (h : a.ok n) (h0 : a.size = 0) : a.own = [] := by
  have hl := h.len
  rw [h0] at hl
  have hi : a.ind = 0 := by
    rcases Nat.eq_zero_or_pos a.ind with e | e
    · exact e
    · have := h.ind.1 (by omega)
      rw [h0] at this
      exact absurd this (by decide)
  have hs : a.secs = [] := List.length_eq_zero_iff.1 hl
  unfold FA.own
  rw [if_pos hi, hs]; rfl
theorem fa_empty {a : FA} {n : Nat} (h : a.ok n) (h0 : a.size = 0) : a.secs = [] ∧ a.ind = 0 := by
  have := own_nil h h0
  unfold FA.own at this
  rw [List.append_eq_nil_iff] at this
  refine ⟨this.1, ?_⟩
  have h2 := this.2
  split at h2
  · assumption
  · cases h2
theorem ok_new {n kd : Nat} (h : kd ≤ 2) : (⟨kd, 0, 0, [], 0⟩ : FA).ok n :=
  ⟨h, Nat.zero_le _, Nat.zero_le _, by show 0 = cntN 0; decide, by show (0 ≠ 0 ↔ 5 < cntN 0); decide, fun _ => ⟨rfl, rfl⟩, fun o ho => by cases ho⟩
theorem map_not {V : Nat → List UInt8} {n : Nat} {S : Nat → FA} (h : Rep V n S) (k : Nat) (i : Nat) (hi : i < 512) (hk : k < 32) : (usedB (V 0) i = true ↔ (i < 9 ∨ i ∈ (S k).own ∨ ∃ j, j < 32 ∧ j ≠ k ∧ i ∈ (S j).own)) := by
  rw [h.map i hi]
  constructor
  · rintro (e | ⟨j, hj, e⟩)
    · exact .inl e
    · by_cases hjk : j = k
      · rw [hjk] at e; exact .inr (.inl e)
      · exact .inr (.inr ⟨j, hj, hjk, e⟩)
  · rintro (e | e | ⟨j, hj, _, e⟩)
    · exact .inl e
    · exact .inr ⟨k, hk, e⟩
    · exact .inr ⟨j, hj, e⟩
/-- A file whose sectors stay. -/
theorem vol_meta {V : Nat → List UInt8} {n : Nat} {S : Nat → FA} {N : Nat → NodeA} (hN : ∀ k, k < 32 → N k = nodA V (S k)) (h : Rep V n S) (h9 : 9 ≤ n) (hn : n ≤ 512) {k : Nat} (hk : k < 32) {a : FA} (ha : a.ok n) (hs : a.secs = (S k).secs) (hi : a.ind = (S k).ind) : IsVol (putRV V k a.ino) n (insN N k (nodA V a)) := by
  have ho : a.own = (S k).own := by unfold FA.own; rw [hs, hi]
  refine vol_put hN h hk ?_ (fun _ _ _ _ _ => rfl) rfl
  refine rep_put h h9 hk ha hn h.len (fun _ _ _ => rfl) (fun _ _ _ _ => rfl) (fun h0 => ?_) (by rw [ho]; exact h.nodup k hk) (fun j hj hjk o hoo => ?_) (fun i hi => ?_)
  · rw [hi, hs]; exact h.ind k hk (by rw [← hi]; exact h0)
  · rw [ho] at hoo
    exact h.apart k j hk hj (by omega) o hoo
  · rw [ho]; exact map_not h k i hi hk
end Go.Proofs.YtlpcccpagmipnaaGreat.P
namespace Go.Proofs.YtlpcccpagmipnaaGreat.P
open Go.RowKit
/-! Cut and Free -/
theorem getD_set (l : List Nat) (i j v : Nat) (hi : i < l.length) : (l.set i v).getD j 0 = if j = i then v else l.getD j 0 := by
  rw [List.getD_eq_getElem?_getD, List.getD_eq_getElem?_getD, List.getElem?_set]
  by_cases h : i = j
  · rw [if_pos h, if_pos h.symm, if_pos hi]; rfl
  · rw [if_neg h, if_neg (fun e => h e.symm)]
theorem sh_map {L : List UInt8} (hl : L.length = 64) {a : List Nat} (c : Nat) (hb : ∀ j, a.getD j 0 < 512) : ∀ k, ∀ i, i < 512 → (usedB (shK L a c k).1 i = true ↔ (usedB L i = true ∧ ∀ j, j < k → a.getD (c + j) 0 ≠ i))
  | 0, i, _ => ⟨fun h => ⟨h, fun j hj => absurd hj (Nat.not_lt_zero _)⟩, fun h => h.1⟩
  | k + 1, i, hi => by
    have ih := sh_map hl c hb k i hi
    unfold shK
    rw [used_set (by rw [(shK_len L a c k).1]; exact hl) (hb _) hi]
    by_cases e : i = a.getD (c + k) 0
    · rw [if_pos e]
      constructor
      · intro h; cases h
      · rintro ⟨_, h⟩; exact absurd e.symm (h k (by omega))
    · rw [if_neg e, ih]
      constructor
      · rintro ⟨h1, h2⟩
        refine ⟨h1, fun j hj => ?_⟩
        by_cases hk : j = k
        · rw [hk]; exact fun q => e q.symm
        · exact h2 j (by omega)
      · rintro ⟨h1, h2⟩
        exact ⟨h1, fun j hj => h2 j (by omega)⟩
theorem sh_all (L : List UInt8) (a : List Nat) (c : Nat) : ∀ k, c + k ≤ a.length → ∀ j, (shK L a c k).2.getD j 0 = if c ≤ j ∧ j < c + k then 0 else a.getD j 0
  | 0, _, j => by rw [if_neg (by omega)]; rfl
  | k + 1, hk, j => by
    have ih := sh_all L a c k (by omega) j
    unfold shK
    rw [getD_set _ _ _ _ (by rw [(shK_len L a c k).2]; omega)]
    by_cases e : j = c + k
    · rw [if_pos e, if_pos (by omega)]
    · rw [if_neg e, ih]
      by_cases e2 : c ≤ j ∧ j < c + k
      · rw [if_pos e2, if_pos (by omega)]
      · rw [if_neg e2, if_neg (by omega)]
def cutA (a : FA) (size : Nat) : FA := ⟨a.kind, a.links, size, a.secs.take (cntN size), if cntN size ≤ 5 then 0 else a.ind⟩
theorem cnt_mono {a b : Nat} (h : a ≤ b) : cntN a ≤ cntN b := by unfold cntN; omega
theorem pad_at_end {l : List Nat} {c : Nat} (h : l.length ≤ 37) (hc : c ≤ l.length) (M : List Nat) (hM : M.length = 37) (hb : ∀ j, M.getD j 0 = if c ≤ j ∧ j < l.length then 0 else (padN 37 l).getD j 0) : M = padN 37 (l.take c) := by
  apply getD_ext
  · rw [hM, padN_len (by rw [List.length_take]; omega)]
  · intro j hj
    rw [hb j, getD_pad, getD_pad]
    by_cases h1 : j < c
    · rw [if_neg (by omega), getD_take h1]
    · rw [getD_none (l := l.take c) (by rw [List.length_take]; omega)]
      by_cases h2 : j < l.length
      · rw [if_pos (by omega)]
      · rw [if_neg (by omega), getD_none (by omega)]
theorem own_nodup {a : FA} (h : a.own.Nodup) : a.secs.Nodup ∧ (a.ind ≠ 0 → a.ind ∉ a.secs) := by
  unfold FA.own at h
  rw [List.nodup_append] at h
  refine ⟨h.1, fun h0 hm => ?_⟩
  rw [if_neg h0] at h
  exact h.2.2 _ hm _ (List.mem_singleton.2 rfl) rfl
theorem mem_own {a : FA} {i : Nat} : i ∈ a.own ↔ (i ∈ a.secs ∨ (a.ind ≠ 0 ∧ i = a.ind)) := by
  unfold FA.own
  rw [List.mem_append]
  by_cases h : a.ind = 0
  · rw [if_pos h]
    constructor
    · rintro (e | e)
      · exact .inl e
      · cases e
    · rintro (e | e)
      · exact .inl e
      · exact absurd h e.1
  · rw [if_neg h, List.mem_singleton]
    constructor
    · rintro (e | e)
      · exact .inl e
      · exact .inr ⟨h, e⟩
    · rintro (e | e)
      · exact .inl e
      · exact .inr e.2
theorem nodup_at {l : List Nat} (h : l.Nodup) {i j : Nat} (hi : i < l.length) (hj : j < l.length) (e : l.getD i 0 = l.getD j 0) : i = j := by
  rw [List.getD_eq_getElem?_getD, List.getD_eq_getElem?_getD, List.getElem?_eq_getElem hi, List.getElem?_eq_getElem hj] at e
  have e2 : l[i] = l[j] := e
  rcases Nat.lt_trichotomy i j with q | q | q
  · exact absurd e2 (List.pairwise_iff_getElem.1 h i j hi hj q)
  · exact q
  · exact absurd e2.symm (List.pairwise_iff_getElem.1 h j i hj hi q)
theorem mem_at {l : List Nat} {i : Nat} (h : i ∈ l) : ∃ q, q < l.length ∧ l.getD q 0 = i := by
  obtain ⟨q, hq, rfl⟩ := List.mem_iff_getElem.1 h
  exact ⟨q, hq, by rw [List.getD_eq_getElem?_getD, List.getElem?_eq_getElem hq]; rfl⟩
theorem mem_take_at {l : List Nat} {c i : Nat} : i ∈ l.take c ↔ ∃ q, q < c ∧ q < l.length ∧ l.getD q 0 = i := by
  constructor
  · intro h
    obtain ⟨q, hq, e⟩ := mem_at h
    rw [List.length_take] at hq
    exact ⟨q, by omega, by omega, by rw [← e, getD_take (by omega)]⟩
  · rintro ⟨q, h1, h2, rfl⟩
    rw [← getD_take h1]
    exact getD_mem (by rw [List.length_take]; omega)
/-- What shrink makes of a file. -/
theorem shF_is {L : List UInt8} (hl : L.length = 64) {a : FA} {n : Nat} (ha : a.ok n) (hn : n ≤ 512) (h9 : 9 ≤ n) (hnd : a.own.Nodup) {size : Nat} (hs : size ≤ a.size) :
    (shF L ⟨a.ino, padN 37 a.secs⟩ size).2.all = padN 37 (cutA a size).secs ∧ pI (shF L ⟨a.ino, padN 37 a.secs⟩ size).2 = (cutA a size).ino ∧ (shF L ⟨a.ino, padN 37 a.secs⟩ size).2.ino.pl.getD 5 0 = (cutA a size).ind ∧ (shF L ⟨a.ino, padN 37 a.secs⟩ size).2.ino.pl.length = 6 ∧
    (shF L ⟨a.ino, padN 37 a.secs⟩ size).1.length = 64 ∧ ∀ i, i < 512 → (usedB (shF L ⟨a.ino, padN 37 a.secs⟩ size).1 i = true ↔ (usedB L i = true ∧ (i ∈ a.own → i ∈ (cutA a size).own))) := by
  have hle := ha.le
  have hlen := ha.len
  have hc := cnt_mono hs
  obtain ⟨hn1, hn2⟩ := own_nodup hnd
  have hb : ∀ j, (padN 37 a.secs).getD j 0 < 512 := fun j => by rw [getD_pad]; exact ha.sec hn j
  have h37 : (padN 37 a.secs).length = 37 := padN_len hle
  have hk := sh_map hl (cntN size) hb (cntN a.size - cntN size)
  have hal := sh_all L (padN 37 a.secs) (cntN size) (cntN a.size - cntN size) (by omega)
  have hkl := shK_len L (padN 37 a.secs) (cntN size) (cntN a.size - cntN size)
  have e1 : (shK L (padN 37 a.secs) (cntN size) (cntN a.size - cntN size)).2 = padN 37 (cutA a size).secs := by
    refine pad_at_end hle (by omega) _ (by rw [hkl.2]; exact h37) (fun j => ?_)
    rw [hal j]
    by_cases q : cntN size ≤ j ∧ j < a.secs.length
    · rw [if_pos q, if_pos (by omega)]
    · rw [if_neg q, if_neg (by omega)]
  have hsl : (cutA a size).secs.length ≤ 37 := by show (a.secs.take _).length ≤ 37; rw [List.length_take]; omega
  have h5 := pad_take5 _ hsl
  have hdrop : ∀ i, (∀ j, j < cntN a.size - cntN size → (padN 37 a.secs).getD (cntN size + j) 0 ≠ i) ↔ (i ∈ a.secs → i ∈ a.secs.take (cntN size)) := fun i => by
    constructor
    · intro h2 h1
      obtain ⟨q, hq, rfl⟩ := mem_at h1
      by_cases hqc : q < cntN size
      · exact mem_take_at.2 ⟨q, hqc, hq, rfl⟩
      · exfalso
        refine h2 (q - cntN size) (by omega) ?_
        rw [show cntN size + (q - cntN size) = q by omega, getD_pad]
    · intro h j hj e
      rw [getD_pad] at e
      have hm : i ∈ a.secs := by rw [← e]; exact getD_mem (by omega)
      obtain ⟨q, h1, h2, h3⟩ := mem_take_at.1 (h hm)
      have := nodup_at hn1 h2 (by omega : cntN size + j < a.secs.length) (by rw [h3, e])
      omega
  unfold shF
  have his : (a.ino).size = a.size := rfl
  dsimp only
  rw [his]
  by_cases hr : a.ind ≠ 0 ∧ cntN size ≤ 5
  · have hb1 : (!decide ((a.ino).pl.getD 5 0 = 0) && decide (cntN size ≤ 5)) = true := by
      rw [FA.ino_five, decide_eq_false hr.1, decide_eq_true hr.2]; rfl
    rw [hb1, cond_true]
    have hci : (cutA a size).ind = 0 := by show (if _ then _ else _) = 0; rw [if_pos hr.2]
    have hco : (cutA a size).own = a.secs.take (cntN size) := by unfold FA.own; rw [if_pos hci]; exact List.append_nil _
    have hset : ((a.ino).pl.set 5 0).getD 5 0 = 0 := by rw [getD_set _ _ _ _ (by rw [FA.ino_len]; omega), if_pos rfl]
    refine ⟨e1, ?_, by rw [hset, hci], by rw [List.length_set, FA.ino_len], by unfold setB; rw [List.length_set, hkl.1, hl], fun i hi => ?_⟩
    · unfold pI
      dsimp only
      rw [e1, h5, hset, ← hci]; rfl
    · rw [FA.ino_five, used_set (by rw [hkl.1]; exact hl) (by have := ha.indlt h9; omega) hi, hco]
      by_cases hii : i = a.ind
      · rw [if_pos hii]
        constructor
        · intro h; cases h
        · rintro ⟨_, h⟩
          have := h (by rw [hii]; exact own_ind hr.1)
          rw [hii] at this
          exact absurd (List.mem_of_mem_take this) (hn2 hr.1)
      · rw [if_neg hii, hk i hi, hdrop i]
        constructor
        · rintro ⟨h1, h2⟩
          refine ⟨h1, fun h => h2 ?_⟩
          rcases mem_own.1 h with e | e
          · exact e
          · exact absurd e.2 hii
        · rintro ⟨h1, h2⟩
          exact ⟨h1, fun h => h2 (own_secs h)⟩
  · have hb1 : (!decide ((a.ino).pl.getD 5 0 = 0) && decide (cntN size ≤ 5)) = false := by
      rw [FA.ino_five]
      by_cases h0 : a.ind = 0
      · rw [decide_eq_true h0]; rfl
      · rw [decide_eq_false h0, decide_eq_false (fun e => hr ⟨h0, e⟩)]; rfl
    rw [hb1, cond_false]
    have hci : (cutA a size).ind = a.ind := by
      show (if _ then _ else _) = _
      by_cases h0 : cntN size ≤ 5
      · rw [if_pos h0]
        rcases Nat.eq_zero_or_pos a.ind with e | e
        · exact e.symm
        · exact absurd ⟨by omega, h0⟩ hr
      · rw [if_neg h0]
    refine ⟨e1, ?_, by rw [FA.ino_five, hci], FA.ino_len, by rw [hkl.1, hl], fun i hi => ?_⟩
    · unfold pI
      dsimp only
      rw [e1, h5, FA.ino_five, ← hci]; rfl
    · rw [hk i hi, hdrop i, mem_own, mem_own, hci]
      show _ ↔ (_ ∧ (_ → i ∈ a.secs.take (cntN size) ∨ _))
      constructor
      · rintro ⟨h1, h2⟩
        exact ⟨h1, fun h => h.elim (fun e => .inl (h2 e)) (fun e => .inr e)⟩
      · rintro ⟨h1, h2⟩
        refine ⟨h1, fun h => (h2 (.inl h)).elim id fun e => ?_⟩
        rw [e.2] at h
        exact absurd h (hn2 e.1)
theorem cut_ok {a : FA} {n : Nat} (ha : a.ok n) (hk : a.kind ≠ 0) {size : Nat} (hs : size ≤ a.size) : (cutA a size).ok n := by
  have hc := cnt_mono hs
  have hlen := ha.len
  refine ⟨ha.kind, ha.links, Nat.le_trans hs ha.size, by show (a.secs.take _).length = cntN size; rw [List.length_take]; omega, ?_, fun h => absurd h hk, fun o ho => ?_⟩
  · show (if cntN size ≤ 5 then 0 else a.ind) ≠ 0 ↔ 5 < cntN size
    by_cases h5 : cntN size ≤ 5
    · rw [if_pos h5]; omega
    · rw [if_neg h5]
      have := ha.ind.2 (by omega)
      constructor
      · intro _; omega
      · intro _; exact this
  · rcases mem_own.1 ho with e | ⟨e1, e2⟩
    · exact ha.inn o (own_secs (List.mem_of_mem_take e))
    · have h1 : (if cntN size ≤ 5 then 0 else a.ind) ≠ 0 := e1
      have h2 : o = (if cntN size ≤ 5 then 0 else a.ind) := e2
      by_cases h5 : cntN size ≤ 5
      · rw [if_pos h5] at h1; exact absurd rfl h1
      · rw [if_neg h5] at h1 h2
        rw [h2]; exact ha.inn _ (own_ind h1)
theorem cut_own {a : FA} {size o : Nat} (h : o ∈ (cutA a size).own) : o ∈ a.own := by
  rcases mem_own.1 h with e | ⟨e1, e2⟩
  · exact own_secs (List.mem_of_mem_take e)
  · have h1 : (if cntN size ≤ 5 then 0 else a.ind) ≠ 0 := e1
    have h2 : o = (if cntN size ≤ 5 then 0 else a.ind) := e2
    by_cases h5 : cntN size ≤ 5
    · rw [if_pos h5] at h1; exact absurd rfl h1
    · rw [if_neg h5] at h1 h2
      rw [h2]; exact own_ind h1
theorem cut_nodup {a : FA} {size : Nat} (h : a.own.Nodup) : (cutA a size).own.Nodup := by
  obtain ⟨h1, h2⟩ := own_nodup h
  unfold FA.own
  rw [List.nodup_append]
  refine ⟨h1.sublist (List.take_sublist _ _), by split <;> simp, fun x hx y hy e => ?_⟩
  have hx2 : x ∈ a.secs := List.mem_of_mem_take hx
  have hi : (cutA a size).ind = if cntN size ≤ 5 then 0 else a.ind := rfl
  rw [hi] at hy
  by_cases h5 : cntN size ≤ 5
  · rw [if_pos h5, if_pos rfl] at hy; cases hy
  · rw [if_neg h5] at hy
    by_cases h0 : a.ind = 0
    · rw [if_pos h0] at hy; cases hy
    · rw [if_neg h0, List.mem_singleton] at hy
      rw [e, hy] at hx2
      exact h2 h0 hx2
theorem padN_idem (m : Nat) (l : List Nat) : padN m l = l ++ List.replicate (m - l.length) 0 := rfl
end Go.Proofs.YtlpcccpagmipnaaGreat.P
namespace Go.Proofs.YtlpcccpagmipnaaGreat.P
open Go.RowKit
/-! what files take, and what is free -/
def ownAll (S : Nat → FA) : List Nat := (List.range 32).flatMap fun k => (S k).own
theorem mem_ownAll {S : Nat → FA} {i : Nat} : i ∈ ownAll S ↔ ∃ k, k < 32 ∧ i ∈ (S k).own := by
  unfold ownAll
  rw [List.mem_flatMap]
  constructor
  · rintro ⟨k, hk, h⟩; exact ⟨k, List.mem_range.1 hk, h⟩
  · rintro ⟨k, hk, h⟩; exact ⟨k, List.mem_range.2 hk, h⟩
theorem own_all_nodup {V : Nat → List UInt8} {n : Nat} {S : Nat → FA} (h : Rep V n S) : (ownAll S).Nodup := by
  unfold ownAll
  show List.Pairwise _ _
  rw [List.pairwise_flatMap]
  refine ⟨fun k hk => h.nodup k (List.mem_range.1 hk), ?_⟩
  refine List.Pairwise.imp_of_mem ?_ (List.nodup_range (n := 32))
  intro a b ha hb hab x hx y hy e
  rw [e] at hx
  exact h.apart a b (List.mem_range.1 ha) (List.mem_range.1 hb) hab y hx hy
def takesN (s : Nat) : Nat := cntN s + (if 5 < cntN s then 1 else 0)
theorem own_takes {a : FA} {n : Nat} (h : a.ok n) : a.own.length = takesN a.size := by
  unfold FA.own takesN
  rw [List.length_append, h.len]
  by_cases h0 : a.ind = 0
  · rw [if_pos h0, if_neg (fun e => h.ind.2 e h0)]; rfl
  · rw [if_neg h0, if_pos (h.ind.1 h0)]; rfl
def sumN (f : Nat → Nat) : Nat → Nat
  | 0 => 0
  | k + 1 => sumN f k + f k
theorem sumN_congr {f g : Nat → Nat} : ∀ {k}, (∀ j, j < k → f j = g j) → sumN f k = sumN g k
  | 0, _ => rfl
  | k + 1, h => by show sumN f k + f k = sumN g k + g k; rw [sumN_congr fun j hj => h j (by omega), h k (by omega)]
theorem flat_len (f : Nat → List Nat) : ∀ k, ((List.range k).flatMap f).length = sumN (fun j => (f j).length) k
  | 0 => rfl
  | k + 1 => by
    rw [List.range_succ, List.flatMap_append, List.length_append, flat_len f k]
    show _ = sumN _ k + (f k).length
    rw [List.flatMap_cons, List.flatMap_nil, List.append_nil]
/-- The map counts what is free. -/
theorem room_is {V : Nat → List UInt8} {n : Nat} {S : Nat → FA} (h : Rep V n S) (h9 : 9 ≤ n) (hn : n ≤ 512) : freeN (V 0) n + (9 + sumN (fun k => takesN (S k).size) 32) = n := by
  have h1 := freeN_is h9 hn (own_all_nodup h) (fun o ho => by obtain ⟨k, hk, e⟩ := mem_ownAll.1 ho; exact (h.ok k hk).inn o e) (fun i hi => by rw [h.map i hi, mem_ownAll])
  have h2 : (ownAll S).length = sumN (fun k => takesN (S k).size) 32 := by
    unfold ownAll
    rw [flat_len]
    exact sumN_congr fun j hj => own_takes (h.ok j hj)
  omega
/-! Grow -/
/-- t are taken of a map L: the map behind is M. -/
structure Tak (n : Nat) (L : List UInt8) (t : List Nat) (M : List UInt8) : Prop where
  len : M.length = 64
  nodup : t.Nodup
  inn : ∀ o ∈ t, 9 ≤ o ∧ o < n
  fresh : ∀ o ∈ t, usedB L o = false
  map : ∀ i, i < 512 → (usedB M i = true ↔ (usedB L i = true ∨ i ∈ t))
theorem tak_nil {n : Nat} {L : List UInt8} (hl : L.length = 64) : Tak n L [] L :=
  ⟨hl, List.nodup_nil, fun o ho => (by cases ho), fun o ho => (by cases ho), fun i _ => ⟨fun h => .inl h, fun h => h.elim id fun e => (by cases e)⟩⟩
theorem tak_one {n : Nat} {L M : List UInt8} {t : List Nat} (h : Tak n L t M) (hn : n ≤ 512) {i : Nat} (hf : freeF M n = some i) : Tak n L (t ++ [i]) (setB M i true) := by
  obtain ⟨k1, k2, k3, k4⟩ := freeF_some hf
  have hni : i ∉ t := fun e => by
    have := (h.map i (by omega)).2 (.inr e)
    rw [k3] at this; cases this
  refine ⟨by unfold setB; rw [List.length_set]; exact h.len, ?_, fun o ho => ?_, fun o ho => ?_, fun j hj => ?_⟩
  · rw [List.nodup_append]
    exact ⟨h.nodup, by simp, fun a ha b hb e => hni (by rw [List.mem_singleton] at hb; rw [← hb, ← e]; exact ha)⟩
  · rcases List.mem_append.1 ho with e | e
    · exact h.inn o e
    · rw [List.mem_singleton.1 e]; exact ⟨k1, k2⟩
  · rcases List.mem_append.1 ho with e | e
    · exact h.fresh o e
    · rw [List.mem_singleton.1 e]
      cases hq : usedB L i with
      | false => rfl
      | true =>
        have := (h.map i (by omega)).2 (.inl hq)
        rw [k3] at this; cases this
  · rw [used_set h.len (by omega) hj, List.mem_append, List.mem_singleton]
    by_cases e : j = i
    · rw [if_pos e]; exact ⟨fun _ => .inr (.inr e), fun _ => rfl⟩
    · rw [if_neg e, h.map j hj]
      constructor
      · rintro (q | q)
        · exact .inl q
        · exact .inr (.inl q)
      · rintro (q | q | q)
        · exact .inl q
        · exact .inr q
        · exact absurd q e
theorem freeN_all {L : List UInt8} : ∀ {n : Nat}, (∀ i, i < n → usedB L i = true) → freeN L n = 0
  | 0, _ => rfl
  | n + 1, h => by
    show freeN L n + (bif usedB L n then 0 else 1) = 0
    rw [freeN_all fun i hi => h i (by omega), h n (by omega)]; rfl
/-- How many may be taken. -/
theorem tak_room {n : Nat} {L M : List UInt8} {t ow : List Nat} (h : Tak n L t M) (h9 : 9 ≤ n) (hn : n ≤ 512) (hnd : ow.Nodup) (hin : ∀ o ∈ ow, 9 ≤ o ∧ o < n) (hu : ∀ i, i < 512 → (usedB L i = true ↔ (i < 9 ∨ i ∈ ow))) : freeN M n + t.length = freeN L n := by
  have h1 := freeN_is h9 hn hnd hin hu
  have h2 := freeN_is (L := M) (ow := ow ++ t) h9 hn (by
    rw [List.nodup_append]
    refine ⟨hnd, h.nodup, fun a ha b hb e => ?_⟩
    have h3 := h.fresh b hb
    have h4 := (hu b (by have := h.inn b hb; omega)).2 (.inr (by rw [← e]; exact ha))
    rw [h3] at h4; cases h4) (fun o ho => (List.mem_append.1 ho).elim (hin o) (h.inn o)) (fun i hi => by
    rw [h.map i hi, hu i hi, List.mem_append]
    constructor
    · rintro ((q | q) | q)
      · exact .inl q
      · exact .inr (.inl q)
      · exact .inr (.inr q)
    · rintro (q | q | q)
      · exact .inl (.inl q)
      · exact .inl (.inr q)
      · exact .inr q)
  rw [List.length_append] at h2
  omega
theorem none_room {n : Nat} {L M : List UInt8} {t : List Nat} (h : Tak n L t M) (hn : n ≤ 512) (h0 : ∀ i, i < 9 → usedB L i = true) (hf : freeF M n = none) : freeN M n = 0 :=
  freeN_all fun i hi => by
    by_cases e : i < 9
    · exact (h.map i (by omega)).2 (.inl (h0 i e))
    · exact freeF_none hf i (by omega) hi
/-- The loop of grow, from the places that are had on: it goes well, or there is too little. -/
theorem gr_is {n : Nat} {L : List UInt8} {l ow : List Nat} (hl : L.length = 64) (h9 : 9 ≤ n) (hn : n ≤ 512) (hnd : ow.Nodup) (hin : ∀ o ∈ ow, 9 ≤ o ∧ o < n) (hu : ∀ i, i < 512 → (usedB L i = true ↔ (i < 9 ∨ i ∈ ow)))
    (h37 : l.length ≤ 37) (hp : ∀ o ∈ l, o ≠ 0) : ∀ k, k ≤ 37 →
    (∃ t, t.length = k - l.length ∧ (grK n L (padN 37 l) k).1 = padN 37 (l ++ t) ∧ (grK n L (padN 37 l) k).2.2 = true ∧ Tak n L t (grK n L (padN 37 l) k).2.1) ∨
    ((grK n L (padN 37 l) k).2.2 = false ∧ freeN L n < k - l.length)
  | 0, _ => .inl ⟨[], by simp, by rw [List.append_nil]; rfl, rfl, tak_nil hl⟩
  | k + 1, hk => by
    have ih := gr_is hl h9 hn hnd hin hu h37 hp k (by omega)
    unfold grK
    rcases ih with ⟨t, ht, e1, e2, e3⟩ | ⟨e2, e3⟩
    · rw [e1, e2]
      by_cases hkl : k < l.length
      · have ht0 : t = [] := List.length_eq_zero_iff.1 (by omega)
        have hv : (padN 37 (l ++ t)).getD k 0 ≠ 0 := by
          rw [getD_pad, ht0, List.append_nil]; exact hp _ (getD_mem hkl)
        have h1 : oneF n ((padN 37 (l ++ t)).getD k 0) (grK n L (padN 37 l) k).2.1 true = ((padN 37 (l ++ t)).getD k 0, (grK n L (padN 37 l) k).2.1, true) := by
          unfold oneF; rw [decide_eq_false hv]; rfl
        rw [h1]
        refine .inl ⟨t, by omega, ?_, rfl, e3⟩
        show (padN 37 (l ++ t)).set k _ = _
        have hll : (l ++ t).length ≤ 37 := by rw [List.length_append]; omega
        apply getD_ext
        · rw [List.length_set]
        · intro j hj
          rw [List.length_set] at hj
          rw [getD_set _ _ _ _ (by rw [padN_len hll]; omega)]
          by_cases q : j = k
          · rw [if_pos q, q]
          · rw [if_neg q]
      · have hll : (l ++ t).length = k := by rw [List.length_append]; omega
        have hv : (padN 37 (l ++ t)).getD k 0 = 0 := by rw [getD_pad, getD_none (by omega)]
        rw [hv]
        cases hf : freeF (grK n L (padN 37 l) k).2.1 n with
        | some i =>
          have h1 : oneF n 0 (grK n L (padN 37 l) k).2.1 true = (i, setB (grK n L (padN 37 l) k).2.1 i true, true) := by
            unfold oneF takF; rw [hf]; rfl
          rw [h1]
          refine .inl ⟨t ++ [i], by rw [List.length_append]; show _ + 1 = _; omega, ?_, rfl, tak_one e3 hn hf⟩
          show (padN 37 (l ++ t)).set k i = _
          have hl2 : (l ++ (t ++ [i])).length = k + 1 := by rw [← List.append_assoc, List.length_append, hll]; rfl
          apply getD_ext
          · rw [List.length_set, padN_len (by omega), padN_len (by omega)]
          · intro j hj
            rw [List.length_set, padN_len (by omega)] at hj
            rw [getD_set _ _ _ _ (by rw [padN_len (by omega)]; omega), getD_pad, getD_pad, ← List.append_assoc]
            by_cases q : j = k
            · rw [if_pos q, q, getD_app_right (by omega), hll, Nat.sub_self]; rfl
            · rw [if_neg q]
              by_cases q2 : j < k
              · rw [getD_app_left (l := l ++ t) (m := [i]) (by omega)]
              · rw [getD_none (by omega), getD_none (by rw [List.length_append, hll]; show k + 1 ≤ j; omega)]
        | none =>
          have h1 : oneF n 0 (grK n L (padN 37 l) k).2.1 true = (0, (grK n L (padN 37 l) k).2.1, false) := by
            unfold oneF takF; rw [hf]; rfl
          rw [h1]
          refine .inr ⟨rfl, ?_⟩
          have h2 := tak_room e3 h9 hn hnd hin hu
          have h3 := none_room e3 hn (fun i hi => (hu i (by omega)).2 (.inl hi)) hf
          omega
    · rw [e2]
      have h1 : ∀ v M, oneF n v M false = (v, M, false) := fun v M => by unfold oneF; rw [Bool.and_false]; rfl
      rw [h1]
      exact .inr ⟨rfl, by omega⟩
/-- What grow makes of a file: t its new sectors, i its indirect one. -/
def growA (a : FA) (size : Nat) (t : List Nat) (i : Nat) : FA := ⟨a.kind, a.links, size, a.secs ++ t, i⟩
theorem takes_diff {a b : Nat} (h : a ≤ b) : takesN b - takesN a = (cntN b - cntN a) + (if 5 < cntN b ∧ cntN a ≤ 5 then 1 else 0) ∧ takesN a ≤ takesN b := by
  have := cnt_mono h
  unfold takesN
  by_cases h1 : 5 < cntN b
  · by_cases h2 : 5 < cntN a
    · rw [if_pos h1, if_pos h2, if_neg (by omega)]; omega
    · rw [if_pos h1, if_neg h2, if_pos (by omega)]; omega
  · rw [if_neg h1, if_neg (by omega), if_neg (by omega)]; omega
/-- Grow, as a whole. -/
theorem growF_is {n : Nat} {L : List UInt8} {a : FA} {ow : List Nat} (hl : L.length = 64) (h9 : 9 ≤ n) (hn : n ≤ 512) (hnd : ow.Nodup) (hin : ∀ o ∈ ow, 9 ≤ o ∧ o < n) (hu : ∀ i, i < 512 → (usedB L i = true ↔ (i < 9 ∨ i ∈ ow)))
    (ha : a.ok n) {size : Nat} (hs : a.size ≤ size) (hs2 : size ≤ 2368) :
    (takesN size - takesN a.size ≤ freeN L n ∧ (growF n L ⟨a.ino, padN 37 a.secs⟩ size).2.2 = true ∧ ∃ t i u, t.length = cntN size - cntN a.size ∧ (growF n L ⟨a.ino, padN 37 a.secs⟩ size).1.all = padN 37 (a.secs ++ t) ∧
      (growF n L ⟨a.ino, padN 37 a.secs⟩ size).1.ino = { a.ino with pl := a.ino.pl.set 5 i } ∧ (i ≠ 0 ↔ 5 < cntN size) ∧ ((a.ind = i ∧ u = t) ∨ (a.ind = 0 ∧ i ≠ 0 ∧ u = t ++ [i])) ∧ Tak n L u (growF n L ⟨a.ino, padN 37 a.secs⟩ size).2.1) ∨
    (freeN L n < takesN size - takesN a.size ∧ (growF n L ⟨a.ino, padN 37 a.secs⟩ size).2.2 = false) := by
  have hlen := ha.len
  have hle := ha.le
  have hc := cnt_mono hs
  have hc37 := cnt_le37 hs2
  have hd := (takes_diff hs).1
  have hp : ∀ o ∈ a.secs, o ≠ 0 := fun o ho => by have := ha.inn o (own_secs ho); omega
  have hg := gr_is (l := a.secs) hl h9 hn hnd hin hu hle hp (cntN size) hc37
  have hset0 : a.ino.pl.set 5 a.ind = a.ino.pl := by
    apply getD_ext
    · rw [List.length_set]
    · intro j hj
      rw [List.length_set] at hj
      rw [getD_set _ _ _ _ (by rw [FA.ino_len]; omega)]
      by_cases q : j = 5
      · rw [if_pos q, q, FA.ino_five]
      · rw [if_neg q]
  unfold growF
  dsimp only
  rw [FA.ino_five]
  by_cases h5 : 5 < cntN size
  · rw [decide_eq_true h5, cond_true]
    dsimp only
    rcases hg with ⟨t, ht, e1, e2, e3⟩ | ⟨e2, e3⟩
    · rw [e2]
      have hroom := tak_room e3 h9 hn hnd hin hu
      by_cases hi : a.ind = 0
      · have hc5 : cntN a.size ≤ 5 := by
          rcases Nat.lt_or_ge 5 (cntN a.size) with q | q
          · exact absurd hi (ha.ind.2 q)
          · exact q
        rw [hi]
        cases hf : freeF (grK n L (padN 37 a.secs) (cntN size)).2.1 n with
        | some i =>
          have h1 : oneF n 0 (grK n L (padN 37 a.secs) (cntN size)).2.1 true = (i, setB (grK n L (padN 37 a.secs) (cntN size)).2.1 i true, true) := by
            unfold oneF takF; rw [hf]; rfl
          have h4 := tak_one e3 hn hf
          have hr2 := tak_room h4 h9 hn hnd hin hu
          have hi9 := (freeF_some hf).1
          rw [List.length_append] at hr2
          rw [h1]
          refine .inl ⟨by rw [hd, if_pos ⟨h5, hc5⟩]; simp at hr2; omega, rfl, t, i, t ++ [i], by omega, e1, rfl, ⟨fun _ => h5, fun _ => by omega⟩, .inr ⟨rfl, by omega, rfl⟩, h4⟩
        | none =>
          have h1 : oneF n 0 (grK n L (padN 37 a.secs) (cntN size)).2.1 true = (0, (grK n L (padN 37 a.secs) (cntN size)).2.1, false) := by
            unfold oneF takF; rw [hf]; rfl
          have h3 := none_room e3 hn (fun i hi => (hu i (by omega)).2 (.inl hi)) hf
          rw [h1]
          exact .inr ⟨by rw [hd, if_pos ⟨h5, hc5⟩]; omega, rfl⟩
      · have h1 : oneF n a.ind (grK n L (padN 37 a.secs) (cntN size)).2.1 true = (a.ind, (grK n L (padN 37 a.secs) (cntN size)).2.1, true) := by
          unfold oneF; rw [decide_eq_false hi]; rfl
        have hc5 := ha.ind.1 hi
        rw [h1]
        exact .inl ⟨by rw [hd, if_neg (by omega)]; omega, rfl, t, a.ind, t, by omega, e1, rfl, ⟨fun _ => h5, fun _ => hi⟩, .inl ⟨rfl, rfl⟩, e3⟩
    · rw [e2]
      have h1 : ∀ v M, oneF n v M false = (v, M, false) := fun v M => by unfold oneF; rw [Bool.and_false]; rfl
      rw [h1]
      exact .inr ⟨by rw [hd]; omega, rfl⟩
  · rw [decide_eq_false h5, cond_false]
    dsimp only
    have hi : a.ind = 0 := by
      rcases Nat.eq_zero_or_pos a.ind with q | q
      · exact q
      · have := ha.ind.1 (by omega); omega
    rcases hg with ⟨t, ht, e1, e2, e3⟩ | ⟨e2, e3⟩
    · have hroom := tak_room e3 h9 hn hnd hin hu
      refine .inl ⟨by rw [hd, if_neg (by omega)]; omega, e2, t, 0, t, by omega, e1, by rw [← hi, hset0], ⟨fun q => absurd rfl q, fun q => absurd q h5⟩, .inl ⟨hi, rfl⟩, e3⟩
    · exact .inr ⟨by rw [hd, if_neg (by omega)]; omega, e2⟩
/-- The grown file is one. -/
theorem grow_ok {n : Nat} {a : FA} {size : Nat} {t u : List Nat} {i : Nat} {L M : List UInt8} (ha : a.ok n) (hk : a.kind ≠ 0) (hs : a.size ≤ size) (hs2 : size ≤ 2368) (ht : t.length = cntN size - cntN a.size) (hi : i ≠ 0 ↔ 5 < cntN size) (hu : (a.ind = i ∧ u = t) ∨ (a.ind = 0 ∧ i ≠ 0 ∧ u = t ++ [i])) (h : Tak n L u M)
    (hnd : a.own.Nodup) (hus : ∀ o ∈ a.own, usedB L o = true) : (growA a size t i).ok n ∧ (growA a size t i).own.Nodup ∧ ∀ o, o ∈ (growA a size t i).own ↔ (o ∈ a.own ∨ o ∈ u) := by
  have hc := cnt_mono hs
  have hlen := ha.len
  have hm : ∀ o, o ∈ (growA a size t i).own ↔ (o ∈ a.own ∨ o ∈ u) := fun o => by
    rw [mem_own, mem_own]
    show (o ∈ a.secs ++ t ∨ (i ≠ 0 ∧ o = i)) ↔ _
    rw [List.mem_append]
    rcases hu with ⟨e1, rfl⟩ | ⟨e1, e2, rfl⟩
    · rw [e1]
      constructor
      · rintro ((q | q) | q)
        · exact .inl (.inl q)
        · exact .inr q
        · exact .inl (.inr q)
      · rintro ((q | q) | q)
        · exact .inl (.inl q)
        · exact .inr q
        · exact .inl (.inr q)
    · rw [e1, List.mem_append, List.mem_singleton]
      constructor
      · rintro ((q | q) | ⟨_, q⟩)
        · exact .inl (.inl q)
        · exact .inr (.inl q)
        · exact .inr (.inr q)
      · rintro ((q | q) | (q | q))
        · exact .inl (.inl q)
        · exact absurd rfl q.1
        · exact .inl (.inr q)
        · exact .inr ⟨e2, q⟩
  have hfr : ∀ o ∈ u, o ∉ a.own := fun o ho h2 => by
    have h3 := h.fresh o ho
    rw [hus o h2] at h3; cases h3
  refine ⟨⟨ha.kind, ha.links, hs2, by show (a.secs ++ t).length = _; rw [List.length_append]; show _ = cntN size; omega, hi, fun q => absurd q hk, fun o ho => ?_⟩, ?_, hm⟩
  · rcases (hm o).1 ho with q | q
    · exact ha.inn o q
    · exact h.inn o q
  · obtain ⟨n1, n2⟩ := own_nodup hnd
    have htu : ∀ o ∈ t, o ∈ u := fun o ho => by
      rcases hu with ⟨e1, rfl⟩ | ⟨e1, e2, rfl⟩
      · exact ho
      · exact List.mem_append_left _ ho
    have htn : t.Nodup := by
      have h1 := h.nodup
      rcases hu with ⟨e1, rfl⟩ | ⟨e1, e2, rfl⟩
      · exact h1
      · exact (List.nodup_append.1 h1).1
    unfold FA.own
    rw [List.nodup_append]
    refine ⟨?_, by split <;> simp, fun x hx y hy e => ?_⟩
    · show (a.secs ++ t).Nodup
      rw [List.nodup_append]
      exact ⟨n1, htn, fun x hx y hy e => hfr y (htu y hy) (by rw [← e]; exact own_secs hx)⟩
    · have hgi : (growA a size t i).ind = i := rfl
      rw [hgi] at hy
      by_cases h0 : i = 0
      · rw [if_pos h0] at hy; cases hy
      · rw [if_neg h0, List.mem_singleton] at hy
        have hx2 : x ∈ a.secs ++ t := hx
        rw [e, hy] at hx2
        rcases hu with ⟨e1, rfl⟩ | ⟨e1, e2, rfl⟩
        · rcases List.mem_append.1 hx2 with q | q
          · rw [← e1] at q h0; exact n2 h0 q
          · exact hfr i q (by rw [← e1] at h0 ⊢; exact own_ind h0)
        · rcases List.mem_append.1 hx2 with q | q
          · exact hfr i (List.mem_append_right _ (List.mem_singleton.2 rfl)) (own_secs q)
          · exact (List.nodup_append.1 h.nodup).2.2 i q i (List.mem_singleton.2 rfl) rfl
/-! the bytes of a write -/
def rowW (off en : Nat) (s : List UInt8) (row : List UInt8) (p : Nat) : List UInt8 :=
  splice row (off - 64 * p) ((s.drop (64 * p + (off - 64 * p) - off)).take (min (en - 64 * p) 64 - (off - 64 * p)))
theorem getDb (L : List UInt8) (j : Nat) : L.getD j 0 = UInt8.ofNat (byL L j) := by unfold byL; rw [UInt8.ofNat_toNat]
theorem rowW_at {off : Nat} {s row : List UInt8} {p : Nat} (hr : row.length = 64) (hp0 : off / 64 ≤ p) (hp1 : p < cntN (off + s.length)) (j : Nat) (hj : j < 64) :
    byL (rowW off (off + s.length) s row p) j = if off ≤ 64 * p + j ∧ 64 * p + j < off + s.length then byL s (64 * p + j - off) else byL row j := by
  have hc : 64 * p < off + s.length := by unfold cntN at hp1; omega
  have hlen : ((s.drop (64 * p + (off - 64 * p) - off)).take (min (off + s.length - 64 * p) 64 - (off - 64 * p))).length = min (off + s.length - 64 * p) 64 - (off - 64 * p) := by
    rw [List.length_take, List.length_drop]; omega
  unfold rowW
  rw [byL_splice (by rw [hlen]; omega), hlen]
  by_cases h : off ≤ 64 * p + j ∧ 64 * p + j < off + s.length
  · rw [if_pos h, if_pos (by omega), byL_take (by omega), byL_drop]
    congr 1; omega
  · rw [if_neg h, if_neg (by omega)]
theorem rowW_len {off : Nat} {s row : List UInt8} {p : Nat} (hr : row.length = 64) (hp0 : off / 64 ≤ p) : (rowW off (off + s.length) s row p).length = 64 := by
  have hlen : ((s.drop (64 * p + (off - 64 * p) - off)).take (min (off + s.length - 64 * p) 64 - (off - 64 * p))).length ≤ 64 - (off - 64 * p) := by
    rw [List.length_take, List.length_drop]; omega
  unfold rowW
  rw [splice_len, hr]
  omega
def zeroB : List UInt8 := zL
/-- The sectors that a write puts: of the first k places. -/
def wrK (W : Nat → List UInt8) (held off : Nat) (s : List UInt8) (secs : List Nat) : Nat → Nat → List UInt8
  | 0 => W
  | k + 1 => putV (wrK W held off s secs k) (secs.getD (off / 64 + k) 0) (rowW off (off + s.length) s (if off / 64 + k < held then wrK W held off s secs k (secs.getD (off / 64 + k) 0) else zL) (off / 64 + k))
theorem wrK_out (W : Nat → List UInt8) (held off : Nat) (s : List UInt8) (secs : List Nat) (i : Nat) : ∀ k, off / 64 + k ≤ secs.length → (∀ q, q < k → secs.getD (off / 64 + q) 0 ≠ i) → wrK W held off s secs k i = W i
  | 0, _, _ => rfl
  | k + 1, h, hq => by
    unfold wrK
    rw [putV_ne (fun e => hq k (by omega) e.symm)]
    exact wrK_out W held off s secs i k (by omega) (fun q h2 => hq q (by omega))
theorem wrK_in {W : Nat → List UInt8} {held off : Nat} {s : List UInt8} {secs : List Nat} (hnd : secs.Nodup) (q : Nat) : ∀ k, off / 64 + k ≤ secs.length → q < k → wrK W held off s secs k (secs.getD (off / 64 + q) 0) = rowW off (off + s.length) s (if off / 64 + q < held then W (secs.getD (off / 64 + q) 0) else zL) (off / 64 + q)
  | 0, _, h => absurd h (Nat.not_lt_zero _)
  | k + 1, h, hq => by
    have hne : ∀ r, r < k → secs.getD (off / 64 + r) 0 ≠ secs.getD (off / 64 + k) 0 := fun r hr e => by
      have := nodup_at hnd (by omega) (by omega) e
      omega
    by_cases e : q = k
    · rw [e]
      unfold wrK
      rw [putV_at, wrK_out W held off s secs _ k (by omega) hne]
    · have := wrK_in (W := W) (held := held) (off := off) (s := s) hnd q k (by omega) (by omega)
      unfold wrK
      rw [putV_ne (hne q (by omega)), this]
end Go.Proofs.YtlpcccpagmipnaaGreat.P
namespace Go.Proofs.YtlpcccpagmipnaaGreat.P
open Go.RowKit
/-- What a write makes of bytes. -/
def wrD (old : List UInt8) (off : Nat) (s : List UInt8) : List UInt8 := old.take off ++ s ++ old.drop (off + s.length)
theorem wrD_len {old s : List UInt8} {off : Nat} (h : off ≤ old.length) : (wrD old off s).length = max old.length (off + s.length) := by
  unfold wrD; rw [List.length_append, List.length_append, List.length_take, List.length_drop]; omega
theorem byL_wrD {old s : List UInt8} {off : Nat} (h : off ≤ old.length) (j : Nat) : byL (wrD old off s) j = if off ≤ j ∧ j < off + s.length then byL s (j - off) else byL old j := by
  have h1 : (old.take off).length = off := by rw [List.length_take]; omega
  unfold wrD
  by_cases ha : j < off
  · rw [if_neg (by omega), List.append_assoc, byL_app_left (by omega), byL_take ha]
  · by_cases hb : j < off + s.length
    · rw [if_pos (by omega), byL_app_left (by rw [List.length_append, h1]; omega), byL_app_right (by omega), h1]
    · rw [if_neg (by omega), byL_app_right (by rw [List.length_append, h1]; omega), byL_drop, List.length_append, h1]
      congr 1; omega
theorem byL_datA (V : Nat → List UInt8) (a : FA) {j : Nat} (h : j < a.size) : byL (datA V a) j = byL (V (a.secs.getD (j / 64) 0)) (j % 64) := by
  unfold byL; rw [datA_at V a h]
theorem byL_zL (j : Nat) : byL zL j = 0 := by
  unfold byL zL
  rw [List.getD_eq_getElem?_getD, List.getElem?_replicate]
  split <;> rfl
/-- The file's bytes behind a write; W: the view when it begins, with all sectors that it will have. -/
theorem wr_data {W V : Nat → List UInt8} {a b : FA} {off : Nat} {s : List UInt8} (hb : b.secs.Nodup) (hbl : b.secs.length = cntN b.size) (hsz : b.size = max a.size (off + s.length)) (hoff : off ≤ a.size)
    (hsec : ∀ q, q < cntN a.size → b.secs.getD q 0 = a.secs.getD q 0) (hW : ∀ q, q < cntN b.size → (W (b.secs.getD q 0)).length = 64) (hV : ∀ q, q < cntN a.size → W (a.secs.getD q 0) = V (a.secs.getD q 0)) :
    datA (wrK W (cntN a.size) off s b.secs (cntN (off + s.length) - off / 64)) b = wrD (datA V a) off s := by
  have hk : off / 64 + (cntN (off + s.length) - off / 64) ≤ b.secs.length ∨ cntN (off + s.length) - off / 64 = 0 := by
    rw [hbl, hsz]; unfold cntN; omega
  apply byL_ext
  · rw [datA_len, wrD_len (by rw [datA_len]; exact hoff), datA_len]; exact hsz
  · intro j hj
    rw [datA_len] at hj
    rw [byL_datA _ _ hj, byL_wrD (by rw [datA_len]; exact hoff)]
    have hq : j / 64 < b.secs.length := by rw [hbl]; unfold cntN; omega
    by_cases hin : off / 64 ≤ j / 64 ∧ j / 64 < cntN (off + s.length)
    · have hk2 : off / 64 + (cntN (off + s.length) - off / 64) ≤ b.secs.length := by
        rcases hk with q | q
        · exact q
        · omega
      have h1 := wrK_in (W := W) (held := cntN a.size) (off := off) (s := s) hb (j / 64 - off / 64) (cntN (off + s.length) - off / 64) hk2 (by omega)
      rw [show off / 64 + (j / 64 - off / 64) = j / 64 by omega] at h1
      rw [h1, rowW_at (by split; exact hW _ (by omega); rfl) hin.1 hin.2 _ (by omega), show 64 * (j / 64) + j % 64 = j by omega]
      by_cases hi : off ≤ j ∧ j < off + s.length
      · rw [if_pos hi, if_pos hi]
      · have hja : j < a.size := by omega
        rw [if_neg hi, if_neg hi, byL_datA _ _ hja, if_pos (by unfold cntN; omega), hsec _ (by unfold cntN; omega), hV _ (by unfold cntN; omega)]
    · have hout : wrK W (cntN a.size) off s b.secs (cntN (off + s.length) - off / 64) (b.secs.getD (j / 64) 0) = W (b.secs.getD (j / 64) 0) := by
        rcases hk with hk | hk
        · refine wrK_out _ _ _ _ _ _ _ hk (fun q hq2 e => ?_)
          have := nodup_at hb (by omega) hq e
          omega
        · rw [hk]; rfl
      have hja : ¬ (off ≤ j ∧ j < off + s.length) := by unfold cntN at hin; omega
      have hj2 : j < a.size := by omega
      rw [hout, if_neg hja, byL_datA _ _ hj2, hsec _ (by unfold cntN; omega), hV _ (by unfold cntN; omega)]
/-! the calls, on views -/
theorem rep_own {V : Nat → List UInt8} {n : Nat} {S : Nat → FA} (h : Rep V n S) {k : Nat} (hk : k < 32) {o : Nat} (ho : o ∈ (S k).own) : 9 ≤ o ∧ o < n := (h.ok k hk).inn o ho
theorem all_bound {a : FA} {n : Nat} (h : a.ok n) (hn : n ≤ 512) (j : Nat) : (padN 37 a.secs).getD j 0 < 512 := by rw [getD_pad]; exact h.sec hn j
/-- The view with which a file's inode is put: its indirect sector put ahead. -/
def putFV (W : Nat → List UInt8) (f : Fil) : Nat → List UInt8 := if f.ino.pl.getD 5 0 = 0 then W else putV W (f.ino.pl.getD 5 0) (indK f 32)
theorem num_pad {a : FA} {n : Nat} (h : a.ok n) (hn : n ≤ 512) (f : Fil) (hf : f.all = padN 37 a.secs) : numK (indK f 32) 32 = padN 32 (a.secs.drop 5) := by
  rw [num_ind f (fun k _ => by rw [hf, getD_pad]; have := h.sec hn k; omega), hf, drop_range _ (padN_len h.le), pad_drop5 _ h.le]
/-- A file put, of which b is what it is; W: the view ahead. -/
theorem vol_file {V W : Nat → List UInt8} {n : Nat} {S : Nat → FA} {N : Nat → NodeA} (hN : ∀ k, k < 32 → N k = nodA V (S k)) (h : Rep V n S) (h9 : 9 ≤ n) (hn : n ≤ 512) {k : Nat} (hk : k < 32) {b : FA} (hb : b.ok n) (hnd : b.own.Nodup) (f : Fil) (hf : f.all = padN 37 b.secs) (hf5 : f.ino.pl.getD 5 0 = b.ind)
    (hlen : ∀ i, i < n → (W i).length = 64) (hino : ∀ i, 1 ≤ i → i < 9 → W i = V i) (hoth : ∀ j, j < 32 → j ≠ k → ∀ o ∈ (S j).own, W o = V o) (hap : ∀ j, j < 32 → j ≠ k → ∀ o ∈ b.own, o ∉ (S j).own)
    (hmap : ∀ i, i < 512 → (usedB (W 0) i = true ↔ (i < 9 ∨ i ∈ b.own ∨ ∃ j, j < 32 ∧ j ≠ k ∧ i ∈ (S j).own))) : IsVol (putRV (putFV W f) k b.ino) n (insN N k ⟨b.kind, b.links, datA W b⟩) := by
  have hi9 : b.ind ≠ 0 → 9 ≤ b.ind := fun h0 => (hb.inn _ (own_ind h0)).1
  have hWo : ∀ i, i ≠ b.ind ∨ b.ind = 0 → putFV W f i = W i := fun i hi => by
    unfold putFV
    rw [hf5]
    by_cases h0 : b.ind = 0
    · rw [if_pos h0]
    · rw [if_neg h0, putV_ne (by rcases hi with q | q; exact q; exact absurd q h0)]
  have hWi : b.ind ≠ 0 → putFV W f b.ind = indK f 32 := fun h0 => by
    unfold putFV; rw [hf5, if_neg h0, putV_at]
  have hoth2 : ∀ j, j < 32 → j ≠ k → ∀ o ∈ (S j).own, putFV W f o = V o := fun j hj hjk o ho => by
    rw [hWo o ?_]
    · exact hoth j hj hjk o ho
    · by_cases h0 : b.ind = 0
      · exact .inr h0
      · exact .inl fun e => hap j hj hjk b.ind (own_ind h0) (by rw [← e]; exact ho)
  refine vol_put hN h hk ?_ hoth2 ?_
  · refine rep_put h h9 hk hb hn (fun i hi => ?_) (fun i h1 h2 => ?_) (fun j hj hjk h0 => hoth2 j hj hjk _ (own_ind h0)) (fun h0 => ?_) hnd hap (fun i hi => ?_)
    · by_cases e : i = b.ind ∧ b.ind ≠ 0
      · rw [e.1, hWi e.2, indK_len f 32 (by omega)]
      · rw [hWo i (by by_cases h0 : b.ind = 0; exact .inr h0; exact .inl fun q => e ⟨q, h0⟩)]
        exact hlen i hi
    · rw [hWo i (by by_cases h0 : b.ind = 0; exact .inr h0; have := hi9 h0; exact .inl (by omega))]
      exact hino i h1 h2
    · rw [hWi h0]; exact num_pad hb hn f hf
    · rw [hWo 0 (by by_cases h0 : b.ind = 0; exact .inr h0; have := hi9 h0; exact .inl (by omega))]
      exact hmap i hi
  · unfold nodA
    rw [datA_congr hb.len (V := W) (fun o ho => hWo o ?_)]
    by_cases h0 : b.ind = 0
    · exact .inr h0
    · exact .inl fun e => (own_nodup hnd).2 h0 (by rw [← e]; exact ho)
/-- Cut. -/
theorem vol_cut {V : Nat → List UInt8} {n : Nat} {S : Nat → FA} {N : Nat → NodeA} (hN : ∀ k, k < 32 → N k = nodA V (S k)) (h : Rep V n S) (h9 : 9 ≤ n) (hn : n ≤ 512) {k : Nat} (hk : k < 32) (hkd : (S k).kind ≠ 0) {size : Nat} (hs : size ≤ (S k).size) :
    IsVol (putRV (putFV (putV V 0 (shF (V 0) ⟨(S k).ino, padN 37 (S k).secs⟩ size).1) (shF (V 0) ⟨(S k).ino, padN 37 (S k).secs⟩ size).2) k (pI (shF (V 0) ⟨(S k).ino, padN 37 (S k).secs⟩ size).2)) n (insN N k ⟨(S k).kind, (S k).links, (datA V (S k)).take size⟩) := by
  have ha := h.ok k hk
  obtain ⟨e1, e2, e3, _, e5, e6⟩ := shF_is (h.len 0 (by omega)) ha hn h9 (h.nodup k hk) hs
  have hc := cut_ok ha hkd hs
  rw [e2]
  have hW : ∀ i, 1 ≤ i → putV V 0 (shF (V 0) ⟨(S k).ino, padN 37 (S k).secs⟩ size).1 i = V i := fun i hi => putV_ne (by omega)
  have hdat : datA (putV V 0 (shF (V 0) ⟨(S k).ino, padN 37 (S k).secs⟩ size).1) (cutA (S k) size) = (datA V (S k)).take size := by
    rw [datA_congr hc.len (V := V) (fun o ho => hW o (by have := hc.inn o (own_secs ho); omega))]
    apply byL_ext
    · rw [datA_len, List.length_take, datA_len]; show size = _; omega
    · intro j hj
      rw [datA_len] at hj
      have hj2 : j < size := hj
      rw [byL_datA _ _ hj, byL_take hj2, byL_datA _ _ (by omega)]
      show byL (V (((S k).secs.take (cntN size)).getD (j / 64) 0)) _ = _
      rw [getD_take (by unfold cntN; omega)]
  have := vol_file (W := putV V 0 (shF (V 0) ⟨(S k).ino, padN 37 (S k).secs⟩ size).1) hN h h9 hn hk hc (cut_nodup (h.nodup k hk)) (shF (V 0) ⟨(S k).ino, padN 37 (S k).secs⟩ size).2 e1 e3 (fun i hi => by
      by_cases e : i = 0
      · rw [e, putV_at]; exact e5
      · rw [hW i (by omega)]; exact h.len i hi) (fun i h1 _ => hW i h1) (fun j hj _ o ho => hW o (by have := rep_own h hj ho; omega)) (fun j hj hjk o ho => h.apart k j hk hj (by omega) o (cut_own ho)) (fun i hi => by
      rw [putV_at, e6 i hi, map_not h k i hi hk]
      constructor
      · rintro ⟨q, hq⟩
        rcases q with q | q | q
        · exact .inl q
        · exact .inr (.inl (hq q))
        · exact .inr (.inr q)
      · rintro (q | q | ⟨j, hj, hjk, q⟩)
        · exact ⟨.inl q, fun e => by have := rep_own h hk e; omega⟩
        · exact ⟨.inr (.inl (cut_own q)), fun _ => q⟩
        · exact ⟨.inr (.inr ⟨j, hj, hjk, q⟩), fun e => absurd q (h.apart k j hk hj (by omega) i e)⟩)
  rw [hdat] at this
  exact this
/-- Free. -/
theorem vol_free {V : Nat → List UInt8} {n : Nat} {S : Nat → FA} {N : Nat → NodeA} (hN : ∀ k, k < 32 → N k = nodA V (S k)) (h : Rep V n S) (h9 : 9 ≤ n) (hn : n ≤ 512) {k : Nat} (hk : k < 32) :
    IsVol (putRV (putV V 0 (shF (V 0) ⟨(S k).ino, padN 37 (S k).secs⟩ 0).1) k i0) n (insN N k node0) := by
  have ha := h.ok k hk
  obtain ⟨e1, e2, e3, _, e5, e6⟩ := shF_is (h.len 0 (by omega)) ha hn h9 (h.nodup k hk) (Nat.zero_le _)
  have hW : ∀ i, 1 ≤ i → putV V 0 (shF (V 0) ⟨(S k).ino, padN 37 (S k).secs⟩ 0).1 i = V i := fun i hi => putV_ne (by omega)
  have hc0 : (cutA (S k) 0).own = [] := by
    show (S k).secs.take (cntN 0) ++ (if (if cntN 0 ≤ 5 then 0 else (S k).ind) = 0 then [] else _) = []
    rw [show cntN 0 = 0 from rfl, if_pos (by rw [if_pos (by omega)]), List.take_zero]; rfl
  have he : fa0.ino = i0 := rfl
  rw [← he]
  refine vol_put (W := putV V 0 (shF (V 0) ⟨(S k).ino, padN 37 (S k).secs⟩ 0).1) hN h hk ?_ (fun j hj _ o ho => hW o (by have := rep_own h hj ho; omega)) rfl
  refine rep_put h h9 hk (ok_new (kd := 0) (by omega)) hn (fun i hi => ?_) (fun i h1 _ => hW i h1) (fun j hj _ h0 => hW _ (by have := rep_own h hj (own_ind h0); omega)) (fun h0 => absurd rfl h0) (by show ([] ++ []).Nodup; exact List.nodup_nil) (fun j _ _ o ho => by cases ho) (fun i hi => ?_)
  · by_cases e : i = 0
    · rw [e, putV_at]; exact e5
    · rw [hW i (by omega)]; exact h.len i hi
  · rw [putV_at, e6 i hi, map_not h k i hi hk, hc0]
    constructor
    · rintro ⟨q, hq⟩
      rcases q with q | q | q
      · exact .inl q
      · cases hq q
      · exact .inr (.inr q)
    · rintro (q | q | ⟨j, hj, hjk, q⟩)
      · exact ⟨.inl q, fun e => by have := rep_own h hk e; omega⟩
      · cases q
      · exact ⟨.inr (.inr ⟨j, hj, hjk, q⟩), fun e => absurd q (h.apart k j hk hj (by omega) i e)⟩
end Go.Proofs.YtlpcccpagmipnaaGreat.P
namespace Go.Proofs.YtlpcccpagmipnaaGreat.P
open Go.RowKit
theorem wrK_congr (W : Nat → List UInt8) (held off : Nat) (s : List UInt8) {l m : List Nat} (h : ∀ j, l.getD j 0 = m.getD j 0) : ∀ k, wrK W held off s l k = wrK W held off s m k
  | 0 => rfl
  | k + 1 => by unfold wrK; rw [wrK_congr W held off s h k, h]
theorem wrK_len {W : Nat → List UInt8} {held off : Nat} {s : List UInt8} {secs : List Nat} {n : Nat} (hW : ∀ i, i < n → (W i).length = 64) : ∀ k, (∀ q, q < k → secs.getD (off / 64 + q) 0 < n) → ∀ i, i < n → (wrK W held off s secs k i).length = 64
  | 0, _, i, hi => hW i hi
  | k + 1, hq, i, hi => by
    have ih := wrK_len (W := W) (held := held) (s := s) hW k (fun q h => hq q (by omega))
    unfold wrK
    by_cases e : i = secs.getD (off / 64 + k) 0
    · rw [e, putV_at, rowW_len ?_ (by omega)]
      split
      · exact ih _ (hq k (by omega))
      · rfl
    · rw [putV_ne e]; exact ih i hi
/-- The file behind grow, as the program has it. -/
def grF (n : Nat) (L : List UInt8) (f : Fil) (size : Nat) : Fil := ⟨{ (growF n L f size).1.ino with size := size }, (growF n L f size).1.all⟩
def filA (a : FA) : Fil := ⟨a.ino, padN 37 a.secs⟩
/-- The view that a write puts together. -/
def wrV (V : Nat → List UInt8) (n : Nat) (a : FA) (off : Nat) (s : List UInt8) : Nat → List UInt8 :=
  wrK (putV V 0 (growF n (V 0) (filA a) (max a.size (off + s.length))).2.1) (cntN a.size) off s (grF n (V 0) (filA a) (max a.size (off + s.length))).all (cntN (off + s.length) - off / 64)
/-- Write. -/
theorem vol_write {V : Nat → List UInt8} {n : Nat} {S : Nat → FA} {N : Nat → NodeA} (hN : ∀ k, k < 32 → N k = nodA V (S k)) (h : Rep V n S) (h9 : 9 ≤ n) (hn : n ≤ 512) {k : Nat} (hk : k < 32) (hkd : (S k).kind ≠ 0) {off : Nat} {s : List UInt8} (ho : off ≤ (S k).size) (he : off + s.length ≤ 2368) :
    (takesN (max (S k).size (off + s.length)) - takesN (S k).size ≤ freeN (V 0) n ∧ (growF n (V 0) (filA (S k)) (max (S k).size (off + s.length))).2.2 = true ∧
      (∀ j, (grF n (V 0) (filA (S k)) (max (S k).size (off + s.length))).all.getD j 0 < n) ∧ okF (grF n (V 0) (filA (S k)) (max (S k).size (off + s.length))) ∧ (grF n (V 0) (filA (S k)) (max (S k).size (off + s.length))).ino.pl.getD 5 0 < n ∧
      (growF n (V 0) (filA (S k)) (max (S k).size (off + s.length))).2.1.length = 64 ∧
      IsVol (putRV (putFV (wrV V n (S k) off s) (grF n (V 0) (filA (S k)) (max (S k).size (off + s.length)))) k (pI (grF n (V 0) (filA (S k)) (max (S k).size (off + s.length))))) n (insN N k ⟨(S k).kind, (S k).links, wrD (datA V (S k)) off s⟩)) ∨
    (freeN (V 0) n < takesN (max (S k).size (off + s.length)) - takesN (S k).size ∧ (growF n (V 0) (filA (S k)) (max (S k).size (off + s.length))).2.2 = false) := by
  have ha := h.ok k hk
  have hsz := ha.size
  have hl0 := h.len 0 (by omega)
  have hin : ∀ o ∈ ownAll S, 9 ≤ o ∧ o < n := fun o ho => by obtain ⟨j, hj, e⟩ := mem_ownAll.1 ho; exact rep_own h hj e
  have hu : ∀ i, i < 512 → (usedB (V 0) i = true ↔ (i < 9 ∨ i ∈ ownAll S)) := fun i hi => by rw [h.map i hi, mem_ownAll]
  obtain ⟨z, hz⟩ : ∃ z, max (S k).size (off + s.length) = z := ⟨_, rfl⟩
  unfold wrV
  rw [hz]
  rcases growF_is (n := n) (L := V 0) hl0 h9 hn (own_all_nodup h) hin hu ha (size := z) (by omega) (by omega) with ⟨g1, g2, t, i, u, g3, g4, g5, g6, g7, g8⟩ | g
  · refine .inl ⟨g1, g2, ?_⟩
    obtain ⟨b1, b2, b3⟩ := grow_ok (size := z) ha hkd (by omega) (by omega) g3 g6 g7 g8 (h.nodup k hk) (fun o hoo => (h.map o (by have := rep_own h hk hoo; omega)).2 (.inr ⟨k, hk, hoo⟩))
    have hbs : (growA (S k) z t i).secs = (S k).secs ++ t := rfl
    have hbz : (growA (S k) z t i).size = z := rfl
    have hall : (grF n (V 0) (filA (S k)) z).all = padN 37 (growA (S k) z t i).secs := g4
    have hpl : (grF n (V 0) (filA (S k)) z).ino.pl = (S k).ino.pl.set 5 i := by show (growF n (V 0) (filA (S k)) z).1.ino.pl = _; unfold filA; rw [g5]
    have h5 : (grF n (V 0) (filA (S k)) z).ino.pl.getD 5 0 = (growA (S k) z t i).ind := by
      rw [hpl, getD_set _ _ _ _ (by rw [FA.ino_len]; omega), if_pos rfl]; rfl
    have hle := b1.le
    have hpI : pI (grF n (V 0) (filA (S k)) z) = (growA (S k) z t i).ino := by
      unfold pI
      rw [h5, hall, pad_take5 _ hle]
      show Ino.mk (growF n (V 0) (filA (S k)) z).1.ino.kind (growF n (V 0) (filA (S k)) z).1.ino.links z _ = _
      unfold filA
      rw [g5]; rfl
    have hgl : ∀ j, (grF n (V 0) (filA (S k)) z).all.getD j 0 < n := fun j => by
      rw [hall, getD_pad]
      by_cases hj : j < (growA (S k) z t i).secs.length
      · exact (b1.inn _ (own_secs (getD_mem hj))).2
      · rw [getD_none (by omega)]; omega
    have hflen : (grF n (V 0) (filA (S k)) z).ino.pl.length = 6 := by rw [hpl, List.length_set, FA.ino_len]
    refine ⟨hgl, ⟨hflen, by rw [hall, padN_len hle], by rw [hpI]; exact b1.okI hn, fun j hj => by have := hgl j; omega⟩, by rw [h5]; exact b1.indlt h9, g8.len, ?_⟩
    have hM : ∀ j, 1 ≤ j → putV V 0 (growF n (V 0) (filA (S k)) z).2.1 j = V j := fun j hj => putV_ne (by omega)
    have hMl : ∀ j, j < n → (putV V 0 (growF n (V 0) (filA (S k)) z).2.1 j).length = 64 := fun j hj => by
      by_cases e : j = 0
      · rw [e, putV_at]; exact g8.len
      · rw [hM j (by omega)]; exact h.len j hj
    have hkc : off / 64 + (cntN (off + s.length) - off / 64) ≤ (growA (S k) z t i).secs.length ∨ cntN (off + s.length) - off / 64 = 0 := by
      rw [b1.len, hbz]; unfold cntN; omega
    have hout : ∀ o, o ∉ (growA (S k) z t i).secs → wrK (putV V 0 (growF n (V 0) (filA (S k)) z).2.1) (cntN (S k).size) off s (grF n (V 0) (filA (S k)) z).all (cntN (off + s.length) - off / 64) o = putV V 0 (growF n (V 0) (filA (S k)) z).2.1 o := fun o hno => by
      rw [wrK_congr _ _ _ _ (m := (growA (S k) z t i).secs) (fun j => by rw [hall, getD_pad])]
      rcases hkc with q | q
      · exact wrK_out _ _ _ _ _ _ _ q (fun r hr e => hno (by rw [← e]; exact getD_mem (by omega)))
      · rw [q]; rfl
    have hap : ∀ j, j < 32 → j ≠ k → ∀ o ∈ (growA (S k) z t i).own, o ∉ (S j).own := fun j hj hjk o hoo hoj => by
      rcases (b3 o).1 hoo with q | q
      · exact h.apart k j hk hj (by omega) o q hoj
      · have h1 := g8.fresh o q
        rw [(h.map o (by have := rep_own h hj hoj; omega)).2 (.inr ⟨j, hj, hoj⟩)] at h1
        cases h1
    rw [hpI]
    have hlow : ∀ o, o < 9 → o ∉ (growA (S k) z t i).secs := fun o ho hm => by have := b1.inn o (own_secs hm); omega
    have hdat : datA (wrK (putV V 0 (growF n (V 0) (filA (S k)) z).2.1) (cntN (S k).size) off s (grF n (V 0) (filA (S k)) z).all (cntN (off + s.length) - off / 64)) (growA (S k) z t i) = wrD (datA V (S k)) off s := by
      rw [wrK_congr _ _ _ _ (m := (growA (S k) z t i).secs) (fun j => by rw [hall, getD_pad])]
      have hal := ha.len
      refine wr_data (own_nodup b2).1 b1.len (by rw [hbz]; exact hz.symm) ho (fun q hq => ?_) (fun q hq => hMl _ ?_) (fun q hq => hM _ ?_)
      · rw [hbs, getD_app_left (by omega)]
      · have := b1.len
        exact (b1.inn _ (own_secs (getD_mem (by omega)))).2
      · have := ha.inn _ (own_secs (getD_mem (l := (S k).secs) (j := q) (by omega))); omega
    have := vol_file (W := wrK (putV V 0 (growF n (V 0) (filA (S k)) z).2.1) (cntN (S k).size) off s (grF n (V 0) (filA (S k)) z).all (cntN (off + s.length) - off / 64)) hN h h9 hn hk b1 b2 (grF n (V 0) (filA (S k)) z) hall h5
      (wrK_len hMl _ (fun q _ => hgl _)) (fun j h1 h2 => by rw [hout j (hlow j h2), hM j h1])
      (fun j hj hjk o hoo => by rw [hout o (fun q => hap j hj hjk o (own_secs q) hoo), hM o (by have := rep_own h hj hoo; omega)]) hap (fun j hj => by
        rw [hout 0 (hlow 0 (by omega)), putV_at]
        unfold filA
        rw [g8.map j hj, map_not h k j hj hk, b3]
        constructor
        · rintro ((q | q | q) | q)
          · exact .inl q
          · exact .inr (.inl (.inl q))
          · exact .inr (.inr q)
          · exact .inr (.inl (.inr q))
        · rintro (q | (q | q) | q)
          · exact .inl (.inl q)
          · exact .inl (.inr (.inl q))
          · exact .inr q
          · exact .inl (.inr (.inr q)))
    rw [hdat] at this
    exact this
  · exact .inr g
end Go.Proofs.YtlpcccpagmipnaaGreat.P
namespace Go.Proofs.YtlpcccpagmipnaaGreat.P
open Go.RowKit
/-! what is staged, as a view -/
def Vw (z : DState) (st : List (Int × ByteArray)) : Nat → List UInt8 := fun i => (getB false z st (i : Int)).data.toList
def rowV8 (rows : List (Int × ByteArray)) (z : DState) (st : List (Int × ByteArray)) : Nat → List UInt8 := fun i => rowL rows z st i
theorem rowV_nil (z : DState) (st : List (Int × ByteArray)) : rowV8 [] z st = Vw z st := rfl
theorem rowV_put {rows : List (Int × ByteArray)} (hr : Rising rows) (z : DState) (st : List (Int × ByteArray)) (i : Nat) (L : List UInt8) : rowV8 (putS (i : Int) ⟨L.toArray⟩ rows) z st = putV (rowV8 rows z st) i L := by
  funext j
  show ((lookS (j : Int) (putS (i : Int) ⟨L.toArray⟩ rows)).getD (getB false z st (j : Int))).data.toList = _
  rw [look_put _ _ _ _ hr]
  unfold putV
  by_cases e : j = i
  · rw [if_pos e, if_pos (by rw [e])]; rfl
  · rw [if_neg e, if_neg (by omega)]; rfl
theorem rowV_putR {rows : List (Int × ByteArray)} (hr : Rising rows) (z : DState) (st : List (Int × ByteArray)) (k : Nat) (x : Ino) : rowV8 (putR rows z st k x) z st = putRV (rowV8 rows z st) k x := rowV_put hr z st _ _
theorem rowV_putF1 {rows : List (Int × ByteArray)} (hr : Rising rows) (z : DState) (st : List (Int × ByteArray)) (f : Fil) : rowV8 (putF1 rows f) z st = putFV (rowV8 rows z st) f ∧ Rising (putF1 rows f) := by
  unfold putF1 putFV
  by_cases h : f.ino.pl.getD 5 0 = 0
  · rw [decide_eq_true h, cond_true, if_pos h]; exact ⟨rfl, hr⟩
  · rw [decide_eq_false h, cond_false, if_neg h]; exact ⟨rowV_put hr z st _ _, rising_put _ _ _ hr⟩
theorem rowV_putF {rows : List (Int × ByteArray)} (hr : Rising rows) (z : DState) (st : List (Int × ByteArray)) (k : Nat) (f : Fil) : rowV8 (putF rows z st k f) z st = putRV (putFV (rowV8 rows z st) f) k (pI f) ∧ Rising (putF rows z st k f) := by
  obtain ⟨h1, h2⟩ := rowV_putF1 hr z st f
  unfold putF
  rw [rowV_putR h2, h1]
  exact ⟨rfl, rising_put _ _ _ h2⟩
theorem set_ok {n : Nat} {st : List (Int × ByteArray)} {len : Nat} (hlen : len = n + 32) {x : Int × ByteArray} (h0 : 0 ≤ x.1) (h1 : x.1 < (n : Int)) (h2 : x.2.size = 64) (h3 : st.length < 30) : setR false len st x.1 x.2 = 0 := by
  unfold setR refF
  rw [cond_false, decide_eq_true h0, decide_eq_true (by omega : x.1 < (len : Int) - 32), decide_eq_true h2, decide_eq_false (by omega : ¬ 30 ≤ st.length)]
  cases (lookS x.1 st).isSome <;> rfl
theorem putS_len1 (i : Int) (s : ByteArray) : ∀ st : List (Int × ByteArray), (putS i s st).length ≤ st.length + 1
  | [] => Nat.le_refl _
  | a :: l => by
    rw [putS]
    split
    · have := putS_len1 i s l; simp only [List.length_cons]; omega
    · split
      · simp only [List.length_cons]; omega
      · simp only [List.length_cons]; omega
theorem stg_ok {n len : Nat} (hlen : len = n + 32) : ∀ (l st : List (Int × ByteArray)), okSt (n + 32) st → (∀ x ∈ l, 0 ≤ x.1 ∧ x.1 < (n : Int) ∧ x.2.size = 64) → Rising l → st.length + l.length ≤ 30 →
    (stgF len l st).1 = 0 ∧ okSt (n + 32) (stgF len l st).2 ∧ (stgF len l st).2.length ≤ st.length + l.length ∧ ∀ i, lookS i (stgF len l st).2 = (lookS i l).or (lookS i st)
  | [], st, hst, _, _, _ => ⟨rfl, hst, Nat.le_refl _, fun i => rfl⟩
  | x :: l, st, hst, hl, hr, hn => by
    rw [List.length_cons] at hn
    obtain ⟨x1, x2, x3⟩ := hl x (List.mem_cons_self ..)
    have h1 := set_ok (n := n) (st := st) hlen x1 x2 x3 (by omega)
    rw [stgF_ok h1]
    have hp := putS_len1 x.1 x.2 st
    have hst2 : okSt (n + 32) (putS x.1 x.2 st) := ⟨rising_put _ _ _ hst.1, by omega, fun y hy => by
      rcases mem_putS hy with e | e
      · rw [e]; exact ⟨x1, by show x.1 < ((n + 32 : Nat) : Int) - 32; omega, x3⟩
      · exact hst.2.2 y e⟩
    obtain ⟨i1, i2, i3, i4⟩ := stg_ok hlen l (putS x.1 x.2 st) hst2 (fun y hy => hl y (List.mem_cons_of_mem _ hy)) hr.2 (by omega)
    refine ⟨i1, i2, by rw [List.length_cons]; omega, fun i => ?_⟩
    rw [i4 i, look_put _ _ _ _ hst.1]
    show _ = Option.or (if x.1 = i then some x.2 else lookS i l) _
    by_cases e : x.1 = i
    · rw [if_pos e, if_pos e]
      cases hq : lookS i l with
      | none => rfl
      | some s =>
        have := hr.1 _ (look_mem hq)
        dsimp only at this
        omega
    · rw [if_neg e, if_neg e]
theorem arr_eta {a b : ByteArray} (h : a.data.toList = b.data.toList) : a = b := by
  cases a; cases b
  exact congrArg ByteArray.mk (Array.toList_inj.1 h)
theorem look_strike (z : DState) (st : List (Int × ByteArray)) {rows : List (Int × ByteArray)} (hr : Rising rows) (i : Int) : (lookS i (strikeS z st rows)).getD (getB false z st i) = (lookS i rows).getD (getB false z st i) := by
  have hr2 : Rising (strikeS z st rows) := rising_filter _ _ hr
  cases h : lookS i rows with
  | none =>
    have : lookS i (strikeS z st rows) = none := by
      cases hq : lookS i (strikeS z st rows) with
      | none => rfl
      | some s =>
        have := (List.mem_filter.1 (look_mem hq)).1
        exact absurd rfl (look_none h _ this)
    rw [this]
  | some s =>
    cases he : eqRow (getB false z st i) s with
    | true =>
      have e1 : getB false z st i = s := arr_eta (of_decide_eq_true he)
      cases hq : lookS i (strikeS z st rows) with
      | none => show _ = s; exact e1
      | some t =>
        have h1 := (List.mem_filter.1 (look_mem hq)).1
        have h2 := look_of_mem hr h1
        rw [h] at h2
        injection h2 with h2
        exact h2.symm
    | false =>
      have hm : (i, s) ∈ strikeS z st rows := List.mem_filter.2 ⟨look_mem h, by dsimp only; rw [he]; rfl⟩
      have := look_of_mem hr2 hm
      dsimp only at this
      rw [this]
/-- What a call staged. -/
theorem stg_is {n : Nat} {z : DState} {st rows : List (Int × ByteArray)} (hlen : z.safe.length = n + 32) (hst : okSt (n + 32) st) (hr : Rising rows) (hk : ∀ x ∈ rows, 0 ≤ x.1 ∧ x.1 < (n : Int) ∧ x.2.size = 64) (hn : st.length + rows.length ≤ 30) :
    (stgF z.safe.length (strikeS z st rows) st).1 = 0 ∧ okSt (n + 32) (stgF z.safe.length (strikeS z st rows) st).2 ∧ (stgF z.safe.length (strikeS z st rows) st).2.length ≤ st.length + rows.length ∧ Vw z (stgF z.safe.length (strikeS z st rows) st).2 = rowV8 rows z st := by
  have hf : (strikeS z st rows).length ≤ rows.length := List.length_filter_le _ _
  obtain ⟨i1, i2, i3, i4⟩ := stg_ok hlen (strikeS z st rows) st hst (fun x hx => hk x ((List.mem_filter.1 hx).1)) (rising_filter _ _ hr) (by omega)
  refine ⟨i1, i2, by omega, ?_⟩
  funext i
  show (getB false z _ (i : Int)).data.toList = ((lookS (i : Int) rows).getD (getB false z st (i : Int))).data.toList
  rw [← look_strike z st hr]
  congr 2
  unfold getB
  rw [i4]
  by_cases hc : refF false z.safe.length (i : Int) = 0
  · rw [decide_eq_true hc, cond_true, cond_true]
    cases lookS (i : Int) (strikeS z st rows) with
    | some s => rfl
    | none => rfl
  · rw [decide_eq_false hc, cond_false, cond_false]
    cases hq : lookS (i : Int) (strikeS z st rows) with
    | none => rfl
    | some s =>
      exfalso
      have := hk _ ((List.mem_filter.1 (look_mem hq)).1)
      dsimp only at this
      apply hc
      unfold refF
      rw [cond_false, decide_eq_true this.1, decide_eq_true (by omega : (i : Int) < (z.safe.length : Int) - 32)]; rfl
end Go.Proofs.YtlpcccpagmipnaaGreat.P
