/- Stage 8: a volume with one file. No condition. -/
import Derived.Test.YtlpcccpagmipnaaGreatWS
set_option linter.unusedVariables false
set_option linter.unusedSimpArgs false
set_option maxRecDepth 100000
namespace Go.Proofs.YtlpcccpagmipnaaGreat.P
open Go.RowKit Go.ChangeMaps Go.MapKept
def oneN (lk : Nat) (D : List UInt8) : Nat → NodeA := insN exN0 0 ⟨1, lk, D⟩
theorem one_zero (lk : Nat) (D : List UInt8) : oneN lk D 0 = ⟨1, lk, D⟩ := rfl
theorem one_ins (lk lk2 : Nat) (D E : List UInt8) : insN (oneN lk D) 0 ⟨1, lk2, E⟩ = oneN lk2 E := by
  funext j
  unfold oneN insN
  by_cases h : j = 0
  · rw [if_pos h, if_pos h]
  · rw [if_neg h, if_neg h, if_neg h]
theorem find_one (lk : Nat) (D : List UInt8) : findN (oneN lk D) 0 = 0 := rfl
theorem sum_one (lk : Nat) (D : List UInt8) : sumTk (oneN lk D) = takesN D.length := by
  have h : ∀ k, sumN (fun k => takesN (oneN lk D k).data.length) (k + 1) = takesN D.length := by
    intro k
    induction k with
    | zero => show 0 + takesN D.length = _; omega
    | succ k ih =>
      show sumN (fun k => takesN (oneN lk D k).data.length) (k + 1) + takesN (oneN lk D (k + 1)).data.length = _
      have e : oneN lk D (k + 1) = node0 := by unfold oneN insN; rw [if_neg (by omega)]; rfl
      have e2 : takesN node0.data.length = 0 := by decide
      rw [ih, e, e2, Nat.add_zero]
  exact h 31
theorem new_one : addN exN0 false 1 = (0, 0, oneN 0 []) := by
  have h : firstN exN0 = some 0 := by decide
  unfold addN
  rw [h]; rfl
theorem write_one {lk n off : Nat} {D s : List UInt8} (h1 : off ≤ D.length) (h2 : s.length ≤ 512) (h3 : off + s.length ≤ 2368) (h4 : takesN (wrD D off s).length + 9 ≤ n) : writeN (oneN lk D) n false 0 (off : Int) s = (0, oneN lk (wrD D off s)) := by
  have hr : roomN (oneN lk D) n = (n : Int) - 9 - (takesN D.length : Int) := by unfold roomN; rw [sum_one]
  have hd : (oneN lk D (0 : Int).toNat).data = D := rfl
  unfold writeN
  rw [find_one, if_neg (fun e => e rfl), hd, if_neg (by omega), if_neg (by omega), if_neg (by exact Bool.false_ne_true), Int.toNat_natCast, hr, if_neg (by omega)]
  show (_, insN (oneN lk D) 0 ⟨1, lk, wrD D off s⟩) = _
  rw [one_ins]
theorem cut_one {lk : Nat} {D : List UInt8} {size : Nat} (h : size ≤ D.length) : cutN (oneN lk D) false 0 (size : Int) = (0, oneN lk (D.take size)) := by
  have hd : (oneN lk D (0 : Int).toNat).data = D := rfl
  unfold cutN
  rw [find_one, if_neg (fun e => e rfl), hd, if_neg (by omega), if_neg (by exact Bool.false_ne_true), Int.toNat_natCast]
  show (_, insN (oneN lk D) 0 ⟨1, lk, D.take size⟩) = _
  rw [one_ins]
theorem cut_one_no {lk : Nat} {D : List UInt8} {size : Int} (h : size < 0 ∨ (D.length : Int) < size) : cutN (oneN lk D) false 0 size = (1, oneN lk D) := by
  have hd : (oneN lk D (0 : Int).toNat).data = D := rfl
  unfold cutN
  rw [find_one, if_neg (fun e => e rfl), hd, if_pos h]
theorem read_one {lk off many : Nat} {D : List UInt8} : readN (oneN lk D) 0 (off : Int) (many : Int) = ((D.drop off).take many, 0) := by
  have hd : (oneN lk D (0 : Int).toNat).data = D := rfl
  unfold readN
  rw [find_one, if_neg (fun e => e rfl), hd, if_neg (by omega), Int.toNat_natCast, Int.toNat_natCast]
theorem wrD_nil (s : List UInt8) : wrD [] 0 s = s := by unfold wrD; simp
theorem wrD_end (D s : List UInt8) : wrD D D.length s = D ++ s := by
  unfold wrD
  rw [List.take_of_length_le (Nat.le_refl _), List.drop_of_length_le (by omega), List.append_nil]
section
variable {w0 w : World} {d n l V m lk : Nat} {R : Asn} {D : List UInt8}
theorem q_new (h : VS w0 d n l V R m exN0 w) (hs : Stable R) (h1 : 16 ≤ n) (h2 : n ≤ 512) (hm : m ≤ 16) :
    Calls Tryz.prog 35 #[.pointer (some ⟨V, 0, none⟩), .int .i64 1] w fun e w' => e = .returned (.tuple #[.int .i64 0, .int .i64 0]) ∧ VS w0 d n l V R (m + 1) (oneN 0 []) w' := by
  have := k_new h hs h1 h2 hm 1
  rw [new_one] at this
  exact this
theorem q_write (h : VS w0 d n l V R m (oneN lk D) w) (hs : Stable R) (h1 : 16 ≤ n) (h2 : n ≤ 512) (hm : m ≤ 16) (off : Nat) (s : ByteArray) (ho : off ≤ D.length) (h5 : s.size ≤ 512) (h6 : off + s.size ≤ 2368) (h7 : takesN (wrD D off s.data.toList).length + 9 ≤ n) :
    Calls Tryz.prog 36 #[.pointer (some ⟨V, 0, none⟩), .int .i64 0, .int .i64 (off : Int), .string s] w fun e w' => e = .returned (.int .i64 0) ∧ VS w0 d n l V R (m + wrC off s.size) (oneN lk (wrD D off s.data.toList)) w' := by
  have hsl : s.data.toList.length = s.size := (Go.Lib.size_eq s).symm
  have := k_write h hs h1 h2 hm 0 (off : Int) s
  rw [write_one ho (by omega) (by omega) h7, Int.toNat_natCast] at this
  exact this
theorem q_cut (h : VS w0 d n l V R m (oneN lk D) w) (hs : Stable R) (h1 : 16 ≤ n) (h2 : n ≤ 512) (hm : m ≤ 16) (size : Nat) (hz : size ≤ D.length) :
    Calls Tryz.prog 39 #[.pointer (some ⟨V, 0, none⟩), .int .i64 0, .int .i64 (size : Int)] w fun e w' => e = .returned (.int .i64 0) ∧ VS w0 d n l V R (m + 3) (oneN lk (D.take size)) w' := by
  have := k_cut h hs h1 h2 hm 0 (size : Int)
  rw [cut_one hz] at this
  exact this
theorem q_cut_no (h : VS w0 d n l V R m (oneN lk D) w) (hs : Stable R) (h1 : 16 ≤ n) (h2 : n ≤ 512) (hm : m ≤ 16) (size : Int) (hz : size < 0 ∨ (D.length : Int) < size) :
    Calls Tryz.prog 39 #[.pointer (some ⟨V, 0, none⟩), .int .i64 0, .int .i64 size] w fun e w' => e = .returned (.int .i64 1) ∧ VS w0 d n l V R (m + 3) (oneN lk D) w' := by
  have := k_cut h hs h1 h2 hm 0 size
  rw [cut_one_no hz] at this
  exact this
theorem q_read (h : VS w0 d n l V R m (oneN lk D) w) (hs : Stable R) (h1 : 16 ≤ n) (h2 : n ≤ 512) (off many : Nat) (ho : off ≤ 9223372036854775807) (hm : many ≤ 9223372036854775807) (B : ByteArray) (hB : B.data.toList = (D.drop off).take many) :
    Calls Tryz.prog 33 #[.pointer (some ⟨V, 0, none⟩), .int .i64 0, .int .i64 (off : Int), .int .i64 (many : Int)] w fun e w' => e = .returned (.tuple #[.string B, .int .i64 0]) ∧ VS w0 d n l V R m (oneN lk D) w' := by
  have := k_read h hs h1 h2 0 (off : Int) (many : Int) (by omega) (by omega)
  rw [read_one] at this
  have e : (⟨((D.drop off).take many).toArray⟩ : ByteArray) = B := arr_eta (by rw [hB])
  rw [e] at this
  exact this
end
end Go.Proofs.YtlpcccpagmipnaaGreat.P
namespace Go.Proofs.YtlpcccpagmipnaaGreat.P
open Go.RowKit Go.ChangeMaps Go.MapKept
section
open Go.ChangeShapes Go.WideShapes Go.Deep
variable {H : Type} {enc : TypeId × Value → H} {w : World} {base : Nat} {spare : Nat → Bool} {held : Bool}
theorem open_intsP {v : Value} {d : DataW H} {ps : List MemPlace} (hv : ∃ (o : Option Addr) (l c : Nat), v = .slice o l c) (h : DataW.Trod enc Tryz.prog w base spare held 77 v d ps) (HD : ∀ n ∈ d.weights Tryz.prog 77, n ≤ 140737488351232) :
    ∃ (o : Option Addr) (c : Nat) (A : List Int), v = .slice o A.length c ∧ A.length ≤ 4000000000000000 ∧ RowI w o A := by
  obtain ⟨o, l, c, rfl⟩ := hv
  obtain ⟨fuel, hf⟩ := h
  exact open_ints_c (y := (d, ps)) hf HD
theorem open_strsP {v : Value} {d : DataW H} {ps : List MemPlace} (hv : ∃ (o : Option Addr) (l c : Nat), v = .slice o l c) (h : DataW.Trod enc Tryz.prog w base spare held 42 v d ps) (HD : ∀ n ∈ d.weights Tryz.prog 42, n ≤ 140737488351232) :
    ∃ (o : Option Addr) (c : Nat) (A : List ByteArray), v = .slice o A.length c ∧ A.length ≤ 4000000000000000 ∧ RowS w o A ∧ ∀ s ∈ A, s.size ≤ 9223372036854770000 := by
  obtain ⟨o, l, c, rfl⟩ := hv
  obtain ⟨fuel, hf⟩ := h
  exact open_strs_c (y := (d, ps)) hf HD
end
/-! a Stat -/
def stI (lk sz : Nat) : Ino := ⟨1, lk, sz, []⟩
theorem eqSt (lk mk sz tz : Nat) (w : World) : (Op.equalIn 10000 56 (.agg (statL (stI lk sz))) (.agg (statL (stI mk tz)))).run Tryz.prog w = .ok (decide (lk = mk) && decide (sz = tz)) w := by
  have h1 : Tryz.prog.stoodInHeld 56 = false := by kernel_rfl
  have p0 : ∀ x : Ino, (part 3 (statL x) 0).run Tryz.prog w = .ok (.int .i64 (x.kind : Int)) w := fun x => run_part_plain w (by kernel_rfl) rfl
  have p1 : ∀ x : Ino, (part 3 (statL x) 1).run Tryz.prog w = .ok (.int .i64 (x.links : Int)) w := fun x => run_part_plain w (by kernel_rfl) rfl
  have p2 : ∀ x : Ino, (part 3 (statL x) 2).run Tryz.prog w = .ok (.int .i64 (x.size : Int)) w := fun x => run_part_plain w (by kernel_rfl) rfl
  have ei : ∀ a b : Nat, (Op.equalIn 9999 3 (.int .i64 (a : Int)) (.int .i64 (b : Int))).run Tryz.prog w = .ok (decide (a = b)) w := fun a b => by rw [← ncast]; exact int_eq _ _ 9998 w
  have e0 : (Op.equalIn 9999 3 (.int .i64 ((1 : Nat) : Int)) (.int .i64 ((1 : Nat) : Int))).run Tryz.prog w = .ok true w := ei 1 1
  have e1 := ei lk mk
  have e2 := ei sz tz
  have x0 := p0 (stI lk sz)
  have x1 := p1 (stI lk sz)
  have x2 := p2 (stI lk sz)
  have y0 := p0 (stI mk tz)
  have y1 := p1 (stI mk tz)
  have y2 := p2 (stI mk tz)
  clear p0 p1 p2 ei
  dsimp only [stI] at x0 x1 x2 y0 y1 y2
  unfold stI
  generalize statL ⟨1, lk, sz, []⟩ = X at *
  generalize statL ⟨1, mk, tz, []⟩ = Y at *
  generalize decide (lk = mk) = b1 at *
  generalize decide (sz = tz) = b2 at *
  generalize ((1 : Nat) : Int) = xk at *
  generalize (lk : Int) = xl at *
  generalize (mk : Int) = yl at *
  generalize (sz : Int) = xs at *
  generalize (tz : Int) = ys at *
  unfold Op.equalIn
  cases b1 <;> cases b2 <;> simp [Sem.run_bind, run_underlying Tryz.underlying56, h1, x0, x1, x2, y0, y1, y2, e0, e1, e2]
theorem wpList_neqSt {ops : Array Oper} {rest : List Oper} {o : Oper} {a : Act} {w : World} {Q : Exit → Act → World → Prop} (hg : o.guard = none) (x y : Operand) (t2 : TypeId) (hop : o.op = .binOp .neq 56 x y t2) (lk mk sz tz : Nat) (ex : a.eval x = .agg (statL (stI lk sz))) (ey : a.eval y = .agg (statL (stI mk tz))) (b : Bool) (hb : (!(decide (lk = mk) && decide (sz = tz))) = b)
    (h : wpList Tryz.prog ops Q rest (a.put o.dst (.bool b)) w) : wpList Tryz.prog ops Q (o :: rest) a w := by
  have hm : Tryz.prog.eqGuardType Tryz.prog.depth 56 = false := Tryz.eqGuardType56
  have h1 := run_eqGuard_agg (P := Tryz.prog) w .neq 56 x y (statL (stI lk sz)) (statL (stI mk tz)) hm
  have h2 := run_neq_struct (P := Tryz.prog) w 56 (statL (stI lk sz)) (statL (stI mk tz))
  rw [eqSt lk mk sz tz w] at h2
  simp only [Result.andThen_ok] at h2
  rw [hb] at h2
  generalize statL (stI lk sz) = XA at *
  generalize statL (stI mk tz) = YA at *
  refine wpList_plain hg fun K' hK' => ?_
  unfold Oper.wp
  have e : (execOp a.eval o).run Tryz.prog w = .ok (.value (.bool b)) w := by
    unfold execOp
    simp [hop, ex, ey, Sem.run_bind, h1, h2]
  rw [e]
  exact hK' _ _ h
theorem wpList_build3 {P : Program} {ops : Array Oper} {rest : List Oper} {o : Oper} {a : Act} {w : World} {Q : Exit → Act → World → Prop} (hgd : o.guard = none) (t : TypeId) (k1 k2 k3 : Nat) (x1 x2 x3 : Operand) (ho : o.op = .build t #[(k1, x1), (k2, x2), (k3, x3)]) (v1 v2 v3 : Value) (e1 : a.eval x1 = v1) (e2 : a.eval x2 = v2) (e3 : a.eval x3 = v3)
    (cells : Array Value) (hb : P.built t [(k1, v1), (k2, v2), (k3, v3)] = some cells) (h : wpList P ops Q rest (a.put o.dst (.agg cells)) w) : wpList P ops Q (o :: rest) a w := by
  have hb2 : P.built t ((#[(k1, x1), (k2, x2), (k3, x3)] : Array (Nat × Operand)).map fun (i, x) => (i, a.eval x)).toList = some cells := by
    simpa [e1, e2, e3] using hb
  refine wpList_plain hgd fun K' hK' => ?_
  unfold Oper.wp execOp
  simp only [ho, Sem.run_bind, run_build w t _ cells hb2, Result.andThen_ok, Sem.run_pure]
  exact hK' _ _ h
theorem built_stat (lk sz : Nat) : Tryz.prog.built 56 [(0, .int .i64 1), (1, .int .i64 (lk : Int)), (2, .int .i64 (sz : Int))] = some (statL (stI lk sz)) := by kernel_rfl
section
variable {w0 w : World} {d n l V m lk : Nat} {R : Asn} {D : List UInt8}
theorem q_stat (h : VS w0 d n l V R m (oneN lk D) w) (hs : Stable R) (h1 : 16 ≤ n) (h2 : n ≤ 512) :
    Calls Tryz.prog 31 #[.pointer (some ⟨V, 0, none⟩), .int .i64 0] w fun e w' => e = .returned (.tuple #[.agg (statL (stI lk D.length)), .int .i64 0]) ∧ VS w0 d n l V R m (oneN lk D) w' := by
  have e : statV (oneN lk D) 0 = statL (stI lk D.length) := rfl
  have := k_stat h hs h1 h2 0
  rw [e, find_one] at this
  exact this
/-- A Stat in a block of its own. -/
theorem vs_stat {N : Nat → NodeA} (h : VS w0 d n l V R m N w) (hs : Stable R) (S : Array Value) :
    ((w.alloc (.cells stat0 56)).setRow w.heap.size S).heap[w.heap.size]? = some (.cells S 56) ∧ VS w0 d n l V R m N ((w.alloc (.cells stat0 56)).setRow w.heap.size S) := by
  obtain ⟨z, ml, st, c1, c2, c3, c4, c5⟩ := h
  have hsv := stable_dl d z l ml st false (stable_star (stable_blk V (.cells #[.pointer (some ⟨l, 0, none⟩)] 89)) hs)
  have h1 := c3.alloc hsv (.cells stat0 56)
  have h2 := h1.setRow hsv S
  exact ⟨h2.blk, z, ml, st, c1, c2, h2.right, c4, c5⟩
theorem q_link (h : VS w0 d n l V R m (oneN lk D) w) (hs : Stable R) (h1 : 16 ≤ n) (h2 : n ≤ 512) (hm : m ≤ 16) (x : Int) (b : Bool) (hb : b = decide (0 ≤ (lk : Int) + x ∧ (lk : Int) + x ≤ 255)) :
    Calls Tryz.prog 38 #[.pointer (some ⟨V, 0, none⟩), .int .i64 0, .int .i64 x] w fun e w' => e = .returned (.int .i64 (bif b then 0 else 15)) ∧ VS w0 d n l V R (m + 1) (oneN (bif b then ((lk : Int) + x).toNat else lk) D) w' := by
  have := k_link h hs h1 h2 hm 0 x
  have e : linkN (oneN lk D) false 0 x = ((bif b then 0 else 15), oneN (bif b then ((lk : Int) + x).toNat else lk) D) := by
    have hl : ((oneN lk D (0 : Int).toNat).links : Int) = (lk : Int) := rfl
    unfold linkN
    rw [find_one, if_neg (fun e => e rfl), hl]
    by_cases hc : 0 ≤ (lk : Int) + x ∧ (lk : Int) + x ≤ 255
    · rw [decide_eq_true hc] at hb
      subst hb
      rw [if_neg (by omega), if_neg (by exact Bool.false_ne_true)]
      show (_, insN (oneN lk D) 0 ⟨1, ((lk : Int) + x).toNat, D⟩) = _
      rw [one_ins]; rfl
    · rw [decide_eq_false hc] at hb
      subst hb
      rw [if_pos (by omega)]; rfl
  rw [e] at this
  exact this
end
end Go.Proofs.YtlpcccpagmipnaaGreat.P
namespace Go.Proofs.YtlpcccpagmipnaaGreat.P
open Go.RowKit Go.ChangeMaps Go.MapKept
theorem app_toList8 (a b : ByteArray) : (a ++ b).data.toList = a.data.toList ++ b.data.toList := by
  rw [ByteArray.data_append, Array.toList_append]
theorem takes_all {s : Nat} (h : s ≤ 2368) : takesN s ≤ 38 := by unfold takesN cntN; split <;> omega
theorem toL_size (D : ByteArray) : D.data.toList.length = D.size := (Go.Lib.size_eq D).symm
end Go.Proofs.YtlpcccpagmipnaaGreat.P
namespace Go.Proofs.YtlpcccpagmipnaaGreat.P
open Go.RowKit Go.ChangeMaps Go.MapKept
structure V8ActV where
  kind : Int
  n : Int
  off : Int
  many : Int
  s : ByteArray
def V8ActV.ok (x : V8ActV) : Prop := i64 x.kind ∧ i64 x.n ∧ i64 x.off ∧ i64 x.many ∧ x.s.size ≤ 140737488351232
/-- The acts lie there. -/
def V8Acts (w : World) (bl off len : Nat) (f : Nat → V8ActV) : Prop :=
  ∀ i, i < len → (f i).ok ∧ w.cell? ⟨bl, off + i * 5, none⟩ = some (.int .i64 (f i).kind) ∧ w.cell? ⟨bl, off + i * 5 + 1, none⟩ = some (.int .i64 (f i).n) ∧ w.cell? ⟨bl, off + i * 5 + 2, none⟩ = some (.int .i64 (f i).off) ∧ w.cell? ⟨bl, off + i * 5 + 3, none⟩ = some (.int .i64 (f i).many) ∧ w.cell? ⟨bl, off + i * 5 + 4, none⟩ = some (.string (f i).s)
section
open Go.ChangeShapes Go.WideShapes Go.Deep
variable {H : Type} {enc : TypeId × Value → H} {w : World} {base : Nat} {spare : Nat → Bool} {held : Bool}
set_option maxRecDepth 100000 in
theorem V8open_acts {v : Value} {d : DataW H} {ps : List MemPlace} (hv : ∃ (o : Option Addr) (l c : Nat), v = .slice o l c) (h : DataW.Trod enc Tryz.prog w base spare held 22 v d ps) (HD : ∀ n ∈ d.weights Tryz.prog 22, n ≤ 140737488351232) :
    ∃ (o : Option Addr) (len cap bl off : Nat) (f : Nat → V8ActV), v = .slice o len cap ∧ len * 48 ≤ 140737488351232 ∧ (0 < len → o = some ⟨bl, off, none⟩ ∧ bl < w.heap.size) ∧ V8Acts w bl off len f := by
  rcases open_structs_w Tryz.underlying22 Tryz.underlying39 (by kernel_rfl) (by kernel_rfl) (by decide) hv h with ⟨o, cap, rfl⟩ | ⟨bl, off, len, cap, rfl, hl0, hlc, hcap, hbl, ⟨N, hN1, hN2⟩, hf⟩
  · exact ⟨o, 0, cap, 0, 0, fun _ => ⟨0, 0, 0, 0, ⟨#[]⟩⟩, rfl, by omega, fun h => absurd h (by omega), fun i hi => absurd hi (by omega)⟩
  · have hby : Tryz.prog.bytesOf 39 = 48 := by kernel_rfl
    rw [hby] at hN2
    have hN3 := HD _ hN2
    have hx : ∀ i, ∃ a : V8ActV, i < len → a.ok ∧ w.cell? ⟨bl, off + i * 5, none⟩ = some (.int .i64 a.kind) ∧ w.cell? ⟨bl, off + i * 5 + 1, none⟩ = some (.int .i64 a.n) ∧ w.cell? ⟨bl, off + i * 5 + 2, none⟩ = some (.int .i64 a.off) ∧ w.cell? ⟨bl, off + i * 5 + 3, none⟩ = some (.int .i64 a.many) ∧ w.cell? ⟨bl, off + i * 5 + 4, none⟩ = some (.string a.s) := by
      intro i
      by_cases hi : i < len
      · obtain ⟨u0, y0, n0, c0, t0, m0⟩ := hf i hi 0 _ rfl
        obtain ⟨u1, y1, n1, c1, t1, m1⟩ := hf i hi 1 _ rfl
        obtain ⟨u2, y2, n2, c2, t2, m2⟩ := hf i hi 2 _ rfl
        obtain ⟨u3, y3, n3, c3, t3, m3⟩ := hf i hi 3 _ rfl
        obtain ⟨u4, y4, n4, c4, t4, m4⟩ := hf i hi 4 _ rfl
        obtain ⟨x0, e0, _, k0⟩ := DataW.trod_int Tryz.underlying3 t0
        obtain ⟨x1, e1, _, k1⟩ := DataW.trod_int Tryz.underlying3 t1
        obtain ⟨x2, e2, _, k2⟩ := DataW.trod_int Tryz.underlying3 t2
        obtain ⟨x3, e3, _, k3⟩ := DataW.trod_int Tryz.underlying3 t3
        obtain ⟨x4, e4, q4, _⟩ := DataW.trod_string Tryz.underlying9 t4
        have k4 : x4.size ≤ 140737488351232 := by
          rw [q4] at m4
          have := HD _ (m4 _ (by simp only [DataW.weights, List.mem_singleton]; rfl))
          simpa using this
        rw [List.singleton_inj] at e0 e1 e2 e3 e4
        subst e0; subst e1; subst e2; subst e3; subst e4
        exact ⟨⟨x0, x1, x2, x3, x4⟩, fun _ => ⟨⟨wf_i64 k0, wf_i64 k1, wf_i64 k2, wf_i64 k3, k4⟩, c0, c1, c2, c3, c4⟩⟩
      · exact ⟨⟨0, 0, 0, 0, ⟨#[]⟩⟩, fun h => absurd h hi⟩
    obtain ⟨f, hf'⟩ := Classical.axiomOfChoice hx
    exact ⟨some ⟨bl, off, none⟩, len, cap, bl, off, f, rfl, Nat.le_trans (Nat.mul_le_mul_right _ hN1) hN3, fun _ => ⟨rfl, hbl⟩, fun i hi => hf' i hi⟩
end
theorem V8cells {w wx : World} {bl off len : Nat} {f : Nat → V8ActV} (h : V8Acts w bl off len f) {k : Nat} (hk : k < len) (g : Gr w wx) :
    wx.cell? ⟨bl, off + k * 5, none⟩ = some (.int .i64 (f k).kind) ∧ wx.cell? ⟨bl, off + k * 5 + 1, none⟩ = some (.int .i64 (f k).n) ∧ wx.cell? ⟨bl, off + k * 5 + 2, none⟩ = some (.int .i64 (f k).off) ∧ wx.cell? ⟨bl, off + k * 5 + 3, none⟩ = some (.int .i64 (f k).many) ∧ wx.cell? ⟨bl, off + k * 5 + 4, none⟩ = some (.string (f k).s) := by
  obtain ⟨_, c0, c1, c2, c3, c4⟩ := h k hk
  exact ⟨kcell g c0, kcell g c1, kcell g c2, kcell g c3, kcell g c4⟩
theorem c_sectors8 (s : Nat) (hs : s ≤ 1000000) (w : World) : Calls Tryz.prog 83 #[.int .i64 (s : Int)] w fun e w' => e = .returned (.int .i64 (cntN s : Int)) ∧ w' = w := by
  have hc : cntN s = (s + 63) / 64 := rfl
  have e1 : Int.tdiv (s : Int) 64 = ((s / 64 : Nat) : Int) := by rw [Int.tdiv_eq_ediv_of_nonneg (by omega)]; omega
  have e2 : Int.tmod (s : Int) 64 = ((s % 64 : Nat) : Int) := by rw [Int.tmod_eq_emod_of_nonneg (by omega)]; omega
  go_enter Tryz.func83, Tryz.ntmps83
  by_cases h : 0 < s % 64
  · have d1 : decide (0 < s % 64) = true := decide_eq_true h
    have d2 : decide ((0 : Int) < ((s % 64 : Nat) : Int)) = true := decide_eq_true (by omega)
    have e3 : ((s / 64 : Nat) : Int) + 1 = (cntN s : Int) := by omega
    go_wp2_with fail
    go_ret
    refine ⟨?_, rfl⟩
    go_num
  · have d1 : decide (0 < s % 64) = false := decide_eq_false h
    have d2 : decide ((0 : Int) < ((s % 64 : Nat) : Int)) = false := decide_eq_false (by omega)
    have e3 : ((s / 64 : Nat) : Int) = (cntN s : Int) := by omega
    go_wp2_with fail
    go_ret
    refine ⟨?_, rfl⟩
    go_num
theorem c_takes8 (s : Nat) (hs : s ≤ 1000000) (w : World) : Calls Tryz.prog 40 #[.int .i64 (s : Int)] w fun e w' => e = .returned (.int .i64 (takesN s : Int)) ∧ w' = w := by
  have hc : cntN s = (s + 63) / 64 := rfl
  have ht : takesN s = cntN s + (if 5 < cntN s then 1 else 0) := rfl
  have CS := Lib.hid (c_sectors8 s hs w)
  generalize takesN s = t at *
  generalize cntN s = q at *
  go_enter Tryz.func40, Tryz.ntmps40
  by_cases h : 5 < q
  · have d1 : decide (5 < q) = true := decide_eq_true h
    have d2 : decide ((5 : Int) < (q : Int)) = true := decide_eq_true (by omega)
    rw [if_pos h] at ht
    subst ht
    go_wp2_with (go_at_call 83; refine CS.out.mono ?_; rintro e w' ⟨rfl, hw'⟩; rw [hw']; clear hw' w')
    go_ret
    refine ⟨?_, rfl⟩
    go_num
  · have d1 : decide (5 < q) = false := decide_eq_false h
    have d2 : decide ((5 : Int) < (q : Int)) = false := decide_eq_false (by omega)
    rw [if_neg h, Nat.add_zero] at ht
    subst ht
    go_wp2_with (go_at_call 83; refine CS.out.mono ?_; rintro e w' ⟨rfl, hw'⟩; rw [hw']; clear hw' w')
    go_ret
    refine ⟨?_, rfl⟩
    go_num
theorem vol_node {v : Nat → List UInt8} {n : Nat} {N : Nat → NodeA} (h : IsVol v n N) {k : Nat} (hk : k < 32) : (N k).data.length ≤ 2368 ∧ (N k).links ≤ 255 ∧ ((N k).kind = 0 → (N k).data.length = 0) := by
  obtain ⟨S, hr, hN⟩ := h
  have hl : (N k).data.length = (S k).size := by rw [hN k hk]; exact datA_len _ _
  have hk2 : (N k).kind = (S k).kind := by rw [hN k hk]; rfl
  have hlk : (N k).links = (S k).links := by rw [hN k hk]; rfl
  rw [hl, hk2, hlk]
  exact ⟨(hr.ok k hk).size, (hr.ok k hk).links, fun h => ((hr.ok k hk).free h).2⟩
/-! calls whose answers do not matter -/
def VA (w0 : World) (d n l V : Nat) (R : Asn) (w : World) : Prop := ∃ m N, VS w0 d n l V R m N w
section
variable {w0 w : World} {d n l V : Nat} {R : Asn}
theorem VA.gr (h : VA w0 d n l V R w) (hs : Stable R) {w' : World} (g : Gr w w') : VA w0 d n l V R w' := by
  obtain ⟨m, N, h⟩ := h
  exact ⟨m, N, h.gr hs g⟩
theorem VA.sub (h : VA w0 d n l V R w) : Gr w0 w := by
  obtain ⟨m, N, h⟩ := h
  exact h.sub
theorem j_new (h : VA w0 d n l V R w) (hs : Stable R) (h1 : 16 ≤ n) (h2 : n ≤ 512) (kd : Int) :
    Calls Tryz.prog 35 #[.pointer (some ⟨V, 0, none⟩), .int .i64 kd] w fun e w' => ∃ a b : Int, e = .returned (.tuple #[.int .i64 a, .int .i64 b]) ∧ VA w0 d n l V R w' := by
  obtain ⟨m, N, z, ml, st, c1, c2, c3, c4, c5⟩ := h
  refine (o_vnew c3 hs (li_of c1 h1 h2) c2 c4 kd).mono ?_
  rintro e w' ⟨rfl, st', k1, k2, k3, k4⟩
  exact ⟨_, _, rfl, _, _, z, ml, st', c1, k1, k2, k3, k4⟩
theorem j_free (h : VA w0 d n l V R w) (hs : Stable R) (h1 : 16 ≤ n) (h2 : n ≤ 512) (k : Int) :
    Calls Tryz.prog 37 #[.pointer (some ⟨V, 0, none⟩), .int .i64 k] w fun e w' => ∃ a : Int, e = .returned (.int .i64 a) ∧ VA w0 d n l V R w' := by
  obtain ⟨m, N, z, ml, st, c1, c2, c3, c4, c5⟩ := h
  refine (o_vfree c3 hs (li_of c1 h1 h2) c2 c4 k).mono ?_
  rintro e w' ⟨rfl, st', k1, k2, k3, k4⟩
  exact ⟨_, rfl, _, _, z, ml, st', c1, k1, k2, k3, k4⟩
theorem j_cut (h : VA w0 d n l V R w) (hs : Stable R) (h1 : 16 ≤ n) (h2 : n ≤ 512) (k size : Int) :
    Calls Tryz.prog 39 #[.pointer (some ⟨V, 0, none⟩), .int .i64 k, .int .i64 size] w fun e w' => ∃ a : Int, e = .returned (.int .i64 a) ∧ VA w0 d n l V R w' := by
  obtain ⟨m, N, z, ml, st, c1, c2, c3, c4, c5⟩ := h
  refine (o_vcut c3 hs (li_of c1 h1 h2) c2 c4 k size).mono ?_
  rintro e w' ⟨rfl, st', k1, k2, k3, k4⟩
  exact ⟨_, rfl, _, _, z, ml, st', c1, k1, k2, k3, k4⟩
theorem j_write (h : VA w0 d n l V R w) (hs : Stable R) (h1 : 16 ≤ n) (h2 : n ≤ 512) (k off : Int) (s : ByteArray) :
    Calls Tryz.prog 36 #[.pointer (some ⟨V, 0, none⟩), .int .i64 k, .int .i64 off, .string s] w fun e w' => ∃ a : Int, e = .returned (.int .i64 a) ∧ VA w0 d n l V R w' := by
  obtain ⟨m, N, z, ml, st, c1, c2, c3, c4, c5⟩ := h
  refine (o_vwrite c3 hs (li_of c1 h1 h2) c2 c4 k off s).mono ?_
  rintro e w' ⟨rfl, st', k1, k2, k3, k4⟩
  exact ⟨_, rfl, _, _, z, ml, st', c1, k1, k2, k3, k4⟩
theorem j_commit (h : VA w0 d n l V R w) (hs : Stable R) (h1 : 16 ≤ n) (h2 : n ≤ 512) :
    Calls Tryz.prog 14 #[.pointer (some ⟨l, 0, none⟩)] w fun e w' => e = .returned (.int .i64 0) ∧ VA w0 d n l V R w' := by
  obtain ⟨m, N, h⟩ := h
  refine (k_commit h hs h1 h2).mono ?_
  rintro e w' ⟨rfl, k2⟩
  exact ⟨rfl, _, _, k2⟩
theorem kv_home {m : Nat} {N : Nat → NodeA} (h : VS w0 d n l V R m N w) :
    Calls Tryz.prog 16 #[.pointer (some ⟨l, 0, none⟩)] w fun e w' => e = .returned (.int .i64 (n : Int)) ∧ w' = w := by
  obtain ⟨z, ml, st, c1, c2, c3, c4, c5⟩ := h
  have := o_home c3
  rw [c1.len, show ((n + 32 : Nat) : Int) - 32 = (n : Int) by omega] at this
  exact this
theorem VS.node {m : Nat} {N : Nat → NodeA} (h : VS w0 d n l V R m N w) {k : Nat} (hk : k < 32) : (N k).data.length ≤ 2368 ∧ (N k).links ≤ 255 ∧ ((N k).kind = 0 → (N k).data.length = 0) := by
  obtain ⟨z, ml, st, c1, c2, c3, c4, c5⟩ := h
  exact vol_node c4 hk
end
def sumT (N : Nat → NodeA) (j : Nat) : Nat := sumN (fun k => takesN (N k).data.length) j
theorem sumT_succ (N : Nat → NodeA) (j : Nat) : sumT N (j + 1) = sumT N j + takesN (N j).data.length := rfl
theorem takes_bound {s : Nat} (h : s ≤ 2368) : takesN s ≤ 38 := by unfold takesN cntN; split <;> omega
end Go.Proofs.YtlpcccpagmipnaaGreat.P
namespace Go.Proofs.YtlpcccpagmipnaaGreat.P
open Go.RowKit Go.ChangeMaps Go.MapKept
section
open Go.ChangeShapes Go.WideShapes Go.Deep
variable {H : Type} {enc : TypeId × Value → H} {w : World} {base : Nat} {spare : Nat → Bool} {held : Bool}
theorem open_apart {v : Value} {d : DataW H} {ps : List MemPlace} {r : Reach} {b0 : Nat} (hv : Value.okWide Tryz.prog w r b0 67 v) (h : DataW.Trod enc Tryz.prog w base spare held 67 v d ps) (HD : ∀ n ∈ d.weights Tryz.prog 67, n ≤ 140737488351232) :
    ∃ (o : Option Addr) (len cap bl off : Nat) (f : Nat → V8ActV) (an ao : Int) (s : ByteArray), v = .agg #[.slice o len cap, .int .i64 an, .int .i64 ao, .string s] ∧ len * 48 ≤ 140737488351232 ∧ (0 < len → o = some ⟨bl, off, none⟩) ∧ V8Acts w bl off len f ∧ i64 an ∧ i64 ao ∧ s.size ≤ maxLen := by
  obtain ⟨c, rfl, hsz⟩ := okWide_struct Tryz.underlying67 hv
  obtain ⟨fuel, hf⟩ := h
  obtain ⟨ys, n, _, hx, hl, hy, hg⟩ := DataW.trod_struct Tryz.underlying67 hf
  have e0 : Tryz.prog.cellsOf 67 = 4 := by kernel_rfl
  rw [e0] at hl
  have ed := congrArg Prod.fst hx
  dsimp only at ed
  obtain ⟨l⟩ := c
  match l, hl, ys, hy with
  | [x0, x1, x2, x3], _, [y0, y1, y2, y3], _ =>
    have h0 : DataW.trod enc Tryz.prog w base spare held n 22 (([x0, x1, x2, x3].drop 0).take (Tryz.prog.cellsOf 22)) = some y0 := hg 0 _ rfl
    rw [show Tryz.prog.cellsOf 22 = 1 by kernel_rfl] at h0
    change DataW.trod enc Tryz.prog w base spare held n 22 [x0] = some y0 at h0
    have h1 : DataW.trod enc Tryz.prog w base spare held n 3 (([x0, x1, x2, x3].drop 1).take (Tryz.prog.cellsOf 3)) = some y1 := hg 1 _ rfl
    rw [show Tryz.prog.cellsOf 3 = 1 by kernel_rfl] at h1
    change DataW.trod enc Tryz.prog w base spare held n 3 [x1] = some y1 at h1
    have h2 : DataW.trod enc Tryz.prog w base spare held n 3 (([x0, x1, x2, x3].drop 2).take (Tryz.prog.cellsOf 3)) = some y2 := hg 2 _ rfl
    rw [show Tryz.prog.cellsOf 3 = 1 by kernel_rfl] at h2
    change DataW.trod enc Tryz.prog w base spare held n 3 [x2] = some y2 at h2
    have h3 : DataW.trod enc Tryz.prog w base spare held n 9 (([x0, x1, x2, x3].drop 3).take (Tryz.prog.cellsOf 9)) = some y3 := hg 3 _ rfl
    rw [show Tryz.prog.cellsOf 9 = 1 by kernel_rfl] at h3
    change DataW.trod enc Tryz.prog w base spare held n 9 [x3] = some y3 at h3
    have hw : d.weights Tryz.prog 67 = y0.1.weights Tryz.prog 22 ++ (y1.1.weights Tryz.prog 3 ++ (y2.1.weights Tryz.prog 3 ++ (y3.1.weights Tryz.prog 9 ++ []))) := by
      rw [ed]
      simp only [DataW.weights, Tryz.underlying67]
      rfl
    obtain ⟨o, len, cap, rfl, ht⟩ := open_slice_c Tryz.underlying22 h0
    obtain ⟨o2, len2, cap2, bl, off, f, e2, z1, z2, z3⟩ := V8open_acts ⟨o, len, cap, rfl⟩ ht (fun k hk => HD k (by rw [hw]; exact List.mem_append.2 (.inl hk)))
    obtain ⟨a1, q1, _, w1⟩ := DataW.trod_int Tryz.underlying3 h1
    obtain ⟨a2, q2, _, w2⟩ := DataW.trod_int Tryz.underlying3 h2
    obtain ⟨a3, q3, _, w3⟩ := DataW.trod_string Tryz.underlying9 h3
    rw [List.singleton_inj] at q1 q2 q3
    subst q1; subst q2; subst q3
    injection e2 with e3 e4 e5
    subst e3; subst e4; subst e5
    exact ⟨_, _, _, bl, off, f, a1, a2, a3, rfl, z1, fun h => (z2 h).1, z3, wf_i64 w1, wf_i64 w2, w3⟩
end
theorem writeN_no {N : Nat → NodeA} {n : Nat} {full : Bool} {k off : Int} {s : List UInt8} (h : (writeN N n full k off s).1 ≠ 0) : (writeN N n full k off s).2 = N := by
  unfold writeN at h ⊢
  by_cases h1 : findN N k ≠ 0
  · rw [if_pos h1]
  · rw [if_neg h1] at h ⊢
    by_cases h2 : off < 0 ∨ ((N k.toNat).data.length : Int) < off ∨ 512 < s.length
    · rw [if_pos h2]
    · rw [if_neg h2] at h ⊢
      by_cases h3 : 2368 < off + (s.length : Int)
      · rw [if_pos h3]
      · rw [if_neg h3] at h ⊢
        by_cases h4 : full = true
        · rw [if_pos h4]
        · rw [if_neg h4] at h ⊢
          by_cases h5 : roomN N n < (takesN (wrD (N k.toNat).data off.toNat s).length : Int) - (takesN (N k.toNat).data.length : Int)
          · rw [if_pos h5]
          · rw [if_neg h5] at h
            exact absurd rfl h
theorem writeN_ok {N : Nat → NodeA} {n : Nat} {full : Bool} {k off : Int} {s : List UInt8} (h : (writeN N n full k off s).1 = 0) :
    ∃ q p : Nat, k = (q : Int) ∧ q < 32 ∧ ¬ (N q).kind = 0 ∧ off = (p : Int) ∧ p ≤ (N q).data.length ∧ s.length ≤ 512 ∧ p + s.length ≤ 2368 ∧ (writeN N n full k off s).2 = insN N q ⟨(N q).kind, (N q).links, wrD (N q).data p s⟩ := by
  have hf : findN N k = 0 := by
    by_cases h1 : findN N k = 0
    · exact h1
    · unfold writeN at h
      rw [if_pos h1] at h
      exact absurd h h1
  obtain ⟨q, rfl, hq, hkd⟩ := find_zero hf
  unfold writeN at h ⊢
  rw [if_neg (fun e => e hf), Int.toNat_natCast] at h ⊢
  by_cases h2 : off < 0 ∨ ((N q).data.length : Int) < off ∨ 512 < s.length
  · rw [if_pos h2] at h; cases h
  · rw [if_neg h2] at h ⊢
    by_cases h3 : 2368 < off + (s.length : Int)
    · rw [if_pos h3] at h; cases h
    · rw [if_neg h3] at h ⊢
      by_cases h4 : full = true
      · rw [if_pos h4] at h; cases h
      · rw [if_neg h4] at h ⊢
        by_cases h5 : roomN N n < (takesN (wrD (N q).data off.toNat s).length : Int) - (takesN (N q).data.length : Int)
        · rw [if_pos h5] at h; cases h
        · rw [if_neg h5]
          exact ⟨q, off.toNat, rfl, hq, hkd, by omega, by omega, by omega, by omega, rfl⟩
theorem wrD_back {D s : List UInt8} {p : Nat} (h : p ≤ D.length) : ((wrD D p s).drop p).take s.length = s := by
  have e : wrD D p s = D.take p ++ (s ++ D.drop (p + s.length)) := by unfold wrD; rw [List.append_assoc]
  have hl : (D.take p).length = p := by rw [List.length_take]; omega
  rw [e, List.drop_append_of_le_length (by omega), List.drop_of_length_le (by omega), List.nil_append, List.take_append_of_le_length (Nat.le_refl _), List.take_of_length_le (Nat.le_refl _)]
/-- What Read answers of a file, as a text. -/
def rdB (N : Nat → NodeA) (k : Int) : ByteArray := ⟨(readN N k 0 3000).1.toArray⟩
theorem rdB_congr {N N' : Nat → NodeA} {k : Nat} (h : N' k = N k) : rdB N' (k : Int) = rdB N (k : Int) := by
  have hf : findN N' (k : Int) = findN N (k : Int) := by unfold findN; rw [Int.toNat_natCast, h]
  unfold rdB readN
  rw [hf, Int.toNat_natCast, h]
def befL (N : Nat → NodeA) (k : Nat) : List ByteArray := (List.range k).map fun (i : Nat) => rdB N (i : Int)
theorem befL_succ (N : Nat → NodeA) (k : Nat) : strs (befL N (k + 1)) = strs (befL N k) ++ [.string (rdB N (k : Int))] := by
  unfold befL strs; rw [List.range_succ, List.map_append, List.map_append]; rfl
section
variable {w0 w : World} {d n l V m : Nat} {R : Asn} {N : Nat → NodeA}
theorem k_writeX (h : VS w0 d n l V R m N w) (hs : Stable R) (h1 : 16 ≤ n) (h2 : n ≤ 512) (k off : Int) (s : ByteArray) :
    Calls Tryz.prog 36 #[.pointer (some ⟨V, 0, none⟩), .int .i64 k, .int .i64 off, .string s] w fun e w' => ∃ (full : Bool) (m' : Nat), e = .returned (.int .i64 (writeN N n full k off s.data.toList).1) ∧ VS w0 d n l V R m' (writeN N n full k off s.data.toList).2 w' := by
  obtain ⟨z, ml, st, c1, c2, c3, c4, c5⟩ := h
  refine (o_vwrite c3 hs (li_of c1 h1 h2) c2 c4 k off s).mono ?_
  rintro e w' ⟨rfl, st', k1, k2, k3, k4⟩
  exact ⟨_, _, rfl, z, ml, st', c1, k1, k2, k3, Nat.le_refl _⟩
theorem vs_nilrow (h : VS w0 d n l V R m N w) (hs : Stable R) : VS w0 d n l V (Star (rowV (.slice none 0 0) 0 []) R) m N w := by
  obtain ⟨z, ml, st, c1, c2, c3, c4, c5⟩ := h
  have h1 := c3.add (stable_dl _ _ _ _ _ _ (stable_star (stable_blk _ _) hs)) (Gr.refl _) (A := rowV (.slice none 0 0) 0 []) ⟨fun _ => False, ⟨⟨rfl, .inl ⟨rfl, rfl⟩⟩, fun b hb => by cases hb⟩, fun x hx => hx.elim⟩
  exact ⟨z, ml, st, c1, c2, h1.ac (by unfold VL DL; ac_rfl), c4, c5⟩
theorem vs_row {v : Value} {k : Nat} {L : List ByteArray} (h : VS w0 d n l V (Star (rowV v k L) R) m N w) : w.ownsRow 0 9 1 v k (strs L) := by
  obtain ⟨z, ml, st, c1, c2, c3, c4, c5⟩ := h
  exact (c3.ac (by unfold VL DL; ac_rfl) : Own w0 w (Star (rowV v k L) (VL d z l ml st V R))).row
theorem vs_grown {w' : World} {v v' : Value} {k k' g : Nat} {L L' : List ByteArray} (h : VS w0 d n l V (Star (rowV v k L) R) m N w) (hs : Stable R) (ho : w'.ownsRow 0 9 1 v' k' (strs L'))
    (hv : v'.ownBlock = some g) (hg : w.grownBy w' v.ownBlock) (hat : v.ownBlock = some g ∨ w.heap.size ≤ g) (hlt : g < w'.heap.size) : VS w0 d n l V (Star (rowV v' k' L') R) m N w' := by
  obtain ⟨z, ml, st, c1, c2, c3, c4, c5⟩ := h
  have h1 : Own w0 w (Star (rowV v k L) (VL d z l ml st V R)) := c3.ac (by unfold VL DL; ac_rfl)
  have h2 : Own w0 w' (Star (rowV v' k' L') (VL d z l ml st V R)) := h1.grown (stable_dl _ _ _ _ _ _ (stable_star (stable_blk _ _) hs)) ho hv hg hat hlt
  exact ⟨z, ml, st, c1, c2, h2.ac (by unfold VL DL; ac_rfl), c4, c5⟩
end
end Go.Proofs.YtlpcccpagmipnaaGreat.P
