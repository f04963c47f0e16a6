/- Stage 8: numbers of two bytes in blocks. No condition. -/
import Derived.Test.YtlpcccpagmipnaaGreatV2
import Derived.Deep.RegionLaw
import Derived.Laws.CopyOwn
import Derived.Laws.Tables
set_option linter.unusedVariables false
set_option linter.unusedSimpArgs false
set_option maxRecDepth 100000
namespace Go.Proofs.YtlpcccpagmipnaaGreat.P
open Go.RowKit
def b2 (L : List UInt8) (k : Nat) : Nat := byL L k + 256 * byL L (k + 1)
theorem b2_lt (L : List UInt8) (k : Nat) : b2 L k < 65536 := by
  have := byL_lt L k
  have := byL_lt L (k + 1)
  unfold b2; omega
def twoS (x y : UInt8) : ByteArray := ⟨#[x, y]⟩
theorem of_two (x y : UInt8) : W.ofF (twoS x y) = ((x.toNat + 256 * y.toNat : Nat) : Int) := by
  unfold W.ofF
  show W.ofN (twoS x y) 2 = _
  have e0 : W.byteAt (twoS x y) 0 = (x.toNat : Int) := rfl
  have e1 : W.byteAt (twoS x y) 1 = (y.toNat : Int) := rfl
  simp only [W.ofN, e0, e1]
  omega
theorem c_number {w0 w : World} {B : Nat} {L : List UInt8} {T : TypeId} {R : Asn} (h : Own w0 w (Star (blkA B (.cells (bcL L) T)) R)) (hl : L.length = 64) (o len cp k : Nat) (hk : k + 2 ≤ cp) (hc : cp ≤ 64) (hok : o + k + 2 ≤ 64) :
    Calls Tryz.prog 104 #[.slice (some ⟨B, o, none⟩) len cp, .int .i64 (k : Int)] w fun e w' => e = .returned (.int .i64 (b2 L (o + k) : Int)) ∧ w' = w := by
  have hcv : (convert 87 9 (.slice (some ⟨B, o + k, none⟩) 2 (cp - k))).run Tryz.prog w = .ok (.string (twoS (L.getD (o + k) 0) (L.getD (o + k + 1) 0))) w :=
    Go.Lib.run_convert_whole (P := Tryz.prog) w 87 5 9 Tryz.underlying87 Tryz.underlying5 Tryz.underlying9 B (o + k) (twoS (L.getD (o + k) 0) (L.getD (o + k + 1) 0)) (fun i hi => by
      have hi2 : i < 2 := hi
      have h1 := blk_cell h.blk (o + k + i) (bcL_cell (by rw [hl]; omega))
      rw [h1]
      rcases (by omega : i = 0 ∨ i = 1) with rfl | rfl <;> rfl) (cp - k)
  have HO := Lib.hid (W.c_of (twoS (L.getD (o + k) 0) (L.getD (o + k + 1) 0)) (by show 2 ≤ _; unfold maxLen; omega) w)
  rw [of_two] at HO
  have HB : Hid (((L.getD (o + k) 0).toNat + 256 * (L.getD (o + k + 1) 0).toNat : Nat) = b2 L (o + k)) := Lib.hid rfl
  rw [HB.out] at HO
  have hb := b2_lt L (o + k)
  clear h hl
  generalize twoS (L.getD (o + k) 0) (L.getD (o + k + 1) 0) = s at *
  generalize b2 L (o + k) = v at *
  clear HB
  go_enter Tryz.func104, Tryz.ntmps104
  go_wp2_with (go_at_call 100; refine HO.out.mono ?_; rintro e w' ⟨rfl, hw'⟩; rw [hw']; clear hw' w')
  go_ret
  exact ⟨rfl, rfl⟩
theorem bc_one (l : List UInt8) : ∀ v ∈ Lib.byteCells l, v.oneCell' = true := fun v hv => by
  obtain ⟨x, _, rfl⟩ := List.mem_map.1 hv
  rfl
/-! copy from a string -/
theorem run_copy_str (w : World) (dT sT ty elem : TypeId) (g o dLen dCap : Nat) (s : ByteArray) (L : List UInt8) (t : TypeId)
    (hu : Tryz.prog.underlying dT = some (.slice elem)) (hs : (Tryz.prog.info? elem).map (·.size) = some 1) (hg : w.heap[g]? = some (.cells (bcL L) t (0, 0))) (n : Nat) (hn : n = Nat.min s.size dLen) (hfit : o + n ≤ L.length) :
    (Builtin.copy_ #[dT, sT] ty #[.slice (some ⟨g, o, none⟩) dLen dCap, .string s]).run Tryz.prog w = .ok (goInt n) (w.setRow g (bcL (splice L o (s.data.toList.take n)))) := by
  have hsz : s.data.toList.length = s.size := (Go.Lib.size_eq s).symm
  have hle : n ≤ s.data.toList.length := by rw [hsz, hn]; exact Nat.min_le_left _ _
  have hlen : (Lib.byteCells (s.data.toList.take n)).length = n := by rw [Lib.byteCells_length, List.length_take]; omega
  have hst := run_storeCells_at Tryz.prog g o t (Lib.byteCells (s.data.toList.take n)) 0 (bcL L) w hg (by rw [hlen]; unfold bcL; rw [List.size_toArray, Lib.byteCells_length]; simpa using hfit) (bc_one _)
  have htk : List.take n (List.map (fun b : UInt8 => Value.int IntKind.u8 (b.toNat : Int)) s.data.toList) = Lib.byteCells (s.data.toList.take n) := by
    unfold Lib.byteCells; rw [List.map_take]
  rw [hlen] at hst
  simp only [Nat.add_zero] at hst
  have hrow : ((bcL L).toList.take o ++ Lib.byteCells (s.data.toList.take n) ++ (bcL L).toList.drop (o + n)).toArray = bcL (splice L o (s.data.toList.take n)) := by
    unfold bcL splice
    rw [Lib.byteCells_append, Lib.byteCells_append, List.append_assoc]
    have e : (s.data.toList.take n).length = n := by rw [List.length_take]; omega
    rw [e]
    unfold Lib.byteCells
    simp only [List.map_take, List.map_drop]
  cases hq : Tryz.prog.info? elem with
  | none => simp [hq] at hs
  | some i =>
    simp [Builtin.copy_, run_underlying hu, Builtin.lenOf, Builtin.firstCells, sizeOf, typeInfo, hq, ← hn]
    rw [htk, hst]
    simp only [Result.andThen]
    rw [← hrow]
theorem step_enter {P : Program} {ops : Array Oper} {o : Oper} {a : Act} {w : World} {K : Act → World → Prop} {Q : Exit → Act → World → Prop} {E : Prop} (hg : o.guard = none) (f : FuncId) (args : Array Value) (v : Value) (S : World → Prop)
    (hrun : (execOp a.eval o).run P w = .ok (.enter f args) w) (hc : Calls P f args w fun e w' => e = .returned v ∧ S w') (hK : ∀ w', S w' → K (a.put o.dst v) w') :
    if Region.wanted o (yielded ops a.tmps) = true then Oper.wp P o a w K Q else E := by
  have hw : Region.wanted o (yielded ops a.tmps) = true := by simp [Region.wanted, hg]
  rw [if_pos hw]
  unfold Oper.wp
  rw [hrun]
  refine hc.mono ?_
  rintro e w' ⟨rfl, h⟩
  exact hK w' h
theorem step_copy {ops : Array Oper} {o : Oper} {a : Act} {w : World} {K : Act → World → Prop} {Q : Exit → Act → World → Prop} {E : Prop}
    (hg : o.guard = none) (d x : Operand) (dT sT : TypeId) (hop : o.op = Op.call { callee := Callee.builtin Builtin.copy, args := #[d, x], argTypes := #[dT, sT] }) (v u : Value) (hd : a.eval d = v) (hx : a.eval x = u) {v' : Value} {w' : World}
    (hr : (Builtin.copy_ #[dT, sT] o.type #[v, u]).run Tryz.prog w = .ok v' w') (hK : K (a.put o.dst v') w') :
    if Region.wanted o (yielded ops a.tmps) = true then Oper.wp Tryz.prog o a w K Q else E := by
  have hw : Region.wanted o (yielded ops a.tmps) = true := by simp [Region.wanted, hg]
  rw [if_pos hw]
  unfold Oper.wp
  simp [execOp, hop, resolve, invoke, builtin, hd, hx, hr, Result.andThen]
  exact hK
theorem wpList_copy {ops : Array Oper} {rest : List Oper} {o : Oper} {a : Act} {w : World} {Q : Exit → Act → World → Prop} (hgd : o.guard = none) (d x : Operand) (dT sT : TypeId)
    (hop : o.op = Op.call { callee := Callee.builtin Builtin.copy, args := #[d, x], argTypes := #[dT, sT] }) (v u : Value) (hd : a.eval d = v) (hx : a.eval x = u) {v' : Value} {w' : World}
    (hr : (Builtin.copy_ #[dT, sT] o.type #[v, u]).run Tryz.prog w = .ok v' w') (h : wpList Tryz.prog ops Q rest (a.put o.dst v') w') : wpList Tryz.prog ops Q (o :: rest) a w := by
  refine wpList_plain hgd fun K' hK' => ?_
  unfold Oper.wp
  simp [execOp, hop, resolve, invoke, builtin, hd, hx, hr, Result.andThen]
  exact hK' _ _ h
theorem blk_setRow {w : World} {B : Nat} {cs cs' : Array Value} {T : TypeId} (h : w.heap[B]? = some (.cells cs T)) : (w.setRow B cs').heap[B]? = some (.cells cs' T) := by
  unfold World.setRow; simp only [Array.getElem?_modify, h]; simp
theorem size_setRow8 (w : World) (B : Nat) (cs : Array Value) : (w.setRow B cs).heap.size = w.heap.size := by simp [World.setRow]
theorem ch_setRow {w : World} {F : Nat → Prop} {B : Nat} (hB : F B) (cs : Array Value) : Ch F w (w.setRow B cs) := ⟨rfl, rfl, rfl, Nat.le_of_eq (size_setRow8 _ _ _).symm, fun k _ hk => by
  unfold World.setRow
  simp only [Array.getElem?_modify]
  rw [if_neg (by intro e; exact hk (by rw [← e]; exact hB))]⟩
theorem Own.setRow {w0 w : World} {B : Nat} {cs : Array Value} {T : TypeId} {R : Asn} (h : Own w0 w (Star (blkA B (.cells cs T)) R)) (hR : Stable R) (cs' : Array Value) : Own w0 (w.setRow B cs') (Star (blkA B (.cells cs' T)) R) :=
  h.step hR (fun F hF => ⟨fun x => x = B, ⟨rfl, blk_setRow hF.2⟩, fun x hx => ⟨.inl (by rw [hx]; exact hF.1), by rw [hx, size_setRow8]; exact blk_lt hF.2⟩, ch_setRow hF.1 cs'⟩)
/-- Two bytes put. -/
def put2 (L : List UInt8) (k n : Nat) : List UInt8 := splice L k [UInt8.ofNat (n % 256), UInt8.ofNat (n / 256 % 256)]
theorem splice_len {L X : List UInt8} {k : Nat} (h : k + X.length ≤ L.length) : (splice L k X).length = L.length := by
  unfold splice
  simp only [List.length_append, List.length_take, List.length_drop]
  omega
theorem put2_len {L : List UInt8} {k : Nat} (n : Nat) (h : k + 2 ≤ L.length) : (put2 L k n).length = L.length := splice_len h
theorem bytes_two (n : Nat) (h : n < 65536) : (W.bytesF (n : Int) 2).data.toList = [UInt8.ofNat (n % 256), UInt8.ofNat (n / 256 % 256)] ∧ (W.bytesF (n : Int) 2).size = 2 := by
  have e : W.bytesF (n : Int) 2 = strOfNums [(n : Int) % 256, (n : Int) / 256 % 256] := rfl
  rw [e]
  refine ⟨?_, rfl⟩
  show [UInt8.ofNat ((n : Int) % 256).toNat, UInt8.ofNat ((n : Int) / 256 % 256).toNat] = _
  rw [show ((n : Int) % 256).toNat = n % 256 by omega, show ((n : Int) / 256 % 256).toNat = n / 256 % 256 by omega]
set_option maxHeartbeats 1600000 in
theorem c_putNumber {w0 w : World} {B : Nat} {L : List UInt8} {T : TypeId} {R : Asn} (h : Own w0 w (Star (blkA B (.cells (bcL L) T)) R)) (hs : Stable R) (hl : L.length = 64) (o len cp k n : Nat) (hk : k + 2 ≤ len) (hlc : len ≤ cp) (hc : cp ≤ 64) (hok : o + k + 2 ≤ 64) (hn : n < 65536) :
    Calls Tryz.prog 115 #[.slice (some ⟨B, o, none⟩) len cp, .int .i64 (k : Int), .int .i64 (n : Int)] w fun e w' => e = .returned (.tuple #[]) ∧ Own w0 w' (Star (blkA B (.cells (bcL (put2 L (o + k) n)) T)) R) := by
  have HO := Lib.hid (W.c_bytes (n : Int) 2 ⟨by omega, by omega⟩ w.drew)
  obtain ⟨t1, t2⟩ := bytes_two n hn
  have hst : Stable (Star (blkA B (.cells (bcL L) T)) R) := stable_star (stable_blk _ _) hs
  have HC : Hid (∀ wx, Gr w.drew wx → ∀ cp2, (Builtin.copy_ #[87, 9] 3 #[.slice (some ⟨B, o + k, none⟩) (len - k) cp2, .string (W.bytesF (n : Int) 2)]).run Tryz.prog wx = .ok (goInt 2) (wx.setRow B (bcL (put2 L (o + k) n)))) := Lib.hid (fun wx g cp2 => by
    have := run_copy_str wx 87 9 3 5 B (o + k) (len - k) cp2 (W.bytesF (n : Int) 2) L T Tryz.underlying87 (by kernel_rfl) ((h.drew hst).gr hst g).blk 2 (by rw [t2]; exact (Nat.min_eq_left (by omega)).symm) (by rw [hl]; omega)
    rw [t1] at this
    exact this)
  have HW : Hid (∀ wx, Gr w.drew wx → Own w0 (wx.setRow B (bcL (put2 L (o + k) n))) (Star (blkA B (.cells (bcL (put2 L (o + k) n)) T)) R)) := Lib.hid (fun wx g => ((h.drew hst).gr hst g).setRow hs _)
  clear h hl hst hs t1 t2
  generalize bcL (put2 L (o + k) n) = C at *
  generalize W.bytesF (n : Int) 2 = s at *
  go_enter Tryz.func115, Tryz.ntmps115
  have k1 : IntKind.u64.wrap (n : Int) = n := by rw [IntKind.wrap_u64]; omega
  have k2 : ¬ cp = k := by omega
  have k3 : k ≤ len := by omega
  have k4 : (k : Int) ≤ (len : Int) := by omega
  go_region_law (first
    | ((refine step_enter rfl 128 #[.int .u64 (n : Int), .int .i64 2] (.string s) _ (by kernel_rfl) HO.out ?_); intro w5 g5; have G5 := Lib.hid g5; clear g5)
    | ((refine step_copy rfl _ _ 87 9 rfl (.slice (some ⟨B, o + k, none⟩) (len - k) (cp - k)) (.string s) (by kernel_rfl) (by kernel_rfl) (HC.out _ G5.out _) ?_); have H9 := Lib.hid (HW.out _ G5.out)))
  all_goals
    go_wp2_with fail
    refine bodyPost_end (results_none rfl _ _ _) rfl ?_
    exact ⟨rfl, H9.out⟩
end Go.Proofs.YtlpcccpagmipnaaGreat.P
