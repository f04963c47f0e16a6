/- Stage 8: what VolApart is asked of, opened; a write told by its answer; a row of texts beside a volume. No condition. -/
import Derived.Test.YtlpcccpagmipnaaGreatWY
set_option linter.unusedVariables false
set_option linter.unusedSimpArgs false
set_option maxRecDepth 100000
namespace Go.Proofs.YtlpcccpagmipnaaGreat.P
open Go.RowKit Go.ChangeMaps Go.MapKept
section
open Go.ChangeShapes Go.WideShapes Go.Deep
variable {H : Type} {enc : TypeId × Value → H} {w : World} {base : Nat} {spare : Nat → Bool} {held : Bool}
theorem open_apart {v : Value} {d : DataW H} {ps : List MemPlace} {r : Reach} {b0 : Nat} (hv : Value.okWide Tryz.prog w r b0 67 v) (h : DataW.Trod enc Tryz.prog w base spare held 67 v d ps) (HD : ∀ n ∈ d.weights Tryz.prog 67, n ≤ 140737488351232) :
    ∃ (o : Option Addr) (len cap bl off : Nat) (f : Nat → V8ActV) (an ao : Int) (s : ByteArray), v = .agg #[.slice o len cap, .int .i64 an, .int .i64 ao, .string s] ∧ len * 48 ≤ 140737488351232 ∧ (0 < len → o = some ⟨bl, off, none⟩) ∧ V8Acts w bl off len f ∧ i64 an ∧ i64 ao ∧ s.size ≤ maxLen := by
  obtain ⟨c, rfl, hsz⟩ := okWide_struct Tryz.underlying67 hv
  obtain ⟨fuel, hf⟩ := h
  obtain ⟨ys, n, _, hx, hl, hy, hg⟩ := DataW.trod_struct Tryz.underlying67 hf
  have e0 : Tryz.prog.cellsOf 67 = 4 := by kernel_rfl
  rw [e0] at hl
  have ed := congrArg Prod.fst hx
  dsimp only at ed
  obtain ⟨l⟩ := c
  match l, hl, ys, hy with
  | [x0, x1, x2, x3], _, [y0, y1, y2, y3], _ =>
    have h0 : DataW.trod enc Tryz.prog w base spare held n 22 (([x0, x1, x2, x3].drop 0).take (Tryz.prog.cellsOf 22)) = some y0 := hg 0 _ rfl
    rw [show Tryz.prog.cellsOf 22 = 1 by kernel_rfl] at h0
    change DataW.trod enc Tryz.prog w base spare held n 22 [x0] = some y0 at h0
    have h1 : DataW.trod enc Tryz.prog w base spare held n 3 (([x0, x1, x2, x3].drop 1).take (Tryz.prog.cellsOf 3)) = some y1 := hg 1 _ rfl
    rw [show Tryz.prog.cellsOf 3 = 1 by kernel_rfl] at h1
    change DataW.trod enc Tryz.prog w base spare held n 3 [x1] = some y1 at h1
    have h2 : DataW.trod enc Tryz.prog w base spare held n 3 (([x0, x1, x2, x3].drop 2).take (Tryz.prog.cellsOf 3)) = some y2 := hg 2 _ rfl
    rw [show Tryz.prog.cellsOf 3 = 1 by kernel_rfl] at h2
    change DataW.trod enc Tryz.prog w base spare held n 3 [x2] = some y2 at h2
    have h3 : DataW.trod enc Tryz.prog w base spare held n 9 (([x0, x1, x2, x3].drop 3).take (Tryz.prog.cellsOf 9)) = some y3 := hg 3 _ rfl
    rw [show Tryz.prog.cellsOf 9 = 1 by kernel_rfl] at h3
    change DataW.trod enc Tryz.prog w base spare held n 9 [x3] = some y3 at h3
    have hw : d.weights Tryz.prog 67 = y0.1.weights Tryz.prog 22 ++ (y1.1.weights Tryz.prog 3 ++ (y2.1.weights Tryz.prog 3 ++ (y3.1.weights Tryz.prog 9 ++ []))) := by
      rw [ed]
      simp only [DataW.weights, Tryz.underlying67]
      rfl
    obtain ⟨o, len, cap, rfl, ht⟩ := open_slice_c Tryz.underlying22 h0
    obtain ⟨o2, len2, cap2, bl, off, f, e2, z1, z2, z3⟩ := V8open_acts ⟨o, len, cap, rfl⟩ ht (fun k hk => HD k (by rw [hw]; exact List.mem_append.2 (.inl hk)))
    obtain ⟨a1, q1, _, w1⟩ := DataW.trod_int Tryz.underlying3 h1
    obtain ⟨a2, q2, _, w2⟩ := DataW.trod_int Tryz.underlying3 h2
    obtain ⟨a3, q3, _, w3⟩ := DataW.trod_string Tryz.underlying9 h3
    rw [List.singleton_inj] at q1 q2 q3
    subst q1; subst q2; subst q3
    injection e2 with e3 e4 e5
    subst e3; subst e4; subst e5
    exact ⟨_, _, _, bl, off, f, a1, a2, a3, rfl, z1, fun h => (z2 h).1, z3, wf_i64 w1, wf_i64 w2, w3⟩
end
theorem writeN_no {N : Nat → NodeA} {n : Nat} {full : Bool} {k off : Int} {s : List UInt8} (h : (writeN N n full k off s).1 ≠ 0) : (writeN N n full k off s).2 = N := by
  unfold writeN at h ⊢
  by_cases h1 : findN N k ≠ 0
  · rw [if_pos h1]
  · rw [if_neg h1] at h ⊢
    by_cases h2 : off < 0 ∨ ((N k.toNat).data.length : Int) < off ∨ 512 < s.length
    · rw [if_pos h2]
    · rw [if_neg h2] at h ⊢
      by_cases h3 : 2368 < off + (s.length : Int)
      · rw [if_pos h3]
      · rw [if_neg h3] at h ⊢
        by_cases h4 : full = true
        · rw [if_pos h4]
        · rw [if_neg h4] at h ⊢
          by_cases h5 : roomN N n < (takesN (wrD (N k.toNat).data off.toNat s).length : Int) - (takesN (N k.toNat).data.length : Int)
          · rw [if_pos h5]
          · rw [if_neg h5] at h
            exact absurd rfl h
theorem writeN_ok {N : Nat → NodeA} {n : Nat} {full : Bool} {k off : Int} {s : List UInt8} (h : (writeN N n full k off s).1 = 0) :
    ∃ q p : Nat, k = (q : Int) ∧ q < 32 ∧ ¬ (N q).kind = 0 ∧ off = (p : Int) ∧ p ≤ (N q).data.length ∧ s.length ≤ 512 ∧ p + s.length ≤ 2368 ∧ (writeN N n full k off s).2 = insN N q ⟨(N q).kind, (N q).links, wrD (N q).data p s⟩ := by
  have hf : findN N k = 0 := by
    by_cases h1 : findN N k = 0
    · exact h1
    · unfold writeN at h
      rw [if_pos h1] at h
      exact absurd h h1
  obtain ⟨q, rfl, hq, hkd⟩ := find_zero hf
  unfold writeN at h ⊢
  rw [if_neg (fun e => e hf), Int.toNat_natCast] at h ⊢
  by_cases h2 : off < 0 ∨ ((N q).data.length : Int) < off ∨ 512 < s.length
  · rw [if_pos h2] at h; cases h
  · rw [if_neg h2] at h ⊢
    by_cases h3 : 2368 < off + (s.length : Int)
    · rw [if_pos h3] at h; cases h
    · rw [if_neg h3] at h ⊢
      by_cases h4 : full = true
      · rw [if_pos h4] at h; cases h
      · rw [if_neg h4] at h ⊢
        by_cases h5 : roomN N n < (takesN (wrD (N q).data off.toNat s).length : Int) - (takesN (N q).data.length : Int)
        · rw [if_pos h5] at h; cases h
        · rw [if_neg h5]
          exact ⟨q, off.toNat, rfl, hq, hkd, by omega, by omega, by omega, by omega, rfl⟩
theorem wrD_back {D s : List UInt8} {p : Nat} (h : p ≤ D.length) : ((wrD D p s).drop p).take s.length = s := by
  have e : wrD D p s = D.take p ++ (s ++ D.drop (p + s.length)) := by unfold wrD; rw [List.append_assoc]
  have hl : (D.take p).length = p := by rw [List.length_take]; omega
  rw [e, List.drop_append_of_le_length (by omega), List.drop_of_length_le (by omega), List.nil_append, List.take_append_of_le_length (Nat.le_refl _), List.take_of_length_le (Nat.le_refl _)]
/-- What Read answers of a file, as a text. -/
def rdB (N : Nat → NodeA) (k : Int) : ByteArray := ⟨(readN N k 0 3000).1.toArray⟩
theorem rdB_congr {N N' : Nat → NodeA} {k : Nat} (h : N' k = N k) : rdB N' (k : Int) = rdB N (k : Int) := by
  have hf : findN N' (k : Int) = findN N (k : Int) := by unfold findN; rw [Int.toNat_natCast, h]
  unfold rdB readN
  rw [hf, Int.toNat_natCast, h]
def befL (N : Nat → NodeA) (k : Nat) : List ByteArray := (List.range k).map fun (i : Nat) => rdB N (i : Int)
theorem befL_succ (N : Nat → NodeA) (k : Nat) : strs (befL N (k + 1)) = strs (befL N k) ++ [.string (rdB N (k : Int))] := by
  unfold befL strs; rw [List.range_succ, List.map_append, List.map_append]; rfl
section
variable {w0 w : World} {d n l V m : Nat} {R : Asn} {N : Nat → NodeA}
theorem k_writeX (h : VS w0 d n l V R m N w) (hs : Stable R) (h1 : 16 ≤ n) (h2 : n ≤ 512) (k off : Int) (s : ByteArray) :
    Calls Tryz.prog 36 #[.pointer (some ⟨V, 0, none⟩), .int .i64 k, .int .i64 off, .string s] w fun e w' => ∃ (full : Bool) (m' : Nat), e = .returned (.int .i64 (writeN N n full k off s.data.toList).1) ∧ VS w0 d n l V R m' (writeN N n full k off s.data.toList).2 w' := by
  obtain ⟨z, ml, st, c1, c2, c3, c4, c5⟩ := h
  refine (o_vwrite c3 hs (li_of c1 h1 h2) c2 c4 k off s).mono ?_
  rintro e w' ⟨rfl, st', k1, k2, k3, k4⟩
  exact ⟨_, _, rfl, z, ml, st', c1, k1, k2, k3, Nat.le_refl _⟩
theorem vs_nilrow (h : VS w0 d n l V R m N w) (hs : Stable R) : VS w0 d n l V (Star (rowV (.slice none 0 0) 0 []) R) m N w := by
  obtain ⟨z, ml, st, c1, c2, c3, c4, c5⟩ := h
  have h1 := c3.add (stable_dl _ _ _ _ _ _ (stable_star (stable_blk _ _) hs)) (Gr.refl _) (A := rowV (.slice none 0 0) 0 []) ⟨fun _ => False, ⟨⟨rfl, .inl ⟨rfl, rfl⟩⟩, fun b hb => by cases hb⟩, fun x hx => hx.elim⟩
  exact ⟨z, ml, st, c1, c2, h1.ac (by unfold VL DL; ac_rfl), c4, c5⟩
theorem vs_row {v : Value} {k : Nat} {L : List ByteArray} (h : VS w0 d n l V (Star (rowV v k L) R) m N w) : w.ownsRow 0 9 1 v k (strs L) := by
  obtain ⟨z, ml, st, c1, c2, c3, c4, c5⟩ := h
  exact (c3.ac (by unfold VL DL; ac_rfl) : Own w0 w (Star (rowV v k L) (VL d z l ml st V R))).row
theorem vs_grown {w' : World} {v v' : Value} {k k' g : Nat} {L L' : List ByteArray} (h : VS w0 d n l V (Star (rowV v k L) R) m N w) (hs : Stable R) (ho : w'.ownsRow 0 9 1 v' k' (strs L'))
    (hv : v'.ownBlock = some g) (hg : w.grownBy w' v.ownBlock) (hat : v.ownBlock = some g ∨ w.heap.size ≤ g) (hlt : g < w'.heap.size) : VS w0 d n l V (Star (rowV v' k' L') R) m N w' := by
  obtain ⟨z, ml, st, c1, c2, c3, c4, c5⟩ := h
  have h1 : Own w0 w (Star (rowV v k L) (VL d z l ml st V R)) := c3.ac (by unfold VL DL; ac_rfl)
  have h2 : Own w0 w' (Star (rowV v' k' L') (VL d z l ml st V R)) := h1.grown (stable_dl _ _ _ _ _ _ (stable_star (stable_blk _ _) hs)) ho hv hg hat hlt
  exact ⟨z, ml, st, c1, c2, h2.ac (by unfold VL DL; ac_rfl), c4, c5⟩
end
end Go.Proofs.YtlpcccpagmipnaaGreat.P
