/- Stage 8: the reference's numbers of two bytes. No condition. -/
import Derived.Test.YtlpcccpagmipnaaGreatYH
set_option linter.unusedVariables false
set_option linter.unusedSimpArgs false
set_option maxRecDepth 100000
namespace Go.Proofs.YtlpcccpagmipnaaGreat.P
open Go.RowKit Go.ChangeMaps Go.MapKept
theorem idx_run8 (s : ByteArray) (j : Nat) (i : Int) (hi : i = (j : Int)) (h : j < s.size) (w : World) : (Instr.index 9 (.string s) (.int .i64 i)).run Tryz.prog w = .ok (.int .u8 (byL s.data.toList j : Int)) w := by
  subst hi
  rw [run_index_string w _ _ _ _ Tryz.underlying9, dif_pos ⟨by omega, by omega⟩]
  have hl : j < s.data.toList.length := by rw [toL_size]; exact h
  have e : (s[((j : Int)).toNat]'(by rw [Int.toNat_natCast]; exact h)).toNat = byL s.data.toList j := by
    unfold byL
    rw [List.getD_eq_getElem?_getD, List.getElem?_eq_getElem hl]
    rfl
  rw [e]
def twoN (L : List UInt8) (a : Nat) : Nat := byL L a + 256 * byL L (a + 1)
theorem c_two8 (s : ByteArray) (a : Nat) (h : a + 1 < s.size) (hs : s.size ≤ 1000000) (w : World) : Calls Tryz.prog 95 #[.string s, .int .i64 (a : Int)] w fun e w' => e = .returned (.int .i64 (twoN s.data.toList a : Int)) ∧ Gr w w' := by
  have x0 := idx_run8 s a (a : Int) rfl (by omega)
  have x1 := idx_run8 s (a + 1) ((a : Int) + 1) (by omega) h
  have l0 := byL_lt s.data.toList a
  have l1 := byL_lt s.data.toList (a + 1)
  have e : (twoN s.data.toList a : Int) = (byL s.data.toList a : Int) + 256 * (byL s.data.toList (a + 1) : Int) := by unfold twoN; omega
  have g1 : Gr w (w.drewN 1) := Gr.drewN (Gr.refl _) 1
  rw [e]
  clear e
  generalize byL s.data.toList a = b0 at *
  generalize byL s.data.toList (a + 1) = b1 at *
  have k1 : IntKind.i64.wrap ((a : Int) + 1) = (a : Int) + 1 := by rw [IntKind.wrap_i64]; omega
  have k2 : IntKind.i64.wrap (b0 : Int) = (b0 : Int) := by rw [IntKind.wrap_i64]; omega
  have k3 : IntKind.i64.wrap (b1 : Int) = (b1 : Int) := by rw [IntKind.wrap_i64]; omega
  have k4 : IntKind.i64.wrap (256 * (b1 : Int)) = 256 * (b1 : Int) := by rw [IntKind.wrap_i64]; omega
  have k5 : IntKind.i64.wrap ((b0 : Int) + 256 * (b1 : Int)) = (b0 : Int) + 256 * (b1 : Int) := by rw [IntKind.wrap_i64]; omega
  have HG := Lib.hid g1
  clear g1
  go_enter Tryz.func95, Tryz.ntmps95
  go_upto_region 1 with fail
  go_still_tail 11, (by kernel_rfl)
  go_wp2_with fail
  go_ret
  exact ⟨rfl, HG.out⟩
end Go.Proofs.YtlpcccpagmipnaaGreat.P
namespace Go.Proofs.YtlpcccpagmipnaaGreat.P
open Go.RowKit Go.ChangeMaps Go.MapKept
/-- The home sectors lie there, behind 32 others. -/
def HomeP (w0 : World) (d : Nat) (z : DState) (R : Asn) (e : Ending) (w' : World) : Prop := ∃ g c, e = .returned (.slice (some ⟨g, 32, none⟩) (z.safe.length - 32) c) ∧ (∀ i s, z.safe[32 + i]? = some s → w'.cell? ⟨g, 32 + i, none⟩ = some (.string s)) ∧ Own w0 w' (Star (dsk d z) R)
theorem row_caps {w : World} {b g : Nat} {e : TypeId} {size len cap : Nat} {xs : List Value} (h : w.ownsRow b e size (.slice (some ⟨g, 0, none⟩) len cap) len xs) : len ≤ cap ∧ cap ≤ maxLen := by
  rcases h.2 with ⟨h1, h2⟩ | ⟨g', cap', cur, h1, _, _, h2, h3, _⟩
  · cases h1
  · injection h1 with e1 e2 e3
    subst e3
    exact ⟨h2, h3⟩
set_option maxHeartbeats 1600000 in
theorem c_home8 {w0 w : World} {R : Asn} {d : Nat} {z : DState} (h : Own w0 w (Star (dsk d z) R)) (hs : Stable R) (hz : 33 ≤ z.safe.length) : Calls Tryz.prog 22 #[.pointer (some ⟨d, 0, none⟩)] w (HomeP w0 d z R) := by
  have CI := Lib.hid (o_image h hs)
  unfold ImgO at CI
  have HR : Hid (∀ wx g cap, Own w0 wx (Star (rowA 9 1 (.slice (some ⟨g, 0, none⟩) z.safe.length cap) z.safe.length (strs z.safe)) (Star (dsk d z) R)) → (z.safe.length ≤ cap ∧ cap ≤ maxLen) ∧ (∀ i s, z.safe[32 + i]? = some s → wx.cell? ⟨g, 32 + i, none⟩ = some (.string s)) ∧ Own w0 wx (Star (dsk d z) R)) := Lib.hid (fun wx g cap hw => ⟨row_caps hw.row, fun i s hi => by
    have hl : 32 + i < z.safe.length := (List.getElem?_eq_some_iff.1 hi).1
    rw [World.ownsRow.cellAt hw.row (32 + i) (by omega)]
    unfold strs; rw [List.getElem?_map, hi]; rfl, hw.right⟩)
  clear h
  unfold HomeP
  go_enter Tryz.func22, Tryz.ntmps22
  go_upto_region 2 with (go_at_call 56; refine CI.out.mono ?_; rintro e w1 ⟨g, cap, rfl, h1⟩; have H1 := Lib.hid (HR.out _ _ _ h1); clear h1)
  obtain ⟨⟨k1, k2⟩, _⟩ := H1.out
  generalize hL : z.safe.length = L at *
  have k3 : L ≤ 9223372036854775807 := by unfold maxLen at k2; omega
  have k4 : cap ≤ 9223372036854775807 := by unfold maxLen at k2; omega
  have k5 : ¬ L < 32 := by omega
  have k6 : ¬ 32 = cap := by omega
  have k7 : ¬ cap = 32 := by omega
  go_wp2_with fail
  go_ret
  rw [hL]
  exact ⟨_, _, rfl, H1.out.2.1, H1.out.2.2⟩
end Go.Proofs.YtlpcccpagmipnaaGreat.P
namespace Go.Proofs.YtlpcccpagmipnaaGreat.P
open Go.RowKit Go.ChangeMaps Go.MapKept
/-! a volume's bytes, read -/
def lastX (x : Ino) : Nat := x.pl.getD 5 0
def secsX (V : Nat → List UInt8) (x : Ino) : List Nat := x.pl.take 5 ++ (if 5 < cntN x.size then numK (V (lastX x)) 32 else [])
def badS (n c k v : Nat) : Bool := bif decide (c ≤ k) then !decide (v = 0) else (decide (v < 9) || decide (n ≤ v))
def okX (n : Nat) (x : Ino) : Prop := x.kind ≤ 2 ∧ x.size ≤ 2368 ∧ (cntN x.size ≤ 5 → lastX x = 0) ∧ (5 < cntN x.size → 9 ≤ lastX x ∧ lastX x < n)
def FreeX (x : Ino) : Prop := x.links = 0 ∧ x.size = 0 ∧ x.pl = List.replicate 6 0
def NodeOk (V : Nat → List UInt8) (n : Nat) (x : Ino) : Prop := (x.kind = 0 ∧ FreeX x) ∨ (x.kind ≠ 0 ∧ okX n x ∧ ∀ k, k < (secsX V x).length → badS n (cntN x.size) k ((secsX V x).getD k 0) = false)
def faX (V : Nat → List UInt8) (x : Ino) : FA := if x.kind = 0 then fa0 else ⟨x.kind, x.links, x.size, (secsX V x).take (cntN x.size), lastX x⟩
theorem secsX_len (V : Nat → List UInt8) {x : Ino} (hp : x.pl.length = 6) : (secsX V x).length = if 5 < cntN x.size then 37 else 5 := by
  unfold secsX
  rw [List.length_append, List.length_take, hp]
  by_cases h : 5 < cntN x.size
  · rw [if_pos h, if_pos h, numK_len]; rfl
  · rw [if_neg h, if_neg h]; rfl
theorem badS_lo {n c k v : Nat} (h : c ≤ k) : badS n c k v = false ↔ v = 0 := by
  unfold badS; rw [decide_eq_true h, cond_true]; by_cases e : v = 0 <;> simp [e]
theorem badS_hi {n c k v : Nat} (h : ¬ c ≤ k) : badS n c k v = false ↔ (9 ≤ v ∧ v < n) := by
  unfold badS; rw [decide_eq_false h, cond_false, Bool.or_eq_false_iff, decide_eq_false_iff_not, decide_eq_false_iff_not]; omega
theorem ino_eta' {x y : Ino} (h1 : x.kind = y.kind) (h2 : x.links = y.links) (h3 : x.size = y.size) (h4 : x.pl = y.pl) : x = y := by
  cases x; cases y; simp at *; exact ⟨h1, h2, h3, h4⟩
theorem pl_split {l : List Nat} (h : l.length = 6) : l = l.take 5 ++ [l.getD 5 0] := by
  match l, h with
  | [a, b, c, d, e, f], _ => rfl
theorem ok_fa0 (n : Nat) : fa0.ok n := ⟨by decide, by decide, by decide, by decide, by decide, fun _ => ⟨rfl, rfl⟩, fun o h => by cases h⟩
/-- What is read is a file. -/
theorem node_file {V : Nat → List UInt8} {n : Nat} {x : Ino} (hp : x.pl.length = 6) (hl : x.links ≤ 255) (h : NodeOk V n x) :
    (faX V x).ok n ∧ (faX V x).ino = x ∧ ((faX V x).ind ≠ 0 → numK (V (faX V x).ind) 32 = padN 32 ((faX V x).secs.drop 5)) := by
  rcases h with ⟨h0, h1, h2, h3⟩ | ⟨h0, ⟨k1, k2, k3, k4⟩, hs⟩
  · have hx : x = i0 := ino_eta' h0 h1 h2 h3
    unfold faX; rw [if_pos h0, hx]
    exact ⟨ok_fa0 n, rfl, fun e => absurd rfl e⟩
  · have hL := secsX_len V hp
    have hc := cnt_le37 k2
    have hcl : cntN x.size ≤ (secsX V x).length := by rw [hL]; split <;> omega
    have hz : ∀ j, cntN x.size ≤ j → (secsX V x).getD j 0 = 0 := fun j hj => by
      by_cases e : j < (secsX V x).length
      · exact (badS_lo hj).1 (hs j e)
      · exact getD_none (by omega)
    have hi : ∀ j, j < cntN x.size → 9 ≤ (secsX V x).getD j 0 ∧ (secsX V x).getD j 0 < n := fun j hj => (badS_hi (by omega)).1 (hs j (by omega))
    have ht : ((secsX V x).take (cntN x.size)).length = cntN x.size := by rw [List.length_take]; omega
    have htg : ∀ j, ((secsX V x).take (cntN x.size)).getD j 0 = (secsX V x).getD j 0 := fun j => by
      by_cases e : j < cntN x.size
      · exact getD_take e
      · rw [getD_none (by omega), hz j (by omega)]
    have h5l : (x.pl.take 5).length = 5 := by rw [List.length_take, hp]; rfl
    have hown : ∀ o, o ∈ (secsX V x).take (cntN x.size) → 9 ≤ o ∧ o < n := fun o ho => by
      obtain ⟨j, hj, rfl⟩ := List.mem_iff_getElem.1 ho
      have := hi j (by omega)
      rw [← htg j, List.getD_eq_getElem?_getD, List.getElem?_eq_getElem hj] at this
      exact this
    unfold faX
    rw [if_neg h0]
    refine ⟨⟨k1, hl, k2, ht, ⟨fun e => ?_, fun e => ?_⟩, fun e => absurd e h0, fun o ho => ?_⟩, ino_eta' rfl rfl rfl ?_, fun e => ?_⟩
    · rcases Nat.lt_or_ge 5 (cntN x.size) with h | h
      · exact h
      · exact absurd (k3 h) e
    · have := k4 e; show lastX x ≠ 0; omega
    · unfold FA.own at ho
      rcases List.mem_append.1 ho with h | h
      · exact hown o h
      · by_cases e : lastX x = 0
        · rw [if_pos e] at h; cases h
        · rw [if_neg e] at h
          cases List.mem_singleton.1 h
          rcases Nat.lt_or_ge 5 (cntN x.size) with h5 | h5
          · exact k4 h5
          · exact absurd (k3 h5) e
    · show padN 5 (((secsX V x).take (cntN x.size)).take 5) ++ [lastX x] = x.pl
      refine Eq.trans ?_ (pl_split hp).symm
      refine congrArg (fun l : List Nat => l ++ [lastX x]) ?_
      apply getD_ext
      · rw [padN_len (by rw [List.length_take]; omega), h5l]
      · intro j hj
        rw [padN_len (by rw [List.length_take]; omega)] at hj
        rw [getD_pad, getD_take hj, htg j]
        unfold secsX
        rw [getD_app_left (by omega)]
    · have h5 : 5 < cntN x.size := by
        rcases Nat.lt_or_ge 5 (cntN x.size) with h | h
        · exact h
        · exact absurd (k3 h) e
      show numK (V (lastX x)) 32 = padN 32 (((secsX V x).take (cntN x.size)).drop 5)
      apply getD_ext
      · rw [numK_len, padN_len (by rw [List.length_drop]; omega)]
      · intro j hj
        rw [numK_len] at hj
        rw [getD_pad, getD_drop, htg]
        unfold secsX
        rw [getD_app_right (by omega), h5l, if_pos h5, show 5 + j - 5 = j by omega]
/-- A file is read. -/
theorem file_node {V : Nat → List UInt8} {n : Nat} {a : FA} (ha : a.ok n) (hi : a.ind ≠ 0 → numK (V a.ind) 32 = padN 32 (a.secs.drop 5)) : NodeOk V n a.ino ∧ faX V a.ino = a := by
  have hlast : lastX a.ino = a.ind := FA.ino_five
  have hle : a.secs.length ≤ 37 := by rw [ha.len]; exact cnt_le37 ha.size
  by_cases h0 : a.kind = 0
  · obtain ⟨h1, h2⟩ := ha.free h0
    have h3 : a.secs = [] := by
      have := ha.len; rw [h2] at this; exact List.length_eq_zero_iff.1 this
    have h4 : a.ind = 0 := by
      rcases Nat.eq_zero_or_pos a.ind with e | e
      · exact e
      · have := ha.ind.1 (by omega); rw [h2] at this; exact absurd this (by decide)
    have : a = fa0 := by cases a; simp only at *; subst h0 h1 h2 h3 h4; rfl
    rw [this]
    exact ⟨.inl ⟨rfl, rfl, rfl, rfl⟩, rfl⟩
  · have hsx : secsX V a.ino = if 5 < cntN a.size then padN 37 a.secs else padN 5 a.secs := by
      unfold secsX
      rw [FA.ino_take, hlast]
      show _ ++ (if 5 < cntN a.size then _ else _) = _
      by_cases h5 : 5 < cntN a.size
      · rw [if_pos h5, if_pos h5, hi (ha.ind.2 h5), take_drop_pad _ hle]
      · have hl := ha.len
        rw [if_neg h5, if_neg h5, List.append_nil, List.take_of_length_le (by omega)]
    have hg : ∀ j, (secsX V a.ino).getD j 0 = a.secs.getD j 0 := fun j => by
      rw [hsx]; split <;> exact getD_pad _ _ _
    have hc : cntN (a.ino).size = a.secs.length := ha.len.symm
    have htk : (secsX V a.ino).take (cntN (a.ino).size) = a.secs := by
      apply getD_ext
      · rw [List.length_take, hsx, hc]
        have hl := ha.len
        split
        · rw [padN_len hle]; omega
        · rw [padN_len (by omega)]; omega
      · intro j hj
        rw [List.length_take] at hj
        rw [getD_take (by omega), hg]
    have hne : (a.ino).kind ≠ 0 := h0
    have hind : ∀ h : a.ind ≠ 0, 9 ≤ a.ind ∧ a.ind < n := fun h => ha.inn _ (by unfold FA.own; rw [if_neg h]; exact List.mem_append_right _ (List.mem_singleton.2 rfl))
    refine ⟨.inr ⟨hne, ⟨ha.kind, ha.size, fun e => ?_, fun e => ?_⟩, fun k _ => ?_⟩, ?_⟩
    · rw [hlast]
      rcases Nat.eq_zero_or_pos a.ind with h | h
      · exact h
      · have := ha.ind.1 (by omega)
        have : cntN a.size ≤ 5 := e
        omega
    · rw [hlast]; exact hind (ha.ind.2 e)
    · rw [hg, hc]
      by_cases h : a.secs.length ≤ k
      · rw [badS_lo h]; exact getD_none h
      · rw [badS_hi h]
        exact ha.inn _ (by unfold FA.own; exact List.mem_append_left _ (getD_mem (by omega)))
    · unfold faX
      rw [if_neg hne, htk, hlast]; rfl
theorem NodeOk.or (V : Nat → List UInt8) (n : Nat) (x : Ino) : NodeOk V n x ∨ ¬ NodeOk V n x := Classical.em _
/-- Marked as used, one by one. -/
def markK (U : Nat → Bool) : List Nat → Option (Nat → Bool)
  | [] => some U
  | o :: t => bif U o then none else markK (fun i => decide (i = o) || U i) t
theorem mark_some : ∀ (l : List Nat) (U W : Nat → Bool), markK U l = some W → l.Nodup ∧ (∀ o ∈ l, U o = false) ∧ ∀ i, W i = true ↔ (U i = true ∨ i ∈ l)
  | [], U, W, h => by cases h; exact ⟨List.nodup_nil, fun o h => (by cases h), fun i => by simp⟩
  | o :: t, U, W, h => by
    unfold markK at h
    cases hU : U o with
    | true => rw [hU] at h; cases h
    | false =>
      rw [hU, cond_false] at h
      obtain ⟨h1, h2, h3⟩ := mark_some t _ W h
      have hot : o ∉ t := fun e => by have := h2 o e; simp at this
      refine ⟨List.nodup_cons.2 ⟨hot, h1⟩, fun p hp => ?_, fun i => ?_⟩
      · rcases List.mem_cons.1 hp with rfl | hp
        · exact hU
        · have := h2 p hp
          rw [Bool.or_eq_false_iff] at this
          exact this.2
      · rw [h3 i, List.mem_cons, Bool.or_eq_true, decide_eq_true_eq]
        constructor
        · rintro ((e | e) | e)
          · exact .inr (.inl e)
          · exact .inl e
          · exact .inr (.inr e)
        · rintro (e | e | e)
          · exact .inl (.inr e)
          · exact .inl (.inl e)
          · exact .inr e
theorem mark_ok : ∀ (l : List Nat) (U : Nat → Bool), l.Nodup → (∀ o ∈ l, U o = false) → ∃ W, markK U l = some W
  | [], U, _, _ => ⟨U, rfl⟩
  | o :: t, U, h1, h2 => by
    obtain ⟨h3, h4⟩ := List.nodup_cons.1 h1
    unfold markK
    rw [h2 o (List.mem_cons_self ..), cond_false]
    refine mark_ok t _ h4 fun p hp => ?_
    rw [Bool.or_eq_false_iff, decide_eq_false_iff_not]
    exact ⟨fun e => h3 (e ▸ hp), h2 p (List.mem_cons_of_mem _ hp)⟩
def inoX (V : Nat → List UInt8) (k : Nat) : Ino := toF (V (1 + k / 4)) (k % 4 * 16)
def nif {A : Type} (p : Prop) [Decidable p] (x : Option A) : Option A := if p then x else none
theorem nif_pos {A : Type} {p : Prop} [Decidable p] {x : Option A} (h : p) : nif p x = x := by unfold nif; rw [if_pos h]
theorem nif_neg {A : Type} {p : Prop} [Decidable p] {x : Option A} (h : ¬ p) : nif p x = none := by unfold nif; rw [if_neg h]
instance node_dec (V : Nat → List UInt8) (n : Nat) (x : Ino) : Decidable (NodeOk V n x) := by unfold NodeOk okX FreeX; infer_instance
def ofK (V : Nat → List UInt8) (n : Nat) : Nat → Option (Nat → Bool)
  | 0 => some (fun i => decide (i < 9))
  | k + 1 => (ofK V n k).bind fun U => nif (NodeOk V n (inoX V k)) (markK U (faX V (inoX V k)).own)
def ofN (V : Nat → List UInt8) : Nat → NodeA := fun j => nodA V (faX V (inoX V j))
def OfOk (V : Nat → List UInt8) (n : Nat) : Prop := ∃ U, ofK V n 32 = some U ∧ ∀ i, i < 512 → usedB (V 0) i = U i
theorem ofK_some {V : Nat → List UInt8} {n : Nat} : ∀ k U, ofK V n k = some U → (∀ j, j < k → NodeOk V n (inoX V j) ∧ (faX V (inoX V j)).own.Nodup) ∧ (∀ i j, i < k → j < k → i ≠ j → ∀ o ∈ (faX V (inoX V i)).own, o ∉ (faX V (inoX V j)).own) ∧ ∀ i, U i = true ↔ (i < 9 ∨ ∃ j, j < k ∧ i ∈ (faX V (inoX V j)).own)
  | 0, U, h => by
    cases h
    exact ⟨fun j hj => by omega, fun i j hi => by omega, fun i => by simp⟩
  | k + 1, U, h => by
    unfold ofK at h
    cases hU : ofK V n k with
    | none => rw [hU] at h; cases h
    | some W =>
      rw [hU] at h
      change nif (NodeOk V n (inoX V k)) (markK W (faX V (inoX V k)).own) = some U at h
      by_cases hn : NodeOk V n (inoX V k)
      · rw [nif_pos hn] at h
        obtain ⟨a1, a2, a3⟩ := ofK_some k W hU
        obtain ⟨b1, b2, b3⟩ := mark_some _ _ _ h
        have hd : ∀ j, j < k → ∀ o ∈ (faX V (inoX V j)).own, o ∉ (faX V (inoX V k)).own := fun j hj o ho hk => by
          have := b2 o hk
          rw [(a3 o).2 (.inr ⟨j, hj, ho⟩)] at this
          cases this
        refine ⟨fun j hj => ?_, fun i j hi hj hij o ho => ?_, fun i => ?_⟩
        · by_cases e : j = k
          · rw [e]; exact ⟨hn, b1⟩
          · exact a1 j (by omega)
        · by_cases e : i = k
          · subst e
            exact fun h2 => hd j (by omega) o h2 ho
          · by_cases e2 : j = k
            · subst e2; exact hd i (by omega) o ho
            · exact a2 i j (by omega) (by omega) hij o ho
        · rw [b3 i, a3 i]
          constructor
          · rintro ((e | ⟨j, hj, e⟩) | e)
            · exact .inl e
            · exact .inr ⟨j, by omega, e⟩
            · exact .inr ⟨k, by omega, e⟩
          · rintro (e | ⟨j, hj, e⟩)
            · exact .inl (.inl e)
            · by_cases e2 : j = k
              · subst e2; exact .inr e
              · exact .inl (.inr ⟨j, by omega, e⟩)
      · rw [nif_neg hn] at h; cases h
theorem inoX_len (V : Nat → List UInt8) (k : Nat) : (inoX V k).pl.length = 6 := toPl_len _ _ _
theorem inoX_links (V : Nat → List UInt8) (k : Nat) : (inoX V k).links ≤ 255 := by
  have := byL_lt (V (1 + k / 4)) (k % 4 * 16 + 1)
  show byL _ _ ≤ 255
  omega
/-- What is read whole is a volume. -/
theorem of_vol {V : Nat → List UInt8} {n : Nat} (hlen : ∀ i, i < n → (V i).length = 64) (h : OfOk V n) : IsVol V n (ofN V) := by
  obtain ⟨U, hU, hm⟩ := h
  obtain ⟨a1, a2, a3⟩ := ofK_some 32 U hU
  have hf := fun k (hk : k < 32) => node_file (V := V) (n := n) (inoX_len V k) (inoX_links V k) (a1 k hk).1
  refine ⟨fun k => faX V (inoX V k), ⟨hlen, fun k hk => (hf k hk).1, fun k hk => (hf k hk).2.1.symm, fun k hk => (hf k hk).2.2, fun k hk => (a1 k hk).2, a2, fun i hi => ?_⟩, fun k _ => rfl⟩
  rw [hm i hi, a3 i]
/-- A volume is read whole. -/
theorem vol_of {V : Nat → List UInt8} {n : Nat} {N : Nat → NodeA} (h : IsVol V n N) : OfOk V n ∧ ∀ k, k < 32 → N k = ofN V k := by
  obtain ⟨S, hr, hN⟩ := h
  have hx : ∀ k, k < 32 → NodeOk V n (inoX V k) ∧ faX V (inoX V k) = S k := fun k hk => by
    have e : inoX V k = (S k).ino := hr.ino k hk
    rw [e]
    exact file_node (hr.ok k hk) (hr.ind k hk)
  have ho : ∀ k, k ≤ 32 → ∃ U, ofK V n k = some U := by
    intro k
    induction k with
    | zero => exact fun _ => ⟨_, rfl⟩
    | succ k ih =>
      intro hk
      obtain ⟨U, hU⟩ := ih (by omega)
      obtain ⟨a1, a2, a3⟩ := ofK_some k U hU
      unfold ofK
      rw [hU]
      show ∃ U2, nif (NodeOk V n (inoX V k)) (markK U (faX V (inoX V k)).own) = some U2
      rw [nif_pos (hx k (by omega)).1]
      refine mark_ok _ _ (by rw [(hx k (by omega)).2]; exact hr.nodup k (by omega)) fun o ho => ?_
      rw [(hx k (by omega)).2] at ho
      cases e : U o with
      | false => rfl
      | true =>
        rcases (a3 o).1 e with h9 | ⟨j, hj, hjo⟩
        · have := (hr.ok k (by omega)).inn o ho; omega
        · rw [(hx j (by omega)).2] at hjo
          exact absurd ho (hr.apart j k (by omega) (by omega) (by omega) o hjo)
  obtain ⟨U, hU⟩ := ho 32 (Nat.le_refl _)
  obtain ⟨a1, a2, a3⟩ := ofK_some 32 U hU
  refine ⟨⟨U, hU, fun i hi => ?_⟩, fun k hk => ?_⟩
  · rw [Bool.eq_iff_iff, hr.map i hi, a3 i]
    constructor
    · rintro (e | ⟨j, hj, e⟩)
      · exact .inl e
      · exact .inr ⟨j, hj, by rw [(hx j hj).2]; exact e⟩
    · rintro (e | ⟨j, hj, e⟩)
      · exact .inl e
      · exact .inr ⟨j, hj, by rw [(hx j hj).2] at e; exact e⟩
  · rw [hN k hk]
    unfold ofN
    rw [(hx k hk).2]
theorem ofK_none {V : Nat → List UInt8} {n : Nat} {k : Nat} (h : ofK V n k = none) : ∀ m, k ≤ m → ofK V n m = none := by
  intro m hm
  induction m with
  | zero => obtain rfl : k = 0 := by omega
            exact h
  | succ m ih =>
    by_cases e : k = m + 1
    · rw [← e]; exact h
    · unfold ofK; rw [ih (by omega)]; rfl
theorem not_of {V : Nat → List UInt8} {n : Nat} {k : Nat} (hk : k ≤ 32) (h : ofK V n k = none) : ¬ OfOk V n := fun ⟨U, hU, _⟩ => by
  rw [ofK_none h 32 hk] at hU; cases hU
theorem ofK_bad {V : Nat → List UInt8} {n : Nat} {k : Nat} (h : ¬ NodeOk V n (inoX V k)) : ofK V n (k + 1) = none := by
  unfold ofK
  cases ofK V n k with
  | none => rfl
  | some U => exact nif_neg h
theorem ofK_good {V : Nat → List UInt8} {n : Nat} {k : Nat} {U : Nat → Bool} (hU : ofK V n k = some U) (h : NodeOk V n (inoX V k)) : ofK V n (k + 1) = markK U (faX V (inoX V k)).own := by
  unfold ofK
  rw [hU]
  exact nif_pos h
end Go.Proofs.YtlpcccpagmipnaaGreat.P
namespace Go.Proofs.YtlpcccpagmipnaaGreat.P
open Go.RowKit Go.ChangeMaps Go.MapKept
theorem ref_size {cs : Array Value} {N : Nat → NodeA} (h : RefOk cs N) : 96 ≤ cs.size := by
  have := (h 31 (by omega)).2.2
  exact Nat.le_of_not_lt fun e => by rw [Array.getElem?_eq_none (by omega)] at this; cases this
theorem ref_cell {cs : Array Value} {N : Nat → NodeA} (h : RefOk cs N) {j : Nat} (hj : j < 96) : ∃ u, cs[j]? = some u ∧ u.oneCell' = true := by
  obtain ⟨q, hq⟩ : ∃ q, q = j / 3 := ⟨_, rfl⟩
  obtain ⟨a1, a2, a3⟩ := h q (by omega)
  rcases (by omega : j = q * 3 ∨ j = q * 3 + 1 ∨ j = q * 3 + 2) with rfl | rfl | rfl
  · exact ⟨_, a1, rfl⟩
  · exact ⟨_, a2, rfl⟩
  · exact ⟨_, a3, rfl⟩
theorem ref_news {cs : Array Value} {N : Nat → NodeA} (h : RefOk cs N) : (cs.toList.take 96).length = 32 * 3 ∧ ∀ u ∈ cs.toList.take 96, u.oneCell' = true := by
  have hl := ref_size h
  refine ⟨by rw [List.length_take, Array.length_toList]; omega, fun u hu => ?_⟩
  obtain ⟨j, hj, rfl⟩ := List.mem_iff_getElem.1 hu
  have hj2 : j < 96 := by rw [List.length_take] at hj; omega
  obtain ⟨v, hv, h1⟩ := ref_cell h hj2
  rw [List.getElem_take]
  have e : cs.toList[j]? = some v := by rw [Array.getElem?_toList]; exact hv
  rw [List.getElem?_eq_getElem (by rw [Array.length_toList]; omega)] at e
  injection e with e
  rw [e]; exact h1
theorem ref_pre {cs cs2 : Array Value} {N : Nat → NodeA} (h : RefOk cs N) (e : cs2.toList.take 96 = cs.toList.take 96) : RefOk cs2 N := by
  have hx : ∀ j, j < 96 → cs2[j]? = cs[j]? := fun j hj => by
    have h1 : (cs2.toList.take 96)[j]? = (cs.toList.take 96)[j]? := by rw [e]
    rw [List.getElem?_take_of_lt hj, List.getElem?_take_of_lt hj, Array.getElem?_toList, Array.getElem?_toList] at h1
    exact h1
  intro q hq
  obtain ⟨a1, a2, a3⟩ := h q hq
  exact ⟨by rw [hx _ (by omega)]; exact a1, by rw [hx _ (by omega)]; exact a2, by rw [hx _ (by omega)]; exact a3⟩
theorem row_of_nil8 {w0 w : World} {R : Asn} (h : Own w0 w R) (hs : Stable R) (T : TypeId) (sz : Nat) : Own w0 w (Star (rowA T sz (.slice none 0 0) 0 []) R) :=
  h.add hs (Gr.refl _) ⟨fun _ => False, ⟨⟨by simp, .inl ⟨rfl, rfl⟩⟩, fun b hb => by cases hb⟩, fun x hx => hx.elim⟩
theorem blk_of_row8 {w0 w : World} {R : Asn} {T : TypeId} {g n c sz : Nat} {xs : List Value} (h : Own w0 w (Star (rowA T sz (.slice (some ⟨g, 0, none⟩) n c) n xs) R)) : ∃ cur, cur.toList.take (n * sz) = xs ∧ Own w0 w (Star (blkA g (.cells cur T)) R) := by
  rcases h.row.2 with ⟨h1, h2⟩ | ⟨g', cap', cur, h1, _, h2, _, _, _, h3⟩
  · cases h1
  · injection h1 with e1 e2 e3
    injection e1 with e1
    injection e1 with e1
    subst e1
    exact ⟨cur, h3, h.conv fun F hF => ⟨hF.2 g rfl, h2⟩⟩
theorem vol8_half (n : Nat) : Tryz.prog.built 102 [(0, .int .i64 (n : Int))] = some #[.int .i64 (n : Int), .slice none 0 0] := by kernel_rfl
section
variable {w0 w : World} {r g c n : Nat} {N : Nat → NodeA} {R : Asn}
set_option maxHeartbeats 1600000 in
theorem r_copy {cs : Array Value} (hc : RefOk cs N) (h : Own w0 w (Star (rfA r g c n) (Star (rnA g cs) R))) (hs : Stable R) : Calls Tryz.prog 17 #[.pointer (some ⟨r, 0, none⟩)] w fun e w' => ∃ r2 g2 c2 cs2, e = .returned (.pointer (some ⟨r2, 0, none⟩)) ∧ RefOk cs2 N ∧ Own w0 w' (Star (rfA r2 g2 c2 n) (Star (rnA g2 cs2) (Star (rfA r g c n) (Star (rnA g cs) R)))) := by
  obtain ⟨i0, hi0, hz0, hz1, hz2⟩ := info_parts nodeInfo
  obtain ⟨hn1, hn2⟩ := ref_news hc
  have hst := stable_rf r g c n cs hs
  have cr0 := blk_cell h.blk 0 (v := .int .i64 (n : Int)) rfl
  have h1 := h.alloc hst (.cells #[.int .i64 (n : Int), .slice none 0 0] 102)
  have hbt := vol8_half n
  have h2 := row_of_nil8 (h1.drew (stable_star (stable_blk _ _) hst)) (stable_star (stable_blk _ _) hst) 110 3
  have hB : (w.alloc (.cells #[.int .i64 (n : Int), .slice none 0 0] 102)).heap.size = w.heap.size + 1 := by simp
  have HREF := Lib.hid hc
  have HN1 := Lib.hid hn1
  have HN2 := Lib.hid hn2
  clear h hc hn1 hn2
  generalize hw1 : w.alloc (.cells #[.int .i64 (n : Int), .slice none 0 0] 102) = w1 at *
  have HNEW : Hid (∀ j u, (cs.toList.take 96)[j]? = some u → w1.drew.cell? ((⟨g, 0, none⟩ : Addr).add j) = some u) := Lib.hid (fun j u hu => World.news_of_block (cs := cs) (h1.drew (stable_star (stable_blk _ _) hst)).right.right.blk j u (by
    rw [List.getElem?_take] at hu
    split at hu
    · exact hu
    · cases hu))
  have HH := Lib.hid h2
  have HST := Lib.hid (stable_star (stable_blk w.heap.size (.cells #[.int .i64 (n : Int), .slice none 0 0] 102)) hst)
  have HST2 := Lib.hid hst
  have HW : Hid (w1.drew.heap.size = w.heap.size + 1) := Lib.hid hB
  have c1 := blk_cell h2.right.blk 1 (v := .slice none 0 0) rfl
  have c2 := blk_cell h2.right.right.blk 1 (v := .slice (some ⟨g, 0, none⟩) 32 c) rfl
  clear h1 h2 hB hst hs
  go_enter Tryz.func17, Tryz.ntmps17
  go_upto_region 2 with fail
  clear hw1 cr0 hbt
  generalize w.heap.size = B at *
  go_region_law (refine step_append_lies _ rfl _ _ 100 rfl 0 110 i0 (.agg (nodeC node0)) 3 32 Tryz.underlying100 hi0 hz0 hz1 hz2 rfl (by decide) (.slice none 0 0) 0 [] (by kernel_rfl) (World.ownsRow_nil _ _ _ _) ⟨g, 0, none⟩ 32 c (cs.toList.take 96) (by kernel_rfl) HN1.out HNEW.out HN2.out (by omega) (by unfold maxLen; omega) (by omega) (by omega) (B + 1) HW.out ?_; intro g2 cap2 w8 hown8 hgrow8 hat8 hlt8; have H9 := Lib.hid (HH.out.grown (v' := .slice (some ⟨g2, 0, none⟩) 32 cap2) (n' := 32) (ys := cs.toList.take 96) (g := g2) HST.out hown8 rfl hgrow8 (hat8.elim (fun e => by cases e) (fun e => .inr (by rw [HW.out, e]; exact Nat.le_refl _))) hlt8); have c8 := blk_cell H9.out.right.blk 1 (v := .slice none 0 0) rfl; have z8 := blk_frozen H9.out.right.blk 1; clear hown8 hgrow8 hat8 hlt8)
  all_goals
    have H10 := Lib.hid (H9.out.swap2.put8 (stable_star (stable_row _ _ _ _ _) HST2.out) 1 (.slice (some ⟨g2, 0, none⟩) 32 cap2) #[.int .i64 (n : Int), .slice (some ⟨g2, 0, none⟩) 32 cap2] rfl)
    go_wp2_with fail
    go_ret
    obtain ⟨cur, hcur, h11⟩ := blk_of_row8 H10.out.swap2
    exact ⟨_, _, _, cur, rfl, ref_pre HREF.out hcur, h11.swap2⟩
end
/-! two volumes compared -/
theorem str_self (s : ByteArray) (d : Nat) (w : World) : (Op.equalIn (d + 1) 9 (.string s) (.string s)).run Tryz.prog w = .ok true w := by
  simp [Op.equalIn, Sem.run_bind, run_underlying Tryz.underlying9]
  exact beq_self_eq_true s.data
theorem eqN_self (x : NodeA) (w : World) : (Op.equalIn 10000 110 (.agg (nodeC x)) (.agg (nodeC x))).run Tryz.prog w = .ok true w := by
  have h1 : Tryz.prog.stoodInHeld 110 = false := by kernel_rfl
  have p0 : (part 3 (nodeC x) 0).run Tryz.prog w = .ok (.int .i64 (x.kind : Int)) w := run_part_plain w (by kernel_rfl) rfl
  have p1 : (part 3 (nodeC x) 1).run Tryz.prog w = .ok (.int .i64 (x.links : Int)) w := run_part_plain w (by kernel_rfl) rfl
  have p2 : (part 9 (nodeC x) 2).run Tryz.prog w = .ok (.string ⟨x.data.toArray⟩) w := run_part_plain w (by kernel_rfl) rfl
  have e0 := int_eq (x.kind : Int) (x.kind : Int) 9998 w
  have e1 := int_eq (x.links : Int) (x.links : Int) 9998 w
  have e2 := str_self ⟨x.data.toArray⟩ 9998 w
  rw [beq_self_eq_true] at e0 e1
  generalize nodeC x = X at *
  generalize (x.kind : Int) = a at *
  generalize (x.links : Int) = b at *
  generalize (⟨x.data.toArray⟩ : ByteArray) = s at *
  unfold Op.equalIn
  simp [Sem.run_bind, run_underlying Tryz.underlying110, h1, p0, p1, p2, e0, e1, e2]
set_option maxHeartbeats 1600000 in
theorem c_same8R {w : World} {r1 g1 c1 r2 g2 c2 n : Nat} {N M : Nat → NodeA} (h1 : RefAt w r1 g1 c1 n N) (h2 : RefAt w r2 g2 c2 n M) (he : ∀ q, q < 32 → N q = M q) : Calls Tryz.prog 23 #[.pointer (some ⟨r1, 0, none⟩), .pointer (some ⟨r2, 0, none⟩)] w fun e w' => e = .returned (.bool true) ∧ Gr w w' := by
  have H1 := Lib.hid h1
  have H2 := Lib.hid h2
  have HE := Lib.hid he
  clear h1 h2 he
  go_enter Tryz.func23, Tryz.ntmps23
  go_wp2_with fail
  go_loopw [5] (fun v wl => ∃ j : Nat, j ≤ 32 ∧ v = .int .i64 (j : Int) ∧ Gr w wl) (fun v _ => 32 - (intOf v).toNat)
  case atStart => exact ⟨0, Nat.zero_le _, rfl, Gr.refl _⟩
  case round =>
    obtain ⟨j, hj, rfl, hg⟩ := hrel
    have HG := Lib.hid hg
    clear hg
    by_cases hlt : j < 32
    · have dj : decide (j < 32) = true := decide_eq_true hlt
      have dj2 : decide ((j : Int) < 32) = true := decide_eq_true (by omega)
      have hq1 : (j : Int) < 32 := by omega
      have k1 := H1.out.gr HG.out
      have k2 := H2.out.gr HG.out
      have a0 := k1.row
      have b0 := k2.row
      obtain ⟨a1, a2, a3⟩ := k1.node j hlt
      obtain ⟨b1, b2, b3⟩ := k2.node j hlt
      rw [← HE.out j hlt] at b1 b2 b3
      have HQ := Lib.hid (fun wx => eqN_self (N j) wx)
      clear k1 k2
      go_upto_region 4 with fail
      go_quiet (fail)
      go_wp2_with fail
      go_roundw
      case rel => exact ⟨j + 1, by omega, by go_num, gtrans HG.out (Gr.drewN (Gr.refl _) _)⟩
      case measure => simp [intOf]; omega
    · obtain rfl : j = 32 := by omega
      have k1 := (H1.out.gr HG.out).home
      have k2 := (H2.out.gr HG.out).home
      go_upto_region 6 with fail
      go_quiet (fail)
      go_wp2_with fail
      go_ret
      exact ⟨rfl, gtrans HG.out (Gr.drewN (Gr.refl _) _)⟩
end Go.Proofs.YtlpcccpagmipnaaGreat.P
namespace Go.Proofs.YtlpcccpagmipnaaGreat.P
open Go.RowKit Go.ChangeMaps Go.MapKept
/-! an inode's bytes -/
theorem toF_shift (M : List UInt8) (o : Nat) : toF M o = toF ((M.drop o).take 16) 0 := by
  have hb : ∀ j, j < 16 → byL ((M.drop o).take 16) j = byL M (o + j) := fun j hj => by rw [byL_take hj, byL_drop]
  have h2 : ∀ j, j + 1 < 16 → b2 ((M.drop o).take 16) j = b2 M (o + j) := fun j hj => by unfold b2; rw [hb j (by omega), hb (j + 1) hj]; rfl
  refine ino_eta' ?_ ?_ ?_ ?_
  · exact (hb 0 (by omega)).symm
  · exact (hb 1 (by omega)).symm
  · exact (h2 2 (by omega)).symm
  · show toPl _ _ _ = toPl _ _ _
    unfold toPl
    apply List.map_congr_left
    intro j hj
    rw [List.mem_range] at hj
    rw [Nat.zero_add]
    exact (h2 _ (by omega)).symm
theorem toF_last (L : List UInt8) : lastX (toF L 0) = b2 L 14 := rfl
theorem toF_take5 (L : List UInt8) : (toF L 0).pl.take 5 = toPl L 0 5 := rfl
theorem b2_zero {L : List UInt8} {k : Nat} (h : b2 L k = 0) : byL L k = 0 ∧ byL L (k + 1) = 0 := by unfold b2 at h; omega
theorem free_iff {L : List UInt8} (hl : L.length = 16) : L = List.replicate 16 0 ↔ ((toF L 0).kind = 0 ∧ FreeX (toF L 0)) := by
  constructor
  · intro h
    rw [h]
    exact ⟨rfl, rfl, rfl, rfl⟩
  · rintro ⟨h0, h1, h2, h3⟩
    have e0 : byL L 0 = 0 := h0
    have e1 : byL L 1 = 0 := h1
    obtain ⟨e2, e3⟩ := b2_zero (h2 : b2 L 2 = 0)
    have hp : ∀ j, j < 6 → b2 L (4 + 2 * j) = 0 := fun j hj => by
      have h4 : (toPl L 0 6).getD j 0 = (List.replicate 6 0).getD j 0 := by rw [show toPl L 0 6 = _ from h3]
      unfold toPl at h4
      rw [List.getD_eq_getElem?_getD, List.getElem?_map, List.getElem?_range hj, List.getD_eq_getElem?_getD, List.getElem?_replicate, if_pos hj] at h4
      simpa using h4
    refine byL_ext (by rw [hl, List.length_replicate]) fun j hj => ?_
    rw [hl] at hj
    have hz : byL (List.replicate 16 (0 : UInt8)) j = 0 := by
      unfold byL
      rw [List.getD_eq_getElem?_getD, List.getElem?_replicate, if_pos hj]; rfl
    rw [hz]
    by_cases h4 : j < 4
    · rcases (by omega : j = 0 ∨ j = 1 ∨ j = 2 ∨ j = 3) with rfl | rfl | rfl | rfl
      · exact e0
      · exact e1
      · exact e2
      · exact e3
    · obtain ⟨p1, p2⟩ := b2_zero (hp ((j - 4) / 2) (by omega))
      rcases (by omega : j = 4 + 2 * ((j - 4) / 2) ∨ j = 4 + 2 * ((j - 4) / 2) + 1) with e | e
      · rw [e]; exact p1
      · rw [e]; exact p2
/-- Sectors, one behind the other. -/
def catS (V : Nat → List UInt8) (l : List Nat) : Nat → List UInt8
  | 0 => []
  | k + 1 => catS V l k ++ V (l.getD k 0)
theorem cat_len {V : Nat → List UInt8} {l : List Nat} : ∀ k, (∀ j, j < k → (V (l.getD j 0)).length = 64) → (catS V l k).length = 64 * k
  | 0, _ => rfl
  | k + 1, h => by
    show (catS V l k ++ V (l.getD k 0)).length = _
    rw [List.length_append, cat_len k (fun j hj => h j (by omega)), h k (by omega)]; omega
theorem cat_at {V : Nat → List UInt8} {l : List Nat} : ∀ k, (∀ j, j < k → (V (l.getD j 0)).length = 64) → ∀ i, i < 64 * k → byL (catS V l k) i = byL (V (l.getD (i / 64) 0)) (i % 64)
  | 0, _, i, hi => by omega
  | k + 1, h, i, hi => by
    have hc := cat_len (V := V) (l := l) k (fun j hj => h j (by omega))
    show byL (catS V l k ++ V (l.getD k 0)) i = _
    by_cases e : i < 64 * k
    · rw [byL_app_left (by omega), cat_at k (fun j hj => h j (by omega)) i e]
    · rw [byL_app_right (by omega), hc, show i / 64 = k by omega, show i % 64 = i - 64 * k by omega]
theorem cat_data {V : Nat → List UInt8} {x : Ino} (h0 : x.kind ≠ 0) (hl : cntN x.size ≤ (secsX V x).length) (hV : ∀ j, j < cntN x.size → (V ((secsX V x).getD j 0)).length = 64) : (catS V (secsX V x) (cntN x.size)).take x.size = datA V (faX V x) := by
  have hc := cat_len (V := V) (l := secsX V x) (cntN x.size) hV
  have hs : x.size ≤ 64 * cntN x.size := by unfold cntN; omega
  have hfs : (faX V x).size = x.size := by unfold faX; rw [if_neg h0]
  have hfl : (faX V x).secs = (secsX V x).take (cntN x.size) := by unfold faX; rw [if_neg h0]
  have hdl : (datA V (faX V x)).length = x.size := by unfold datA; rw [List.length_map, List.length_range, hfs]
  refine byL_ext (by rw [List.length_take, hdl]; omega) fun j hj => ?_
  have hj2 : j < x.size := by rw [List.length_take] at hj; omega
  rw [byL_take hj2, cat_at _ hV j (by omega)]
  have hq : j / 64 < cntN x.size := by unfold cntN; omega
  rw [byL_datA V (faX V x) (by rw [hfs]; exact hj2), hfl, getD_take hq]
theorem faX_own {V : Nat → List UInt8} {n : Nat} {x : Ino} (h0 : x.kind ≠ 0) (hx : okX n x) : (faX V x).own = (secsX V x).take (cntN x.size) ++ (if 5 < cntN x.size then [lastX x] else []) := by
  obtain ⟨k1, k2, k3, k4⟩ := hx
  unfold faX FA.own
  rw [if_neg h0]
  show _ ++ (if lastX x = 0 then [] else [lastX x]) = _
  by_cases h : 5 < cntN x.size
  · rw [if_pos h, if_neg (by have := k4 h; omega)]
  · rw [if_neg h, if_pos (k3 (by omega))]
theorem res_ctt {fn : Func} {p u t : Tmp} {ty : TypeId} (h : fn.results = #[.cell p ty, .tmp u, .tmp t]) {tmps : Array Value} {P : Program} {w : World} {g : Nat} {v : Value}
    (hp : tmps.getD p undef = .pointer (some ⟨g, 0, none⟩)) (hld : (loadVar ty ⟨g, 0, none⟩).run P w = .ok v w) :
    (results fn tmps).run P w = .ok (.tuple #[v, tmps.getD u undef, tmps.getD t undef]) w := by
  have hp' : tmps[p]?.getD undef = .pointer (some ⟨g, 0, none⟩) := by simpa using hp
  simp [results, h, hp', asAddr, hld]
theorem node_zero (w : World) : (zeroValue 110).run Tryz.prog w = .ok (.agg (nodeC node0)) w := Tryz.zeroValue110 w
theorem node_infoX (x : NodeA) : (Tryz.prog.info? 110).map (·.size) = some (nodeC x).size := by
  show _ = some 3
  kernel_rfl
theorem ld_node {w : World} {g : Nat} {C : Array Value} {t : TypeId} (h : w.heap[g]? = some (.cells C t)) (hi : (Tryz.prog.info? 110).map (·.size) = some C.size) : (loadVar 110 ⟨g, 0, none⟩).run Tryz.prog w = .ok (.agg C) w := run_loadVar_row w g t 110 C (0, 0) _ h Tryz.underlying110 rfl hi
theorem built_nodeX (kd lk : Nat) (s : ByteArray) : Tryz.prog.built 110 [(0, .int .i64 (kd : Int)), (1, .int .i64 (lk : Int)), (2, .string s)] = some #[.int .i64 (kd : Int), .int .i64 (lk : Int), .string s] := by kernel_rfl
/-- The home sectors lie there. -/
structure HomeAt (w : World) (g b n : Nat) (H : Nat → ByteArray) : Prop where
  cell : ∀ i, i < n → w.cell? ⟨g, b + i, none⟩ = some (.string (H i))
theorem HomeAt.gr {w w' : World} {g b n : Nat} {H : Nat → ByteArray} (h : HomeAt w g b n H) (gr : Gr w w') : HomeAt w' g b n H := ⟨fun i hi => kcell gr (h.cell i hi)⟩
def vH (H : Nat → ByteArray) : Nat → List UInt8 := fun i => (H i).data.toList
abbrev ndA (B : Nat) (x : NodeA) : Asn := blkA B (.cells (nodeC x) 110)
abbrev rowN (v : Value) (l : List Nat) : Asn := rowA 3 1 v l.length (nums l)
def NodeP (w : World) (V : Nat → List UInt8) (n : Nat) (x : Ino) (e : Ending) (w' : World) : Prop :=
  (NodeOk V n x ∧ ∃ o c, e = .returned (.tuple #[.agg (nodeC (nodA V (faX V x))), .slice o (faX V x).own.length c, .bool true]) ∧ Own w w' (Star (rowN (.slice o (faX V x).own.length c) (faX V x).own) emp)) ∨
  (¬ NodeOk V n x ∧ e = .returned (.tuple #[.agg (nodeC node0), .slice none 0 0, .bool false]) ∧ Gr w w')
theorem bs_eq (s t : ByteArray) : (s == t) = decide (s = t) := by
  have h : (s == t) = (s.data == t.data) := rfl
  rw [h, Bool.eq_iff_iff, beq_iff_eq, decide_eq_true_eq]
  constructor
  · intro e; cases s; cases t; simp at e; rw [e]
  · intro e; rw [e]
def z16 : ByteArray := ⟨(List.replicate 16 (0 : UInt8)).toArray⟩
theorem setRow_self8 {w : World} {B : Nat} {cs : Array Value} {T : TypeId} (h : w.heap[B]? = some (.cells cs T)) : w.setRow B cs = w := by
  have e : (w.setRow B cs).heap = w.heap := by
    apply Array.ext_getElem?
    intro i
    by_cases hi : i = B
    · rw [hi, h]; exact setRow_heap w B cs cs T (0, 0) h
    · unfold World.setRow
      dsimp only
      rw [Array.getElem?_modify, if_neg (fun e => hi e.symm)]
  have e2 : w.setRow B cs = { w with heap := (w.setRow B cs).heap } := rfl
  rw [e2, e]
theorem toL_beq (s t : ByteArray) : (s.toList == t.toList) = decide (s = t) := by
  rw [Bool.eq_iff_iff, beq_iff_eq, decide_eq_true_eq, Go.ByteArray.toList_eq, Go.ByteArray.toList_eq]
  exact ⟨fun e => arr_eta e, fun e => by rw [e]⟩
set_option maxHeartbeats 3200000 in
theorem c_node8a {w : World} {g b n : Nat} {H : Nat → ByteArray} (cp : Nat) (s : ByteArray) (hs : s.size = 16) (h0 : byL s.data.toList 0 = 0) : Calls Tryz.prog 55 #[.slice (some ⟨g, b, none⟩) n cp, .string s] w (NodeP w (vH H) n (toF s.data.toList 0)) := by
  have hl : s.data.toList.length = 16 := by rw [toL_size, hs]
  have hk0 : (toF s.data.toList 0).kind = 0 := h0
  have HOK : Hid (NodeOk (vH H) n (toF s.data.toList 0) ↔ s = z16) := Lib.hid (by
    unfold NodeOk
    constructor
    · rintro (⟨_, h⟩ | ⟨h, _⟩)
      · exact arr_eta ((free_iff hl).2 ⟨hk0, h⟩)
      · exact absurd hk0 h
    · intro h
      have : s.data.toList = List.replicate 16 0 := by rw [h]; rfl
      exact .inl ((free_iff hl).1 this))
  have HFA : Hid (faX (vH H) (toF s.data.toList 0) = fa0) := Lib.hid (by unfold faX; rw [if_pos hk0])
  obtain ⟨w1, hw1⟩ : ∃ w1, w1 = w.alloc (.cells (nodeC node0) 110) := ⟨_, rfl⟩
  have O1 : Own w w1 (Star (ndA w.heap.size node0) emp) := by rw [hw1]; exact (Own.start (Gr.refl w)).alloc stable_emp _
  have hst : Stable (Star (ndA w.heap.size node0) emp) := stable_star (stable_blk _ _) stable_emp
  obtain ⟨w2, hw2⟩ : ∃ w2, w2 = w1.drewN 1 := ⟨_, rfl⟩
  have O2 : Own w w2 (Star (ndA w.heap.size node0) emp) := by rw [hw2]; exact O1.gr hst (Gr.drewN (Gr.refl _) 1)
  obtain ⟨w3, hw3⟩ : ∃ w3, w3 = w2.alloc (.cells (bcL (List.replicate 16 0)) 5) := ⟨_, rfl⟩
  have O3 : Own w w3 (Star (blkA w2.heap.size (.cells (bcL (List.replicate 16 0)) 5)) (Star (ndA w.heap.size node0) emp)) := by rw [hw3]; exact O2.alloc hst _
  have mk : (Instr.makeSlice 87 (.int .i64 16) (.int .i64 16)).run Tryz.prog w2 = .ok (.slice (some ⟨w2.heap.size, 0, none⟩) 16 16) w3 := by rw [hw3]; exact mk_bytes 16 (by omega) w2
  have cv : (convert 87 9 (.slice (some ⟨w2.heap.size, 0, none⟩) 16 16)).run Tryz.prog w3 = .ok (.string z16) w3 := by
    have := conv_bytes w3 w2.heap.size (List.replicate 16 0) _ O3.blk
    rw [List.length_replicate] at this
    exact this
  have HZ := Lib.hid node_zero
  have HI := Lib.hid node_infoX
  have x0 : (Instr.index 9 (.string s) (.int .i64 0)).run Tryz.prog w1 = .ok (.int .u8 0) w1 := by
    have h := idx_run8 s 0 0 rfl (by omega) w1
    rw [h0] at h
    exact h
  have hself : ∀ wx : World, wx.heap[w.heap.size]? = some (.cells (nodeC node0) 110) → wx.setRow w.heap.size (nodeC node0) = wx := fun wx h => setRow_self8 h
  have HE2 : Hid (w2.heap[w.heap.size]? = some (.cells (nodeC node0) 110) ∧ w2.setRow w.heap.size (nodeC node0) = w2) := Lib.hid ⟨O2.blk, hself _ O2.blk⟩
  have HE3 : Hid (w3.heap[w.heap.size]? = some (.cells (nodeC node0) 110) ∧ w3.setRow w.heap.size (nodeC node0) = w3) := Lib.hid ⟨O3.right.blk, hself _ O3.right.blk⟩
  have HMK := Lib.hid mk
  have HCV := Lib.hid cv
  have HW2 := Lib.hid hw2
  have HRES : Hid (NodeP w (vH H) n (toF s.data.toList 0) (.returned (.tuple #[.agg (nodeC node0), .slice none 0 0, .bool (decide (s = z16))])) w3) := Lib.hid (by
    by_cases hz : s = z16
    · rw [decide_eq_true hz]
      refine .inl ⟨HOK.out.2 hz, none, 0, ?_, ?_⟩
      · rw [HFA.out]; rfl
      · rw [HFA.out]
        exact row_of_nil8 (Own.start O3.sub) stable_emp _ _
    · rw [decide_eq_false hz]
      exact .inr ⟨fun e => hz (HOK.out.1 e), rfl, O3.sub⟩)
  clear O1 O2 O3 hst hk0 hl hs h0 mk cv hw2 hw3 hself
  go_enter Tryz.func55, Tryz.ntmps55
  go_upto_region 1 with (refine wpList_alloc_blk rfl 110 (nodeC node0) rfl (HZ.out _) ?_)
  rw [← hw1]
  generalize w.heap.size = B at *
  generalize w2.heap.size = G at *
  clear hw1 HOK HFA
  go_upto_region 2 with fail
  clear x0
  refine wp_region_held_drew (S := fun _ => True) (by kernel_rfl) trivial (fun _ => ?_)
  rw [show w1.drew = w2 from HW2.out.symm]
  try simp only [Act.put, List.setIfInBounds_toArray, List.set_cons_zero, List.set_cons_succ]
  refine wpAnyH_take (i := 0) (oi := { dst := some 19, op := Go.Op.build 110 #[], type := 110, pos := "ref.go:198", after := #[], guard := none }) (v := .agg (nodeC node0)) rfl (by kernel_rfl) (by kernel_rfl) (by kernel_rfl) (fun _ _ _ h => h) (Or.inl ⟨by rfl, fun w' hS' => by have c := built_node0; go_simp; first | done | rfl⟩) trivial ?_
  try simp only [Act.put, List.setIfInBounds_toArray, List.set_cons_zero, List.set_cons_succ]
  refine wpAnyH_take (i := 1) (oi := { dst := some 20, op := Go.Op.move (Go.Operand.tmp 1), type := 9, pos := "ref.go:198", after := #[{ on := 6, ground := Go.Ground.gcOnly Go.Departure.lateStores }], guard := none }) (v := .string s) rfl (by kernel_rfl) (by kernel_rfl) (by kernel_rfl) (fun _ _ _ h => h) (Or.inl ⟨by rfl, fun w' hS' => by first | rfl | (go_simp; done) | (go_simp; rfl)⟩) trivial ?_
  try simp only [Act.put, List.setIfInBounds_toArray, List.set_cons_zero, List.set_cons_succ]
  refine wpAnyH_ready (rs := [2, 5]) (by kernel_rfl) (by simp) ?_
  refine AllReadyH.cons (o := { dst := some 21, op := Go.Op.makeSlice 87 (Go.Operand.const (Go.Value.int Go.IntKind.i64 16)) (Go.Operand.const (Go.Value.int Go.IntKind.i64 16)), type := 87, pos := "ref.go:198", after := #[], guard := none }) rfl (fun K' hK => ?_) (AllReadyH.cons (o := { dst := none, op := Go.Op.store 110 (Go.Operand.tmp 4) (Go.Operand.tmp 19), type := 0, pos := "ref.go:198", after := #[{ on := 0, ground := Go.Ground.data }, { on := 0, ground := Go.Ground.phase }, { on := 1, ground := Go.Ground.textOnly Go.Departure.lateStores }, { on := 2, ground := Go.Ground.textOnly Go.Departure.lateStoresUnsure }, { on := 3, ground := Go.Ground.textOnly Go.Departure.lateStores }, { on := 4, ground := Go.Ground.textOnly Go.Departure.lateStores }], guard := none }) rfl (fun K' hK => ?_) AllReadyH.nil)
  · rw [if_pos (by rfl)]
    have mkk := HMK.out
    go_simp
    clear mkk
    refine hK.out _ _ trivial (fun _ => ?_)
    clear hK K'
    try simp only [Act.put, List.setIfInBounds_toArray, List.set_cons_zero, List.set_cons_succ]
    refine wpAnyH_ready (rs := [3, 5]) (by kernel_rfl) (by simp) ?_
    refine AllReadyH.cons (o := { dst := some 22, op := Go.Op.convert 87 9 (Go.Operand.tmp 21), type := 9, pos := "ref.go:198", after := #[{ on := 2, ground := Go.Ground.data }, { on := 6, ground := Go.Ground.gcOnly Go.Departure.lateStores }], guard := none }) rfl (fun K' hK => ?_) (AllReadyH.cons (o := { dst := none, op := Go.Op.store 110 (Go.Operand.tmp 4) (Go.Operand.tmp 19), type := 0, pos := "ref.go:198", after := #[{ on := 0, ground := Go.Ground.data }, { on := 0, ground := Go.Ground.phase }, { on := 1, ground := Go.Ground.textOnly Go.Departure.lateStores }, { on := 2, ground := Go.Ground.textOnly Go.Departure.lateStoresUnsure }, { on := 3, ground := Go.Ground.textOnly Go.Departure.lateStores }, { on := 4, ground := Go.Ground.textOnly Go.Departure.lateStores }], guard := none }) rfl (fun K' hK => ?_) AllReadyH.nil)
    · rw [if_pos (by rfl)]
      have cvv := HCV.out
      go_simp
      clear cvv
      refine hK.out _ _ trivial (fun _ => ?_)
      clear hK K'
      try simp only [Act.put, List.setIfInBounds_toArray, List.set_cons_zero, List.set_cons_succ]
      refine wpAnyH_take (i := 4) (oi := { dst := some 23, op := Go.Op.binOp Go.BinOp.eql 9 (Go.Operand.tmp 20) (Go.Operand.tmp 22) 9, type := 4, pos := "ref.go:198", after := #[{ on := 1, ground := Go.Ground.data }, { on := 3, ground := Go.Ground.data }, { on := 6, ground := Go.Ground.gcOnly Go.Departure.lateStores }], guard := none }) (v := .bool (decide (s = z16))) rfl (by kernel_rfl) (by kernel_rfl) (by kernel_rfl) (fun _ _ _ h => h) (Or.inl ⟨by rfl, fun w' hS' => by have c := toL_beq s z16; go_simp⟩) trivial ?_
      try simp only [Act.put, List.setIfInBounds_toArray, List.set_cons_zero, List.set_cons_succ]
      refine wpAnyH_ready (rs := [5]) (by kernel_rfl) (by simp) ?_
      refine AllReadyH.cons (o := { dst := none, op := Go.Op.store 110 (Go.Operand.tmp 4) (Go.Operand.tmp 19), type := 0, pos := "ref.go:198", after := #[{ on := 0, ground := Go.Ground.data }, { on := 0, ground := Go.Ground.phase }, { on := 1, ground := Go.Ground.textOnly Go.Departure.lateStores }, { on := 2, ground := Go.Ground.textOnly Go.Departure.lateStoresUnsure }, { on := 3, ground := Go.Ground.textOnly Go.Departure.lateStores }, { on := 4, ground := Go.Ground.textOnly Go.Departure.lateStores }], guard := none }) rfl (fun K' hK => ?_) AllReadyH.nil
      rw [if_pos (by rfl)]
      refine wp_store_row 110 _ _ rfl B (nodeC node0) rfl rfl 110 _ HE3.out.1 (HI.out node0) rfl (nodeC_one node0) ?_
      rw [HE3.out.2]
      refine hK.out _ _ trivial (fun _ => ?_)
      clear hK K'
      try simp only [Act.put, List.setIfInBounds_toArray, List.set_cons_zero, List.set_cons_succ]
      refine wpAnyH_take (i := 6) (oi := { dst := some 5, op := Go.Op.assign (Go.Operand.const (Go.Value.slice none 0 0)), type := 77, pos := "ref.go:198", after := #[{ on := 5, ground := Go.Ground.chain }, { on := 0, ground := Go.Ground.phase }, { on := 1, ground := Go.Ground.textOnly Go.Departure.lateStores }, { on := 2, ground := Go.Ground.textOnly Go.Departure.lateStoresUnsure }, { on := 3, ground := Go.Ground.textOnly Go.Departure.lateStores }, { on := 4, ground := Go.Ground.textOnly Go.Departure.lateStores }, { on := 5, ground := Go.Ground.phase }], guard := none }) (v := .slice none 0 0) rfl (by kernel_rfl) (by kernel_rfl) (by kernel_rfl) (fun _ _ _ h => h) (Or.inl ⟨by rfl, fun w' hS' => by first | rfl | (go_simp; done) | (go_simp; rfl)⟩) trivial ?_
      try simp only [Act.put, List.setIfInBounds_toArray, List.set_cons_zero, List.set_cons_succ]
      refine wpAnyH_take (i := 7) (oi := { dst := some 6, op := Go.Op.assign (Go.Operand.tmp 23), type := 4, pos := "ref.go:198", after := #[{ on := 4, ground := Go.Ground.data }, { on := 6, ground := Go.Ground.chain }, { on := 0, ground := Go.Ground.phase }, { on := 1, ground := Go.Ground.phase }, { on := 2, ground := Go.Ground.phase }, { on := 3, ground := Go.Ground.phase }, { on := 4, ground := Go.Ground.phase }, { on := 5, ground := Go.Ground.phase }, { on := 6, ground := Go.Ground.phase }], guard := none }) (v := .bool (decide (s = z16))) rfl (by kernel_rfl) (by kernel_rfl) (by kernel_rfl) (fun _ _ _ h => h) (Or.inl ⟨by rfl, fun w' hS' => by first | rfl | (go_simp; done) | (go_simp; rfl)⟩) trivial ?_
      try simp only [Act.put, List.setIfInBounds_toArray, List.set_cons_zero, List.set_cons_succ]
      refine wpAnyH_done (by kernel_rfl) ?_ _
      go_wp2_with fail
      refine bodyPost_ret (res_ctt rfl rfl (ld_node HE3.out.1 (HI.out _))) rfl ?_
      exact HRES.out
    · rw [if_pos (by rfl)]
      refine wp_store_row 110 _ _ rfl B (nodeC node0) rfl rfl 110 _ HE3.out.1 (HI.out node0) rfl (nodeC_one node0) ?_
      rw [HE3.out.2]
      refine hK.out _ _ trivial (fun _ => ?_)
      clear hK K'
      try simp only [Act.put, List.setIfInBounds_toArray, List.set_cons_zero, List.set_cons_succ]
      refine wpAnyH_take (i := 6) (oi := { dst := some 5, op := Go.Op.assign (Go.Operand.const (Go.Value.slice none 0 0)), type := 77, pos := "ref.go:198", after := #[{ on := 5, ground := Go.Ground.chain }, { on := 0, ground := Go.Ground.phase }, { on := 1, ground := Go.Ground.textOnly Go.Departure.lateStores }, { on := 2, ground := Go.Ground.textOnly Go.Departure.lateStoresUnsure }, { on := 3, ground := Go.Ground.textOnly Go.Departure.lateStores }, { on := 4, ground := Go.Ground.textOnly Go.Departure.lateStores }, { on := 5, ground := Go.Ground.phase }], guard := none }) (v := .slice none 0 0) rfl (by kernel_rfl) (by kernel_rfl) (by kernel_rfl) (fun _ _ _ h => h) (Or.inl ⟨by rfl, fun w' hS' => by first | rfl | (go_simp; done) | (go_simp; rfl)⟩) trivial ?_
      try simp only [Act.put, List.setIfInBounds_toArray, List.set_cons_zero, List.set_cons_succ]
      refine wpAnyH_ready (rs := [3]) (by kernel_rfl) (by simp) ?_
      refine AllReadyH.cons (o := { dst := some 22, op := Go.Op.convert 87 9 (Go.Operand.tmp 21), type := 9, pos := "ref.go:198", after := #[{ on := 2, ground := Go.Ground.data }, { on := 6, ground := Go.Ground.gcOnly Go.Departure.lateStores }], guard := none }) rfl (fun K' hK => ?_) AllReadyH.nil
      rw [if_pos (by rfl)]
      have cvv := HCV.out
      go_simp
      clear cvv
      refine hK.out _ _ trivial (fun _ => ?_)
      clear hK K'
      try simp only [Act.put, List.setIfInBounds_toArray, List.set_cons_zero, List.set_cons_succ]
      refine wpAnyH_take (i := 4) (oi := { dst := some 23, op := Go.Op.binOp Go.BinOp.eql 9 (Go.Operand.tmp 20) (Go.Operand.tmp 22) 9, type := 4, pos := "ref.go:198", after := #[{ on := 1, ground := Go.Ground.data }, { on := 3, ground := Go.Ground.data }, { on := 6, ground := Go.Ground.gcOnly Go.Departure.lateStores }], guard := none }) (v := .bool (decide (s = z16))) rfl (by kernel_rfl) (by kernel_rfl) (by kernel_rfl) (fun _ _ _ h => h) (Or.inl ⟨by rfl, fun w' hS' => by have c := toL_beq s z16; go_simp⟩) trivial ?_
      try simp only [Act.put, List.setIfInBounds_toArray, List.set_cons_zero, List.set_cons_succ]
      refine wpAnyH_take (i := 7) (oi := { dst := some 6, op := Go.Op.assign (Go.Operand.tmp 23), type := 4, pos := "ref.go:198", after := #[{ on := 4, ground := Go.Ground.data }, { on := 6, ground := Go.Ground.chain }, { on := 0, ground := Go.Ground.phase }, { on := 1, ground := Go.Ground.phase }, { on := 2, ground := Go.Ground.phase }, { on := 3, ground := Go.Ground.phase }, { on := 4, ground := Go.Ground.phase }, { on := 5, ground := Go.Ground.phase }, { on := 6, ground := Go.Ground.phase }], guard := none }) (v := .bool (decide (s = z16))) rfl (by kernel_rfl) (by kernel_rfl) (by kernel_rfl) (fun _ _ _ h => h) (Or.inl ⟨by rfl, fun w' hS' => by first | rfl | (go_simp; done) | (go_simp; rfl)⟩) trivial ?_
      try simp only [Act.put, List.setIfInBounds_toArray, List.set_cons_zero, List.set_cons_succ]
      refine wpAnyH_done (by kernel_rfl) ?_ _
      go_wp2_with fail
      refine bodyPost_ret (res_ctt rfl rfl (ld_node HE3.out.1 (HI.out _))) rfl ?_
      exact HRES.out
  · rw [if_pos (by rfl)]
    refine wp_store_row 110 _ _ rfl B (nodeC node0) rfl rfl 110 _ HE2.out.1 (HI.out node0) rfl (nodeC_one node0) ?_
    rw [HE2.out.2]
    refine hK.out _ _ trivial (fun _ => ?_)
    clear hK K'
    try simp only [Act.put, List.setIfInBounds_toArray, List.set_cons_zero, List.set_cons_succ]
    refine wpAnyH_take (i := 6) (oi := { dst := some 5, op := Go.Op.assign (Go.Operand.const (Go.Value.slice none 0 0)), type := 77, pos := "ref.go:198", after := #[{ on := 5, ground := Go.Ground.chain }, { on := 0, ground := Go.Ground.phase }, { on := 1, ground := Go.Ground.textOnly Go.Departure.lateStores }, { on := 2, ground := Go.Ground.textOnly Go.Departure.lateStoresUnsure }, { on := 3, ground := Go.Ground.textOnly Go.Departure.lateStores }, { on := 4, ground := Go.Ground.textOnly Go.Departure.lateStores }, { on := 5, ground := Go.Ground.phase }], guard := none }) (v := .slice none 0 0) rfl (by kernel_rfl) (by kernel_rfl) (by kernel_rfl) (fun _ _ _ h => h) (Or.inl ⟨by rfl, fun w' hS' => by first | rfl | (go_simp; done) | (go_simp; rfl)⟩) trivial ?_
    try simp only [Act.put, List.setIfInBounds_toArray, List.set_cons_zero, List.set_cons_succ]
    refine wpAnyH_ready (rs := [2]) (by kernel_rfl) (by simp) ?_
    refine AllReadyH.cons (o := { dst := some 21, op := Go.Op.makeSlice 87 (Go.Operand.const (Go.Value.int Go.IntKind.i64 16)) (Go.Operand.const (Go.Value.int Go.IntKind.i64 16)), type := 87, pos := "ref.go:198", after := #[], guard := none }) rfl (fun K' hK => ?_) AllReadyH.nil
    rw [if_pos (by rfl)]
    have mkk := HMK.out
    go_simp
    clear mkk
    refine hK.out _ _ trivial (fun _ => ?_)
    clear hK K'
    try simp only [Act.put, List.setIfInBounds_toArray, List.set_cons_zero, List.set_cons_succ]
    refine wpAnyH_ready (rs := [3]) (by kernel_rfl) (by simp) ?_
    refine AllReadyH.cons (o := { dst := some 22, op := Go.Op.convert 87 9 (Go.Operand.tmp 21), type := 9, pos := "ref.go:198", after := #[{ on := 2, ground := Go.Ground.data }, { on := 6, ground := Go.Ground.gcOnly Go.Departure.lateStores }], guard := none }) rfl (fun K' hK => ?_) AllReadyH.nil
    rw [if_pos (by rfl)]
    have cvv := HCV.out
    go_simp
    clear cvv
    refine hK.out _ _ trivial (fun _ => ?_)
    clear hK K'
    try simp only [Act.put, List.setIfInBounds_toArray, List.set_cons_zero, List.set_cons_succ]
    refine wpAnyH_take (i := 4) (oi := { dst := some 23, op := Go.Op.binOp Go.BinOp.eql 9 (Go.Operand.tmp 20) (Go.Operand.tmp 22) 9, type := 4, pos := "ref.go:198", after := #[{ on := 1, ground := Go.Ground.data }, { on := 3, ground := Go.Ground.data }, { on := 6, ground := Go.Ground.gcOnly Go.Departure.lateStores }], guard := none }) (v := .bool (decide (s = z16))) rfl (by kernel_rfl) (by kernel_rfl) (by kernel_rfl) (fun _ _ _ h => h) (Or.inl ⟨by rfl, fun w' hS' => by have c := toL_beq s z16; go_simp⟩) trivial ?_
    try simp only [Act.put, List.setIfInBounds_toArray, List.set_cons_zero, List.set_cons_succ]
    refine wpAnyH_take (i := 7) (oi := { dst := some 6, op := Go.Op.assign (Go.Operand.tmp 23), type := 4, pos := "ref.go:198", after := #[{ on := 4, ground := Go.Ground.data }, { on := 6, ground := Go.Ground.chain }, { on := 0, ground := Go.Ground.phase }, { on := 1, ground := Go.Ground.phase }, { on := 2, ground := Go.Ground.phase }, { on := 3, ground := Go.Ground.phase }, { on := 4, ground := Go.Ground.phase }, { on := 5, ground := Go.Ground.phase }, { on := 6, ground := Go.Ground.phase }], guard := none }) (v := .bool (decide (s = z16))) rfl (by kernel_rfl) (by kernel_rfl) (by kernel_rfl) (fun _ _ _ h => h) (Or.inl ⟨by rfl, fun w' hS' => by first | rfl | (go_simp; done) | (go_simp; rfl)⟩) trivial ?_
    try simp only [Act.put, List.setIfInBounds_toArray, List.set_cons_zero, List.set_cons_succ]
    refine wpAnyH_done (by kernel_rfl) ?_ _
    go_wp2_with fail
    refine bodyPost_ret (res_ctt rfl rfl (ld_node HE3.out.1 (HI.out _))) rfl ?_
    exact HRES.out
end Go.Proofs.YtlpcccpagmipnaaGreat.P
