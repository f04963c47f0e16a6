/- Slices and structs of one-cell fields opened, out of a value or out of one cell. No condition. -/
import Derived.Test.YtlpcccpagmipnaaGreatM
import Derived.SizedLaws
set_option linter.unusedVariables false
namespace Go.Proofs.YtlpcccpagmipnaaGreat.P
open Go.RowKit Go.ChangeShapes Go.WideShapes Go.Deep
section
variable {H : Type} {enc : TypeId × Value → H} {P : Program} {w : World} {base : Nat} {spare : Nat → Bool} {held : Bool}
theorem slice_len {t e : TypeId} {a : Addr} {len cap : Nat} {d : DataW H} {ps : List MemPlace} (ht : P.underlying t = some (.slice e)) (h : DataW.Trod enc P w base spare held t (.slice (some a) len cap) d ps) :
    ∃ es sp, d = .slice es sp ∧ es.length = len := by
  obtain ⟨fuel, hf⟩ := h
  rcases open_slice ht hf with ⟨hcs, _⟩ | ⟨a', len', cap', m, n, D, Pl, hcs, hb, hl, hm, hmm, hx, hi⟩
  · simp [Value.cells] at hcs
  · have e1 : len = len' := by simp [Value.cells] at hcs; exact hcs.2.1
    have e2 := congrArg Prod.fst hx
    exact ⟨_, _, e2, by simp [e1]⟩
/-- A slice in one cell: its value, and that it reads as one. -/
theorem open_slice_c {t e : TypeId} {u : Value} {y : DataW H × List MemPlace} {n : Nat} (ht : P.underlying t = some (.slice e)) (h : DataW.trod enc P w base spare held n t [u] = some y) :
    ∃ (o : Option Addr) (len cap : Nat), u = .slice o len cap ∧ DataW.Trod enc P w base spare held t u y.1 y.2 := by
  rcases open_slice ht h with ⟨hcs, _⟩ | ⟨a', len', cap', m, n', D, Pl, hcs, _⟩
  · rw [List.singleton_inj] at hcs
    subst hcs
    exact ⟨none, 0, 0, rfl, n, h⟩
  · rw [List.singleton_inj] at hcs
    subst hcs
    exact ⟨some a', len', cap', rfl, n, h⟩
theorem slice_len_c {t e : TypeId} {a : Addr} {len cap n : Nat} {y : DataW H × List MemPlace} (ht : P.underlying t = some (.slice e)) (h : DataW.trod enc P w base spare held n t [.slice (some a) len cap] = some y) :
    ∃ es sp, y.1 = .slice es sp ∧ es.length = len := slice_len (d := y.1) (ps := y.2) ht ⟨n, h⟩
/-- A struct of one-cell fields. -/
theorem open_agg_c {t : TypeId} {fs : Array Field} {v : Value} {d : DataW H} {ps : List MemPlace} {r : Reach} {b0 : Nat} (ht : P.underlying t = some (.struct fs))
    (hone : oneCellFields P fs = true) (hC : P.cellsOf t = fs.size) (hv : Value.okWide P w r b0 t v) (h : DataW.Trod enc P w base spare held t v d ps) :
    ∃ c : Array Value, v = .agg c ∧ c.size = fs.size ∧ ∀ (j : Nat) (f : Field), fs[j]? = some f → ∃ (u : Value) (y : DataW H × List MemPlace) (n : Nat), c[j]? = some u ∧ DataW.trod enc P w base spare held n f.type [u] = some y := by
  obtain ⟨c, rfl, hsz⟩ := okWide_struct ht hv
  obtain ⟨fuel, hf⟩ := h
  obtain ⟨ys, n', hn', hy, hlen, hyl, hfl⟩ := DataW.trod_struct ht hf
  have hcs : (Value.agg c).cells.toList = c.toList := rfl
  rw [hcs] at hlen hfl
  refine ⟨c, rfl, by rw [hsz, hC], fun j f hj => ?_⟩
  obtain ⟨ho, hk⟩ := hone_of hone j f hj
  have hjl : j < fs.size := (Array.getElem?_eq_some_iff.1 hj).1
  have h1 := hfl j f hj
  rw [ho, hk] at h1
  have hcl : c.toList.length = fs.size := by rw [← hC]; exact hlen
  have h2 : (c.toList.drop j).take 1 = [c.toList[j]'(by omega)] := by
    rw [List.drop_eq_getElem_cons (by omega)]
    rfl
  rw [h2] at h1
  have hys : ys[j]? = some (ys[j]'(by omega)) := List.getElem?_eq_getElem (by omega)
  refine ⟨c.toList[j]'(by omega), _, n', ?_, h1.trans hys⟩
  have hj2 : j < c.size := by omega
  rw [Array.getElem?_eq_getElem hj2]
  rfl
/-- A slice of structs of one-cell fields: empty, or its cells. -/
theorem open_structs_s {t e : TypeId} {fs : Array Field} {v : Value} {d : DataW H} {ps : List MemPlace} (ht : P.underlying t = some (.slice e)) (he : P.underlying e = some (.struct fs))
    (hone : oneCellFields P fs = true) (hC : P.cellsOf e = fs.size) (hfs : 0 < fs.size) (hv : ∃ (o : Option Addr) (l c : Nat), v = .slice o l c) (h : DataW.Trod enc P w base spare held t v d ps) :
    (∃ (o : Option Addr) (cap : Nat), v = .slice o 0 cap) ∨
    ∃ (bl off len cap : Nat), v = .slice (some ⟨bl, off, none⟩) len cap ∧ 0 < len ∧ len ≤ cap ∧ cap ≤ maxLen ∧ bl < w.heap.size ∧
      ∀ i, i < len → ∀ (j : Nat) (f : Field), fs[j]? = some f → ∃ (u : Value) (y : DataW H × List MemPlace) (n : Nat), w.cell? ⟨bl, off + (i * fs.size + j), none⟩ = some u ∧ DataW.trod enc P w base spare held n f.type [u] = some y := by
  obtain ⟨a0, l0, c0, rfl⟩ := hv
  obtain ⟨fuel, hf⟩ := h
  rcases open_slice ht hf with ⟨hcs, _⟩ | ⟨a, len, cap, m, n, D, Pl, hcs, hb, hl, hm, hmm, hx, hi⟩
  · refine .inl ⟨none, 0, ?_⟩
    simpa [Value.cells] using hcs
  · have e0 : Value.slice a0 l0 c0 = .slice (some a) len cap := by simpa [Value.cells] using hcs
    rw [e0]
    by_cases h0 : len = 0
    · exact .inl ⟨some a, cap, by rw [h0]⟩
    · have hlm : len ≤ m := by rw [hmm]; split <;> omega
      have key : ∀ i, i < len → ∀ (j : Nat) (f : Field), fs[j]? = some f → ∃ (u : Value) (y : DataW H × List MemPlace) (n : Nat), w.cell? (a.add (i * fs.size + j)) = some u ∧ DataW.trod enc P w base spare held n f.type [u] = some y := by
        intro i hi1 j f hj
        obtain ⟨cs', hc, ht'⟩ := hi i (by omega)
        rw [hC] at hc
        obtain ⟨ys, n', hn', hy, hlen, hyl, hfl⟩ := DataW.trod_struct he ht'
        obtain ⟨_, hcl, hat⟩ := World.cells?_some hc
        obtain ⟨ho, hk⟩ := hone_of hone j f hj
        have hjl : j < fs.size := (Array.getElem?_eq_some_iff.1 hj).1
        have hcell := hat j hjl
        have hv : cs'[j]? = some (cs'[j]'(by omega)) := List.getElem?_eq_getElem (by omega)
        have h1 := hfl j f hj
        rw [ho, hk] at h1
        have h2 : (cs'.drop j).take 1 = [cs'[j]'(by omega)] := by
          rw [List.drop_eq_getElem_cons (by omega)]
          rfl
        rw [h2] at h1
        have hys : ys[j]? = some (ys[j]'(by omega)) := List.getElem?_eq_getElem (by omega)
        refine ⟨_, _, _, ?_, h1.trans hys⟩
        rw [← Go.Deep.add_add, hcell, hv]
      obtain ⟨u0, y0, n0, k0, _⟩ := key 0 (by omega) 0 (fs[0]'hfs) (by simp [hfs])
      have hsp : a.spot = none := by simpa [Addr.add] using World.cell?_spot k0
      obtain ⟨bl, off, sp⟩ := a
      dsimp only at hsp
      subst hsp
      refine .inr ⟨bl, off, len, cap, rfl, by omega, hl, hm, ?_, fun i hi1 j f hj => ?_⟩
      · have := cell_lt k0
        simpa [Addr.add] using this
      · obtain ⟨u, y, n, k1, k2⟩ := key i hi1 j f hj
        refine ⟨u, y, n, ?_, k2⟩
        have e2 : (Addr.add ⟨bl, off, none⟩ (i * fs.size + j)) = ⟨bl, off + (i * fs.size + j), none⟩ := by
          unfold Addr.add; split
          · rename_i hz; rw [hz]; rfl
          · rfl
        rw [← e2]; exact k1
end
end Go.Proofs.YtlpcccpagmipnaaGreat.P
namespace Go.Proofs.YtlpcccpagmipnaaGreat.P
open Go.RowKit Go.ChangeShapes Go.WideShapes Go.Deep
section
variable {H : Type} {enc : TypeId × Value → H} {P : Program} {w : World} {base : Nat} {spare : Nat → Bool} {held : Bool}
theorem weightsAll_mem {e : TypeId} {d : DataW H} {n : Nat} (hn : n ∈ d.weights P e) : ∀ {l : List (DataW H)}, d ∈ l → n ∈ DataW.weightsAll P e l
  | [], h => by cases h
  | x :: l, h => by
    simp only [DataW.weightsAll, List.mem_append]
    rcases List.mem_cons.1 h with h | h
    · subst h; exact .inl hn
    · exact .inr (weightsAll_mem hn h)
/-- A slice of structs of one-cell fields: empty, or its cells, and what each weighs. -/
theorem open_structs_w {t e : TypeId} {fs : Array Field} {v : Value} {d : DataW H} {ps : List MemPlace} (ht : P.underlying t = some (.slice e)) (he : P.underlying e = some (.struct fs))
    (hone : oneCellFields P fs = true) (hC : P.cellsOf e = fs.size) (hfs : 0 < fs.size) (hv : ∃ (o : Option Addr) (l c : Nat), v = .slice o l c) (h : DataW.Trod enc P w base spare held t v d ps) :
    (∃ (o : Option Addr) (cap : Nat), v = .slice o 0 cap) ∨
    ∃ (bl off len cap : Nat), v = .slice (some ⟨bl, off, none⟩) len cap ∧ 0 < len ∧ len ≤ cap ∧ cap ≤ maxLen ∧ bl < w.heap.size ∧
      (∃ N, len ≤ N ∧ N * P.bytesOf e ∈ d.weights P t) ∧
      ∀ i, i < len → ∀ (j : Nat) (f : Field), fs[j]? = some f → ∃ (u : Value) (y : DataW H × List MemPlace) (n : Nat), w.cell? ⟨bl, off + (i * fs.size + j), none⟩ = some u ∧ DataW.trod enc P w base spare held n f.type [u] = some y ∧ ∀ k ∈ y.1.weights P f.type, k ∈ d.weights P t := by
  obtain ⟨a0, l0, c0, rfl⟩ := hv
  obtain ⟨fuel, hf⟩ := h
  rcases open_slice ht hf with ⟨hcs, _⟩ | ⟨a, len, cap, m, n, D, Pl, hcs, hb, hl, hm, hmm, hx, hi⟩
  · refine .inl ⟨none, 0, ?_⟩
    simpa [Value.cells] using hcs
  · have e0 : Value.slice a0 l0 c0 = .slice (some a) len cap := by simpa [Value.cells] using hcs
    have ed : d = .slice ((List.range len).map D) ((List.range (m - len)).map fun j => D (len + j)) := congrArg Prod.fst hx
    rw [e0]
    by_cases h0 : len = 0
    · exact .inl ⟨some a, cap, by rw [h0]⟩
    · have hlm : len ≤ m := by rw [hmm]; split <;> omega
      have key : ∀ i, i < len → ∀ (j : Nat) (f : Field), fs[j]? = some f → ∃ (u : Value) (y : DataW H × List MemPlace) (n : Nat), w.cell? (a.add (i * fs.size + j)) = some u ∧ DataW.trod enc P w base spare held n f.type [u] = some y ∧ ∀ k ∈ y.1.weights P f.type, k ∈ d.weights P t := by
        intro i hi1 j f hj
        obtain ⟨cs', hc, ht'⟩ := hi i (by omega)
        rw [hC] at hc
        obtain ⟨ys, n', hn', hy, hlen, hyl, hfl⟩ := DataW.trod_struct he ht'
        obtain ⟨_, hcl, hat⟩ := World.cells?_some hc
        obtain ⟨ho, hk⟩ := hone_of hone j f hj
        have hjl : j < fs.size := (Array.getElem?_eq_some_iff.1 hj).1
        have hcell := hat j hjl
        have hv : cs'[j]? = some (cs'[j]'(by omega)) := List.getElem?_eq_getElem (by omega)
        have h1 := hfl j f hj
        rw [ho, hk] at h1
        have h2 : (cs'.drop j).take 1 = [cs'[j]'(by omega)] := by
          rw [List.drop_eq_getElem_cons (by omega)]
          rfl
        rw [h2] at h1
        have hys : ys[j]? = some (ys[j]'(by omega)) := List.getElem?_eq_getElem (by omega)
        refine ⟨_, _, _, ?_, h1.trans hys, fun k hk2 => ?_⟩
        · rw [← Go.Deep.add_add, hcell, hv]
        · have hD : D i = .agg (ys.map (·.1)) := congrArg Prod.fst hy
          have h3 : k ∈ (D i).weights P e := by
            rw [hD]
            simp only [DataW.weights, he]
            exact DataW.weights_mem_each (j := j) (t := f.type) (d := (ys[j]'(by omega)).1) (by rw [List.getElem?_map, Array.getElem?_toList, hj]; rfl) (by rw [List.getElem?_map, hys]; rfl) k hk2
          rw [ed]
          simp only [DataW.weights, ht, List.mem_cons, List.mem_append]
          exact .inr (.inl (weightsAll_mem h3 (List.mem_map.2 ⟨i, List.mem_range.2 hi1, rfl⟩)))
      obtain ⟨u0, y0, n0, k0, _⟩ := key 0 (by omega) 0 (fs[0]'hfs) (by simp [hfs])
      have hsp : a.spot = none := by simpa [Addr.add] using World.cell?_spot k0
      obtain ⟨bl, off, sp⟩ := a
      dsimp only at hsp
      subst hsp
      refine .inr ⟨bl, off, len, cap, rfl, by omega, hl, hm, ?_, ⟨len + (m - len), by omega, ?_⟩, fun i hi1 j f hj => ?_⟩
      · have := cell_lt k0
        simpa [Addr.add] using this
      · rw [ed]
        simp only [DataW.weights, ht, List.mem_cons, List.length_map, List.length_range]
        exact .inl trivial
      · obtain ⟨u, y, n, k1, k2, k3⟩ := key i hi1 j f hj
        refine ⟨u, y, n, ?_, k2, k3⟩
        have e2 : (Addr.add ⟨bl, off, none⟩ (i * fs.size + j)) = ⟨bl, off + (i * fs.size + j), none⟩ := by
          unfold Addr.add; split
          · rename_i hz; rw [hz]; rfl
          · rfl
        rw [← e2]; exact k1
/-- All that is read of one argument weighs no more than the reach. -/
theorem sized_at {ts : List TypeId} {ds : List (DataW H)} (h : (DataW.weightsEach P ts ds).all (· ≤ reachBytes) = true) (j : Nat) {t : TypeId} {d : DataW H} (ht : ts[j]? = some t) (hd : ds[j]? = some d) : ∀ n ∈ d.weights P t, n ≤ 140737488351232 := by
  intro n hn
  have := List.all_eq_true.1 h _ (DataW.weights_mem_each ht hd n hn)
  have h2 : n ≤ reachBytes := of_decide_eq_true this
  unfold reachBytes at h2
  exact h2
end
end Go.Proofs.YtlpcccpagmipnaaGreat.P
