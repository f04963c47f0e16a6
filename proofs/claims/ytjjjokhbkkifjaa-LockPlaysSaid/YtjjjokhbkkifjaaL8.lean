/- Stage 15: both locks side by side: the walk of LockPlays. No condition. -/
import Derived.Test.YtjjjokhbkkifjaaL7
set_option linter.unusedVariables false
namespace Go.Proofs.Ytjjjokhbkkifjaa.P
open Go.RowKit Go.MuLone Go.Maps
structure ActV where
  kind : Int
  t : Int
def ActV.ok (x : ActV) : Prop := i64 x.kind ∧ u64 x.t
/-- The acts lie there. -/
def Acts (w : World) (bl off len : Nat) (f : Nat → ActV) : Prop :=
  ∀ i, i < len → (f i).ok ∧ w.cell? ⟨bl, off + i * 2, none⟩ = some (.int .i64 (f i).kind) ∧ w.cell? ⟨bl, off + i * 2 + 1, none⟩ = some (.int .u64 (f i).t)
section
open Go.ChangeShapes Go.WideShapes Go.Deep
variable {H : Type} {enc : TypeId × Value → H} {w : World} {base : Nat} {spare : Nat → Bool} {held : Bool}
theorem open_acts {v : Value} {d : DataW H} {ps : List MemPlace} {r : Reach} {b0 : Nat} (hv : Value.okWide Try.prog w r b0 22 v) (h : DataW.Trod enc Try.prog w base spare held 22 v d ps) :
    ∃ (o : Option Addr) (len cap bl off : Nat) (f : Nat → ActV), v = .slice o len cap ∧ len ≤ maxLen ∧ (0 < len → o = some ⟨bl, off, none⟩ ∧ bl < w.heap.size) ∧ Acts w bl off len f := by
  rcases open_structs Try.underlying22 Try.underlying35 (by kernel_rfl) (by kernel_rfl) (by decide) hv h with ⟨o, cap, rfl⟩ | ⟨bl, off, len, cap, rfl, hl0, hlc, hcap, hbl, hf⟩
  · exact ⟨o, 0, cap, 0, 0, fun _ => ⟨0, 0⟩, rfl, by unfold maxLen; omega, fun h => absurd h (by omega), fun i hi => absurd hi (by omega)⟩
  · have hx : ∀ i, ∃ a : ActV, i < len → a.ok ∧ w.cell? ⟨bl, off + i * 2, none⟩ = some (.int .i64 a.kind) ∧ w.cell? ⟨bl, off + i * 2 + 1, none⟩ = some (.int .u64 a.t) := by
      intro i
      by_cases hi : i < len
      · obtain ⟨u0, y0, n0, c0, t0⟩ := hf i hi 0 _ rfl
        obtain ⟨u1, y1, n1, c1, t1⟩ := hf i hi 1 _ rfl
        obtain ⟨x0, e0, _, k0⟩ := DataW.trod_int Try.underlying3 t0
        obtain ⟨x1, e1, _, k1⟩ := DataW.trod_int Try.underlying33 t1
        rw [List.singleton_inj] at e0 e1
        subst e0; subst e1
        exact ⟨⟨x0, x1⟩, fun _ => ⟨⟨wf_i64 k0, wf_u64 k1⟩, c0, c1⟩⟩
      · exact ⟨⟨0, 0⟩, fun h => absurd h hi⟩
    obtain ⟨f, hf'⟩ := Classical.axiomOfChoice hx
    exact ⟨some ⟨bl, off, none⟩, len, cap, bl, off, f, rfl, by omega, fun _ => ⟨rfl, hbl⟩, fun i hi => hf' i hi⟩
end

def Rel (D : DataW Unit) (l : List Bool) : Prop := Maps.IsMap D ∧ ∀ k : Nat, Maps.has D (.int .u64 k) = l.getD k false
theorem rel_nil : Rel (.map []) [] := ⟨Maps.isMap_empty, fun k => rfl⟩
theorem rel_ask {D : DataW Unit} {l : List Bool} (h : Rel D l) : Rel D (l ++ [false]) := by
  refine ⟨h.1, fun k => ?_⟩
  rw [h.2 k]
  by_cases hk : k < l.length
  · simp [List.getD, List.getElem?_append_left hk]
  · simp only [List.getD]
    rw [List.getElem?_eq_none (by omega), List.getElem?_append_right (by omega)]
    by_cases h0 : k - l.length = 0
    · rw [h0]; rfl
    · rw [List.getElem?_eq_none (by simp; omega)]
theorem rel_pass {D : DataW Unit} {l : List Bool} (h : Rel D l) (k : Nat) (hk : k < l.length) : Rel (D.put (.int .u64 k) u0) (l.set k true) := by
  refine ⟨h.1.put _ _, fun j => ?_⟩
  rw [has_put _ h.1, h.2 j]
  by_cases hj : j = k
  · subst hj; simp [List.getD, hk]
  · have : ¬ (j : Int) = k := by omega
    simp [List.getD, this, Ne.symm hj]
theorem rel_has {D : DataW Unit} {l : List Bool} (h : Rel D l) (wide p : Int) (k : Nat) : hasB D wide l.length p k = rhasB l wide p k := by
  unfold hasB rhasB
  rw [h.2 k]
  have e : decide ((k : Int) < letF wide l.length p) = (decide ((k : Int) < l.length) && decide ((k : Int) < p + wide)) := by
    unfold letF; rw [Bool.eq_iff_iff]; simp; split <;> omega
  rw [e, Int.toNat_natCast]
  cases l.getD k false <;> simp
/-- Both locks in new memory, each in blocks of its own, and of one mind. -/
def IV (w0 w : World) (b rb : Nat) (D : DataW Unit) (n : Nat) (wide p : Int) (l : List Bool) : Prop :=
  Gr w0 w ∧ Rel D l ∧ ∃ m vb, w0.heap.size ≤ b ∧ w0.heap.size ≤ rb ∧ (∀ x, m = some x → w0.heap.size ≤ x) ∧ (∀ x, vb = some x → w0.heap.size ≤ x) ∧
    b ≠ rb ∧ m ≠ some rb ∧ vb ≠ some b ∧ (∀ x, m = some x → vb ≠ some x) ∧ LockO w b m D n wide l.length p 0 ∧ RefO w rb vb wide p l
theorem LockO.lt {w : World} {b : Nat} {m : Option Nat} {D : DataW Unit} {n : Nat} {wide g p s : Int} (h : LockO w b m D n wide g p s) : ∀ x, m = some x → x < w.heap.size := by
  rintro x rfl; obtain ⟨es, cl, h1, _⟩ := h.2.2; exact blk_lt h1
theorem RefO.lt {w : World} {rb : Nat} {vb : Option Nat} {wide p : Int} {l : List Bool} (h : RefO w rb vb wide p l) : ∀ x, vb = some x → x < w.heap.size := by
  obtain ⟨o, cap, hb, ho, hv, hn⟩ := h
  intro x hx; exact (World.ownsRow.lt ho x (by rw [hv, hx])).2
/-- A step of the lock, that gives its state as LockO. -/
theorem iv_lock {w0 w w' : World} {b rb : Nat} {D D' : DataW Unit} {n n' : Nat} {wide p p' : Int} {l l' : List Bool} {m m' : Option Nat} {vb : Option Nat}
    (g0 : Gr w0 w) (h1 : w0.heap.size ≤ b) (h3 : ∀ x, m = some x → w0.heap.size ≤ x) (h5 : b ≠ rb) (h6 : m ≠ some rb) (h7 : vb ≠ some b) (h8 : ∀ x, m = some x → vb ≠ some x) (hR : RefO w rb vb wide p l) (hk : KeptL b m w w' m') :
    Gr w0 w' ∧ (∀ x, m' = some x → w0.heap.size ≤ x) ∧ m' ≠ some rb ∧ (∀ x, m' = some x → vb ≠ some x) ∧ RefO w' rb vb wide p l := by
  have hlr : rb < w.heap.size := by obtain ⟨o, cap, hb, _⟩ := hR; exact blk_lt hb
  obtain ⟨k1, k2⟩ := LG.step g0 h1 h3 hk
  refine ⟨k1, k2, ?_, ?_, hR.keep hk.1 (fun h => ?_) (fun x hx h => ?_)⟩
  · rcases hk.2 with e | ⟨e, bm, e2, e3⟩
    · rw [e]; exact h6
    · rw [e2]; intro h; injection h with h; omega
  · intro x hx hv
    rcases hk.2 with e | ⟨e, bm, e2, e3⟩
    · exact h8 x (by rw [← e, hx]) hv
    · rw [e2] at hx; injection hx with hx; have := hR.lt x hv; omega
  · rcases h with h | h
    · exact h5 h.symm
    · exact h6 h
  · rcases h with h | h
    · exact h7 (by rw [hx, h])
    · exact h8 x h hx
theorem iv_ref {w0 w w' : World} {b rb : Nat} {D : DataW Unit} {n : Nat} {wide g p : Int} {m : Option Nat} {vb vb' : Option Nat}
    (g0 : Gr w0 w) (h2 : w0.heap.size ≤ rb) (h4 : ∀ x, vb = some x → w0.heap.size ≤ x) (h5 : b ≠ rb) (h6 : m ≠ some rb) (h7 : vb ≠ some b) (h8 : ∀ x, m = some x → vb ≠ some x) (hL : LockO w b m D n wide g p 0) (hk : KeptR rb vb w w' vb') :
    Gr w0 w' ∧ (∀ x, vb' = some x → w0.heap.size ≤ x) ∧ vb' ≠ some b ∧ (∀ x, m = some x → vb' ≠ some x) ∧ LockO w' b m D n wide g p 0 := by
  have hlb : b < w.heap.size := blk_lt hL.blk
  have hs := g0.size
  refine ⟨gr_ch g0 hk.1 (fun x hx => ?_), ?_, ?_, ?_, hL.keep hk.1 (fun h => ?_) (fun x hx h => ?_)⟩
  · rcases hx with rfl | hx
    · exact h2
    · exact h4 x hx
  · intro x hx
    rcases hk.2 with e | ⟨g, e, e2⟩
    · exact h4 x (by rw [← e, hx])
    · rw [e] at hx; injection hx with hx; omega
  · rcases hk.2 with e | ⟨g, e, e2⟩
    · rw [e]; exact h7
    · rw [e]; intro h; injection h with h; omega
  · intro x hx hv
    rcases hk.2 with e | ⟨g, e, e2⟩
    · exact h8 x hx (by rw [← e, hv])
    · rw [e] at hv; injection hv with hv; have := hL.lt x hx; omega
  · rcases h with h | h
    · exact h5 h
    · exact h7 h
  · rcases h with h | h
    · exact h6 (by rw [hx, h])
    · exact h8 x hx h
theorem iv_has {w0 : World} {b rb : Nat} {D : DataW Unit} {n : Nat} {wide p : Int} {l : List Bool} {w : World} (h : IV w0 w b rb D n wide p l) (h1 : 0 ≤ p) (h2 : p ≤ 8796093022208) (h3 : l.length ≤ 8796093022208) (h4 : 0 ≤ wide) (h5 : wide ≤ 64) (k : Nat) (hk : (k : Int) ≤ 18446744073709551615) :
    Calls Try.prog 13 #[.pointer (some ⟨b, 0, none⟩), .int .u64 k] w fun e w' => e = .returned (.bool (rhasB l wide p k)) ∧ IV w0 w' b rb D n wide p l := by
  obtain ⟨g0, hr, m, vb, k1, k2, k3, k4, k5, k6, k7, k8, hL, hR⟩ := h
  refine (c_Has b m D n wide l.length p k w hL (wf_mk (by omega) hk) h1 (by omega) h4 h5).mono ?_
  rintro e w' ⟨rfl, m', hL', hC⟩
  obtain ⟨q1, q2, q3, q4, q5⟩ := iv_lock (n := n) (D := D) (n' := n) (D' := D) (p' := p) (l' := l) g0 k1 k3 k5 k6 k7 k8 hR hC
  exact ⟨by rw [rel_has hr], q1, hr, m', vb, k1, k2, q2, k4, k5, q3, k7, q4, hL', q5⟩
theorem iv_pass_no {w0 : World} {b rb : Nat} {D : DataW Unit} {n : Nat} {wide p : Int} {l : List Bool} {w : World} (h : IV w0 w b rb D n wide p l) (h1 : 0 ≤ p) (h2 : p ≤ 8796093022208) (h3 : l.length ≤ 8796093022208) (h4 : 0 ≤ wide) (h5 : wide ≤ 64) (k : Nat) (hk : (k : Int) ≤ 18446744073709551615) (hh : rhasB l wide p k = false) :
    Calls Try.prog 11 #[.pointer (some ⟨b, 0, none⟩), .int .u64 k] w fun e w' => e = .returned (.int .i64 1) ∧ IV w0 w' b rb D n wide p l := by
  obtain ⟨g0, hr, m, vb, k1, k2, k3, k4, k5, k6, k7, k8, hL, hR⟩ := h
  refine (c_pass_no b m D n wide l.length p k w hL (wf_mk (by omega) hk) h1 (by omega) h4 h5 (by rw [rel_has hr, hh])).mono ?_
  rintro e w' ⟨rfl, m', hL', hC⟩
  obtain ⟨q1, q2, q3, q4, q5⟩ := iv_lock (n := n) (D := D) (n' := n) (D' := D) (p' := p) (l' := l) g0 k1 k3 k5 k6 k7 k8 hR hC
  exact ⟨rfl, q1, hr, m', vb, k1, k2, q2, k4, k5, q3, k7, q4, hL', q5⟩
theorem iv_keep {w0 w w' : World} {b rb : Nat} {D : DataW Unit} {n : Nat} {wide p : Int} {l : List Bool} (h : IV w0 w b rb D n wide p l) (g : Gr w w') : IV w0 w' b rb D n wide p l := by
  obtain ⟨g0, hr, m, vb, k1, k2, k3, k4, k5, k6, k7, k8, hL, hR⟩ := h
  exact ⟨gtrans g0 g, hr, m, vb, k1, k2, k3, k4, k5, k6, k7, k8, hL.keep (S := fun _ => False) (Ch.of_gr g) (fun h => h) (fun _ _ h => h), hR.keep (S := fun _ => False) (Ch.of_gr g) (fun h => h) (fun _ _ h => h)⟩
theorem c_waitw (b : Nat) (wide g p s d : Int) (v : Value) (w : World) (h : w.heap[b]? = some (.cells (lk wide g p s d v) 61)) :
    Calls Try.prog 15 #[.pointer (some ⟨b, 0, none⟩)] w fun e w' => e = .returned (.int .u64 (IntKind.u64.wrap (g - p))) ∧ Gr w w' := by
  have c1 := blk_cell h 1 (v := .int .u64 g) rfl
  have c2 := blk_cell h 2 (v := .int .u64 p) rfl
  clear h
  go_enter Try.func15, Try.ntmps15
  go_wp2
  go_quiet ((first | (go_at_call 24; exact Calls.quiet_of_same (a_load _ g _ c1)) | (go_at_call 24; exact Calls.quiet_of_same (a_load _ p _ c2))))
  go_wp2
  go_ret
  exact ⟨rfl, (Gr.refl w).drewN _⟩
theorem iv_waiting {w0 : World} {b rb : Nat} {D : DataW Unit} {n : Nat} {wide p : Int} {l : List Bool} {w : World} (h : IV w0 w b rb D n wide p l) (h1 : 0 ≤ p) (h2 : p ≤ 8796093022208) (h3 : l.length ≤ 8796093022208) (h4 : 0 ≤ wide) (h5 : wide ≤ 64) :
    Calls Try.prog 15 #[.pointer (some ⟨b, 0, none⟩)] w fun e w' => e = .returned (.int .u64 (IntKind.u64.wrap (l.length - p))) ∧ IV w0 w' b rb D n wide p l := by
  have h0 := h
  obtain ⟨g0, hr, m, vb, k1, k2, k3, k4, k5, k6, k7, k8, hL, hR⟩ := h
  refine (c_waitw b wide l.length p 0 _ _ w hL.blk).mono ?_
  rintro e w' ⟨rfl, hC⟩
  exact ⟨rfl, iv_keep h0 hC⟩
theorem ir_waiting {w0 : World} {b rb : Nat} {D : DataW Unit} {n : Nat} {wide p : Int} {l : List Bool} {w : World} (h : IV w0 w b rb D n wide p l) (h1 : 0 ≤ p) (h2 : p ≤ 8796093022208) (h3 : l.length ≤ 8796093022208) (h4 : 0 ≤ wide) (h5 : wide ≤ 64) :
    Calls Try.prog 16 #[.pointer (some ⟨rb, 0, none⟩)] w fun e w' => e = .returned (.int .u64 (IntKind.u64.wrap (l.length - p))) ∧ IV w0 w' b rb D n wide p l := by
  have h0 := h
  obtain ⟨g0, hr, m, vb, k1, k2, k3, k4, k5, k6, k7, k8, hL, hR⟩ := h
  refine (r_waiting rb vb wide p l w hR h1 (by omega) (by omega)).mono ?_
  rintro e w' ⟨rfl, hC⟩
  exact ⟨rfl, iv_keep h0 hC⟩
theorem iv_let {w0 : World} {b rb : Nat} {D : DataW Unit} {n : Nat} {wide p : Int} {l : List Bool} {w : World} (h : IV w0 w b rb D n wide p l) (h1 : 0 ≤ p) (h2 : p ≤ 8796093022208) (h3 : l.length ≤ 8796093022208) (h4 : 0 ≤ wide) (h5 : wide ≤ 64) :
    Calls Try.prog 17 #[.pointer (some ⟨b, 0, none⟩)] w fun e w' => e = .returned (.int .u64 (letF wide l.length p)) ∧ IV w0 w' b rb D n wide p l := by
  have h0 := h
  obtain ⟨g0, hr, m, vb, k1, k2, k3, k4, k5, k6, k7, k8, hL, hR⟩ := h
  refine (c_let b wide l.length p 0 _ _ w hL.blk h1 (by omega) h4 h5).mono ?_
  rintro e w' ⟨rfl, hC⟩
  exact ⟨rfl, iv_keep h0 hC⟩
theorem ir_let {w0 : World} {b rb : Nat} {D : DataW Unit} {n : Nat} {wide p : Int} {l : List Bool} {w : World} (h : IV w0 w b rb D n wide p l) (h1 : 0 ≤ p) (h2 : p ≤ 8796093022208) (h3 : l.length ≤ 8796093022208) (h4 : 0 ≤ wide) (h5 : wide ≤ 64) :
    Calls Try.prog 18 #[.pointer (some ⟨rb, 0, none⟩)] w fun e w' => e = .returned (.int .u64 (letF wide l.length p)) ∧ IV w0 w' b rb D n wide p l := by
  have h0 := h
  obtain ⟨g0, hr, m, vb, k1, k2, k3, k4, k5, k6, k7, k8, hL, hR⟩ := h
  refine (r_let rb vb wide p l w hR h1 (by omega) (by omega) h4 h5).mono ?_
  rintro e w' ⟨rfl, hC⟩
  exact ⟨rfl, iv_keep h0 hC⟩
theorem ir_has {w0 : World} {b rb : Nat} {D : DataW Unit} {n : Nat} {wide p : Int} {l : List Bool} {w : World} (h : IV w0 w b rb D n wide p l) (h1 : 0 ≤ p) (h2 : p ≤ 8796093022208) (h3 : l.length ≤ 8796093022208) (h4 : 0 ≤ wide) (h5 : wide ≤ 64) (k : Nat) :
    Calls Try.prog 14 #[.pointer (some ⟨rb, 0, none⟩), .int .u64 k] w fun e w' => e = .returned (.bool (rhasB l wide p k)) ∧ IV w0 w' b rb D n wide p l := by
  have h0 := h
  obtain ⟨g0, hr, m, vb, k1, k2, k3, k4, k5, k6, k7, k8, hL, hR⟩ := h
  refine (r_has rb vb wide p l w hR h1 (by omega) (by omega) h4 h5 k (by omega)).mono ?_
  rintro e w' ⟨rfl, hC⟩
  exact ⟨rfl, iv_keep h0 hC⟩
theorem ir_pass_no {w0 : World} {b rb : Nat} {D : DataW Unit} {n : Nat} {wide p : Int} {l : List Bool} {w : World} (h : IV w0 w b rb D n wide p l) (h1 : 0 ≤ p) (h2 : p ≤ 8796093022208) (h3 : l.length ≤ 8796093022208) (h4 : 0 ≤ wide) (h5 : wide ≤ 64) (k : Nat) (hh : rhasB l wide p k = false) :
    Calls Try.prog 12 #[.pointer (some ⟨rb, 0, none⟩), .int .u64 k] w fun e w' => e = .returned (.int .i64 1) ∧ IV w0 w' b rb D n wide p l := by
  obtain ⟨g0, hr, m, vb, k1, k2, k3, k4, k5, k6, k7, k8, hL, hR⟩ := h
  refine (r_pass_no rb vb wide p l w hR h1 (by omega) (by omega) h4 h5 k (by omega) hh).mono ?_
  rintro e w' ⟨rfl, hR', hC⟩
  obtain ⟨q1, q2, q3, q4, q5⟩ := iv_ref (vb' := vb) g0 k2 k4 k5 k6 k7 k8 hL ⟨hC, .inl rfl⟩
  exact ⟨rfl, q1, hr, m, vb, k1, k2, k3, q2, k5, k6, q3, q4, q5, hR'⟩
/-- Between the lock's step and the document's. -/
def IM (w0 w : World) (b rb : Nat) (D : DataW Unit) (n : Nat) (wide g p p' : Int) (l : List Bool) : Prop :=
  Gr w0 w ∧ ∃ m vb, w0.heap.size ≤ b ∧ w0.heap.size ≤ rb ∧ (∀ x, m = some x → w0.heap.size ≤ x) ∧ (∀ x, vb = some x → w0.heap.size ≤ x) ∧
    b ≠ rb ∧ m ≠ some rb ∧ vb ≠ some b ∧ (∀ x, m = some x → vb ≠ some x) ∧ LockO w b m D n wide g p 0 ∧ RefO w rb vb wide p' l
theorem iv_ask {w0 : World} {b rb : Nat} {D : DataW Unit} {n : Nat} {wide p : Int} {l : List Bool} {w : World} (h : IV w0 w b rb D n wide p l) (h3 : l.length ≤ 8796093022208) :
    Calls Try.prog 9 #[.pointer (some ⟨b, 0, none⟩)] w fun e w' => e = .returned (.tuple #[.int .u64 l.length, .int .i64 0]) ∧ IM w0 w' b rb D n wide (l.length + 1) p p l := by
  obtain ⟨g0, hr, m, vb, k1, k2, k3, k4, k5, k6, k7, k8, hL, hR⟩ := h
  refine (c_ask b m D n wide l.length p w hL (by omega) (by omega)).mono ?_
  rintro e w' ⟨rfl, hL', hC⟩
  obtain ⟨q1, q2, q3, q4, q5⟩ := iv_lock (m' := m) (n := n) (D := D) (n' := n) (D' := D) (p' := p) (l' := l) g0 k1 k3 k5 k6 k7 k8 hR ⟨hC.mono (fun x hx => .inl hx), .inl rfl⟩
  exact ⟨rfl, q1, m, vb, k1, k2, q2, k4, k5, q3, k7, q4, hL', q5⟩
theorem ir_ask {w0 : World} {b rb : Nat} {D : DataW Unit} {n : Nat} {wide p : Int} {l : List Bool} {w : World} (hr : Rel D l) (h : IM w0 w b rb D n wide (l.length + 1) p p l) (h3 : l.length ≤ 8796093022208) :
    Calls Try.prog 10 #[.pointer (some ⟨rb, 0, none⟩)] w fun e w' => e = .returned (.int .u64 l.length) ∧ IV w0 w' b rb D n wide p (l ++ [false]) := by
  obtain ⟨g0, m, vb, k1, k2, k3, k4, k5, k6, k7, k8, hL, hR⟩ := h
  refine (r_ask rb vb wide p l w hR (by omega)).mono ?_
  rintro e w' ⟨rfl, vb', hR', hC⟩
  obtain ⟨q1, q2, q3, q4, q5⟩ := iv_ref g0 k2 k4 k5 k6 k7 k8 hL hC
  exact ⟨rfl, q1, rel_ask hr, m, vb', k1, k2, k3, q2, k5, k6, q3, q4, by simpa using q5, hR'⟩
theorem iv_pass_yes {w0 : World} {b rb : Nat} {D : DataW Unit} {n : Nat} {wide p : Int} {l : List Bool} {w : World} (h : IV w0 w b rb D n wide p l) (h1 : 0 ≤ p) (h2 : p ≤ 8796093022208) (h3 : l.length ≤ 8796093022208) (h4 : 0 ≤ wide) (h5 : wide ≤ 64) (k : Nat) (hk : (k : Int) ≤ 18446744073709551615) (hh : rhasB l wide p k = true) (hn : n < maxLen) :
    Calls Try.prog 11 #[.pointer (some ⟨b, 0, none⟩), .int .u64 k] w fun e w' => e = .returned (.int .i64 0) ∧ IM w0 w' b rb (D.put (.int .u64 k) u0) (n + 1) wide l.length (p + 1) p l := by
  obtain ⟨g0, hr, m, vb, k1, k2, k3, k4, k5, k6, k7, k8, hL, hR⟩ := h
  refine (c_pass_yes b m D n wide l.length p k w hL (wf_mk (by omega) hk) h1 (by omega) h4 h5 (by rw [rel_has hr, hh]) hn).mono ?_
  rintro e w' ⟨rfl, m', hL', hC⟩
  obtain ⟨q1, q2, q3, q4, q5⟩ := iv_lock (n := n) (D := D) (n' := n) (D' := D) (p' := p) (l' := l) g0 k1 k3 k5 k6 k7 k8 hR hC
  exact ⟨rfl, q1, m', vb, k1, k2, q2, k4, k5, q3, k7, q4, hL', q5⟩
theorem ir_pass_yes {w0 : World} {b rb : Nat} {D : DataW Unit} {n : Nat} {wide p : Int} {l : List Bool} {w : World} (hr : Rel D l) (k : Nat) (h : IM w0 w b rb (D.put (.int .u64 k) u0) (n + 1) wide l.length (p + 1) p l) (h1 : 0 ≤ p) (h2 : p ≤ 8796093022208) (h3 : l.length ≤ 8796093022208) (h4 : 0 ≤ wide) (h5 : wide ≤ 64) (hh : rhasB l wide p k = true) :
    Calls Try.prog 12 #[.pointer (some ⟨rb, 0, none⟩), .int .u64 k] w fun e w' => e = .returned (.int .i64 0) ∧ IV w0 w' b rb (D.put (.int .u64 k) u0) (n + 1) wide (p + 1) (l.set k true) := by
  have hk : k < l.length := by
    unfold rhasB at hh; simp only [Bool.and_eq_true, decide_eq_true_eq] at hh; omega
  obtain ⟨g0, m, vb, k1, k2, k3, k4, k5, k6, k7, k8, hL, hR⟩ := h
  refine (r_pass_yes rb vb wide p l w hR h1 (by omega) (by omega) h4 h5 k hh).mono ?_
  rintro e w' ⟨rfl, hR', hC⟩
  obtain ⟨q1, q2, q3, q4, q5⟩ := iv_ref (vb' := vb) g0 k2 k4 k5 k6 k7 k8 hL ⟨hC, .inl rfl⟩
  exact ⟨rfl, q1, rel_pass hr k hk, m, vb, k1, k2, k3, q2, k5, k6, q3, q4, by simpa using q5, hR'⟩
end Go.Proofs.Ytjjjokhbkkifjaa.P
