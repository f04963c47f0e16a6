/- Stage 15: the document's lock in memory, and its calls. No condition. -/
import Derived.Test.YtjjjokhbkkifjaaL5
import Derived.Maps.AppendAt
import Derived.Deep.AppendLies
import Derived.Laws.OwnMore
set_option linter.unusedVariables false
namespace Go.Proofs.Ytjjjokhbkkifjaa.P
open Go.RowKit Go.MuLone Go.Maps
def RefO (w : World) (rb : Nat) (vb : Option Nat) (wide p : Int) (l : List Bool) : Prop :=
  ∃ (o : Option Addr) (cap : Nat), w.heap[rb]? = some (.cells #[.int .i64 wide, .slice o l.length cap, .int .i64 p] 32) ∧
    w.ownsRow 0 4 1 (.slice o l.length cap) l.length (l.map Value.bool) ∧ (Value.slice o l.length cap).ownBlock = vb ∧ vb ≠ some rb
theorem ownsRow_ch {S : Nat → Prop} {w w' : World} {base : Nat} {e : TypeId} {size : Nat} {v : Value} {n : Nat} {xs : List Value} (h : w.ownsRow base e size v n xs) (hc : Ch S w w') (hn : ∀ x, v.ownBlock = some x → ¬ S x) : w'.ownsRow base e size v n xs := by
  obtain ⟨h1, h2 | ⟨g, cap, cur, rfl, hb, hg, h3⟩⟩ := h
  · exact ⟨h1, .inl h2⟩
  · exact ⟨h1, .inr ⟨g, cap, cur, rfl, hb, hc.blk hg (hn g rfl), h3⟩⟩
theorem RefO.keep {w w' : World} {rb : Nat} {vb : Option Nat} {wide p : Int} {l : List Bool} {S : Nat → Prop} (h : RefO w rb vb wide p l) (hc : Ch S w w') (h1 : ¬ S rb) (h2 : ∀ x, vb = some x → ¬ S x) : RefO w' rb vb wide p l := by
  obtain ⟨o, cap, hb, ho, hv, hn⟩ := h
  exact ⟨o, cap, hc.blk hb h1, ownsRow_ch ho hc (fun x hx => h2 x (by rw [← hv, hx])), hv, hn⟩
theorem r_takes (wide : Int) (w : World) : Calls Try.prog 8 #[.int .i64 wide] w fun e w' => e = .returned (.bool (decide (1 ≤ wide ∧ wide ≤ 64))) ∧ w' = w := by
  by_cases h1 : 1 ≤ wide
  · by_cases h2 : wide ≤ 64
    · go_enter Try.func8, Try.ntmps8
      go_wp2
      go_ret
      exact ⟨ret_b (by simp; omega), rfl⟩
    · go_enter Try.func8, Try.ntmps8
      go_wp2
      go_ret
      exact ⟨ret_b (by simp; omega), rfl⟩
  · go_enter Try.func8, Try.ntmps8
    go_wp2
    go_ret
    exact ⟨ret_b (by simp; omega), rfl⟩
theorem r_waiting (rb : Nat) (vb : Option Nat) (wide p : Int) (l : List Bool) (w : World) (h : RefO w rb vb wide p l) (h1 : 0 ≤ p) (h2 : p ≤ 4611686018427387904) (h3 : l.length ≤ 4611686018427387904) :
    Calls Try.prog 16 #[.pointer (some ⟨rb, 0, none⟩)] w fun e w' => e = .returned (.int .u64 (IntKind.u64.wrap (l.length - p))) ∧ Gr w w' := by
  obtain ⟨o, cap, hb, _, _, _⟩ := h
  have c1 := blk_cell hb 1 (v := .slice o l.length cap) rfl
  have c2 := blk_cell hb 2 (v := .int .i64 p) rfl
  clear hb
  generalize l.length = n at *
  go_enter Try.func16, Try.ntmps16
  go_wp2
  go_quiet (skip)
  go_wp2
  go_ret
  exact ⟨rfl, (Gr.refl w).drewN _⟩
theorem r_let (rb : Nat) (vb : Option Nat) (wide p : Int) (l : List Bool) (w : World) (h : RefO w rb vb wide p l) (h1 : 0 ≤ p) (h2 : p ≤ 4611686018427387904) (h3 : l.length ≤ 4611686018427387904) (h4 : 0 ≤ wide) (h5 : wide ≤ 64) :
    Calls Try.prog 18 #[.pointer (some ⟨rb, 0, none⟩)] w fun e w' => e = .returned (.int .u64 (letF wide l.length p)) ∧ Gr w w' := by
  obtain ⟨o, cap, hb, _, _, _⟩ := h
  have c0 := blk_cell hb 0 (v := .int .i64 wide) rfl
  have c1 := blk_cell hb 1 (v := .slice o l.length cap) rfl
  have c2 := blk_cell hb 2 (v := .int .i64 p) rfl
  clear hb
  generalize l.length = n at *
  have e1 : IntKind.u64.wrap (p + wide) = p + wide := by rw [IntKind.wrap_u64]; omega
  have e2 : IntKind.u64.wrap (n : Int) = n := by rw [IntKind.wrap_u64]; omega
  by_cases hlt : (n : Int) < p + wide
  all_goals
    go_enter Try.func18, Try.ntmps18
    go_wp2
    go_quiet (skip)
    go_wp2
    go_ret
    exact ⟨ret_u (by unfold letF; split <;> omega), (Gr.refl w).drewN _⟩
def rhasB (l : List Bool) (wide p t : Int) : Bool := decide (t < l.length) && decide (t < p + wide) && !(l.getD t.toNat false)
set_option maxHeartbeats 800000 in
theorem r_has (rb : Nat) (vb : Option Nat) (wide p : Int) (l : List Bool) (w : World) (h : RefO w rb vb wide p l) (h1 : 0 ≤ p) (h2 : p ≤ 4611686018427387904) (h3 : l.length ≤ 4611686018427387904) (h4 : 0 ≤ wide) (h5 : wide ≤ 64) (t : Int) (ht : 0 ≤ t) :
    Calls Try.prog 14 #[.pointer (some ⟨rb, 0, none⟩), .int .u64 t] w fun e w' => e = .returned (.bool (rhasB l wide p t)) ∧ Gr w w' := by
  obtain ⟨o, cap, hb, hown, _, _⟩ := h
  have c0 := blk_cell hb 0 (v := .int .i64 wide) rfl
  have c1 := blk_cell hb 1 (v := .slice o l.length cap) rfl
  have c2 := blk_cell hb 2 (v := .int .i64 p) rfl
  clear hb
  have e1 : IntKind.u64.wrap (p + wide) = p + wide := by rw [IntKind.wrap_u64]; omega
  have e2 : IntKind.u64.wrap (l.length : Int) = l.length := by rw [IntKind.wrap_u64]; omega
  by_cases hA : t < l.length
  · have dA : decide (t < (l.length : Int)) = true := decide_eq_true hA
    by_cases hB : t < p + wide
    · have dB : decide (t < p + wide) = true := decide_eq_true hB
      obtain ⟨k, rfl⟩ : ∃ k : Nat, t = (k : Int) := ⟨t.toNat, by omega⟩
      have hk : k < l.length := by omega
      have hx : (l.map Value.bool)[k]? = some (.bool (l.getD k false)) := by simp [List.getD, List.getElem?_eq_getElem hk]
      have E : rhasB l wide p k = !(l.getD k false) := by unfold rhasB; rw [dA, dB]; simp
      have HE := Lib.hid E
      clear E
      obtain ⟨_, ⟨hv, h0⟩ | ⟨g, cap', cur, hv, _, hg, _, _, hcs, htk⟩⟩ := id hown
      · omega
      · injection hv with hv _ hcap
        subst hv
        have cc : w.cell? ⟨g, k, none⟩ = some (.bool (l.getD k false)) := by
          rw [World.ownsRow.cellAt hown k (by omega)]; exact hx
        generalize l.getD k false = x at *
        clear hx hg htk hown
        generalize l.length = n at *
        have hk0 : (0 : Int) ≤ k := by omega
        go_enter Try.func14, Try.ntmps14
        go_wp2
        go_quiet (skip)
        go_wp2
        go_ret
        exact ⟨ret_b HE.out.symm, (Gr.refl w).drewN _⟩
    · have dB : decide (t < p + wide) = false := decide_eq_false hB
      have E : rhasB l wide p t = false := by unfold rhasB; rw [dA, dB]; simp
      have HE := Lib.hid E
      clear E hown
      generalize l.length = n at *
      go_enter Try.func14, Try.ntmps14
      go_wp2
      go_quiet (skip)
      go_wp2
      go_ret
      exact ⟨ret_b HE.out.symm, (Gr.refl w).drewN _⟩
  · have dA : decide (t < (l.length : Int)) = false := decide_eq_false hA
    have E : rhasB l wide p t = false := by unfold rhasB; rw [dA]; simp
    have HE := Lib.hid E
    clear E hown
    generalize l.length = n at *
    go_enter Try.func14, Try.ntmps14
    go_wp2
    go_quiet (skip)
    go_wp2
    go_ret
    exact ⟨ret_b HE.out.symm, (Gr.refl w).drewN _⟩
end Go.Proofs.Ytjjjokhbkkifjaa.P
