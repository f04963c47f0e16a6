/- Stage 13: the arguments of the laws opened: a pipe by value, a list of acts. No condition. -/
import Derived.Test.YtplkijpllibpfaaP4
set_option linter.unusedVariables false
namespace Go.Proofs.Ytplkijpllibpfaa.P
open Go.RowKit Go.Joins Go.ChangeShapes Go.WideShapes Go.Deep
section
variable {H : Type} {enc : TypeId × Value → H} {w : World} {base : Nat} {spare : Nat → Bool} {held : Bool}
theorem open_pipe {v : Value} {d : DataW H} {ps : List MemPlace} {r : Reach} {b0 : Nat} (hv : Value.okWide Try.prog w r b0 23 v) (h : DataW.Trod enc Try.prog w base spare held 23 v d ps) :
    ∃ (b : ByteArray) (x y : Int), v = .agg #[.string b, .int .i64 x, .int .i64 y] ∧ b.size ≤ maxLen ∧ i64 x ∧ i64 y := by
  obtain ⟨v0, v1, v2, y0, y1, y2, n, rfl, rfl, rfl, h0, h1, h2⟩ := open_agg3 Try.underlying23 (by kernel_rfl) (by kernel_rfl) hv h
  obtain ⟨b, e0, _, k0⟩ := DataW.trod_string Try.underlying9 h0
  obtain ⟨x, e1, _, k1⟩ := DataW.trod_int Try.underlying3 h1
  obtain ⟨y, e2, _, k2⟩ := DataW.trod_int Try.underlying3 h2
  rw [List.singleton_inj] at e0 e1 e2
  exact ⟨b, x, y, by rw [e0, e1, e2], k0, wf_i64 k1, wf_i64 k2⟩
theorem open_acts {v : Value} {d : DataW H} {ps : List MemPlace} {r : Reach} {b0 : Nat} (hv : Value.okWide Try.prog w r b0 24 v) (h : DataW.Trod enc Try.prog w base spare held 24 v d ps) :
    (∃ (o : Option Addr) (cap : Nat), v = .slice o 0 cap) ∨
    ∃ (bl off len cap : Nat) (f : Nat → ActV), v = .slice (some ⟨bl, off, none⟩) len cap ∧ len ≤ maxLen ∧ bl < w.heap.size ∧ Acts w bl off len f := by
  rcases open_structs Try.underlying24 Try.underlying27 (by kernel_rfl) (by kernel_rfl) (by decide) hv h with h0 | ⟨bl, off, len, cap, rfl, hl0, hlc, hcap, hbl, hf⟩
  · exact .inl h0
  · refine .inr ?_
    have hx : ∀ i, ∃ a : ActV, i < len → a.ok ∧ w.cell? ⟨bl, off + i * 4, none⟩ = some (.int .i64 a.kind) ∧ w.cell? ⟨bl, off + i * 4 + 1, none⟩ = some (.int .i64 a.n) ∧
        w.cell? ⟨bl, off + i * 4 + 2, none⟩ = some (.int .i64 a.k) ∧ w.cell? ⟨bl, off + i * 4 + 3, none⟩ = some (.string a.s) := by
      intro i
      by_cases hi : i < len
      · obtain ⟨u0, y0, n0, c0, t0⟩ := hf i hi 0 _ rfl
        obtain ⟨u1, y1, n1, c1, t1⟩ := hf i hi 1 _ rfl
        obtain ⟨u2, y2, n2, c2, t2⟩ := hf i hi 2 _ rfl
        obtain ⟨u3, y3, n3, c3, t3⟩ := hf i hi 3 _ rfl
        obtain ⟨k, e0, _, k0⟩ := DataW.trod_int Try.underlying3 t0
        obtain ⟨n, e1, _, k1⟩ := DataW.trod_int Try.underlying3 t1
        obtain ⟨m, e2, _, k2⟩ := DataW.trod_int Try.underlying3 t2
        obtain ⟨s, e3, _, k3⟩ := DataW.trod_string Try.underlying9 t3
        rw [List.singleton_inj] at e0 e1 e2 e3
        subst e0; subst e1; subst e2; subst e3
        exact ⟨⟨k, n, m, s⟩, fun _ => ⟨⟨wf_i64 k0, wf_i64 k1, wf_i64 k2, k3⟩, c0, c1, c2, c3⟩⟩
      · exact ⟨⟨0, 0, 0, ⟨#[]⟩⟩, fun h => absurd h hi⟩
    obtain ⟨f, hf'⟩ := Classical.axiomOfChoice hx
    exact ⟨bl, off, len, cap, f, rfl, by omega, hbl, fun i hi => hf' i hi⟩
end
set_option maxHeartbeats 1600000 in
theorem l_plays0 (b : ByteArray) (r x : Int) (hb : b.size ≤ maxLen) (hr : i64 r) (hx : i64 x) (o : Option Addr) (cap : Nat) (w : World) :
    Calls Try.prog 3 #[.agg #[.string b, .int .i64 r, .int .i64 x], .slice o 0 cap] w fun e w' => e = .returned (.bool true) ∧ Gr w w' := by
  go_enter Try.func3, Try.ntmps3
  go_wp2_with fail
  refine (c_shown _).mono ?_; rintro e w1 ⟨rfl, g1⟩
  have B1 := Lib.hid (blk_gr g1 (blk_new w _))
  have c0 := blk_cell B1.out 0 rfl
  have c1 := blk_cell B1.out 1 rfl
  have c2 := blk_cell B1.out 2 rfl
  go_wp2_with fail
  clear c0 c1 c2
  go_loopw [7] (fun v7 wr => v7 = .int .i64 0 ∧ Gr w wr) (fun _ _ => 0)
  case atStart => exact ⟨rfl, Below.alloc (galloc _ g1) (by have := g1.size; simp at this; omega) _⟩
  case round =>
    obtain ⟨rfl, hg⟩ := hrel
    go_wp2_with fail
    go_ret
    exact ⟨rfl, hg⟩
end Go.Proofs.Ytplkijpllibpfaa.P
