/- Stage 6: acts opened; DiskNil. No condition. -/
import Derived.Test.YtipnmffcfloglaaH3
import Derived.Test.YtipnmffcfloglaaZ
set_option linter.unusedVariables false
namespace Go.Proofs.Ytipnmffcfloglaa.P
open Go.RowKit
structure KActV where
  kind : Int
  i : Int
  s : ByteArray
  keep : Int
def KActV.ok (x : KActV) : Prop := i64 x.kind ∧ i64 x.i ∧ x.s.size ≤ 140737488351232 ∧ u64 x.keep
/-- The acts lie there. -/
def KActs (w : World) (bl off len : Nat) (f : Nat → KActV) : Prop :=
  ∀ i, i < len → (f i).ok ∧ w.cell? ⟨bl, off + i * 4, none⟩ = some (.int .i64 (f i).kind) ∧ w.cell? ⟨bl, off + i * 4 + 1, none⟩ = some (.int .i64 (f i).i) ∧ w.cell? ⟨bl, off + i * 4 + 2, none⟩ = some (.string (f i).s) ∧ w.cell? ⟨bl, off + i * 4 + 3, none⟩ = some (.int .u64 (f i).keep)
section
open Go.ChangeShapes Go.WideShapes Go.Deep
variable {H : Type} {enc : TypeId × Value → H} {w : World} {base : Nat} {spare : Nat → Bool} {held : Bool}
set_option maxRecDepth 100000 in
theorem Kopen_acts {v : Value} {d : DataW H} {ps : List MemPlace} (hv : ∃ (o : Option Addr) (l c : Nat), v = .slice o l c) (h : DataW.Trod enc Try.prog w base spare held 22 v d ps) (HD : ∀ n ∈ d.weights Try.prog 22, n ≤ 140737488351232) :
    ∃ (o : Option Addr) (len cap bl off : Nat) (f : Nat → KActV), v = .slice o len cap ∧ len * 40 ≤ 140737488351232 ∧ (0 < len → o = some ⟨bl, off, none⟩ ∧ bl < w.heap.size) ∧ KActs w bl off len f := by
  rcases open_structs_w Try.underlying22 Try.underlying34 (by kernel_rfl) (by kernel_rfl) (by decide) hv h with ⟨o, cap, rfl⟩ | ⟨bl, off, len, cap, rfl, hl0, hlc, hcap, hbl, ⟨N, hN1, hN2⟩, hf⟩
  · exact ⟨o, 0, cap, 0, 0, fun _ => ⟨0, 0, ⟨#[]⟩, 0⟩, rfl, by omega, fun h => absurd h (by omega), fun i hi => absurd hi (by omega)⟩
  · have hby : Try.prog.bytesOf 34 = 40 := by kernel_rfl
    rw [hby] at hN2
    have hN3 := HD _ hN2
    have hx : ∀ i, ∃ a : KActV, i < len → a.ok ∧ w.cell? ⟨bl, off + i * 4, none⟩ = some (.int .i64 a.kind) ∧ w.cell? ⟨bl, off + i * 4 + 1, none⟩ = some (.int .i64 a.i) ∧ w.cell? ⟨bl, off + i * 4 + 2, none⟩ = some (.string a.s) ∧ w.cell? ⟨bl, off + i * 4 + 3, none⟩ = some (.int .u64 a.keep) := by
      intro i
      by_cases hi : i < len
      · obtain ⟨u0, y0, n0, c0, t0, m0⟩ := hf i hi 0 _ rfl
        obtain ⟨u1, y1, n1, c1, t1, m1⟩ := hf i hi 1 _ rfl
        obtain ⟨u2, y2, n2, c2, t2, m2⟩ := hf i hi 2 _ rfl
        obtain ⟨u3, y3, n3, c3, t3, m3⟩ := hf i hi 3 _ rfl
        obtain ⟨x0, e0, _, k0⟩ := DataW.trod_int Try.underlying3 t0
        obtain ⟨x1, e1, _, k1⟩ := DataW.trod_int Try.underlying3 t1
        obtain ⟨x2, e2, q2, _⟩ := DataW.trod_string Try.underlying9 t2
        have k2 : x2.size ≤ 140737488351232 := by
          rw [q2] at m2
          have := HD _ (m2 _ (by simp only [DataW.weights, List.mem_singleton]; rfl))
          simpa using this
        obtain ⟨x3, e3, _, k3⟩ := DataW.trod_int Try.underlying32 t3
        rw [List.singleton_inj] at e0 e1 e2 e3
        subst e0; subst e1; subst e2; subst e3
        exact ⟨⟨x0, x1, x2, x3⟩, fun _ => ⟨⟨wf_i64 k0, wf_i64 k1, k2, wf_u64 k3⟩, c0, c1, c2, c3⟩⟩
      · exact ⟨⟨0, 0, ⟨#[]⟩, 0⟩, fun h => absurd h hi⟩
    obtain ⟨f, hf'⟩ := Classical.axiomOfChoice hx
    exact ⟨some ⟨bl, off, none⟩, len, cap, bl, off, f, rfl, Nat.le_trans (Nat.mul_le_mul_right _ hN1) hN3, fun _ => ⟨rfl, hbl⟩, fun i hi => hf' i hi⟩
end

set_option maxHeartbeats 800000 in
theorem l_nil6 (i : Int) (s : ByteArray) (K : Int) (w : World) : Calls Try.prog 6 #[.int .i64 i, .string s, .int .u64 K] w fun e w' => e = .returned (.bool true) ∧ Gr w w' := by
  go_enter Try.func6, Try.ntmps6
  go_wp2_with (first
    | (go_at_call 9; refine (c_shown _).mono ?_; rintro e w1 ⟨rfl, g1⟩; have G1 := Lib.hid g1; clear g1)
    | (go_at_call 23; refine (n_dread _ _).mono ?_; rintro e w2 ⟨rfl, g2⟩; have G2 := Lib.hid g2; clear g2)
    | (go_at_call 20; refine (n_dwrite _ _ _).mono ?_; rintro e w3 ⟨rfl, h3⟩; subst h3)
    | (go_at_call 22; refine (n_dflush _).mono ?_; rintro e w3 ⟨rfl, h3⟩; subst h3)
    | (go_at_call 25; refine (n_dpower _ _).mono ?_; rintro e w3 ⟨rfl, h3⟩; subst h3)
    | (go_at_call 24; refine (n_dcrash _ _).mono ?_; rintro e w4 ⟨rfl, g4⟩; have G4 := Lib.hid g4; clear g4)
    | (go_at_call 16; refine (n_dimage _).mono ?_; rintro e w5 ⟨rfl, h3⟩; subst h3)
    | (go_at_call 14; refine (n_dwaiting _).mono ?_; rintro e w6 ⟨rfl, h3⟩; subst h3)
    | (go_at_call 17; refine (n_dsectors _).mono ?_; rintro e w7 ⟨rfl, h3⟩; subst h3))
  go_ret
  exact ⟨rfl, gtrans G1.out (gtrans G2.out G4.out)⟩
end Go.Proofs.Ytipnmffcfloglaa.P
