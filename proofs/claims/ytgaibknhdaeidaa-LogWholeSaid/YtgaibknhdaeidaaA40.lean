/- Stage 7: what LogWhole is asked of, opened: its parts. No condition. -/
import Derived.Test.YtgaibknhdaeidaaA38
import Derived.Test.YtgaibknhdaeidaaA39
set_option linter.unusedVariables false
set_option maxRecDepth 50000
namespace Go.Proofs.Ytgaibknhdaeidaa.P
open Go.RowKit
def RowU (w : World) (o : Option Addr) (A : List Int) : Prop := ∀ j i, A[j]? = some i → ∃ b off, o = some ⟨b, off, none⟩ ∧ w.cell? ⟨b, off + j, none⟩ = some (.int .u64 i)
section
open Go.ChangeShapes Go.WideShapes Go.Deep
variable {H : Type} {enc : TypeId × Value → H} {w : World} {base : Nat} {spare : Nat → Bool} {held : Bool}
theorem open_u64s_c {n : Nat} {x : Value} {y : DataW H × List MemPlace} (h : DataW.trod enc Try.prog w base spare held n 27 [x] = some y) (HD : ∀ k ∈ y.1.weights Try.prog 27, k ≤ 140737488351232) :
    ∃ (o : Option Addr) (c : Nat) (A : List Int), x = .slice o A.length c ∧ A.length ≤ 4000000000000000 ∧ RowU w o A ∧ ∀ q ∈ A, u64 q := by
  rcases open_ints Try.underlying27 Try.underlying43 (by kernel_rfl) h with ⟨hcs, _⟩ | ⟨a, len, cap, zs, hcs, hb, hl, hm, hzs, hx, hcell, hsz⟩
  · injection hcs with hcs _
    exact ⟨none, 0, [], hcs, by simp, (fun j i hj => by simp at hj), fun q hq => by cases hq⟩
  · injection hcs with hcs _
    have ed := congrArg Prod.fst hx
    dsimp only at ed
    have hle : len ≤ zs.length := by rw [hzs]; split <;> omega
    refine ⟨some a, cap, zs.take len, by rw [List.length_take, Nat.min_eq_left hle]; exact hcs, ?_, fun j i hj => ?_, fun q hq => wf_u64 (hsz q (List.mem_of_mem_take hq))⟩
    · have hby : Try.prog.bytesOf 43 = 8 := by kernel_rfl
      have := HD ((List.length (lits (H := H) .u64 (zs.take len)) + List.length (lits (H := H) .u64 (zs.drop len))) * Try.prog.bytesOf 43) (by
        rw [ed]
        simp only [DataW.weights, Try.underlying27, List.mem_cons]
        exact .inl trivial)
      rw [hby] at this
      have h2 : (lits (H := H) .u64 (zs.take len)).length = (zs.take len).length := by simp [lits]
      rw [h2] at this
      omega
    · have hjl : j < (zs.take len).length := (List.getElem?_eq_some_iff.1 hj).1
      rw [List.length_take, Nat.min_eq_left hle] at hjl
      have h1 := hcell j (by omega)
      have h2 : zs.getD j 0 = i := by
        rw [List.getElem?_take_of_lt hjl] at hj
        rw [List.getD_eq_getElem?_getD, hj]; rfl
      rw [h2] at h1
      have hsp : a.spot = none := by simpa [Addr.add] using World.cell?_spot (hcell 0 (by omega))
      obtain ⟨bl, off, sp⟩ := a
      dsimp only at hsp
      subst hsp
      exact ⟨bl, off, rfl, by rw [← add_at]; exact h1⟩
theorem open_tx_c {n0 : Nat} {x0 x1 : Value} {y : DataW H × List MemPlace} (hf : DataW.trod enc Try.prog w base spare held n0 26 [x0, x1] = some y) (HD : ∀ n ∈ y.1.weights Try.prog 26, n ≤ 140737488351232) :
    ∃ (oI oS : Option Addr) (cI cS : Nat) (I : List Int) (S : List ByteArray), x0 = .slice oI I.length cI ∧ x1 = .slice oS S.length cS ∧ RowI w oI I ∧ RowS w oS S ∧ I.length ≤ 4000000000000000 ∧ S.length ≤ 4000000000000000 ∧ ∀ s ∈ S, s.size ≤ 9223372036854770000 := by
  obtain ⟨ys, n, _, hx, hl, hy, hg⟩ := DataW.trod_struct Try.underlying26 hf
  have ed := congrArg Prod.fst hx
  dsimp only at ed
  match ys, hy with
  | [y0, y1], _ =>
    have h0 : DataW.trod enc Try.prog w base spare held n 23 (([x0, x1].drop 0).take (Try.prog.cellsOf 23)) = some y0 := hg 0 _ rfl
    rw [show Try.prog.cellsOf 23 = 1 by kernel_rfl] at h0
    change DataW.trod enc Try.prog w base spare held n 23 [x0] = some y0 at h0
    have h1 : DataW.trod enc Try.prog w base spare held n 24 (([x0, x1].drop 1).take (Try.prog.cellsOf 24)) = some y1 := hg 1 _ rfl
    rw [show Try.prog.cellsOf 24 = 1 by kernel_rfl] at h1
    change DataW.trod enc Try.prog w base spare held n 24 [x1] = some y1 at h1
    have hw : y.1.weights Try.prog 26 = y0.1.weights Try.prog 23 ++ (y1.1.weights Try.prog 24 ++ []) := by
      rw [ed]
      simp only [DataW.weights, Try.underlying26]
      rfl
    obtain ⟨oI, cI, I, rfl, a1, a2⟩ := open_ints_c h0 (fun k hk => HD k (by rw [hw]; exact List.mem_append.2 (.inl hk)))
    obtain ⟨oS, cS, S, rfl, b1, b2, b3⟩ := open_strs_c h1 (fun k hk => HD k (by rw [hw, List.append_nil]; exact List.mem_append.2 (.inr hk)))
    exact ⟨oI, oS, cI, cS, I, S, rfl, rfl, a2, b2, a1, b1, b3⟩
end
end Go.Proofs.Ytgaibknhdaeidaa.P
