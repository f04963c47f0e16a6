/- Stage 7: what LogWhole is asked of, opened. No condition. -/
import Derived.Test.YtgaibknhdaeidaaA40
set_option linter.unusedVariables false
set_option maxRecDepth 50000
namespace Go.Proofs.Ytgaibknhdaeidaa.P
open Go.RowKit
section
open Go.ChangeShapes Go.WideShapes Go.Deep
variable {H : Type} {enc : TypeId × Value → H} {w : World} {base : Nat} {spare : Nat → Bool} {held : Bool}
theorem open_txs_c {n : Nat} {x : Value} {y : DataW H × List MemPlace} (h : DataW.trod enc Try.prog w base spare held n 22 [x] = some y) (HD : ∀ k ∈ y.1.weights Try.prog 22, k ≤ 140737488351232) :
    ∃ (o : Option Addr) (len cap bl off : Nat), x = .slice o len cap ∧ len ≤ 4000000000000000 ∧ (0 < len → o = some ⟨bl, off, none⟩) ∧ ∀ k, k < len → TxAt w bl off k := by
  have hv : ∃ (o : Option Addr) (l c : Nat), x = .slice o l c := by
    rcases open_slice Try.underlying22 h with ⟨hcs, _⟩ | ⟨a, len, cap, m, n, D, Pl, hcs, _⟩
    · injection hcs with hcs _; exact ⟨_, _, _, hcs⟩
    · injection hcs with hcs _; exact ⟨_, _, _, hcs⟩
  obtain ⟨o, l, c, rfl⟩ := hv
  exact open_txs (d := y.1) (ps := y.2) ⟨o, l, c, rfl⟩ ⟨n, h⟩ HD
theorem open_whole {v : Value} {d : DataW H} {ps : List MemPlace} {r : Reach} {b0 : Nat} (hv : Value.okWide Try.prog w r b0 29 v) (h : DataW.Trod enc Try.prog w base spare held 29 v d ps) (HD : ∀ n ∈ d.weights Try.prog 29, n ≤ 140737488351232) :
    ∃ (o1 : Option Addr) (len cap bl off : Nat) (oI oS : Option Addr) (cI cS : Nat) (I : List Int) (S : List ByteArray) (p : Int) (oK : Option Addr) (cK : Nat) (K : List Int),
      v = .agg #[.slice o1 len cap, .slice oI I.length cI, .slice oS S.length cS, .int .i64 p, .slice oK K.length cK] ∧ (len ≤ 4000000000000000 ∧ (0 < len → o1 = some ⟨bl, off, none⟩) ∧ ∀ k, k < len → TxAt w bl off k) ∧
      (RowI w oI I ∧ RowS w oS S ∧ I.length ≤ 4000000000000000 ∧ S.length ≤ 4000000000000000 ∧ ∀ s ∈ S, s.size ≤ 9223372036854770000) ∧ i64 p ∧ K.length ≤ 4000000000000000 ∧ RowU w oK K ∧ ∀ q ∈ K, u64 q := by
  obtain ⟨c, rfl, hsz⟩ := okWide_struct Try.underlying29 hv
  obtain ⟨fuel, hf⟩ := h
  obtain ⟨ys, n, _, hx, hl, hy, hg⟩ := DataW.trod_struct Try.underlying29 hf
  have e0 : Try.prog.cellsOf 29 = 5 := by kernel_rfl
  rw [e0] at hl
  have ed := congrArg Prod.fst hx
  dsimp only at ed
  obtain ⟨l⟩ := c
  match l, hl, ys, hy with
  | [x0, x1, x2, x3, x4], _, [y0, y1, y2, y3], _ =>
    have h0 : DataW.trod enc Try.prog w base spare held n 22 (([x0, x1, x2, x3, x4].drop 0).take (Try.prog.cellsOf 22)) = some y0 := hg 0 _ rfl
    rw [show Try.prog.cellsOf 22 = 1 by kernel_rfl] at h0
    change DataW.trod enc Try.prog w base spare held n 22 [x0] = some y0 at h0
    have h1 : DataW.trod enc Try.prog w base spare held n 26 (([x0, x1, x2, x3, x4].drop 1).take (Try.prog.cellsOf 26)) = some y1 := hg 1 _ rfl
    rw [show Try.prog.cellsOf 26 = 2 by kernel_rfl] at h1
    change DataW.trod enc Try.prog w base spare held n 26 [x1, x2] = some y1 at h1
    have h2 : DataW.trod enc Try.prog w base spare held n 3 (([x0, x1, x2, x3, x4].drop 3).take (Try.prog.cellsOf 3)) = some y2 := hg 2 _ rfl
    rw [show Try.prog.cellsOf 3 = 1 by kernel_rfl] at h2
    change DataW.trod enc Try.prog w base spare held n 3 [x3] = some y2 at h2
    have h3 : DataW.trod enc Try.prog w base spare held n 27 (([x0, x1, x2, x3, x4].drop 4).take (Try.prog.cellsOf 27)) = some y3 := hg 3 _ rfl
    rw [show Try.prog.cellsOf 27 = 1 by kernel_rfl] at h3
    change DataW.trod enc Try.prog w base spare held n 27 [x4] = some y3 at h3
    have hw : d.weights Try.prog 29 = y0.1.weights Try.prog 22 ++ (y1.1.weights Try.prog 26 ++ (y2.1.weights Try.prog 3 ++ (y3.1.weights Try.prog 27 ++ []))) := by
      rw [ed]
      simp only [DataW.weights, Try.underlying29]
      rfl
    obtain ⟨o1, len, cap, bl, off, rfl, a1, a2, a3⟩ := open_txs_c h0 (fun k hk => HD k (by rw [hw]; exact List.mem_append.2 (.inl hk)))
    obtain ⟨oI, oS, cI, cS, I, S, rfl, rfl, b1, b2, b3, b4, b5⟩ := open_tx_c h1 (fun k hk => HD k (by rw [hw]; exact List.mem_append.2 (.inr (List.mem_append.2 (.inl hk)))))
    obtain ⟨p, e2, _, k2⟩ := DataW.trod_int Try.underlying3 h2
    rw [List.singleton_inj] at e2
    subst e2
    obtain ⟨oK, cK, K, rfl, c1, c2, c3⟩ := open_u64s_c h3 (fun k hk => HD k (by rw [hw]; exact List.mem_append.2 (.inr (List.mem_append.2 (.inr (List.mem_append.2 (.inr (List.mem_append.2 (.inl hk)))))))))
    exact ⟨o1, len, cap, bl, off, oI, oS, cI, cS, I, S, p, oK, cK, K, rfl, ⟨a1, a2, a3⟩, ⟨b1, b2, b3, b4, b5⟩, wf_i64 k2, c1, c2, c3⟩
end
end Go.Proofs.Ytgaibknhdaeidaa.P
