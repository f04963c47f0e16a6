/- Stage 10: the document's pool: Take, Give, New. No condition. -/
import Derived.Test.YtbcnibnkojnpiaaF11
set_option linter.unusedVariables false
namespace Go.Proofs.Ytbcnibnkojnpiaa.P
open Go.RowKit Go.MuLone Go.Maps
theorem q_new_no (rb vb fr : Nat) (first : Int) (s : List UInt8) (t : Int) (w : World) (h : RMemO w rb vb s t) (hs : s.length = fr * 256) (hf : ¬ (0 ≤ first ∧ first ≤ fr)) :
    Calls Try.prog 20 #[.pointer (some ⟨rb, 0, none⟩), .int .i64 first] w fun e w' => e = .returned (.pointer none) ∧ w' = w := by
  have c0 := blk_cell h.1 0 (v := .slice (some ⟨vb, 0, none⟩) s.length s.length) rfl
  have hl := h.2.2.2
  have hd : ((s.length : Nat) : Int) / 256 = (fr : Int) := by omega
  have hc : first < 0 ∨ (0 ≤ first ∧ (fr : Int) < first) := by omega
  clear h hf hs
  generalize s.length = N at *
  rcases hc with h1 | ⟨h0, h1⟩
  · go_enter Try.func20, Try.ntmps20
    go_wp2_with fail
    go_ret
    exact ⟨rfl, rfl⟩
  · have d1 : decide (first < 0) = false := decide_eq_false (by omega)
    have d2 : decide ((fr : Int) < first) = true := decide_eq_true h1
    go_enter Try.func20, Try.ntmps20
    go_wp2_with fail
    go_ret
    exact ⟨rfl, rfl⟩
theorem q_new (rb vb fr first : Nat) (s : List UInt8) (t : Int) (w : World) (h : RMemO w rb vb s t) (hs : s.length = fr * 256) (hf : first ≤ fr) (hne : vb ≠ rb) :
    Calls Try.prog 20 #[.pointer (some ⟨rb, 0, none⟩), .int .i64 (first : Int)] w fun e w' => ∃ rp ib, e = .returned (.pointer (some ⟨rp, 0, none⟩)) ∧ RPO w' rp ib rb vb first (List.replicate fr true) s t ∧ w.heap.size ≤ rp ∧ w.heap.size ≤ ib ∧ Gr w w' := by
  have c0 := blk_cell h.1 0 (v := .slice (some ⟨vb, 0, none⟩) s.length s.length) rfl
  have hl := h.2.2.2
  have hd : ((s.length : Nat) : Int) / 256 = (fr : Int) := by omega
  have hfr : fr ≤ 256 := by omega
  have hmk := mk_bools fr (by omega)
  have HX := Lib.hid h
  have HS := Lib.hid hs
  clear h hs
  obtain ⟨N, hN⟩ : ∃ N, N = s.length := ⟨_, rfl⟩
  rw [← hN] at c0 hl hd
  clear hN
  have d1 : decide (fr < first) = false := decide_eq_false (by omega)
  go_enter Try.func20, Try.ntmps20
  go_wp2_with fail
  go_ret
  have hA := blk_alloc (.cells #[.pointer (some ⟨rb, 0, none⟩), .int .i64 first, .slice (some ⟨w.heap.size, 0, none⟩) fr fr] 108) (blk_new w (.cells (hadB (List.replicate fr true)) 4))
  have hB := blk_new (w.alloc (.cells (hadB (List.replicate fr true)) 4)) (.cells #[.pointer (some ⟨rb, 0, none⟩), .int .i64 first, .slice (some ⟨w.heap.size, 0, none⟩) fr fr] 108)
  have hsz : (w.alloc (.cells (hadB (List.replicate fr true)) 4)).heap.size = w.heap.size + 1 := by simp
  rw [hsz] at hB
  have hal : Gr w ((w.alloc (.cells (hadB (List.replicate fr true)) 4)).alloc (.cells #[.pointer (some ⟨rb, 0, none⟩), .int .i64 first, .slice (some ⟨w.heap.size, 0, none⟩) fr fr] 108)) := ((Gr.refl w).alloc (Nat.le_refl _) _).alloc (by omega) _
  have hR := HX.out.keep (S := fun _ => False) (Ch.of_gr hal) (fun h => h) (fun h => h)
  have l1 : rb < w.heap.size := blk_lt HX.out.1
  have l2 : vb < w.heap.size := blk_lt HX.out.2.2.1
  have hn : (List.replicate fr true).length = fr := List.length_replicate
  refine ⟨w.heap.size + 1, w.heap.size, by simp, ⟨by rw [hn]; exact hB, hA, hR, ⟨by omega, by omega, by omega, by omega, by omega⟩, by rw [hn]; exact HS.out, by rw [hn]; exact hfr, by rw [hn]; exact hf⟩, by omega, Nat.le_refl _, hal⟩
end Go.Proofs.Ytbcnibnkojnpiaa.P
