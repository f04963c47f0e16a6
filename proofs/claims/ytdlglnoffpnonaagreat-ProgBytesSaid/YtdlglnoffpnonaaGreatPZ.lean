/- Stage 12: ProgSpoilt. No condition. -/
import Derived.Test.YtdlglnoffpnonaaGreatPV
import Derived.Laws.IdiomStrings
set_option linter.unusedVariables false
set_option linter.unusedSimpArgs false
set_option maxRecDepth 100000
namespace Go.Proofs.YtdlglnoffpnonaaGreat.P
open Go.RowKit Go.MuLone Go.Maps
def oneB : ByteArray := ⟨#[120]⟩
theorem more_size (S : ByteArray) : (S ++ oneB).size = S.size + 1 := by rw [ByteArray.size_append]; rfl
theorem oneB_pos : 0 < oneB.size := by decide
theorem bytes_made (w : World) (s : ByteArray) : ∃ (w' : World) (g c : Nat), (convert 9 51 (.string s)).run Tryz.prog w = .ok (.slice (some ⟨g, 0, none⟩) s.size c) w' ∧ Gr w w' ∧ w.heap.size ≤ g ∧ (∀ j, j < s.size → w'.cell? ⟨g, j, none⟩ = some (.int .u8 ((s.data.toList.getD j 0).toNat : Int)) ∧ w'.frozen? ⟨g, j, none⟩ = false) := by
  refine ⟨_, _, _, run_bytes_of_string w _ _ 5 s Tryz.underlying9 Tryz.underlying51 Tryz.underlying5, Below.alloc (Below.drew (Below.refl _ _)) (Nat.le_refl _) _, Nat.le_refl _, fun j hj => ⟨?_, ?_⟩⟩
  · have hj2 : j < s.data.size := hj
    have h2 := (World.cell?_alloc_mark w.drew (bytesRow s (grownCap w s.size 0 5)) 5 ((bytesRow s (grownCap w s.size 0 5)).size, (bytesRow s (grownCap w s.size 0 5)).size + 1) j).trans (bytesRow_at s _ j hj2)
    refine Eq.trans h2 ?_
    simp only [List.getD, Array.getElem?_toList, Array.getElem?_eq_getElem hj2, Option.getD_some]
  · have h := blk_new w.drew (.cells (bytesRow s (grownCap w s.size 0 5)) 5 ((bytesRow s (grownCap w s.size 0 5)).size, (bytesRow s (grownCap w s.size 0 5)).size + 1))
    unfold World.frozen?
    have h2 : w.drew.heap.size = w.heap.size := rfl
    rw [h2] at h
    rw [h]
    have hj2 : j < s.data.size := hj
    have h3 : j < (bytesRow s (grownCap w s.size 0 5)).size := by unfold bytesRow; rw [Array.size_append, Array.size_map]; omega
    show (decide (_ ≤ j) && decide (j < _)) = false
    rw [decide_eq_false (by omega), Bool.false_and]
theorem bytes_back (w : World) (g c n : Nat) (l : List UInt8) (hn : l.length = n) (hc : ∀ j, j < n → w.cell? ⟨g, j, none⟩ = some (.int .u8 ((l.getD j 0).toNat : Int))) : (convert 51 9 (.slice (some ⟨g, 0, none⟩) n c)).run Tryz.prog w = .ok (.string ⟨l.toArray⟩) w := by
  subst hn
  refine run_convert_bytes_back w _ _ 5 ⟨g, 0, none⟩ c l Tryz.underlying51 Tryz.underlying5 Tryz.underlying9 (fun j hj => ?_)
  have := hc j hj
  rw [List.getD_eq_getElem?_getD, List.getElem?_eq_getElem hj] at this
  have ha : (⟨g, 0, none⟩ : Addr).add j = ⟨g, j, none⟩ := by
    unfold Addr.add
    split <;> simp_all
  rw [ha]
  simpa using this
/-- A byte put in a row of bytes. -/
theorem bytes_set {w : World} {g P : Nat} {s : ByteArray} (X : Nat) (hX : X < 256) (hP : P < s.size) (hc : ∀ j, j < s.size → w.cell? ⟨g, j, none⟩ = some (.int .u8 ((s.data.toList.getD j 0).toNat : Int)) ∧ w.frozen? ⟨g, j, none⟩ = false) :
    ∀ j, j < s.size → (w.setCell ⟨g, P, none⟩ (.int .u8 (X : Int))).cell? ⟨g, j, none⟩ = some (.int .u8 (((s.data.toList.set P (UInt8.ofNat X)).getD j 0).toNat : Int)) := by
  intro j hj
  have hl : s.data.toList.length = s.size := by simp
  by_cases e : j = P
  · subst e
    rw [World.cell?_setCell_same' w ⟨g, j, none⟩ _ (by rw [(hc j hj).1]; rfl), List.getD_eq_getElem?_getD, List.getElem?_set_self (by omega)]
    show _ = some (Value.int .u8 ((UInt8.ofNat X).toNat : Int))
    rw [UInt8.toNat_ofNat', Nat.mod_eq_of_lt hX]
  · rw [World.cell?_setCell_other (w := w) (a := ⟨g, P, none⟩) (b := ⟨g, j, none⟩) (h := by intro h; injection h with _ h _; exact e h.symm), (hc j hj).1, List.getD_eq_getElem?_getD, List.getD_eq_getElem?_getD, List.getElem?_set_ne (Ne.symm e)]
theorem u8_ne (b X : Nat) (rv : Int) (hb : b < 256) (h0 : rv ≠ 0) (h1 : -256 < rv) (h2 : rv < 256) (hX : (X : Int) = ((b : Int) + rv % 256) % 256) : X ≠ b := by omega
theorem c_dec_no {s : ByteArray} (hs : s.size ≤ 4096) (h : decOK s = false) (w : World) : Calls Tryz.prog 23 #[.string s] w fun e w' => e = .returned (.tuple #[.agg #[.int .i64 0, .string ⟨#[]⟩, .string ⟨#[]⟩, .int .i64 0], .int .i64 6]) ∧ Gr w w' := by
  have := c_decode s (by unfold maxLen; omega) w
  unfold decP decE at this
  rw [h] at this
  exact this
end Go.Proofs.YtdlglnoffpnonaaGreat.P
