/- Stage 8: what a write puts; boxes. No condition. -/
import Derived.Test.YtlpcccpagmipnaaGreatWE
import Derived.Test.YtlpcccpagmipnaaGreatRG
set_option linter.unusedVariables false
set_option linter.unusedSimpArgs false
set_option maxRecDepth 100000
namespace Go.Proofs.YtlpcccpagmipnaaGreat.P
open Go.RowKit Go.ChangeMaps Go.MapKept
/-- The rows that a write puts, of the first k places. -/
def wrR (rows : List (Int × ByteArray)) (z : DState) (st : List (Int × ByteArray)) (held off : Nat) (s : ByteArray) (all : List Nat) : Nat → List (Int × ByteArray)
  | 0 => rows
  | k + 1 => putS ((all.getD (off / 64 + k) 0 : Nat) : Int) ⟨(rowW off (off + s.size) s.data.toList (if off / 64 + k < held then rowL (wrR rows z st held off s all k) z st (all.getD (off / 64 + k) 0) else zL) (off / 64 + k)).toArray⟩ (wrR rows z st held off s all k)
theorem wrR_rising {rows : List (Int × ByteArray)} (hr : Rising rows) (z : DState) (st : List (Int × ByteArray)) (held off : Nat) (s : ByteArray) (all : List Nat) : ∀ k, Rising (wrR rows z st held off s all k)
  | 0 => hr
  | k + 1 => rising_put _ _ _ (wrR_rising hr z st held off s all k)
theorem wrR_view {rows : List (Int × ByteArray)} (hr : Rising rows) (z : DState) (st : List (Int × ByteArray)) (held off : Nat) (s : ByteArray) (all : List Nat) : ∀ k, rowV8 (wrR rows z st held off s all k) z st = wrK (rowV8 rows z st) held off s.data.toList all k
  | 0 => rfl
  | k + 1 => by
    have hsz : s.data.toList.length = s.size := (Go.Lib.size_eq s).symm
    unfold wrR wrK
    rw [rowV_put (wrR_rising hr z st held off s all k), wrR_view hr z st held off s all k, hsz]
    congr 2
    split
    · have := congrFun (wrR_view hr z st held off s all k) (all.getD (off / 64 + k) 0)
      exact this
    · rfl
theorem wrR_len (rows : List (Int × ByteArray)) (z : DState) (st : List (Int × ByteArray)) (held off : Nat) (s : ByteArray) (all : List Nat) : ∀ k, (wrR rows z st held off s all k).length ≤ rows.length + k
  | 0 => Nat.le_refl _
  | k + 1 => by
    have := wrR_len rows z st held off s all k
    unfold wrR
    have := putS_len1 ((all.getD (off / 64 + k) 0 : Nat) : Int) ⟨(rowW off (off + s.size) s.data.toList (if off / 64 + k < held then rowL (wrR rows z st held off s all k) z st (all.getD (off / 64 + k) 0) else zL) (off / 64 + k)).toArray⟩ (wrR rows z st held off s all k)
    omega
theorem wrR_mem {rows : List (Int × ByteArray)} {z : DState} {st : List (Int × ByteArray)} {held off : Nat} {s : ByteArray} {all : List Nat} {x : Int × ByteArray} : ∀ k, x ∈ wrR rows z st held off s all k → x ∈ rows ∨ ∃ q, q < k ∧ x.1 = ((all.getD (off / 64 + q) 0 : Nat) : Int)
  | 0, h => .inl h
  | k + 1, h => by
    unfold wrR at h
    rcases mem_putS h with e | e
    · exact .inr ⟨k, by omega, by rw [e]⟩
    · rcases wrR_mem k e with q | ⟨q, h1, h2⟩
      · exact .inl q
      · exact .inr ⟨q, by omega, h2⟩
abbrev sb (B : Nat) (s : ByteArray) : Asn := blkA B (.cells #[.string s] 9)
theorem ext_toList (s : ByteArray) (a b : Nat) : (s.extract a b).data.toList = (s.data.toList.drop a).take (b - a) := by
  rw [ByteArray.data_extract, Array.toList_extract, List.extract_eq_take_drop]
section
variable {w0 w : World} {d : Nat} {z : DState} {l ml V D mb : Nat} {st : List (Int × ByteArray)} {n : Nat} {rows : List (Int × ByteArray)} {R Y : Asn}
/-- The draft's and the inode's boxes, behind take. -/
theorem own_take2 (h : Own w0 w (VX d z l ml st D mb [] Y)) (hs : Stable Y) (X : Ino) :
    ((w.alloc (.cells #[.pointer (some ⟨D, 0, none⟩)] 114)).alloc (.cells (inoL i0).toArray 132)).heap[w.heap.size + 1]? = some (.cells (inoL i0).toArray 132) ∧
    Own w0 (((w.alloc (.cells #[.pointer (some ⟨D, 0, none⟩)] 114)).alloc (.cells (inoL i0).toArray 132)).setRow (w.heap.size + 1) (inoL X).toArray) (VX d z l ml st D mb [] (Star (ik (w.heap.size + 1) X) (Star (ptA w.heap.size D) Y))) := by
  have h1 := h.box4 (stable_vx hs) (.cells #[.pointer (some ⟨D, 0, none⟩)] 114)
  have hs1 : Stable (Star (ptA w.heap.size D) Y) := stable_star (stable_blk _ _) hs
  have h2 := h1.box4 (stable_vx hs1) (.cells (inoL i0).toArray 132)
  rw [World.size_alloc] at h2
  exact ⟨h2.out4.blk, (h2.out4.setRow (stable_vx hs1) _).in4⟩
end
end Go.Proofs.YtlpcccpagmipnaaGreat.P
