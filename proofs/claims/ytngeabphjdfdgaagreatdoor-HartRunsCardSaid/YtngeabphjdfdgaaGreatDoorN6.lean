/- The library's contracts at this dump. No condition. -/
import Derived.Test.YtngeabphjdfdgaaGreatDoorChecked
import Derived.Shelf.Strings.Builder1
import Derived.Shelf.Strings.Builder2
import Derived.Shelf.Strings.OnBuilder
import Derived.Shelf.Small.Strs
import Derived.Shelf.Strings.BuilderF
import Derived.Shelf.Strings.BuilderK
import Derived.Shelf.Strings.Builder2Cap
import Derived.Shelf.Strconv.Itoa0
import Derived.Shelf.Strconv.Itoa1
import Derived.Shelf.LaysM
import Derived.Shelf.Strconv.Itoa2
import Derived.Shelf.Strconv.Itoa3
import Derived.Shelf.Strconv.Itoa4
import Derived.Shelf.Strconv.ParseIntEmpty
import Derived.Shelf.Strconv.Clone
import Derived.Shelf.Strconv.SyntaxError
import Derived.Shelf.LaysC
import Derived.Shelf.Strconv.ToError
import Derived.Shelf.Strconv.Lower
import Derived.Shelf.Strconv.ParseUint10
import Derived.Shelf.Strconv.ParseUint10Empty
import Derived.Shelf.Strconv.ParseUint10Any
import Derived.Shelf.Strconv.ParseInt10
import Derived.Shelf.Strconv.RangeError
import Derived.Shelf.Strconv.ToErrorRange
import Derived.Shelf.Strconv.ParseUintEmpty
import Derived.Shelf.Strconv.ParseUint10b64
import Derived.Shelf.Strconv.ParseUint10b32
import Derived.Shelf.Strconv.ParseUint10b16
import Derived.Shelf.Strconv.ParseUint10b8
import Derived.Shelf.Strconv.ParseUint10At
import Derived.Shelf.Strconv.ParseInt10At64
import Derived.Shelf.Strconv.ParseInt10At32
import Derived.Shelf.Strconv.ParseInt10At16
import Derived.Shelf.Strconv.ParseInt10At8
import Derived.Shelf.Strconv.ParseInt10All
import Derived.Shelf.Strconv.ParseIntPublic10
import Derived.Shelf.Strconv.ErrVarParseInt
import Derived.Shelf.Strings.Search1
import Derived.Shelf.Strings.Search2
import Derived.Shelf.Strings.Cut
import Derived.Shelf.Strings.Shaped
import Derived.Shelf.GgClosure.StringsIndexFunc
import Derived.Ground.GgwProg
import Derived.Shelf.GgClosure.StringsIndexFuncTop
import Derived.Shelf.GgClosure.StringsRunes
import Derived.Shelf.Strings.Prefix
import Derived.Shelf.Strings.FuncGrows
import Derived.Test.YtngeabphjdfdgaaGreatDoorMB
import Derived.Deep.RegionHeld3
import Derived.Deep.RegionWith
import Derived.Deep.DeepCutAuto
import Derived.BigRegion
import Derived.Deep.CutBlock
import Derived.Laws.EntriesVeiled
import Derived.Lib.AtoiErrMem
import Derived.Laws.Closers25b
set_option linter.unusedVariables false
set_option linter.unusedSimpArgs false
set_option maxRecDepth 100000
namespace Go.Proofs.YtngeabphjdfdgaaGreatDoor.P
open Go.Shelf Go.RowKit
end Go.Proofs.YtngeabphjdfdgaaGreatDoor.P
namespace Go.Proofs.YtngeabphjdfdgaaGreatDoor.P
open Go.RowKit
def allB : List UInt8 := [108, 117, 105, 32, 97, 117, 105, 112, 99, 32, 106, 97, 108, 32, 106, 97, 108, 114, 32, 98, 101, 113, 32, 98, 110, 101, 32, 98, 108, 116, 32, 98, 103, 101, 32, 98, 108, 116, 117, 32, 98, 103, 101, 117, 32, 108, 98, 32, 108, 104, 32, 108, 119, 32, 108, 100, 32, 108, 98, 117, 32, 108, 104, 117, 32, 108, 119, 117, 32, 115, 98, 32, 115, 104, 32, 115, 119, 32, 115, 100, 32, 97, 100, 100, 105, 32, 115, 108, 116, 105, 32, 115, 108, 116, 105, 117, 32, 120, 111, 114, 105, 32, 111, 114, 105, 32, 97, 110, 100, 105, 32, 115, 108, 108, 105, 32, 115, 114, 108, 105, 32, 115, 114, 97, 105, 32, 97, 100, 100, 105, 119, 32, 115, 108, 108, 105, 119, 32, 115, 114, 108, 105, 119, 32, 115, 114, 97, 105, 119, 32, 97, 100, 100, 32, 115, 117, 98, 32, 115, 108, 108, 32, 115, 108, 116, 32, 115, 108, 116, 117, 32, 120, 111, 114, 32, 115, 114, 108, 32, 115, 114, 97, 32, 111, 114, 32, 97, 110, 100, 32, 97, 100, 100, 119, 32, 115, 117, 98, 119, 32, 115, 108, 108, 119, 32, 115, 114, 108, 119, 32, 115, 114, 97, 119, 32, 109, 117, 108, 32, 109, 117, 108, 104, 32, 109, 117, 108, 104, 115, 117, 32, 109, 117, 108, 104, 117, 32, 100, 105, 118, 32, 100, 105, 118, 117, 32, 114, 101, 109, 32, 114, 101, 109, 117, 32, 109, 117, 108, 119, 32, 100, 105, 118, 119, 32, 100, 105, 118, 117, 119, 32, 114, 101, 109, 119, 32, 114, 101, 109, 117, 119, 32, 102, 101, 110, 99, 101, 32, 101, 99, 97, 108, 108, 32, 101, 98, 114, 101, 97, 107, 32, 108, 114, 46, 119, 32, 115, 99, 46, 119, 32, 97, 109, 111, 115, 119, 97, 112, 46, 119, 32, 97, 109, 111, 97, 100, 100, 46, 119, 32, 97, 109, 111, 120, 111, 114, 46, 119, 32, 97, 109, 111, 97, 110, 100, 46, 119, 32, 97, 109, 111, 111, 114, 46, 119, 32, 97, 109, 111, 109, 105, 110, 46, 119, 32, 97, 109, 111, 109, 97, 120, 46, 119, 32, 97, 109, 111, 109, 105, 110, 117, 46, 119, 32, 97, 109, 111, 109, 97, 120, 117, 46, 119, 32, 108, 114, 46, 100, 32, 115, 99, 46, 100, 32, 97, 109, 111, 115, 119, 97, 112, 46, 100, 32, 97, 109, 111, 97, 100, 100, 46, 100, 32, 97, 109, 111, 120, 111, 114, 46, 100, 32, 97, 109, 111, 97, 110, 100, 46, 100, 32, 97, 109, 111, 111, 114, 46, 100, 32, 97, 109, 111, 109, 105, 110, 46, 100, 32, 97, 109, 111, 109, 97, 120, 46, 100, 32, 97, 109, 111, 109, 105, 110, 117, 46, 100, 32, 97, 109, 111, 109, 97, 120, 117, 46, 100, 32]
def offL : List Nat := [0, 4, 10, 14, 19, 23, 27, 31, 35, 40, 45, 48, 51, 54, 57, 61, 65, 69, 72, 75, 78, 81, 86, 91, 97, 102, 106, 111, 116, 121, 126, 132, 138, 144, 150, 154, 158, 162, 166, 171, 175, 179, 183, 186, 190, 195, 200, 205, 210, 215, 219, 224, 231, 237, 241, 246, 250, 255, 260, 265, 271, 276, 282, 288, 294, 301, 306, 311, 321, 330, 339, 348, 356, 365, 374, 384, 394, 399, 404, 414, 423, 432, 441, 449, 458, 467, 477, 487]
def sufL (j : Nat) : List UInt8 := allB.drop (offL.getD j 0)
def sufT (j : Nat) : ByteArray := ⟨(sufL j).toArray⟩
def nmlL : List Nat := [3, 5, 3, 4, 3, 3, 3, 3, 4, 4, 2, 2, 2, 2, 3, 3, 3, 2, 2, 2, 2, 4, 4, 5, 4, 3, 4, 4, 4, 4, 5, 5, 5, 5, 3, 3, 3, 3, 4, 3, 3, 3, 2, 3, 4, 4, 4, 4, 4, 3, 4, 6, 5, 3, 4, 3, 4, 4, 4, 5, 4, 5, 5, 5, 6, 4, 4, 9, 8, 8, 8, 7, 8, 8, 9, 9, 4, 4, 9, 8, 8, 8, 7, 8, 8, 9, 9]
def nmlT (j : Nat) : Nat := nmlL.getD j 0
def nmLst : List ByteArray := [⟨#[]⟩, ⟨#[108, 117, 105]⟩, ⟨#[97, 117, 105, 112, 99]⟩, ⟨#[106, 97, 108]⟩, ⟨#[106, 97, 108, 114]⟩, ⟨#[98, 101, 113]⟩, ⟨#[98, 110, 101]⟩, ⟨#[98, 108, 116]⟩, ⟨#[98, 103, 101]⟩, ⟨#[98, 108, 116, 117]⟩, ⟨#[98, 103, 101, 117]⟩, ⟨#[108, 98]⟩, ⟨#[108, 104]⟩, ⟨#[108, 119]⟩, ⟨#[108, 100]⟩, ⟨#[108, 98, 117]⟩, ⟨#[108, 104, 117]⟩, ⟨#[108, 119, 117]⟩, ⟨#[115, 98]⟩, ⟨#[115, 104]⟩, ⟨#[115, 119]⟩, ⟨#[115, 100]⟩, ⟨#[97, 100, 100, 105]⟩, ⟨#[115, 108, 116, 105]⟩, ⟨#[115, 108, 116, 105, 117]⟩, ⟨#[120, 111, 114, 105]⟩, ⟨#[111, 114, 105]⟩, ⟨#[97, 110, 100, 105]⟩, ⟨#[115, 108, 108, 105]⟩, ⟨#[115, 114, 108, 105]⟩, ⟨#[115, 114, 97, 105]⟩, ⟨#[97, 100, 100, 105, 119]⟩, ⟨#[115, 108, 108, 105, 119]⟩, ⟨#[115, 114, 108, 105, 119]⟩, ⟨#[115, 114, 97, 105, 119]⟩, ⟨#[97, 100, 100]⟩, ⟨#[115, 117, 98]⟩, ⟨#[115, 108, 108]⟩, ⟨#[115, 108, 116]⟩, ⟨#[115, 108, 116, 117]⟩, ⟨#[120, 111, 114]⟩, ⟨#[115, 114, 108]⟩, ⟨#[115, 114, 97]⟩, ⟨#[111, 114]⟩, ⟨#[97, 110, 100]⟩, ⟨#[97, 100, 100, 119]⟩, ⟨#[115, 117, 98, 119]⟩, ⟨#[115, 108, 108, 119]⟩, ⟨#[115, 114, 108, 119]⟩, ⟨#[115, 114, 97, 119]⟩, ⟨#[109, 117, 108]⟩, ⟨#[109, 117, 108, 104]⟩, ⟨#[109, 117, 108, 104, 115, 117]⟩, ⟨#[109, 117, 108, 104, 117]⟩, ⟨#[100, 105, 118]⟩, ⟨#[100, 105, 118, 117]⟩, ⟨#[114, 101, 109]⟩, ⟨#[114, 101, 109, 117]⟩, ⟨#[109, 117, 108, 119]⟩, ⟨#[100, 105, 118, 119]⟩, ⟨#[100, 105, 118, 117, 119]⟩, ⟨#[114, 101, 109, 119]⟩, ⟨#[114, 101, 109, 117, 119]⟩, ⟨#[102, 101, 110, 99, 101]⟩, ⟨#[101, 99, 97, 108, 108]⟩, ⟨#[101, 98, 114, 101, 97, 107]⟩, ⟨#[108, 114, 46, 119]⟩, ⟨#[115, 99, 46, 119]⟩, ⟨#[97, 109, 111, 115, 119, 97, 112, 46, 119]⟩, ⟨#[97, 109, 111, 97, 100, 100, 46, 119]⟩, ⟨#[97, 109, 111, 120, 111, 114, 46, 119]⟩, ⟨#[97, 109, 111, 97, 110, 100, 46, 119]⟩, ⟨#[97, 109, 111, 111, 114, 46, 119]⟩, ⟨#[97, 109, 111, 109, 105, 110, 46, 119]⟩, ⟨#[97, 109, 111, 109, 97, 120, 46, 119]⟩, ⟨#[97, 109, 111, 109, 105, 110, 117, 46, 119]⟩, ⟨#[97, 109, 111, 109, 97, 120, 117, 46, 119]⟩, ⟨#[108, 114, 46, 100]⟩, ⟨#[115, 99, 46, 100]⟩, ⟨#[97, 109, 111, 115, 119, 97, 112, 46, 100]⟩, ⟨#[97, 109, 111, 97, 100, 100, 46, 100]⟩, ⟨#[97, 109, 111, 120, 111, 114, 46, 100]⟩, ⟨#[97, 109, 111, 97, 110, 100, 46, 100]⟩, ⟨#[97, 109, 111, 111, 114, 46, 100]⟩, ⟨#[97, 109, 111, 109, 105, 110, 46, 100]⟩, ⟨#[97, 109, 111, 109, 97, 120, 46, 100]⟩, ⟨#[97, 109, 111, 109, 105, 110, 117, 46, 100]⟩, ⟨#[97, 109, 111, 109, 97, 120, 117, 46, 100]⟩]
def nmT (k : Nat) : ByteArray := nmLst.getD k ⟨#[]⟩
theorem suf_facts : ∀ j : Nat, j < 87 → Lib.indexByte (sufT j).data.toList 32 = (nmlT j : Int) ∧ (nmlT j + 1 : Nat) ≤ (sufT j).size ∧ (sufT j).data.toList.drop (nmlT j + 1) = (sufT (j + 1)).data.toList ∧ (sufT j).data.toList.take (nmlT j) = (nmT (j + 1)).data.toList ∧ nmlT j ≤ 20 := by decide +kernel
theorem ret_s {a b : ByteArray} (h : a = b) : Ending.returned (.string a) = .returned (.string b) := by rw [h]
theorem suf_start : ({ data := #[32, 108, 117, 105, 32, 97, 117, 105, 112, 99, 32, 106, 97, 108, 32, 106, 97, 108, 114, 32, 98, 101, 113, 32, 98, 110, 101, 32, 98, 108, 116, 32, 98, 103, 101, 32, 98, 108, 116, 117, 32, 98, 103, 101, 117, 32, 108, 98, 32, 108, 104, 32, 108, 119, 32, 108, 100, 32, 108, 98, 117, 32, 108, 104, 117, 32, 108, 119, 117, 32, 115, 98, 32, 115, 104, 32, 115, 119, 32, 115, 100, 32, 97, 100, 100, 105, 32, 115, 108, 116, 105, 32, 115, 108, 116, 105, 117, 32, 120, 111, 114, 105, 32, 111, 114, 105, 32, 97, 110, 100, 105, 32, 115, 108, 108, 105, 32, 115, 114, 108, 105, 32, 115, 114, 97, 105, 32, 97, 100, 100, 105, 119, 32, 115, 108, 108, 105, 119, 32, 115, 114, 108, 105, 119, 32, 115, 114, 97, 105, 119, 32, 97, 100, 100, 32, 115, 117, 98, 32, 115, 108, 108, 32, 115, 108, 116, 32, 115, 108, 116, 117, 32, 120, 111, 114, 32, 115, 114, 108, 32, 115, 114, 97, 32, 111, 114, 32, 97, 110, 100, 32, 97, 100, 100, 119, 32, 115, 117, 98, 119, 32, 115, 108, 108, 119, 32, 115, 114, 108, 119, 32, 115, 114, 97, 119, 32, 109, 117, 108, 32, 109, 117, 108, 104, 32, 109, 117, 108, 104, 115, 117, 32, 109, 117, 108, 104, 117, 32, 100, 105, 118, 32, 100, 105, 118, 117, 32, 114, 101, 109, 32, 114, 101, 109, 117, 32, 109, 117, 108, 119, 32, 100, 105, 118, 119, 32, 100, 105, 118, 117, 119, 32, 114, 101, 109, 119, 32, 114, 101, 109, 117, 119, 32, 102, 101, 110, 99, 101, 32, 101, 99, 97, 108, 108, 32, 101, 98, 114, 101, 97, 107, 32, 108, 114, 46, 119, 32, 115, 99, 46, 119, 32, 97, 109, 111, 115, 119, 97, 112, 46, 119, 32, 97, 109, 111, 97, 100, 100, 46, 119, 32, 97, 109, 111, 120, 111, 114, 46, 119, 32, 97, 109, 111, 97, 110, 100, 46, 119, 32, 97, 109, 111, 111, 114, 46, 119, 32, 97, 109, 111, 109, 105, 110, 46, 119, 32, 97, 109, 111, 109, 97, 120, 46, 119, 32, 97, 109, 111, 109, 105, 110, 117, 46, 119, 32, 97, 109, 111, 109, 97, 120, 117, 46, 119, 32, 108, 114, 46, 100, 32, 115, 99, 46, 100, 32, 97, 109, 111, 115, 119, 97, 112, 46, 100, 32, 97, 109, 111, 97, 100, 100, 46, 100, 32, 97, 109, 111, 120, 111, 114, 46, 100, 32, 97, 109, 111, 97, 110, 100, 46, 100, 32, 97, 109, 111, 111, 114, 46, 100, 32, 97, 109, 111, 109, 105, 110, 46, 100, 32, 97, 109, 111, 109, 97, 120, 46, 100, 32, 97, 109, 111, 109, 105, 110, 117, 46, 100, 32, 97, 109, 111, 109, 97, 120, 117, 46, 100, 32] } : ByteArray).extract 1 488 = sufT 0 := by
  apply ByteArray.ext
  apply Array.ext'
  kernel_rfl
theorem suf_next {j : Nat} (h : nmlT j + 1 ≤ (sufT j).size) (e : (sufT j).data.toList.drop (nmlT j + 1) = (sufT (j + 1)).data.toList) : (sufT j).extract (nmlT j + 1) (sufT j).size = sufT (j + 1) := by
  apply ByteArray.ext
  apply Array.ext'
  rw [← e]
  simp
  rw [List.take_of_length_le]
  rw [List.length_drop, Array.length_toList]
  exact Nat.le_refl _
theorem suf_name {j : Nat} (h : nmlT j + 1 ≤ (sufT j).size) (e : (sufT j).data.toList.take (nmlT j) = (nmT (j + 1)).data.toList) : (sufT j).extract 0 (nmlT j) = nmT (j + 1) := by
  apply ByteArray.ext
  apply Array.ext'
  rw [← e]
  simp
def nameF (op : Int) : ByteArray := bif decide (1 ≤ op) && decide (op ≤ 87) then nmT op.toNat else ⟨#[]⟩
end Go.Proofs.YtngeabphjdfdgaaGreatDoor.P
namespace Go.Proofs.YtngeabphjdfdgaaGreatDoor.P
open Go.RowKit
theorem cell_drew6 {w : World} {p : Addr} {v : Value} (h : w.cell? p = some v) : w.drew.cell? p = some v := h
def resB (k : Nat) : Bool := decide ((k : Int) = 66) || decide ((k : Int) = 77)
def mayI (f : Int) (i : Int) : Bool :=
  if f = 85 then decide (i % 4096 = 0) && decide ((-2147483648 : Int) ≤ i) && decide (i < 2147483648) else
  if f = 74 then decide (i % 2 = 0) && decide ((-1048576 : Int) ≤ i) && decide (i < 1048576) else
  if f = 73 then decide ((-2048 : Int) ≤ i) && decide (i < 2048) else
  if f = 66 then decide (i % 2 = 0) && decide ((-4096 : Int) ≤ i) && decide (i < 4096) else
  if f = 83 then decide ((-2048 : Int) ≤ i) && decide (i < 2048) else
  if f = 72 then decide ((0 : Int) ≤ i) && decide (i < 64) else
  if f = 86 then decide ((0 : Int) ≤ i) && decide (i < 32) else
  if f = 82 then decide (i = 0) else
  if f = 65 then decide ((0 : Int) ≤ i) && decide (i < 4) else
  decide (i = 0)
def mayR (f : Int) (res : Bool) (rd a b : Int) : Bool :=
  if f = 85 then fitsB rd a b true false false else
  if f = 74 then fitsB rd a b true false false else
  if f = 73 then fitsB rd a b true true false else
  if f = 66 then fitsB rd a b false true true else
  if f = 83 then fitsB rd a b false true true else
  if f = 72 then fitsB rd a b true true false else
  if f = 86 then fitsB rd a b true true false else
  if f = 82 then fitsB rd a b true true true else
  if f = 65 then fitsB rd a b true true (!res) else
  fitsB rd a b false false false
def mayF (op rd a b i : Int) : Bool := decide (1 ≤ op) && decide (op ≤ 87) && mayR (fmT op.toNat) (resB op.toNat) rd a b && mayI (fmT op.toNat) i
theorem may_in {k : Nat} {rd a b i : Int} (hk : k < 88) (h1 : 1 ≤ k) : mayF (k : Int) rd a b i = (mayR (fmT k) (resB k) rd a b && mayI (fmT k) i) := by
  unfold mayF
  rw [decide_eq_true (by omega : (1 : Int) ≤ k), decide_eq_true (by omega : (k : Int) ≤ 87), Int.toNat_natCast]; rfl
end Go.Proofs.YtngeabphjdfdgaaGreatDoor.P
namespace Go.Proofs.YtngeabphjdfdgaaGreatDoor.P
open Go.RowKit
def regF (n : Nat) : ByteArray := (⟨#[120]⟩ : ByteArray) ++ ⟨(Lib.decDigits n).toArray⟩
theorem dig_len : ∀ n : Nat, n < 32 → (Lib.decDigits n).length ≤ 2 := by decide +kernel
def tl (x : ByteArray) : List UInt8 := x.data.toList
def lineF (nm : ByteArray) (xs : List ByteArray) : ByteArray := (nm ++ (⟨#[32]⟩ : ByteArray)) ++ ⟨(Lib.join (xs.map (fun x => x.data.toList)) [44, 32]).toArray⟩
def endF (i : Int) : ByteArray := if i = 1 then ⟨#[46, 114, 108]⟩ else if i = 2 then ⟨#[46, 97, 113]⟩ else if i = 3 then ⟨#[46, 97, 113, 114, 108]⟩ else ⟨#[]⟩
end Go.Proofs.YtngeabphjdfdgaaGreatDoor.P
namespace Go.Proofs.YtngeabphjdfdgaaGreatDoor.P
open Go.RowKit
def insN (x : Nat) : Bool := decide (x = 45) || (decide (48 ≤ x) && decide (x ≤ 57))
def outN (x : Nat) : Bool := !insN x
end Go.Proofs.YtngeabphjdfdgaaGreatDoor.P
namespace Go.Proofs.YtngeabphjdfdgaaGreatDoor.P
open Go.RowKit
/-- One number: s begins what is left; a: where the number begins, t: from there on; r, b: where it ends; u: it; v: what it is; s': what is left behind it. -/
structure NumS (s t u s' : ByteArray) (a b : Nat) (r v : Int) : Prop where
  ia : Lib.idxFunc insN true s = (a : Int)
  la : a ≤ s.size
  et : s.extract a s.size = t
  ib : Lib.idxFunc outN true t = r
  lb : b ≤ t.size
  hr : (r = (b : Int)) ∨ (r = -1 ∧ b = t.size)
  eu : t.extract 0 b = u
  pv : Lib.parseIntB 64 u.data.toList = .ok v
  es : t.extract b t.size = s'
  ls : s.size ≤ 100
  lt : t.size ≤ 100
  lu : u.size ≤ 100
def rowC (V : Nat → Int) (k : Nat) : Array Value := #[.int .i64 (if 0 < k then V 0 else 0), .int .i64 (if 1 < k then V 1 else 0), .int .i64 (if 2 < k then V 2 else 0)]
theorem row_at (V : Nat → Int) (k : Nat) (hk : k < 3) : ∃ v, (rowC V k)[k]? = some v := by
  have : k = 0 ∨ k = 1 ∨ k = 2 := by omega
  rcases this with rfl | rfl | rfl
  · exact ⟨_, rfl⟩
  · exact ⟨_, rfl⟩
  · exact ⟨_, rfl⟩
theorem row_set (V : Nat → Int) (k : Nat) (hk : k < 3) : (rowC V k).setIfInBounds k (.int .i64 (V k)) = rowC V (k + 1) := by
  have : k = 0 ∨ k = 1 ∨ k = 2 := by omega
  rcases this with rfl | rfl | rfl <;> rfl
theorem gr_al {a b : World} (h : Gr a b) (o : Obj) : Gr a (b.alloc o) := h.alloc h.size o
theorem gr_alloc3 (w : World) (a b c : Obj) : Gr w (((w.alloc a).alloc b).alloc c) := gr_al (gr_al (gr_al (Gr.refl w) a) b) c
theorem sz_alloc (w : World) (o : Obj) : (w.alloc o).heap.size = w.heap.size + 1 := by simp
theorem blk_new1 (w : World) (a o : Obj) : ((w.alloc a).alloc o).heap[w.heap.size + 1]? = some o := by
  have := blk_new (w.alloc a) o
  rw [sz_alloc] at this
  exact this
theorem blk_new2 (w : World) (a b o : Obj) : (((w.alloc a).alloc b).alloc o).heap[w.heap.size + 1 + 1]? = some o := by
  have := blk_new ((w.alloc a).alloc b) o
  rw [sz_alloc, sz_alloc] at this
  exact this
end Go.Proofs.YtngeabphjdfdgaaGreatDoor.P
namespace Go.Proofs.YtngeabphjdfdgaaGreatDoor.P
open Go.RowKit
theorem tl_ne {x s : ByteArray} (h : x ≠ s) : (x.toList == s.toList) = false :=
  beq_eq_false_iff_ne.2 (fun e => h (by rw [Go.ByteArray.toList_eq, Go.ByteArray.toList_eq] at e; exact ByteArray.ext (Array.toList_inj.1 e)))
theorem tl_eq {x s : ByteArray} (h : x = s) : (x.toList == s.toList) = true := by rw [h]; exact beq_self_eq_true _
theorem set5 {w w1 : World} {B : Nat} {T : TypeId} (hB : B = w.heap.size) {x0 x1 x2 x3 x4 : Value} (hb : w1.heap[B]? = some (.cells #[x0, x1, x2, x3, x4] T)) (g : Gr w w1) (v0 v1 v2 v3 v4 : Value) :
    (((((w1.setCell ⟨B, 0, none⟩ v0).setCell ⟨B, 1, none⟩ v1).setCell ⟨B, 2, none⟩ v2).setCell ⟨B, 3, none⟩ v3).setCell ⟨B, 4, none⟩ v4).heap[B]? = some (.cells #[v0, v1, v2, v3, v4] T) ∧ Gr w (((((w1.setCell ⟨B, 0, none⟩ v0).setCell ⟨B, 1, none⟩ v1).setCell ⟨B, 2, none⟩ v2).setCell ⟨B, 3, none⟩ v3).setCell ⟨B, 4, none⟩ v4) := by
  have hle : ∀ i : Nat, w.heap.size ≤ (⟨B, i, none⟩ : Addr).block := fun i => by show w.heap.size ≤ B; rw [hB]; exact Nat.le_refl _
  exact ⟨blk_set (blk_set (blk_set (blk_set (blk_set hb 0 _) 1 _) 2 _) 3 _) 4 _, gset (gset (gset (gset (gset g (hle 0) _) (hle 1) _) (hle 2) _) (hle 3) _) (hle 4) _⟩
theorem nm_apart : ∀ k : Nat, k < 88 → ∀ j : Nat, j < k → (nmT j).data.toList ≠ (nmT k).data.toList := by decide +kernel
theorem fm_plain : ∀ j : Nat, j < 66 → fmT j ≠ 65 := by decide +kernel
theorem nm_ne {j k : Nat} (hk : k < 88) (hj : j < k) : nmT j ≠ nmT k := fun e => nm_apart k hk j hj (by rw [e])
end Go.Proofs.YtngeabphjdfdgaaGreatDoor.P
