/- Stage 2: an instruction as text. No condition. -/
import Derived.Test.YtngeabphjdfdgaaGreatDoorN6
import Derived.Test.YtngeabphjdfdgaaGreatDoorB7
import Derived.Deep.RegionHeld3
import Derived.Deep.DeepCutAuto
set_option linter.unusedVariables false
set_option linter.unusedSimpArgs false
set_option maxRecDepth 100000
namespace Go.Proofs.YtngeabphjdfdgaaGreatDoor.P
open Go.RowKit
theorem nm_size : ∀ k : Nat, k < 88 → (nmT k).size ≤ 20 := by decide +kernel
theorem end_size (i : Int) : (endF i).size ≤ 5 := by
  unfold endF
  repeat' split
  all_goals decide
theorem reg_size (n : Nat) (hn : n < 32) : (regF n).size ≤ 3 := by
  have := dig_len n hn
  unfold regF
  rw [ByteArray.size_append]
  show 1 + (Lib.decDigits n).length ≤ 3
  omega
theorem join2_len (x y : ByteArray) (hx : x.size ≤ 60) (hy : y.size ≤ 60) : (Lib.join ([x, y].map (fun x => x.data.toList)) [44, 32]).length ≤ 1000 := by
  rw [List.map_cons, Lib.join_cons]
  simp only [Lib.joinTail, List.map_cons, List.map_nil, List.flatten_cons, List.flatten_nil, List.length_append, Array.length_toList, List.length_cons, List.length_nil]
  have e1 : x.data.size = x.size := rfl
  have e2 : y.data.size = y.size := rfl
  omega
theorem join3_len (x y z : ByteArray) (hx : x.size ≤ 60) (hy : y.size ≤ 60) (hz : z.size ≤ 60) : (Lib.join ([x, y, z].map (fun x => x.data.toList)) [44, 32]).length ≤ 1000 := by
  rw [List.map_cons, Lib.join_cons]
  simp only [Lib.joinTail, List.map_cons, List.map_nil, List.flatten_cons, List.flatten_nil, List.length_append, Array.length_toList, List.length_cons, List.length_nil]
  have e1 : x.data.size = x.size := rfl
  have e2 : y.data.size = y.size := rfl
  have e3 : z.data.size = z.size := rfl
  omega
theorem ret_se {a b : ByteArray} {c d : Int} (h : a = b) (h2 : c = d) : Ending.returned (.tuple #[.string a, .int .i64 c]) = .returned (.tuple #[.string b, .int .i64 d]) := by rw [h, h2]
def loadB (k : Nat) : Bool := decide (k = 4) || (decide (11 ≤ k) && decide (k ≤ 17))
def parF (x : ByteArray) : ByteArray := ((⟨#[40]⟩ : ByteArray) ++ x) ++ ⟨#[41]⟩
def offF (F x : ByteArray) : ByteArray := ((F ++ (⟨#[40]⟩ : ByteArray)) ++ x) ++ ⟨#[41]⟩
def textF (k rd a b : Nat) (i : Int) (F : ByteArray) : ByteArray :=
  if fmT k = 85 ∨ fmT k = 74 then lineF (nmT k) [regF rd, F] else
  if fmT k = 66 then lineF (nmT k) [regF a, regF b, F] else
  if fmT k = 83 then lineF (nmT k) [regF b, offF F (regF a)] else
  if fmT k = 82 then lineF (nmT k) [regF rd, regF a, regF b] else
  if fmT k = 65 then (bif resB k then lineF (nmT k ++ endF i) [regF rd, parF (regF a)] else lineF (nmT k ++ endF i) [regF rd, regF b, parF (regF a)]) else
  if fmT k = 78 then nmT k else
  bif loadB k then lineF (nmT k) [regF rd, offF F (regF a)] else lineF (nmT k) [regF rd, regF a, F]
end Go.Proofs.YtngeabphjdfdgaaGreatDoor.P
namespace Go.Proofs.YtngeabphjdfdgaaGreatDoor.P
open Go.RowKit
theorem gr_drewN (w : World) (n : Nat) : Gr w (w.drewN n) := Gr.drewN (Gr.refl _) n
end Go.Proofs.YtngeabphjdfdgaaGreatDoor.P
namespace Go.Proofs.YtngeabphjdfdgaaGreatDoor.P
open Go.RowKit
end Go.Proofs.YtngeabphjdfdgaaGreatDoor.P
