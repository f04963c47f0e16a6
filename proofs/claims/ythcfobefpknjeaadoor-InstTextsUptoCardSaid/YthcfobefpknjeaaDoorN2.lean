/- Stage 2: a register's text, a line. No condition. -/
import Derived.Test.YthcfobefpknjeaaDoorN1
import Derived.Test.YthcfobefpknjeaaDoorB4
set_option linter.unusedVariables false
set_option linter.unusedSimpArgs false
set_option maxRecDepth 100000
namespace Go.Proofs.YthcfobefpknjeaaDoor.P
open Go.RowKit
def regF (n : Nat) : ByteArray := (⟨#[120]⟩ : ByteArray) ++ ⟨(Lib.decDigits n).toArray⟩
theorem dig_len : ∀ n : Nat, n < 32 → (Lib.decDigits n).length ≤ 2 := by decide +kernel
theorem c_reg (n : Nat) (hn : n < 32) (w : World) : Calls Tryd.prog 36 #[.int .i64 (n : Int)] w fun e w' => e = .returned (.string (regF n)) ∧ w' = w := by
  have CI := Lib.hid (sh_strconv_Itoa_small n (by omega) w)
  unfold regF
  have hd := dig_len n hn
  go_enter Tryd.func36, Tryd.ntmps36
  go_wp2_with (go_at_call 50; refine CI.out.mono ?_; rintro e w1 ⟨rfl, rfl⟩)
  go_ret
  exact ⟨rfl, rfl⟩
def tl (x : ByteArray) : List UInt8 := x.data.toList
def lineF (nm : ByteArray) (xs : List ByteArray) : ByteArray := (nm ++ (⟨#[32]⟩ : ByteArray)) ++ ⟨(Lib.join (xs.map (fun x => x.data.toList)) [44, 32]).toArray⟩
theorem c_line (nm : ByteArray) (bk : Nat) (xs : List ByteArray) (h0 : 0 < xs.length) (hl : xs.length ≤ 4) (hj : (Lib.join (xs.map (fun x => x.data.toList)) [44, 32]).length ≤ 1000) (hnm : nm.size ≤ 100) (w : World) (hx : ∀ (j : Nat) (x : ByteArray), xs[j]? = some x → w.cell? ⟨bk, 0 + j, none⟩ = some (.string x)) (hb : bk < w.heap.size) :
    Calls Tryd.prog 37 #[.string nm, .slice (some ⟨bk, 0, none⟩) xs.length xs.length] w fun e w' => e = .returned (.string (lineF nm xs)) ∧ Gr w w' := by
  have CJ := Lib.hid (sh_strings_Join bk 0 xs.length xs ⟨#[44, 32]⟩ w hx hb (by omega) (Nat.le_refl _) (Nat.le_trans hj (by decide)))
  unfold lineF
  have e0 : ((xs.length : Int) == 0) = false := beq_eq_false_iff_ne.2 (by omega)
  have HL := Lib.hid hl
  clear hl hx h0
  generalize xs.length = n at *
  generalize Lib.join (xs.map (fun x => x.data.toList)) [44, 32] = J at *
  go_enter Tryd.func37, Tryd.ntmps37
  go_wp2_with (go_at_call 51; refine CJ.out.mono ?_; rintro e w1 ⟨rfl, g1⟩)
  go_ret
  exact ⟨rfl, g1⟩
theorem c_line0 (nm : ByteArray) (w : World) : Calls Tryd.prog 37 #[.string nm, .slice none 0 0] w fun e w' => e = .returned (.string nm) ∧ w' = w := by
  go_enter Tryd.func37, Tryd.ntmps37
  go_wp2
  go_ret
  exact ⟨rfl, rfl⟩
def endF (i : Int) : ByteArray := if i = 1 then ⟨#[46, 114, 108]⟩ else if i = 2 then ⟨#[46, 97, 113]⟩ else if i = 3 then ⟨#[46, 97, 113, 114, 108]⟩ else ⟨#[]⟩
theorem c_ending (i : Int) (w : World) : Calls Tryd.prog 38 #[.int .i64 i] w fun e w' => e = .returned (.string (endF i)) ∧ w' = w := by
  have h : i = 1 ∨ i = 2 ∨ i = 3 ∨ (i ≠ 1 ∧ i ≠ 2 ∧ i ≠ 3) := by omega
  rcases h with rfl | rfl | rfl | ⟨h1, h2, h3⟩
  · go_enter Tryd.func38, Tryd.ntmps38
    go_wp2
    go_ret
    exact ⟨rfl, rfl⟩
  · go_enter Tryd.func38, Tryd.ntmps38
    go_wp2
    go_ret
    exact ⟨rfl, rfl⟩
  · go_enter Tryd.func38, Tryd.ntmps38
    go_wp2
    go_ret
    exact ⟨rfl, rfl⟩
  · have e1 : (i == 1) = false := by simp [h1]
    have e2 : (i == 2) = false := by simp [h2]
    have e3 : (i == 3) = false := by simp [h3]
    unfold endF
    rw [if_neg h1, if_neg h2, if_neg h3]
    clear h1 h2 h3
    go_enter Tryd.func38, Tryd.ntmps38
    go_wp2
    go_ret
    exact ⟨rfl, rfl⟩
end Go.Proofs.YthcfobefpknjeaaDoor.P
