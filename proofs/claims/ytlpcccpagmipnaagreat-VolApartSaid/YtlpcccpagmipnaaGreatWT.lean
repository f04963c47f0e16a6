/- Stage 8: a volume with one file. No condition. -/
import Derived.Test.YtlpcccpagmipnaaGreatWS
set_option linter.unusedVariables false
set_option linter.unusedSimpArgs false
set_option maxRecDepth 100000
namespace Go.Proofs.YtlpcccpagmipnaaGreat.P
open Go.RowKit Go.ChangeMaps Go.MapKept
def oneN (lk : Nat) (D : List UInt8) : Nat → NodeA := insN exN0 0 ⟨1, lk, D⟩
theorem one_zero (lk : Nat) (D : List UInt8) : oneN lk D 0 = ⟨1, lk, D⟩ := rfl
theorem one_ins (lk lk2 : Nat) (D E : List UInt8) : insN (oneN lk D) 0 ⟨1, lk2, E⟩ = oneN lk2 E := by
  funext j
  unfold oneN insN
  by_cases h : j = 0
  · rw [if_pos h, if_pos h]
  · rw [if_neg h, if_neg h, if_neg h]
theorem find_one (lk : Nat) (D : List UInt8) : findN (oneN lk D) 0 = 0 := rfl
theorem sum_one (lk : Nat) (D : List UInt8) : sumTk (oneN lk D) = takesN D.length := by
  have h : ∀ k, sumN (fun k => takesN (oneN lk D k).data.length) (k + 1) = takesN D.length := by
    intro k
    induction k with
    | zero => show 0 + takesN D.length = _; omega
    | succ k ih =>
      show sumN (fun k => takesN (oneN lk D k).data.length) (k + 1) + takesN (oneN lk D (k + 1)).data.length = _
      have e : oneN lk D (k + 1) = node0 := by unfold oneN insN; rw [if_neg (by omega)]; rfl
      have e2 : takesN node0.data.length = 0 := by decide
      rw [ih, e, e2, Nat.add_zero]
  exact h 31
theorem new_one : addN exN0 false 1 = (0, 0, oneN 0 []) := by
  have h : firstN exN0 = some 0 := by decide
  unfold addN
  rw [h]; rfl
theorem write_one {lk n off : Nat} {D s : List UInt8} (h1 : off ≤ D.length) (h2 : s.length ≤ 512) (h3 : off + s.length ≤ 2368) (h4 : takesN (wrD D off s).length + 9 ≤ n) : writeN (oneN lk D) n false 0 (off : Int) s = (0, oneN lk (wrD D off s)) := by
  have hr : roomN (oneN lk D) n = (n : Int) - 9 - (takesN D.length : Int) := by unfold roomN; rw [sum_one]
  have hd : (oneN lk D (0 : Int).toNat).data = D := rfl
  unfold writeN
  rw [find_one, if_neg (fun e => e rfl), hd, if_neg (by omega), if_neg (by omega), if_neg (by exact Bool.false_ne_true), Int.toNat_natCast, hr, if_neg (by omega)]
  show (_, insN (oneN lk D) 0 ⟨1, lk, wrD D off s⟩) = _
  rw [one_ins]
theorem cut_one {lk : Nat} {D : List UInt8} {size : Nat} (h : size ≤ D.length) : cutN (oneN lk D) false 0 (size : Int) = (0, oneN lk (D.take size)) := by
  have hd : (oneN lk D (0 : Int).toNat).data = D := rfl
  unfold cutN
  rw [find_one, if_neg (fun e => e rfl), hd, if_neg (by omega), if_neg (by exact Bool.false_ne_true), Int.toNat_natCast]
  show (_, insN (oneN lk D) 0 ⟨1, lk, D.take size⟩) = _
  rw [one_ins]
theorem cut_one_no {lk : Nat} {D : List UInt8} {size : Int} (h : size < 0 ∨ (D.length : Int) < size) : cutN (oneN lk D) false 0 size = (1, oneN lk D) := by
  have hd : (oneN lk D (0 : Int).toNat).data = D := rfl
  unfold cutN
  rw [find_one, if_neg (fun e => e rfl), hd, if_pos h]
theorem read_one {lk off many : Nat} {D : List UInt8} : readN (oneN lk D) 0 (off : Int) (many : Int) = ((D.drop off).take many, 0) := by
  have hd : (oneN lk D (0 : Int).toNat).data = D := rfl
  unfold readN
  rw [find_one, if_neg (fun e => e rfl), hd, if_neg (by omega), Int.toNat_natCast, Int.toNat_natCast]
theorem wrD_nil (s : List UInt8) : wrD [] 0 s = s := by unfold wrD; simp
theorem wrD_end (D s : List UInt8) : wrD D D.length s = D ++ s := by
  unfold wrD
  rw [List.take_of_length_le (Nat.le_refl _), List.drop_of_length_le (by omega), List.append_nil]
section
variable {w0 w : World} {d n l V m lk : Nat} {R : Asn} {D : List UInt8}
theorem q_new (h : VS w0 d n l V R m exN0 w) (hs : Stable R) (h1 : 16 ≤ n) (h2 : n ≤ 512) (hm : m ≤ 16) :
    Calls Tryz.prog 35 #[.pointer (some ⟨V, 0, none⟩), .int .i64 1] w fun e w' => e = .returned (.tuple #[.int .i64 0, .int .i64 0]) ∧ VS w0 d n l V R (m + 1) (oneN 0 []) w' := by
  have := k_new h hs h1 h2 hm 1
  rw [new_one] at this
  exact this
theorem q_write (h : VS w0 d n l V R m (oneN lk D) w) (hs : Stable R) (h1 : 16 ≤ n) (h2 : n ≤ 512) (hm : m ≤ 16) (off : Nat) (s : ByteArray) (ho : off ≤ D.length) (h5 : s.size ≤ 512) (h6 : off + s.size ≤ 2368) (h7 : takesN (wrD D off s.data.toList).length + 9 ≤ n) :
    Calls Tryz.prog 36 #[.pointer (some ⟨V, 0, none⟩), .int .i64 0, .int .i64 (off : Int), .string s] w fun e w' => e = .returned (.int .i64 0) ∧ VS w0 d n l V R (m + wrC off s.size) (oneN lk (wrD D off s.data.toList)) w' := by
  have hsl : s.data.toList.length = s.size := (Go.Lib.size_eq s).symm
  have := k_write h hs h1 h2 hm 0 (off : Int) s
  rw [write_one ho (by omega) (by omega) h7, Int.toNat_natCast] at this
  exact this
theorem q_cut (h : VS w0 d n l V R m (oneN lk D) w) (hs : Stable R) (h1 : 16 ≤ n) (h2 : n ≤ 512) (hm : m ≤ 16) (size : Nat) (hz : size ≤ D.length) :
    Calls Tryz.prog 39 #[.pointer (some ⟨V, 0, none⟩), .int .i64 0, .int .i64 (size : Int)] w fun e w' => e = .returned (.int .i64 0) ∧ VS w0 d n l V R (m + 3) (oneN lk (D.take size)) w' := by
  have := k_cut h hs h1 h2 hm 0 (size : Int)
  rw [cut_one hz] at this
  exact this
theorem q_cut_no (h : VS w0 d n l V R m (oneN lk D) w) (hs : Stable R) (h1 : 16 ≤ n) (h2 : n ≤ 512) (hm : m ≤ 16) (size : Int) (hz : size < 0 ∨ (D.length : Int) < size) :
    Calls Tryz.prog 39 #[.pointer (some ⟨V, 0, none⟩), .int .i64 0, .int .i64 size] w fun e w' => e = .returned (.int .i64 1) ∧ VS w0 d n l V R (m + 3) (oneN lk D) w' := by
  have := k_cut h hs h1 h2 hm 0 size
  rw [cut_one_no hz] at this
  exact this
theorem q_read (h : VS w0 d n l V R m (oneN lk D) w) (hs : Stable R) (h1 : 16 ≤ n) (h2 : n ≤ 512) (off many : Nat) (ho : off ≤ 9223372036854775807) (hm : many ≤ 9223372036854775807) (B : ByteArray) (hB : B.data.toList = (D.drop off).take many) :
    Calls Tryz.prog 33 #[.pointer (some ⟨V, 0, none⟩), .int .i64 0, .int .i64 (off : Int), .int .i64 (many : Int)] w fun e w' => e = .returned (.tuple #[.string B, .int .i64 0]) ∧ VS w0 d n l V R m (oneN lk D) w' := by
  have := k_read h hs h1 h2 0 (off : Int) (many : Int) (by omega) (by omega)
  rw [read_one] at this
  have e : (⟨((D.drop off).take many).toArray⟩ : ByteArray) = B := arr_eta (by rw [hB])
  rw [e] at this
  exact this
end
end Go.Proofs.YtlpcccpagmipnaaGreat.P
