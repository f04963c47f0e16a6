/- Stage 3: part, frame, Get, Touched, Frames, New; a memory that is nil. No condition. -/
import Derived.Test.YtbcnibnkojnpiaaGreatQ2
import Derived.Lib.SlBytesRow
import Derived.Deep.DeepCutAuto
import Derived.Deep.CutBlock
set_option linter.unusedVariables false
namespace Go.Proofs.YtbcnibnkojnpiaaGreat.P
open Go.RowKit Go.MuLone
theorem ret_bn {g g' : Value} {a b : Bool} (h : a = b) (h2 : g = g') : Ending.returned (.tuple #[g, .bool a]) = .returned (.tuple #[g', .bool b]) := by rw [h, h2]
theorem ret_vi {g g' : Value} {a b : Int} (h : a = b) (h2 : g = g') : Ending.returned (.tuple #[g, .int .i64 a]) = .returned (.tuple #[g', .int .i64 b]) := by rw [h, h2]
def PartY (b : Nat) (y : Option Nat) (fr : Nat) (s : List UInt8) (t : Int) (at_ n : Nat) (w : World) (e : Ending) (w' : World) : Prop :=
  ∃ g, e = .returned (.tuple #[partV g s.length at_ n, .bool true]) ∧ MemO w' b (some g) fr s t ∧ KeptM b y w w' (some g)
def PartN (b : Nat) (y : Option Nat) (fr : Nat) (s : List UInt8) (t : Int) (w : World) (e : Ending) (w' : World) : Prop :=
  e = .returned (.tuple #[.slice none 0 0, .bool false]) ∧ ∃ y', MemO w' b y' fr s t ∧ KeptM b y w w' y'
set_option maxRecDepth 100000 in
theorem c_part_yes (b : Nat) (y : Option Nat) (fr : Nat) (s : List UInt8) (t : Int) (w : World) (h : MemO w b y fr s t) (at_ n : Nat) (hn : at_ + n ≤ s.length) :
    Calls Tryz.prog 38 #[.pointer (some ⟨b, 0, none⟩), .int .u64 at_, .int .i64 n] w (PartY b y fr s t at_ n w) := by
  have hl : s.length ≤ 65536 := by have := h.1; have := h.2.2.1; omega
  have H := Lib.hid h
  clear h
  go_enter Tryz.func38, Tryz.ntmps38
  go_wp2_with fail
  refine (c_all b y fr s t w H.out).mono ?_
  rintro e w1 ⟨g, rfl, hM, hK⟩
  have HM := Lib.hid hM
  have HK := Lib.hid hK
  clear hM hK
  have hsl := slice_part g s.length at_ n hn w1
  generalize hL : s.length = N at *
  have HL := Lib.hid hL
  clear hL
  have d1 : decide ((N : Int) < at_) = false := decide_eq_false (by omega)
  have d2 : decide ((N : Int) - at_ < n) = false := decide_eq_false (by omega)
  have b0 : (0 : Int) ≤ n := by omega
  have b1 : (0 : Int) ≤ at_ := by omega
  have b2 : (at_ : Int) ≤ 65536 := by omega
  have b3 : (n : Int) ≤ 65536 := by omega
  have b4 : (N : Int) ≤ 65536 := by omega
  have b5 : (at_ : Int) ≤ N := by omega
  have b6 : (n : Int) ≤ N - at_ := by omega
  clear hn
  generalize hA : (at_ : Int) = A at *
  generalize hn' : (n : Int) = M at *
  have HA := Lib.hid hA
  have HN' := Lib.hid hn'
  clear hA hn'
  go_wp2_with fail
  go_ret2
  exact ⟨g, by rw [HL.out]; rfl, HM.out, HK.out⟩
set_option maxRecDepth 100000 in
theorem c_part_no (b : Nat) (y : Option Nat) (fr : Nat) (s : List UInt8) (t : Int) (w : World) (h : MemO w b y fr s t) (a : Int) (n : Nat) (ha0 : 0 ≤ a) (ha1 : a ≤ 18446744073709551615) (hn0 : n ≤ maxLen) (hn : ¬ a + n ≤ s.length) :
    Calls Tryz.prog 38 #[.pointer (some ⟨b, 0, none⟩), .int .u64 a, .int .i64 n] w (PartN b y fr s t w) := by
  have hl : s.length ≤ 65536 := by have := h.1; have := h.2.2.1; omega
  unfold maxLen at hn0
  have H := Lib.hid h
  clear h
  go_enter Tryz.func38, Tryz.ntmps38
  go_wp2_with fail
  refine (c_all b y fr s t w H.out).mono ?_
  rintro e w1 ⟨g, rfl, hM, hK⟩
  have HM := Lib.hid hM
  have HK := Lib.hid hK
  clear hM hK
  generalize hL : s.length = N at *
  have HL := Lib.hid hL
  clear hL
  have e1 : IntKind.u64.wrap (N : Int) = N := by rw [IntKind.wrap_u64]; omega
  have e2 : IntKind.u64.wrap (n : Int) = n := by rw [IntKind.wrap_u64]; omega
  by_cases d1 : (N : Int) < a
  · go_wp2_with fail
    go_ret2
    exact ⟨rfl, some g, HM.out, HK.out⟩
  · have e3 : IntKind.u64.wrap ((N : Int) - a) = N - a := by rw [IntKind.wrap_u64]; omega
    have d2 : (N : Int) - a < n := by omega
    clear hn
    go_wp2_with fail
    go_ret2
    exact ⟨rfl, some g, HM.out, HK.out⟩
theorem c_frames (b : Nat) (y : Option Nat) (fr : Nat) (s : List UInt8) (t : Int) (w : World) (h : MemO w b y fr s t) :
    Calls Tryz.prog 49 #[.pointer (some ⟨b, 0, none⟩)] w fun e w' => e = .returned (.int .i64 fr) ∧ w' = w := by
  have c0 := blk_cell h.blk 0 (v := .int .i64 fr) rfl
  clear h
  go_enter Tryz.func49, Tryz.ntmps49
  go_wp2_with fail
  go_ret
  exact ⟨rfl, rfl⟩
def NewM (fr : Nat) (w : World) (e : Ending) (w' : World) : Prop :=
  ∃ b, e = .returned (.tuple #[.pointer (some ⟨b, 0, none⟩), .int .i64 0]) ∧ MemO w' b none fr (List.replicate (fr * 256) 0) 0 ∧ w.heap.size ≤ b ∧ Gr w w'
theorem c_new (fr : Nat) (h1 : 1 ≤ fr) (h2 : fr ≤ 256) (w : World) : Calls Tryz.prog 18 #[.int .i64 fr] w (NewM fr w) := by
  have b1 : (1 : Int) ≤ fr := by omega
  have b2 : (fr : Int) ≤ 256 := by omega
  go_enter Tryz.func18, Tryz.ntmps18
  go_wp2
  go_ret2
  exact ⟨_, rfl, ⟨by simp, h1, h2, blk_new' _ _ _ rfl, rfl⟩, Nat.le_refl _, (Gr.refl w).alloc (Nat.le_refl _) _⟩
theorem c_new_no (fr : Int) (h : ¬ (1 ≤ fr ∧ fr ≤ 256)) (w : World) : Calls Tryz.prog 18 #[.int .i64 fr] w fun e w' => e = .returned (.tuple #[.pointer none, .int .i64 1]) ∧ w' = w := by
  by_cases h1 : fr < 1
  · go_enter Tryz.func18, Tryz.ntmps18
    go_wp2
    go_ret2
    exact ⟨rfl, rfl⟩
  · have h2 : 256 < fr := by omega
    go_enter Tryz.func18, Tryz.ntmps18
    go_wp2
    go_ret2
    exact ⟨rfl, rfl⟩
/-- Bytes of the row as a string. -/
def subB (s : List UInt8) (at_ n : Nat) : ByteArray := ⟨((s.drop at_).take n).toArray⟩
theorem bytes_blk {w : World} {g : Nat} {s : List UInt8} (h : w.heap[g]? = some (.cells (bys s) 5)) : Go.Lib.Bytes w g 0 ⟨s.toArray⟩ := by
  intro i hi
  have hi' : i < s.length := by have : (⟨s.toArray⟩ : ByteArray).size = s.length := by simp [ByteArray.size]
                                omega
  rw [Nat.zero_add, blk_cell h i (bys_get s i hi')]
  rfl
theorem conv_part (g : Nat) (s : List UInt8) (at_ n : Nat) (hn : at_ + n ≤ s.length) (w : World) (h : w.heap[g]? = some (.cells (bys s) 5)) :
    (convert 44 9 (partV g s.length at_ n)).run Tryz.prog w = .ok (.string (subB s at_ n)) w := by
  have hd : (⟨s.toArray⟩ : ByteArray).extract at_ (at_ + n) = subB s at_ n := by
    apply ByteArray.ext; apply Array.toList_inj.1
    rw [Go.Lib.extract_data]
    simp [subB]
  unfold partV
  by_cases h0 : s.length = at_
  · rw [if_pos h0]
    obtain rfl : n = 0 := by omega
    have := Go.Lib.run_convert_window (P := Tryz.prog) w 44 5 9 Tryz.underlying44 Tryz.underlying5 Tryz.underlying9 g 0 ⟨s.toArray⟩ (bytes_blk h) 0 0 (s.length - at_) (by simp)
    rw [Nat.add_zero] at this
    have e0 : (⟨s.toArray⟩ : ByteArray).extract 0 0 = subB s at_ 0 := by
      apply ByteArray.ext; apply Array.toList_inj.1
      rw [Go.Lib.extract_data]; simp [subB]
    rw [this, e0]
  · rw [if_neg h0]
    have := Go.Lib.run_convert_window (P := Tryz.prog) w 44 5 9 Tryz.underlying44 Tryz.underlying5 Tryz.underlying9 g 0 ⟨s.toArray⟩ (bytes_blk h) at_ n (s.length - at_) (by simpa [ByteArray.size] using hn)
    rw [Nat.zero_add] at this
    rw [this, hd]
def GetP (b : Nat) (y : Option Nat) (fr : Nat) (s : List UInt8) (t : Int) (v : Value) (r : Int) (w : World) (e : Ending) (w' : World) : Prop :=
  e = .returned (.tuple #[v, .int .i64 r]) ∧ ∃ y', MemO w' b y' fr s t ∧ KeptM b y w w' y'
theorem c_get_yes (b : Nat) (y : Option Nat) (fr : Nat) (s : List UInt8) (t : Int) (w : World) (h : MemO w b y fr s t) (at_ n : Nat) (hn : at_ + n ≤ s.length) :
    Calls Tryz.prog 13 #[.pointer (some ⟨b, 0, none⟩), .int .u64 at_, .int .i64 n] w (GetP b y fr s t (.string (subB s at_ n)) 0 w) := by
  have H := Lib.hid h
  clear h
  have b1 : (0 : Int) ≤ n := by omega
  go_enter Tryz.func13, Tryz.ntmps13
  go_wp2_with fail
  refine (c_part_yes b y fr s t w H.out at_ n hn).mono ?_
  rintro e w1 ⟨g, rfl, hM, hK⟩
  have HM := Lib.hid hM
  have HK := Lib.hid hK
  have hcv := conv_part g s at_ n hn w1 hM.2.2.2.2.2
  clear hM hK
  go_wp2_with fail
  go_ret2
  exact ⟨rfl, some g, HM.out, HK.out⟩
theorem c_get_no (b : Nat) (y : Option Nat) (fr : Nat) (s : List UInt8) (t : Int) (w : World) (h : MemO w b y fr s t) (a : Int) (n : Nat) (ha0 : 0 ≤ a) (ha1 : a ≤ 18446744073709551615) (hn0 : n ≤ maxLen) (hn : ¬ a + n ≤ s.length) :
    Calls Tryz.prog 13 #[.pointer (some ⟨b, 0, none⟩), .int .u64 a, .int .i64 n] w (GetP b y fr s t (.string ⟨#[]⟩) 3 w) := by
  have H := Lib.hid h
  have HN := Lib.hid hn
  have HN0 := Lib.hid hn0
  clear h hn hn0
  have b1 : (0 : Int) ≤ n := by omega
  go_enter Tryz.func13, Tryz.ntmps13
  go_wp2_with fail
  refine (c_part_no b y fr s t w H.out a n ha0 ha1 HN0.out (by have := HN.out; omega)).mono ?_
  rintro e w1 ⟨rfl, y', hM, hK⟩
  have HM := Lib.hid hM
  have HK := Lib.hid hK
  clear hM hK
  go_wp2_with fail
  go_ret2
  exact ⟨rfl, y', HM.out, HK.out⟩
theorem c_get_neg (v : Value) (a n : Int) (hn : n < 0) (b : Nat) (w : World) : Calls Tryz.prog 13 #[.pointer (some ⟨b, 0, none⟩), .int .u64 a, .int .i64 n] w fun e w' => e = .returned (.tuple #[.string ⟨#[]⟩, .int .i64 1]) ∧ w' = w := by
  go_enter Tryz.func13, Tryz.ntmps13
  go_wp2_with fail
  go_ret2
  exact ⟨rfl, rfl⟩
end Go.Proofs.YtbcnibnkojnpiaaGreat.P
