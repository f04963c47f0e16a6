/- Stage 3: frame, Put, Clear, Copy. No condition. -/
import Derived.Test.YtbcnibnkojnpiaaGreatQ4
set_option linter.unusedVariables false
namespace Go.Proofs.YtbcnibnkojnpiaaGreat.P
open Go.RowKit Go.MuLone
/-- Behind a store into the bytes of a memory. -/
theorem MemO.stored {w w' : World} {b g : Nat} {fr : Nat} {s s' : List UInt8} {t : Int} (h : MemO w b (some g) fr s t) (hc : Ch (· = g) w w') (hs : s'.length = s.length) (hg : w'.heap[g]? = some (.cells (bys s') 5)) : MemO w' b (some g) fr s' t := by
  obtain ⟨a1, a2, a3, a4, a5, a6⟩ := h
  exact ⟨by rw [hs, a1], a2, a3, by rw [hs]; exact hc.blk a4 (fun e => a5 e.symm), a5, hg⟩
def PutP (b : Nat) (y : Option Nat) (fr : Nat) (s : List UInt8) (t : Int) (r : Int) (w : World) (e : Ending) (w' : World) : Prop :=
  e = .returned (.int .i64 r) ∧ ∃ y', MemO w' b y' fr s t ∧ KeptM b y w w' y'
set_option maxRecDepth 100000 in
theorem c_put_yes (b : Nat) (y : Option Nat) (fr : Nat) (s : List UInt8) (t : Int) (w : World) (h : MemO w b y fr s t) (at_ : Nat) (x : ByteArray) (hn : at_ + x.size ≤ s.length) :
    Calls Tryz.prog 43 #[.pointer (some ⟨b, 0, none⟩), .int .u64 at_, .string x] w (PutP b y fr (putL s at_ x.data.toList) t 0 w) := by
  have H := Lib.hid h
  have HX := Lib.hid hn
  have hlen := putL_len s at_ x.data.toList (by simpa using hn)
  have HLEN := Lib.hid hlen
  clear h hn hlen
  go_enter Tryz.func43, Tryz.ntmps43
  go_wp2_with fail
  refine (c_part_yes b y fr s t w H.out at_ x.size HX.out).mono ?_
  rintro e w1 ⟨g, rfl, hM, hK⟩
  have HM := Lib.hid hM
  have HK := Lib.hid hK
  obtain ⟨w2, hr, hb, hc⟩ := copy_str g s at_ x HX.out 3 w1 hM.2.2.2.2.2
  have HB := Lib.hid hb
  have HC := Lib.hid hc
  have HR := Lib.hid hr
  clear hM hK hb hc hr
  go_wp2_with (refine Go.Lib.wpList_copy_run _ rfl _ _ 44 9 rfl _ _ rfl rfl HR.out ?_)
  go_ret
  exact ⟨rfl, some g, HM.out.stored HC.out HLEN.out HB.out, HK.out.then (HC.out.mono (fun x hx => .inr (by rw [hx])))⟩
set_option maxRecDepth 100000 in
theorem c_put_no (b : Nat) (y : Option Nat) (fr : Nat) (s : List UInt8) (t : Int) (w : World) (h : MemO w b y fr s t) (a : Int) (x : ByteArray) (ha0 : 0 ≤ a) (ha1 : a ≤ 18446744073709551615) (hn0 : x.size ≤ maxLen) (hn : ¬ a + x.size ≤ s.length) :
    Calls Tryz.prog 43 #[.pointer (some ⟨b, 0, none⟩), .int .u64 a, .string x] w (PutP b y fr s t 3 w) := by
  have H := Lib.hid h
  have HN := Lib.hid hn
  have HN0 := Lib.hid hn0
  clear h hn hn0
  go_enter Tryz.func43, Tryz.ntmps43
  go_wp2_with fail
  refine (c_part_no b y fr s t w H.out a x.size ha0 ha1 HN0.out (by have := HN.out; omega)).mono ?_
  rintro e w1 ⟨rfl, y', hM, hK⟩
  have HM := Lib.hid hM
  have HK := Lib.hid hK
  clear hM hK
  go_wp2_with fail
  go_ret
  exact ⟨rfl, y', HM.out, HK.out⟩
set_option maxRecDepth 100000 in
theorem c_frame_yes (b : Nat) (y : Option Nat) (fr : Nat) (s : List UInt8) (t : Int) (w : World) (h : MemO w b y fr s t) (n : Nat) (hn : n < fr) :
    Calls Tryz.prog 88 #[.pointer (some ⟨b, 0, none⟩), .int .i64 n] w (PartY b y fr s t (n * 256) 256 w) := by
  have c0 := blk_cell h.blk 0 (v := .int .i64 fr) rfl
  have hs := h.1
  have hf := h.2.2.1
  have H := Lib.hid h
  have HS := Lib.hid hs
  clear h hs
  have b0 : (0 : Int) ≤ n := by omega
  have b1 : (n : Int) ≤ 255 := by omega
  have d1 : decide ((n : Int) < 0) = false := decide_eq_false (by omega)
  have d2 : decide (fr ≤ n) = false := decide_eq_false (by omega)
  have HN := Lib.hid hn
  clear hn
  go_enter Tryz.func88, Tryz.ntmps88
  go_wp2_with fail
  have hp := c_part_yes b y fr s t w H.out (n * 256) 256 (by have := HS.out; have := HN.out; omega)
  rw [show ((n * 256 : Nat) : Int) = (n : Int) * 256 by omega] at hp
  have HP : RowKit.Hid (Calls Tryz.prog 38 #[.pointer (some ⟨b, 0, none⟩), .int .u64 ((n : Int) * 256), .int .i64 256] w (PartY b y fr s t (n * 256) 256 w)) := Lib.hid hp
  clear hp
  refine HP.out.mono ?_
  rintro e w1 ⟨g, rfl, hM, hK⟩
  have HM := Lib.hid hM
  have HK := Lib.hid hK
  clear hM hK
  go_wp2_with fail
  go_ret2
  exact ⟨g, rfl, HM.out, HK.out⟩
theorem c_frame_no (b : Nat) (y : Option Nat) (fr : Nat) (s : List UInt8) (t : Int) (w : World) (h : MemO w b y fr s t) (n : Int) (hn : n < 0 ∨ (fr : Int) ≤ n) :
    Calls Tryz.prog 88 #[.pointer (some ⟨b, 0, none⟩), .int .i64 n] w fun e w' => e = .returned (.tuple #[.slice none 0 0, .bool false]) ∧ w' = w := by
  have c0 := blk_cell h.blk 0 (v := .int .i64 fr) rfl
  clear h
  by_cases h1 : n < 0
  · go_enter Tryz.func88, Tryz.ntmps88
    go_wp2_with fail
    go_ret2
    exact ⟨rfl, rfl⟩
  · have h2 : (fr : Int) ≤ n := by omega
    have d2 : decide ((fr : Int) ≤ n) = true := decide_eq_true h2
    clear hn
    go_enter Tryz.func88, Tryz.ntmps88
    go_wp2_with fail
    go_ret2
    exact ⟨rfl, rfl⟩
set_option maxRecDepth 100000 in
theorem c_clear_yes (b : Nat) (y : Option Nat) (fr : Nat) (s : List UInt8) (t : Int) (w : World) (h : MemO w b y fr s t) (n : Nat) (hn : n < fr) :
    Calls Tryz.prog 84 #[.pointer (some ⟨b, 0, none⟩), .int .i64 n] w (PutP b y fr (putL s (n * 256) (List.replicate 256 0)) t 0 w) := by
  have H := Lib.hid h
  have HN := Lib.hid hn
  have hs := h.1
  have hle : n * 256 + 256 ≤ s.length := by omega
  have hlen := putL_len s (n * 256) (List.replicate 256 0) (by simpa using hle)
  have HLEN := Lib.hid hlen
  have HLE := Lib.hid hle
  clear h hn hs hlen hle
  go_enter Tryz.func84, Tryz.ntmps84
  go_wp2_with fail
  refine (c_frame_yes b y fr s t w H.out n HN.out).mono ?_
  rintro e w1 ⟨g, rfl, hM, hK⟩
  have HM := Lib.hid hM
  have HK := Lib.hid hK
  obtain ⟨w2, hr, hb, hc⟩ := clear_row g s (n * 256) 256 HLE.out (by omega) 0 w1 hM.2.2.2.2.2
  have HB := Lib.hid hb
  have HC := Lib.hid hc
  clear hM hK hb hc
  go_wp2_with fail
  go_ret
  exact ⟨rfl, some g, HM.out.stored HC.out HLEN.out HB.out, HK.out.then (HC.out.mono (fun x hx => .inr (by rw [hx])))⟩
set_option maxRecDepth 100000 in
theorem c_clear_no (b : Nat) (y : Option Nat) (fr : Nat) (s : List UInt8) (t : Int) (w : World) (h : MemO w b y fr s t) (n : Int) (hn : n < 0 ∨ (fr : Int) ≤ n) :
    Calls Tryz.prog 84 #[.pointer (some ⟨b, 0, none⟩), .int .i64 n] w fun e w' => e = .returned (.int .i64 3) ∧ w' = w := by
  have H := Lib.hid h
  have HN := Lib.hid hn
  clear h hn
  go_enter Tryz.func84, Tryz.ntmps84
  go_wp2_with fail
  refine (c_frame_no b y fr s t w H.out n HN.out).mono ?_
  rintro e w1 ⟨rfl, rfl⟩
  go_wp2_with fail
  go_ret
  exact ⟨rfl, rfl⟩
set_option maxRecDepth 100000 in
theorem c_copy_yes (b : Nat) (y : Option Nat) (fr : Nat) (s : List UInt8) (t : Int) (w : World) (h : MemO w b y fr s t) (n k : Nat) (hn : n < fr) (hk : k < fr) :
    Calls Tryz.prog 61 #[.pointer (some ⟨b, 0, none⟩), .int .i64 n, .int .i64 k] w (PutP b y fr (putL s (n * 256) ((s.drop (k * 256)).take 256)) t 0 w) := by
  have H := Lib.hid h
  have HN := Lib.hid hn
  have HK1 := Lib.hid hk
  have hs := h.1
  have hle : n * 256 + 256 ≤ s.length := by omega
  have hle2 : k * 256 + 256 ≤ s.length := by omega
  have hlen := putL_len s (n * 256) ((s.drop (k * 256)).take 256) (by simp; omega)
  have HLEN := Lib.hid hlen
  have HLE := Lib.hid hle
  have HLE2 := Lib.hid hle2
  clear h hn hk hs hlen hle hle2
  go_enter Tryz.func61, Tryz.ntmps61
  go_wp2_with fail
  refine (c_frame_yes b y fr s t w H.out n HN.out).mono ?_
  rintro e w1 ⟨g, rfl, hM, hK⟩
  have HM := Lib.hid hM
  have HK := Lib.hid hK
  clear hM hK
  go_wp2_with fail
  refine (c_frame_yes b (some g) fr s t w1 HM.out k HK1.out).mono ?_
  rintro e w2 ⟨g', rfl, hM, hK⟩
  obtain rfl : g' = g := by
    rcases hK.2 with e | ⟨e, _⟩
    · injection e
    · cases e
  have HM2 := Lib.hid hM
  have HK2 := Lib.hid hK
  obtain ⟨w3, hr, hb, hc⟩ := copy_row g' s (n * 256) (k * 256) 256 HLE.out (by omega) 3 w2 hM.2.2.2.2.2 g' s HLE2.out hM.2.2.2.2.2
  have HB := Lib.hid hb
  have HC := Lib.hid hc
  have HR := Lib.hid hr
  clear hM hK hb hc hr
  go_wp2_with (refine Go.Lib.wpList_copy_run _ rfl _ _ 44 44 rfl _ _ rfl rfl HR.out ?_)
  go_ret
  exact ⟨rfl, some g', HM2.out.stored HC.out HLEN.out HB.out, (HK.out.trans HK2.out).then (HC.out.mono (fun x hx => .inr (by rw [hx])))⟩
set_option maxRecDepth 100000 in
theorem c_copy_no1 (b : Nat) (y : Option Nat) (fr : Nat) (s : List UInt8) (t : Int) (w : World) (h : MemO w b y fr s t) (n k : Int) (hn : n < 0 ∨ (fr : Int) ≤ n) :
    Calls Tryz.prog 61 #[.pointer (some ⟨b, 0, none⟩), .int .i64 n, .int .i64 k] w (PutP b y fr s t 3 w) := by
  have H := Lib.hid h
  have HN := Lib.hid hn
  clear h hn
  go_enter Tryz.func61, Tryz.ntmps61
  go_wp2_with fail
  refine (c_frame_no b y fr s t w H.out n HN.out).mono ?_
  rintro e w1 ⟨rfl, rfl⟩
  go_wp2_with fail
  go_ret
  exact ⟨rfl, y, H.out, KeptM.refl _ _ _⟩
set_option maxRecDepth 100000 in
theorem c_copy_no2 (b : Nat) (y : Option Nat) (fr : Nat) (s : List UInt8) (t : Int) (w : World) (h : MemO w b y fr s t) (n : Nat) (k : Int) (hn : n < fr) (hk : k < 0 ∨ (fr : Int) ≤ k) :
    Calls Tryz.prog 61 #[.pointer (some ⟨b, 0, none⟩), .int .i64 n, .int .i64 k] w (PutP b y fr s t 3 w) := by
  have H := Lib.hid h
  have HN := Lib.hid hn
  have HK1 := Lib.hid hk
  clear h hn hk
  go_enter Tryz.func61, Tryz.ntmps61
  go_wp2_with fail
  refine (c_frame_yes b y fr s t w H.out n HN.out).mono ?_
  rintro e w1 ⟨g, rfl, hM, hK⟩
  have HM := Lib.hid hM
  have HK := Lib.hid hK
  clear hM hK
  go_wp2_with fail
  refine (c_frame_no b (some g) fr s t w1 HM.out k HK1.out).mono ?_
  rintro e w2 ⟨rfl, rfl⟩
  go_wp2_with fail
  go_ret
  exact ⟨rfl, some g, HM.out, HK.out⟩
end Go.Proofs.YtbcnibnkojnpiaaGreat.P
