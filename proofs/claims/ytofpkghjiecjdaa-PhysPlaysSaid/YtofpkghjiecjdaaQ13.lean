/- Stage 3: two objects side by side; Clone. No condition. -/
import Derived.Test.YtofpkghjiecjdaaQ7
set_option linter.unusedVariables false
namespace Go.Proofs.Ytofpkghjiecjdaa.P
open Go.RowKit Go.MuLone
/-- Two objects have no block in common. -/
def Sep (b : Nat) (y : Option Nat) (c : Nat) (z : Option Nat) : Prop := b ≠ c ∧ y ≠ some c ∧ z ≠ some b ∧ ∀ x, y = some x → z ≠ some x
theorem Sep.symm {b c : Nat} {y z : Option Nat} (h : Sep b y c z) : Sep c z b y := ⟨fun e => h.1 e.symm, h.2.2.1, h.2.1, fun x hx hy => h.2.2.2 x hy hx⟩
theorem Sep.out {b c : Nat} {y z : Option Nat} (h : Sep b y c z) : ¬ (c = b ∨ y = some c) ∧ (∀ x, z = some x → ¬ (x = b ∨ y = some x)) := by
  refine ⟨fun e => ?_, fun x hx e => ?_⟩
  · rcases e with e | e
    · exact h.1 e.symm
    · exact h.2.1 e
  · rcases e with e | e
    · exact h.2.2.1 (by rw [hx, e])
    · exact h.2.2.2 x e hx
theorem Sep.step {b c : Nat} {y y' z : Option Nat} {w w' : World} (h : Sep b y c z) (hk : KeptM b y w w' y') (hc : c < w.heap.size) (hz : ∀ x, z = some x → x < w.heap.size) : Sep b y' c z := by
  rcases hk.2 with e | ⟨e, g, e2, e3⟩
  · rw [e]; exact h
  · refine ⟨h.1, ?_, h.2.2.1, ?_⟩
    · rw [e2]; intro f; injection f with f; omega
    · intro x hx hzx
      rw [e2] at hx; injection hx with hx
      have := hz x hzx; omega
theorem MemO.lt {w : World} {b : Nat} {y : Option Nat} {fr : Nat} {s : List UInt8} {t : Int} (h : MemO w b y fr s t) : b < w.heap.size ∧ ∀ x, y = some x → x < w.heap.size := by
  refine ⟨blk_lt h.blk, ?_⟩
  rintro x rfl; exact blk_lt h.2.2.2.2.2
theorem MemO.apart {w w' : World} {b c : Nat} {y y' z : Option Nat} {fr : Nat} {s : List UInt8} {t : Int} (h : MemO w c z fr s t) (hs : Sep b y c z) (hk : KeptM b y w w' y') : MemO w' c z fr s t :=
  h.keep hk.1 hs.out.1 hs.out.2
theorem partV_all (g N : Nat) : partV g N 0 N = .slice (some ⟨g, 0, none⟩) N N := by unfold partV; simp
theorem putL_all (s z : List UInt8) (h : s.length = z.length) : putL s 0 ((z.drop 0).take z.length) = z := by
  unfold putL
  rw [List.drop_zero, List.take_of_length_le (Nat.le_refl _), List.take_zero, List.drop_eq_nil_of_le (by omega)]
  simp
def CloneP (b : Nat) (y : Option Nat) (fr : Nat) (s : List UInt8) (t : Int) (w : World) (e : Ending) (w' : World) : Prop :=
  ∃ c g y', e = .returned (.pointer (some ⟨c, 0, none⟩)) ∧ MemO w' b y' fr s t ∧ MemO w' c (some g) fr s 0 ∧ KeptM b y w w' y' ∧ w.heap.size ≤ c ∧ w.heap.size ≤ g ∧ Sep b y' c (some g)
set_option maxRecDepth 100000 in
set_option maxHeartbeats 800000 in
theorem c_clone (b : Nat) (y : Option Nat) (fr : Nat) (s : List UInt8) (t : Int) (w : World) (h : MemO w b y fr s t) :
    Calls Try.prog 21 #[.pointer (some ⟨b, 0, none⟩)] w (CloneP b y fr s t w) := by
  have hlt := h.lt
  have hN := h.1
  have hf1 := h.2.1
  have hf2 := h.2.2.1
  have c0 := blk_cell h.blk 0 (v := .int .i64 fr) rfl
  have HNEW : RowKit.Hid (MemO (w.alloc (.cells (mm fr 0 (.slice none 0 0) 0) 75)) w.heap.size none fr (List.replicate (fr * 256) 0) 0) := Lib.hid ⟨by simp, hf1, hf2, blk_new _ _, rfl⟩
  have HOLD : RowKit.Hid (MemO (w.alloc (.cells (mm fr 0 (.slice none 0 0) 0) 75)) b y fr s t) := Lib.hid (h.keep (S := fun _ => False) (Ch.alloc (Ch.refl _ _) _) (fun h => h) (fun _ _ h => h))
  have HK0 : RowKit.Hid (KeptM b y w (w.alloc (.cells (mm fr 0 (.slice none 0 0) 0) 75)) y) := Lib.hid (KeptM.of_gr ((Gr.refl w).alloc (Nat.le_refl _) _))
  have hs0 : Sep w.heap.size none b y := ⟨by omega, by simp, fun e => by have := hlt.2 _ e; omega, fun x hx => by cases hx⟩
  have HS0 := Lib.hid hs0
  have HLT := Lib.hid hlt
  have HN := Lib.hid hN
  clear h hlt hN hs0
  go_enter Try.func21, Try.ntmps21
  go_wp2_with fail
  refine (c_all w.heap.size none fr _ 0 _ HNEW.out).mono ?_
  rintro e w1 ⟨g, rfl, hM1, hK1⟩
  have HM1 := Lib.hid hM1
  have HK1 := Lib.hid hK1
  have hlt1 := HOLD.out.lt
  have HS1 := Lib.hid (HS0.out.step hK1 hlt1.1 hlt1.2)
  have HO1 := Lib.hid (HOLD.out.apart HS0.out hK1)
  have hg : w.heap.size ≤ g := by
    rcases hK1.2 with e | ⟨e, g2, e2, e3⟩
    · cases e
    · injection e2 with e2; simp at e3; omega
  clear hM1 hK1 hlt1
  go_wp2_with fail
  refine (c_all b y fr s t _ HO1.out).mono ?_
  rintro e w2 ⟨g2, rfl, hM2, hK2⟩
  have HM2 := Lib.hid hM2
  have HK2 := Lib.hid hK2
  have hlt2 := HM1.out.lt
  have HS2 := Lib.hid (HS1.out.symm.step hK2 hlt2.1 hlt2.2)
  have HN2 := Lib.hid (HM1.out.apart HS1.out.symm hK2)
  clear hM2 hK2 hlt2
  have hl : (List.replicate (fr * 256) (0 : UInt8)).length = s.length := by rw [List.length_replicate, HN.out]
  obtain ⟨w3, hr, hb3, hc3⟩ := copy_row g (List.replicate (fr * 256) 0) 0 0 s.length (by omega) (by rw [HN.out]; omega) 3 w2 HN2.out.2.2.2.2.2 g2 s (by omega) HM2.out.2.2.2.2.2
  have e1 : partV g (List.replicate (fr * 256) (0 : UInt8)).length 0 s.length = .slice (some ⟨g, 0, none⟩) (List.replicate (fr * 256) (0 : UInt8)).length (List.replicate (fr * 256) (0 : UInt8)).length := by rw [hl]; exact partV_all _ _
  rw [e1, partV_all, List.length_replicate] at hr
  rw [putL_all _ _ hl] at hb3
  have HR := Lib.hid hr
  have HB3 := Lib.hid hb3
  have HC3 := Lib.hid hc3
  have HL := Lib.hid hl
  clear hr hb3 hc3 e1 hl
  go_wp2_with (refine Go.Lib.wpList_copy_run _ rfl _ _ 36 36 rfl _ _ rfl rfl HR.out ?_)
  go_ret
  refine ⟨w.heap.size, g, some g2, rfl, ?_, HN2.out.stored HC3.out HL.out.symm HB3.out, ?_, Nat.le_refl _, hg, HS2.out⟩
  · have := HS2.out.symm.out
    exact HM2.out.keep (S := (· = g)) HC3.out (fun e => HS2.out.2.2.1 (by rw [e])) (fun x hx e => HS2.out.2.2.2 x hx (by rw [e]))
  · have k1 : KeptM b y w w1 y := by
      refine ⟨HK0.out.1.trans2 HK1.out.1 (fun x hx hlt => ?_), .inl rfl⟩
      rcases hx with hx | hx
      · omega
      · cases hx
    have k2 := k1.trans HK2.out
    refine ⟨k2.1.trans2 HC3.out (fun x hx hlt => ?_), k2.2⟩
    omega
end Go.Proofs.Ytofpkghjiecjdaa.P
