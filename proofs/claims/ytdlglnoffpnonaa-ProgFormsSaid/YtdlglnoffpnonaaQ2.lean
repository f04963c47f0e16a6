/- Stage 3: all, part, frame: which bytes of memory a call speaks of. No condition. -/
import Derived.Test.YtdlglnoffpnonaaQ1
set_option linter.unusedVariables false
namespace Go.Proofs.Ytdlglnoffpnonaa.P
open Go.RowKit Go.MuLone
/-- What a call leaves of an object that may make a second block. -/
def KeptM (b : Nat) (y : Option Nat) (w w' : World) (y' : Option Nat) : Prop := Ch (fun x => x = b ∨ y = some x) w w' ∧ (y' = y ∨ (y = none ∧ ∃ g, y' = some g ∧ w.heap.size ≤ g))
theorem KeptM.trans {b : Nat} {y y' y'' : Option Nat} {w w' w'' : World} (h : KeptM b y w w' y') (k : KeptM b y' w' w'' y'') : KeptM b y w w'' y'' := by
  refine ⟨h.1.trans2 k.1 (fun x hx hlt => ?_), ?_⟩
  · rcases hx with hx | hx
    · exact .inl hx
    · rcases h.2 with e | ⟨e, g, e2, e3⟩
      · exact .inr (by rw [← e, hx])
      · rw [e2] at hx; injection hx with hx; omega
  · rcases h.2 with e | ⟨e, g, e2, e3⟩
    · rcases k.2 with f | ⟨f, g2, f2, f3⟩
      · exact .inl (by rw [f, e])
      · exact .inr ⟨by rw [← e, f], g2, f2, by have := h.1.size; omega⟩
    · rcases k.2 with f | ⟨f, g2, f2, f3⟩
      · exact .inr ⟨e, g, by rw [f, e2], e3⟩
      · rw [e2] at f; cases f
theorem KeptM.of_gr {b : Nat} {y : Option Nat} {w w' : World} (h : Gr w w') : KeptM b y w w' y := ⟨Ch.of_gr h, .inl rfl⟩
theorem KeptM.refl (b : Nat) (y : Option Nat) (w : World) : KeptM b y w w y := .of_gr (Gr.refl w)
theorem KeptM.then {b : Nat} {y y' : Option Nat} {w w' w'' : World} (h : KeptM b y w w' y') (k : Ch (fun x => x = b ∨ y' = some x) w' w'') : KeptM b y w w'' y' := h.trans ⟨k, .inl rfl⟩
def backM (y : Option Nat) (n : Nat) : Value := match y with | none => .slice none 0 0 | some g => .slice (some ⟨g, 0, none⟩) n n
def doneM : Option Nat → Int | none => 0 | some _ => 1
theorem MemO.blk {w : World} {b : Nat} {y : Option Nat} {fr : Nat} {s : List UInt8} {t : Int} (h : MemO w b y fr s t) : w.heap[b]? = some (.cells (mm fr (doneM y) (backM y s.length) t) 79) := by
  cases y with
  | none => exact h.2.2.2.1
  | some g => exact h.2.2.2.1
theorem MemO.keep {w w' : World} {b : Nat} {y : Option Nat} {fr : Nat} {s : List UInt8} {t : Int} {S : Nat → Prop} (h : MemO w b y fr s t) (hc : Ch S w w') (h1 : ¬ S b) (h2 : ∀ x, y = some x → ¬ S x) : MemO w' b y fr s t := by
  obtain ⟨a1, a2, a3, a4⟩ := h
  cases y with
  | none => exact ⟨a1, a2, a3, hc.blk a4.1 h1, a4.2⟩
  | some g => exact ⟨a1, a2, a3, hc.blk a4.1 h1, a4.2.1, hc.blk a4.2.2 (h2 g rfl)⟩
theorem MemO.touch {w w' : World} {b : Nat} {y : Option Nat} {fr : Nat} {s : List UInt8} {t t' : Int} (h : MemO w b y fr s t) (hc : Ch (· = b) w w')
    (hb : w'.heap[b]? = some (.cells (mm fr (doneM y) (backM y s.length) t') 79)) : MemO w' b y fr s t' := by
  obtain ⟨a1, a2, a3, a4⟩ := h
  cases y with
  | none => exact ⟨a1, a2, a3, hb, a4.2⟩
  | some g => exact ⟨a1, a2, a3, hb, a4.2.1, hc.blk a4.2.2 a4.2.1⟩
def AllP (b : Nat) (y : Option Nat) (fr : Nat) (s : List UInt8) (t : Int) (w : World) (e : Ending) (w' : World) : Prop :=
  ∃ g, e = .returned (.slice (some ⟨g, 0, none⟩) s.length s.length) ∧ MemO w' b (some g) fr s t ∧ KeptM b y w w' (some g)
theorem c_all (b : Nat) (y : Option Nat) (fr : Nat) (s : List UInt8) (t : Int) (w : World) (h : MemO w b y fr s t) :
    Calls Try.prog 79 #[.pointer (some ⟨b, 0, none⟩)] w (AllP b y fr s t w) := by
  have hmf : ∀ (fn : Fn) (first cap : Array Value) (w : World), (Instr.makeFunc fn first cap).run Try.prog w = .ok (.func fn first cap) w := fun _ _ _ _ => rfl
  obtain ⟨hs, hf1, hf2, h⟩ := h
  cases y with
  | none =>
    obtain ⟨hb, rfl⟩ := h
    have hl := blk_lt hb
    have HB := Lib.hid (blk_alloc (.cells #[.pointer (some ⟨b, 0, none⟩)] 38) hb)
    have HV := Lib.hid (blk_new w (.cells #[.pointer (some ⟨b, 0, none⟩)] 38))
    clear hb
    go_enter Try.func79, Try.ntmps79
    go_wp2_with fail
    refine (o_first b 1 79 _ _ _ (RMade b fr t (fr * 256)) _ HB.out (fun _ => by kernel_rfl) rfl rfl (fun w1 hc h1 => ?_)).mono ?_
    · exact c_made b w.heap.size fr hf2 t w1 (blk_cell (hc.blk HV.out (by omega)) 0 rfl) h1
    · rintro e w' ⟨rfl, w1, w2, c2, hc1, ⟨g, hg, rfl, hm2, hc2⟩, h3, hc3⟩
      have s1 := hc1.size
      have s2 := hc2.size
      have hlm := blk_lt hm2
      simp only [World.alloc, Array.size_push] at s1
      have HV3 := Lib.hid (hc3.blk (hc2.blk (hc1.blk HV.out (by omega)) (by omega)) (show ¬ w.heap.size = b by omega))
      have H3 := Lib.hid h3
      have HM3 := Lib.hid (hc3.blk hm2 (by omega))
      have C3 := Lib.hid (((Ch.alloc (Ch.refl (· = b) w) (.cells #[.pointer (some ⟨b, 0, none⟩)] 38)).trans hc1).trans (hc2.trans hc3))
      have hne : g ≠ b := by omega
      have HG := Lib.hid hg
      clear h3 hm2 hc1 hc2 hc3 hg
      have v0 := blk_cell HV3.out 0 rfl
      have c4 := blk_cell H3.out 4 (v := .slice (some ⟨g, 0, none⟩) (fr * 256) (fr * 256)) rfl
      go_wp2_with fail
      go_ret
      refine ⟨g, by rw [hs]; rfl, ⟨hs, hf1, hf2, ?_, hne, HM3.out⟩, C3.out.mono (fun x hx => .inl hx), .inr ⟨rfl, g, rfl, by have := HG.out; omega⟩⟩
      rw [hs]; exact H3.out
  | some g =>
    obtain ⟨hb, hne, hy⟩ := h
    have HS := Lib.hid hs
    clear hs
    have hl := blk_lt hb
    have HB := Lib.hid (blk_alloc (.cells #[.pointer (some ⟨b, 0, none⟩)] 38) hb)
    have HV := Lib.hid (blk_new w (.cells #[.pointer (some ⟨b, 0, none⟩)] 38))
    have HY := Lib.hid (blk_alloc (.cells #[.pointer (some ⟨b, 0, none⟩)] 38) hy)
    clear hb hy
    have v0 := blk_cell HV.out 0 rfl
    have c4 := blk_cell HB.out 4 (v := .slice (some ⟨g, 0, none⟩) s.length s.length) rfl
    go_enter Try.func79, Try.ntmps79
    go_wp2_with fail
    refine (o_done _ 1 (by decide) _ _ (blk_cell HB.out 1 rfl)).mono ?_
    rintro e w' ⟨rfl, rfl⟩
    go_wp2_with fail
    go_ret
    exact ⟨g, rfl, ⟨HS.out, hf1, hf2, HB.out, hne, HY.out⟩, KeptM.of_gr ((Gr.refl w).alloc (Nat.le_refl _) _)⟩
/-- The row of n bytes from one on, of N in all. -/
def partV (g N at_ n : Nat) : Value := .slice (some ⟨g, if N = at_ then 0 else at_, none⟩) n (N - at_)
theorem slice_part (g N at_ n : Nat) (h : at_ + n ≤ N) (w : World) :
    (Instr.slice 55 (.slice (some ⟨g, 0, none⟩) N N) (some (.int .u64 at_)) (some (.int .u64 ((at_ : Int) + n))) none).run Try.prog w = .ok (partV g N at_ n) w := by
  have ht : Try.prog.underlying 55 = some (.slice (Try.prog.elem 55)) := by simp [Program.elem, Try.underlying55]
  have he : Try.prog.elem 55 = 5 := by simp [Program.elem, Try.underlying55]
  have hz : (sizeOf (Try.prog.elem 55)).run Try.prog w = .ok 1 w := by rw [he]; exact Try.sizeOf5 w
  rw [run_slice_lh w 55 _ _ _ ht .u64 .u64 _ _ (by omega) (by omega) (by omega), hz]
  have e : ((at_ : Int) + n).toNat = at_ + n := by omega
  simp only [Result.andThen, sliced, e, Int.toNat_natCast, Nat.mul_one]
  unfold partV
  by_cases h0 : N = at_
  · simp [h0]
  · simp [h0, Addr.add]; intro h1; exact h1.symm
end Go.Proofs.Ytdlglnoffpnonaa.P
