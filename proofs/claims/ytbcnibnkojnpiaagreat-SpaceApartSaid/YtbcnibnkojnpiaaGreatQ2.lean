/- Stage 3: memory in memory: its bytes as a list; the bytes that are made when they are first asked for. No condition. -/
import Derived.Test.YtbcnibnkojnpiaaGreatO
import Derived.Test.YtbcnibnkojnpiaaGreatB
import Derived.Laws.OwnMore
import Derived.Deep.OwnRows
import Derived.Deep.QuietTactic
import Derived.Lib.SliceRun
set_option linter.unusedVariables false
namespace Go.Proofs.YtbcnibnkojnpiaaGreat.P
open Go.RowKit Go.MuLone
theorem a_add (a : Addr) (x y : Int) (w : World) (h0 : w.cell? a = some (.int .u64 x)) (hz : w.frozen? a = false) :
    Calls Tryz.prog 81 #[.pointer (some a), .int .u64 y] w fun e w' => e = .returned (.int .u64 (IntKind.u64.wrap (x + y))) ∧ w' = w.setCell a (.int .u64 (IntKind.u64.wrap (x + y))) := by
  have hl := run_call_add (P := Tryz.prog) Tryz.func101 (by kernel_rfl) (by kernel_rfl) (by kernel_rfl) .u64 (by kernel_rfl) (y := y) (s := IntKind.u64.wrap (x + y)) h0 hz (by simp [go_sem])
  go_enter Tryz.func81, Tryz.ntmps81
  go_wp2
  go_ret
  exact ⟨rfl, rfl⟩
def bv (x : UInt8) : Value := .int .u8 (x.toNat : Int)
def bys (s : List UInt8) : Array Value := (s.map bv).toArray
theorem bys_size (s : List UInt8) : (bys s).size = s.length := by simp [bys]
theorem bys_one (s : List UInt8) : ∀ v ∈ s.map bv, v.oneCell' = true := by
  intro v hv; obtain ⟨x, _, rfl⟩ := List.mem_map.1 hv; rfl
theorem bys_get (s : List UInt8) (i : Nat) (h : i < s.length) : (bys s)[i]? = some (bv s[i]) := by
  simp [bys, h]
def mm (fr d : Int) (bytes : Value) (t : Int) : Array Value := #[.int .i64 fr, .int .u32 d, .int .i32 0, .int .u32 0, bytes, .int .u64 t]
/-- A memory at block b, its bytes at block y, if they were made. -/
def MemO (w : World) (b : Nat) (y : Option Nat) (fr : Nat) (s : List UInt8) (t : Int) : Prop :=
  s.length = fr * 256 ∧ 1 ≤ fr ∧ fr ≤ 256 ∧
  match y with
  | none => w.heap[b]? = some (.cells (mm fr 0 (.slice none 0 0) t) 121) ∧ s = List.replicate (fr * 256) 0
  | some g => w.heap[b]? = some (.cells (mm fr 1 (.slice (some ⟨g, 0, none⟩) s.length s.length) t) 121) ∧ g ≠ b ∧ w.heap[g]? = some (.cells (bys s) 5)
theorem u8Info : (Tryz.prog.info? 5).map (fun i => (i.zero, i.size, i.bytes)) = some (some (.int .u8 0), 1, 1) := by kernel_rfl
theorem made_bys (n : Nat) : madeCells #[Value.int .u8 0] n = bys (List.replicate n 0) := by
  apply Array.toList_inj.1
  rw [toList_madeCells_one]
  simp only [bys, List.map_replicate]; rfl
theorem mk_bytes (n : Nat) (h : n ≤ 281474976710656) (w : World) : (Instr.makeSlice 44 (.int .i64 (n : Int)) (.int .i64 (n : Int))).run Tryz.prog w = .ok (.slice (some ⟨w.heap.size, 0, none⟩) n n) (w.alloc (.cells (bys (List.replicate n 0)) 5)) := by
  obtain ⟨i0, hi, hz0, hz1, hz2⟩ := info_parts u8Info
  have := run_make (P := Tryz.prog) w 44 5 i0 (.int .u8 0) Tryz.underlying44 hi hz0 .i64 .i64 n n (by omega) (Int.le_refl _) (by rw [hz2]; omega) (by omega)
  rw [this, hz1]
  simp only [Int.toNat_natCast, Nat.mul_one]
  rw [show (Value.int .u8 0).cells = #[Value.int .u8 0] from rfl, made_bys]
def RMade (b : Nat) (fr t : Int) (n : Nat) (w1 w2 : World) (c2 : Array Value) : Prop :=
  ∃ g, g = w1.heap.size ∧ c2 = (mm fr 0 (.slice (some ⟨g, 0, none⟩) n n) t).setIfInBounds 2 (.int .i32 1) ∧ w2.heap[g]? = some (.cells (bys (List.replicate n 0)) 5) ∧ Ch (· = b) w1 w2
theorem c_made (b pl fr : Nat) (hf : fr ≤ 256) (t : Int) (w : World) (hp : w.cell? ⟨pl, 0, none⟩ = some (.pointer (some ⟨b, 0, none⟩)))
    (hb : w.heap[b]? = some (.cells ((mm fr 0 (.slice none 0 0) t).setIfInBounds 2 (.int .i32 1)) 121)) :
    Calls Tryz.prog 100 #[.pointer (some ⟨pl, 0, none⟩)] w (Kept1 b 1 121 (RMade b fr t (fr * 256)) w) := by
  have HB := Lib.hid hb
  have hl := blk_lt hb
  have HP := Lib.hid hp
  have e1 : ((fr * 256 : Nat) : Int) = (fr : Int) * 256 := by omega
  have hmk := fun w => mk_bytes (fr * 256) (by omega) w
  rw [e1] at hmk
  clear e1
  have HN := fun x => Lib.hid (blk_new (w.setCell ⟨b, 4, none⟩ x) (.cells (bys (List.replicate (fr * 256) 0)) 5))
  have c4 := blk_cell hb 4 (v := .slice none 0 0) rfl
  have z4 := blk_frozen hb 4
  have hp2 := calloc (.cells (bys (List.replicate (fr * 256) 0)) 5) HP.out
  have d4 := calloc (.cells (bys (List.replicate (fr * 256) 0)) 5) c4
  have y4 := blk_frozen (blk_alloc (.cells (bys (List.replicate (fr * 256) 0)) 5) hb) 4
  have c0 := blk_cell hb 0 (v := .int .i64 fr) rfl
  clear hb
  have hb0 : (0 : Int) ≤ fr := by omega
  have hb1 : (fr : Int) ≤ 256 := by omega
  go_enter Tryz.func100, Tryz.ntmps100
  go_wp2
  go_region
  all_goals
    go_end0
    refine ⟨rfl, _, blk_alloc _ (blk_set HB.out 4 (.slice (some ⟨w.heap.size, 0, none⟩) (fr * 256) (fr * 256))), rfl, rfl, w.heap.size, rfl, rfl, blk_new' _ _ _ (by rw [size_setCell]), ?_⟩
    exact (Ch.alloc (Ch.setCell (S := (· = b)) (Ch.refl _ w) (p := ⟨b, 4, none⟩) (.inl rfl) _) _).drew
end Go.Proofs.YtbcnibnkojnpiaaGreat.P
namespace Go.Proofs.YtbcnibnkojnpiaaGreat.P
open Go.RowKit Go.MuLone
/-- What a call leaves of an object that may make a second block. -/
def KeptM (b : Nat) (y : Option Nat) (w w' : World) (y' : Option Nat) : Prop := Ch (fun x => x = b ∨ y = some x) w w' ∧ (y' = y ∨ (y = none ∧ ∃ g, y' = some g ∧ w.heap.size ≤ g))
theorem KeptM.trans {b : Nat} {y y' y'' : Option Nat} {w w' w'' : World} (h : KeptM b y w w' y') (k : KeptM b y' w' w'' y'') : KeptM b y w w'' y'' := by
  refine ⟨h.1.trans2 k.1 (fun x hx hlt => ?_), ?_⟩
  · rcases hx with hx | hx
    · exact .inl hx
    · rcases h.2 with e | ⟨e, g, e2, e3⟩
      · exact .inr (by rw [← e, hx])
      · rw [e2] at hx; injection hx with hx; omega
  · rcases h.2 with e | ⟨e, g, e2, e3⟩
    · rcases k.2 with f | ⟨f, g2, f2, f3⟩
      · exact .inl (by rw [f, e])
      · exact .inr ⟨by rw [← e, f], g2, f2, by have := h.1.size; omega⟩
    · rcases k.2 with f | ⟨f, g2, f2, f3⟩
      · exact .inr ⟨e, g, by rw [f, e2], e3⟩
      · rw [e2] at f; cases f
theorem KeptM.of_gr {b : Nat} {y : Option Nat} {w w' : World} (h : Gr w w') : KeptM b y w w' y := ⟨Ch.of_gr h, .inl rfl⟩
theorem KeptM.refl (b : Nat) (y : Option Nat) (w : World) : KeptM b y w w y := .of_gr (Gr.refl w)
theorem KeptM.then {b : Nat} {y y' : Option Nat} {w w' w'' : World} (h : KeptM b y w w' y') (k : Ch (fun x => x = b ∨ y' = some x) w' w'') : KeptM b y w w'' y' := h.trans ⟨k, .inl rfl⟩
def backM (y : Option Nat) (n : Nat) : Value := match y with | none => .slice none 0 0 | some g => .slice (some ⟨g, 0, none⟩) n n
def doneM : Option Nat → Int | none => 0 | some _ => 1
theorem MemO.blk {w : World} {b : Nat} {y : Option Nat} {fr : Nat} {s : List UInt8} {t : Int} (h : MemO w b y fr s t) : w.heap[b]? = some (.cells (mm fr (doneM y) (backM y s.length) t) 121) := by
  cases y with
  | none => exact h.2.2.2.1
  | some g => exact h.2.2.2.1
theorem MemO.keep {w w' : World} {b : Nat} {y : Option Nat} {fr : Nat} {s : List UInt8} {t : Int} {S : Nat → Prop} (h : MemO w b y fr s t) (hc : Ch S w w') (h1 : ¬ S b) (h2 : ∀ x, y = some x → ¬ S x) : MemO w' b y fr s t := by
  obtain ⟨a1, a2, a3, a4⟩ := h
  cases y with
  | none => exact ⟨a1, a2, a3, hc.blk a4.1 h1, a4.2⟩
  | some g => exact ⟨a1, a2, a3, hc.blk a4.1 h1, a4.2.1, hc.blk a4.2.2 (h2 g rfl)⟩
theorem MemO.touch {w w' : World} {b : Nat} {y : Option Nat} {fr : Nat} {s : List UInt8} {t t' : Int} (h : MemO w b y fr s t) (hc : Ch (· = b) w w')
    (hb : w'.heap[b]? = some (.cells (mm fr (doneM y) (backM y s.length) t') 121)) : MemO w' b y fr s t' := by
  obtain ⟨a1, a2, a3, a4⟩ := h
  cases y with
  | none => exact ⟨a1, a2, a3, hb, a4.2⟩
  | some g => exact ⟨a1, a2, a3, hb, a4.2.1, hc.blk a4.2.2 a4.2.1⟩
def AllP (b : Nat) (y : Option Nat) (fr : Nat) (s : List UInt8) (t : Int) (w : World) (e : Ending) (w' : World) : Prop :=
  ∃ g, e = .returned (.slice (some ⟨g, 0, none⟩) s.length s.length) ∧ MemO w' b (some g) fr s t ∧ KeptM b y w w' (some g)
theorem c_all (b : Nat) (y : Option Nat) (fr : Nat) (s : List UInt8) (t : Int) (w : World) (h : MemO w b y fr s t) :
    Calls Tryz.prog 76 #[.pointer (some ⟨b, 0, none⟩)] w (AllP b y fr s t w) := by
  have hmf : ∀ (fn : Fn) (first cap : Array Value) (w : World), (Instr.makeFunc fn first cap).run Tryz.prog w = .ok (.func fn first cap) w := fun _ _ _ _ => rfl
  obtain ⟨hs, hf1, hf2, h⟩ := h
  cases y with
  | none =>
    obtain ⟨hb, rfl⟩ := h
    have hl := blk_lt hb
    have HB := Lib.hid (blk_alloc (.cells #[.pointer (some ⟨b, 0, none⟩)] 24) hb)
    have HV := Lib.hid (blk_new w (.cells #[.pointer (some ⟨b, 0, none⟩)] 24))
    clear hb
    go_enter Tryz.func76, Tryz.ntmps76
    go_wp2_with fail
    refine (o_first b 1 121 _ _ _ (RMade b fr t (fr * 256)) _ HB.out (fun _ => by kernel_rfl) rfl rfl (fun w1 hc h1 => ?_)).mono ?_
    · exact c_made b w.heap.size fr hf2 t w1 (blk_cell (hc.blk HV.out (by omega)) 0 rfl) h1
    · rintro e w' ⟨rfl, w1, w2, c2, hc1, ⟨g, hg, rfl, hm2, hc2⟩, h3, hc3⟩
      have s1 := hc1.size
      have s2 := hc2.size
      have hlm := blk_lt hm2
      simp only [World.alloc, Array.size_push] at s1
      have HV3 := Lib.hid (hc3.blk (hc2.blk (hc1.blk HV.out (by omega)) (by omega)) (show ¬ w.heap.size = b by omega))
      have H3 := Lib.hid h3
      have HM3 := Lib.hid (hc3.blk hm2 (by omega))
      have C3 := Lib.hid (((Ch.alloc (Ch.refl (· = b) w) (.cells #[.pointer (some ⟨b, 0, none⟩)] 24)).trans hc1).trans (hc2.trans hc3))
      have hne : g ≠ b := by omega
      have HG := Lib.hid hg
      clear h3 hm2 hc1 hc2 hc3 hg
      have v0 := blk_cell HV3.out 0 rfl
      have c4 := blk_cell H3.out 4 (v := .slice (some ⟨g, 0, none⟩) (fr * 256) (fr * 256)) rfl
      go_wp2_with fail
      go_ret
      refine ⟨g, by rw [hs]; rfl, ⟨hs, hf1, hf2, ?_, hne, HM3.out⟩, C3.out.mono (fun x hx => .inl hx), .inr ⟨rfl, g, rfl, by have := HG.out; omega⟩⟩
      rw [hs]; exact H3.out
  | some g =>
    obtain ⟨hb, hne, hy⟩ := h
    have HS := Lib.hid hs
    clear hs
    have hl := blk_lt hb
    have HB := Lib.hid (blk_alloc (.cells #[.pointer (some ⟨b, 0, none⟩)] 24) hb)
    have HV := Lib.hid (blk_new w (.cells #[.pointer (some ⟨b, 0, none⟩)] 24))
    have HY := Lib.hid (blk_alloc (.cells #[.pointer (some ⟨b, 0, none⟩)] 24) hy)
    clear hb hy
    have v0 := blk_cell HV.out 0 rfl
    have c4 := blk_cell HB.out 4 (v := .slice (some ⟨g, 0, none⟩) s.length s.length) rfl
    go_enter Tryz.func76, Tryz.ntmps76
    go_wp2_with fail
    refine (o_done _ 1 (by decide) _ _ (blk_cell HB.out 1 rfl)).mono ?_
    rintro e w' ⟨rfl, rfl⟩
    go_wp2_with fail
    go_ret
    exact ⟨g, rfl, ⟨HS.out, hf1, hf2, HB.out, hne, HY.out⟩, KeptM.of_gr ((Gr.refl w).alloc (Nat.le_refl _) _)⟩
/-- The row of n bytes from one on, of N in all. -/
def partV (g N at_ n : Nat) : Value := .slice (some ⟨g, if N = at_ then 0 else at_, none⟩) n (N - at_)
theorem slice_part (g N at_ n : Nat) (h : at_ + n ≤ N) (w : World) :
    (Instr.slice 44 (.slice (some ⟨g, 0, none⟩) N N) (some (.int .u64 at_)) (some (.int .u64 ((at_ : Int) + n))) none).run Tryz.prog w = .ok (partV g N at_ n) w := by
  have ht : Tryz.prog.underlying 44 = some (.slice (Tryz.prog.elem 44)) := by simp [Program.elem, Tryz.underlying44]
  have he : Tryz.prog.elem 44 = 5 := by simp [Program.elem, Tryz.underlying44]
  have hz : (sizeOf (Tryz.prog.elem 44)).run Tryz.prog w = .ok 1 w := by rw [he]; exact Tryz.sizeOf5 w
  rw [run_slice_lh w 44 _ _ _ ht .u64 .u64 _ _ (by omega) (by omega) (by omega), hz]
  have e : ((at_ : Int) + n).toNat = at_ + n := by omega
  simp only [Result.andThen, sliced, e, Int.toNat_natCast, Nat.mul_one]
  unfold partV
  by_cases h0 : N = at_
  · simp [h0]
  · simp [h0, Addr.add]; intro h1; exact h1.symm
end Go.Proofs.YtbcnibnkojnpiaaGreat.P
