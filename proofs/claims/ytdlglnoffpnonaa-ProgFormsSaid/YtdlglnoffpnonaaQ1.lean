/- Stage 3: memory in memory: its bytes as a list; the bytes that are made when they are first asked for. No condition. -/
import Derived.Test.YtdlglnoffpnonaaO
import Derived.Test.YtdlglnoffpnonaaB
import Derived.Laws.OwnMore
import Derived.Deep.OwnRows
import Derived.Deep.QuietTactic
import Derived.Lib.SliceRun
set_option linter.unusedVariables false
namespace Go.Proofs.Ytdlglnoffpnonaa.P
open Go.RowKit Go.MuLone
theorem a_add (a : Addr) (x y : Int) (w : World) (h0 : w.cell? a = some (.int .u64 x)) (hz : w.frozen? a = false) :
    Calls Try.prog 78 #[.pointer (some a), .int .u64 y] w fun e w' => e = .returned (.int .u64 (IntKind.u64.wrap (x + y))) ∧ w' = w.setCell a (.int .u64 (IntKind.u64.wrap (x + y))) := by
  have hl := run_call_add (P := Try.prog) Try.func80 (by kernel_rfl) (by kernel_rfl) (by kernel_rfl) .u64 (by kernel_rfl) (y := y) (s := IntKind.u64.wrap (x + y)) h0 hz (by simp [go_sem])
  go_enter Try.func78, Try.ntmps78
  go_wp2
  go_ret
  exact ⟨rfl, rfl⟩
def bv (x : UInt8) : Value := .int .u8 (x.toNat : Int)
def bys (s : List UInt8) : Array Value := (s.map bv).toArray
theorem bys_size (s : List UInt8) : (bys s).size = s.length := by simp [bys]
theorem bys_one (s : List UInt8) : ∀ v ∈ s.map bv, v.oneCell' = true := by
  intro v hv; obtain ⟨x, _, rfl⟩ := List.mem_map.1 hv; rfl
theorem bys_get (s : List UInt8) (i : Nat) (h : i < s.length) : (bys s)[i]? = some (bv s[i]) := by
  simp [bys, h]
def mm (fr d : Int) (bytes : Value) (t : Int) : Array Value := #[.int .i64 fr, .int .u32 d, .int .i32 0, .int .u32 0, bytes, .int .u64 t]
/-- A memory at block b, its bytes at block y, if they were made. -/
def MemO (w : World) (b : Nat) (y : Option Nat) (fr : Nat) (s : List UInt8) (t : Int) : Prop :=
  s.length = fr * 256 ∧ 1 ≤ fr ∧ fr ≤ 256 ∧
  match y with
  | none => w.heap[b]? = some (.cells (mm fr 0 (.slice none 0 0) t) 79) ∧ s = List.replicate (fr * 256) 0
  | some g => w.heap[b]? = some (.cells (mm fr 1 (.slice (some ⟨g, 0, none⟩) s.length s.length) t) 79) ∧ g ≠ b ∧ w.heap[g]? = some (.cells (bys s) 5)
theorem u8Info : (Try.prog.info? 5).map (fun i => (i.zero, i.size, i.bytes)) = some (some (.int .u8 0), 1, 1) := by kernel_rfl
theorem made_bys (n : Nat) : madeCells #[Value.int .u8 0] n = bys (List.replicate n 0) := by
  apply Array.toList_inj.1
  rw [toList_madeCells_one]
  simp only [bys, List.map_replicate]; rfl
theorem mk_bytes (n : Nat) (h : n ≤ 281474976710656) (w : World) : (Instr.makeSlice 55 (.int .i64 (n : Int)) (.int .i64 (n : Int))).run Try.prog w = .ok (.slice (some ⟨w.heap.size, 0, none⟩) n n) (w.alloc (.cells (bys (List.replicate n 0)) 5)) := by
  obtain ⟨i0, hi, hz0, hz1, hz2⟩ := info_parts u8Info
  have := run_make (P := Try.prog) w 55 5 i0 (.int .u8 0) Try.underlying55 hi hz0 .i64 .i64 n n (by omega) (Int.le_refl _) (by rw [hz2]; omega) (by omega)
  rw [this, hz1]
  simp only [Int.toNat_natCast, Nat.mul_one]
  rw [show (Value.int .u8 0).cells = #[Value.int .u8 0] from rfl, made_bys]
def RMade (b : Nat) (fr t : Int) (n : Nat) (w1 w2 : World) (c2 : Array Value) : Prop :=
  ∃ g, g = w1.heap.size ∧ c2 = (mm fr 0 (.slice (some ⟨g, 0, none⟩) n n) t).setIfInBounds 2 (.int .i32 1) ∧ w2.heap[g]? = some (.cells (bys (List.replicate n 0)) 5) ∧ Ch (· = b) w1 w2
theorem c_made (b pl fr : Nat) (hf : fr ≤ 256) (t : Int) (w : World) (hp : w.cell? ⟨pl, 0, none⟩ = some (.pointer (some ⟨b, 0, none⟩)))
    (hb : w.heap[b]? = some (.cells ((mm fr 0 (.slice none 0 0) t).setIfInBounds 2 (.int .i32 1)) 79)) :
    Calls Try.prog 82 #[.pointer (some ⟨pl, 0, none⟩)] w (Kept1 b 1 79 (RMade b fr t (fr * 256)) w) := by
  have HB := Lib.hid hb
  have hl := blk_lt hb
  have HP := Lib.hid hp
  have e1 : ((fr * 256 : Nat) : Int) = (fr : Int) * 256 := by omega
  have hmk := fun w => mk_bytes (fr * 256) (by omega) w
  rw [e1] at hmk
  clear e1
  have HN := fun x => Lib.hid (blk_new (w.setCell ⟨b, 4, none⟩ x) (.cells (bys (List.replicate (fr * 256) 0)) 5))
  have c4 := blk_cell hb 4 (v := .slice none 0 0) rfl
  have z4 := blk_frozen hb 4
  have hp2 := calloc (.cells (bys (List.replicate (fr * 256) 0)) 5) HP.out
  have d4 := calloc (.cells (bys (List.replicate (fr * 256) 0)) 5) c4
  have y4 := blk_frozen (blk_alloc (.cells (bys (List.replicate (fr * 256) 0)) 5) hb) 4
  have c0 := blk_cell hb 0 (v := .int .i64 fr) rfl
  clear hb
  have hb0 : (0 : Int) ≤ fr := by omega
  have hb1 : (fr : Int) ≤ 256 := by omega
  go_enter Try.func82, Try.ntmps82
  go_wp2
  go_region
  all_goals
    go_end0
    refine ⟨rfl, _, blk_alloc _ (blk_set HB.out 4 (.slice (some ⟨w.heap.size, 0, none⟩) (fr * 256) (fr * 256))), rfl, rfl, w.heap.size, rfl, rfl, blk_new' _ _ _ (by rw [size_setCell]), ?_⟩
    exact (Ch.alloc (Ch.setCell (S := (· = b)) (Ch.refl _ w) (p := ⟨b, 4, none⟩) (.inl rfl) _) _).drew
end Go.Proofs.Ytdlglnoffpnonaa.P
