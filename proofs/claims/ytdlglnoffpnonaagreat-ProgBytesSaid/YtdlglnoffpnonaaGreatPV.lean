/- Stage 12: the document's example. No condition. -/
import Derived.Test.YtdlglnoffpnonaaGreatPQ
import Derived.Test.YtdlglnoffpnonaaGreatPT
import Derived.Test.YtdlglnoffpnonaaGreatPB
set_option linter.unusedVariables false
set_option linter.unusedSimpArgs false
set_option maxRecDepth 100000
namespace Go.Proofs.YtdlglnoffpnonaaGreat.P
open Go.RowKit Go.MuLone Go.Maps
def zNw (n : Nat) : Sp := ⟨freshL n 0, List.replicate (n * 256) 0⟩
def exP : Pg := ⟨0, ⟨#[97, 98, 99, 100]⟩, ⟨#[]⟩, 1⟩
theorem exP_may : mayP exP = true := by decide
theorem exP_sz : szT exP = 1 ∧ szD exP = 1 := by decide
theorem left_new (n : Nat) (h1 : 1 ≤ n) (h2 : n ≤ 256) : leftX 0 (zNw n) = n := by
  obtain ⟨_, _, _, _, hl⟩ := oneS_new h1 h2 (List.replicate (n * 256) 0) (by simp)
  exact hl
theorem wf_zNw (n : Nat) (h1 : 1 ≤ n) (h2 : n ≤ 256) : WF 0 (zNw n) (fun _ => none) := wf_none n h1 h2 _ (by simp)
set_option maxHeartbeats 6400000 in
theorem shown12_g (w : World) (r : Nat) (zs : Nat → Sp) (S Tx : ByteArray) (hTx : Tx = ⟨#[97, 98, 99, 100]⟩) (hrb : r < 256)
    (EN : ∀ w, Calls Tryz.prog 22 #[.agg #[.int .i64 0, .string Tx, .string ⟨#[]⟩, .int .i64 1]] w fun e w' => e = .returned (.tuple #[.string S, .int .i64 0]) ∧ Gr w w')
    (DE : ∀ w, Calls Tryz.prog 23 #[.string S] w fun e w' => e = .returned (.tuple #[.agg #[.int .i64 0, .string Tx, .string ⟨#[]⟩, .int .i64 1], .int .i64 0]) ∧ Gr w w')
    (LD : ∀ w1 b pb R, Stable R → Own w w1 (Star (plA pb b 0 (zNw 32).L (zNw 32).s) R) → Calls Tryz.prog 7 #[.pointer (some ⟨pb, 0, none⟩), .agg #[.int .i64 0, .string Tx, .string ⟨#[]⟩, .int .i64 1]] w1 fun e w' => e = .returned (.tuple #[.int .i64 (r : Int), .agg (hartC 16384 256), .int .u64 513, .int .i64 0]) ∧ Own w w' (Star (plA pb b 0 (zs 3).L (zs 3).s) R))
    (PG : ∀ w1 b pb R, Stable R → Own w w1 (Star (plA pb b 0 (zs 3).L (zs 3).s) R) → Calls Tryz.prog 24 #[.pointer (some ⟨pb, 0, none⟩), .int .i64 (r : Int)] w1 (PagesP w (plA pb b 0 (zs 3).L (zs 3).s) [1, 2, 56, 57, 58, 59, 60, 61, 62, 63] R)) :
    Calls Tryz.prog 5 #[] w fun e w' => e = .returned (.bool true) ∧ Gr w w' := by
  have K0 := Lib.hid (Own.start (Gr.refl w))
  have EM := Lib.hid stable_emp
  have EN := Lib.hid EN
  have DE := Lib.hid DE
  have LD := Lib.hid LD
  have PG := Lib.hid PG
  have PL := Lib.hid (fun (b pb : Nat) (z : Sp) => stable_pl pb b 0 z.L z.s)
  have NW : RowKit.Hid (∀ w1 b, Own w w1 (Star (memA b 32 (List.replicate (32 * 256) 0)) emp) → Calls Tryz.prog 9 #[.pointer (some ⟨b, 0, none⟩), .int .i64 0] w1 fun e w' => ∃ pb, e = .returned (.tuple #[.pointer (some ⟨pb, 0, none⟩), .int .i64 0]) ∧ Own w w' (Star (plA pb b 0 (zNw 32).L (zNw 32).s) emp)) := Lib.hid (fun w1 b h => o_pnew h stable_emp (Nat.zero_le _))
  generalize zNw 32 = z0 at *
  subst hTx
  go_enter Tryz.func5, Tryz.ntmps5
  go_upto_region 2 with (go_at_call 8; refine (o_mnew K0.out EM.out 32 (by decide) (by decide)).mono ?_; rintro e w1 ⟨b, rfl, h1⟩; have H1 := Lib.hid h1; clear h1)
  go_upto_region 3 with (go_at_call 9; refine (NW.out _ _ H1.out).mono ?_; rintro e w2 ⟨pb, rfl, h2⟩; have H2 := Lib.hid h2; clear h2)
  go_upto_region 4 with fail
  have SX := Lib.hid (fun xb => stable_star (stable_blk xb (.cells #[.int .i64 0, .string ⟨#[97, 98, 99, 100]⟩, .string ⟨#[]⟩, .int .i64 1] 23)) EM.out)
  have H3 := Lib.hid (H2.out.alloc (stable_star (PL.out _ _ _) EM.out) (.cells #[.int .i64 0, .string ⟨#[97, 98, 99, 100]⟩, .string ⟨#[]⟩, .int .i64 1] 23)).swap2
  generalize (World.alloc w2 _) = w3 at *
  generalize w2.heap.size = xb at *
  have BX := Lib.hid H3.out.swap2.blk
  clear H1 H2 NW K0
  go_upto_region 5 with (first
    | (refine wpList_load_row rfl 23 _ rfl _ rfl 23 _ (0, 0) _ BX.out Tryz.underlying23 rfl pg_info ?_)
    | (go_at_call 22; refine (EN.out _).mono ?_; rintro e w4 ⟨rfl, g4⟩; have H4 := Lib.hid (H3.out.gr (stable_star (PL.out _ _ _) (SX.out _)) g4); clear g4))
  clear EN H3 BX
  go_upto_region 6 with (go_at_call 23; refine (DE.out _).mono ?_; rintro e w5 ⟨rfl, g5⟩; have H5 := Lib.hid (H4.out.gr (stable_star (PL.out _ _ _) (SX.out _)) g5); clear g5)
  clear DE H4
  have H6 := Lib.hid (H5.out.alloc (stable_star (PL.out _ _ _) (SX.out _)) (.cells #[.int .i64 0, .string ⟨#[97, 98, 99, 100]⟩, .string ⟨#[]⟩, .int .i64 1] 23)).swap2
  generalize (World.alloc w5 _) = w6 at *
  generalize w5.heap.size = yb at *
  have BX := Lib.hid H6.out.rot3.blk
  have SY := Lib.hid (stable_star (stable_blk yb (.cells #[.int .i64 0, .string ⟨#[97, 98, 99, 100]⟩, .string ⟨#[]⟩, .int .i64 1] 23)) (SX.out xb))
  have LD2 := Lib.hid (LD.out _ b pb _ SY.out H6.out)
  clear LD H5
  go_upto_region 7 with (first
    | (refine wpList_load_row rfl 23 _ rfl _ rfl 23 _ (0, 0) _ BX.out Tryz.underlying23 rfl pg_info ?_)
    | (go_at_call 7; refine (LD2.out).mono ?_; rintro e w7 ⟨rfl, h7⟩; have H7 := Lib.hid h7; clear h7)
    | (refine wpList_store_row rfl 29 _ _ rfl _ (hartC 16384 256) rfl rfl 29 _ (blk_new _ _) hart_info rfl (hart_all _ _) ?_))
  clear LD2 H6 BX
  have H8 := Lib.hid (own_newRow (c := hartZ) (T := 29) H7.out (stable_star (PL.out _ _ _) SY.out) (hartC 16384 256)).swap2
  unfold hartZ at H8
  generalize (World.setRow _ _ _) = w8 at *
  generalize w7.heap.size = hb at *
  try simp only [Act.put]
  have SH := Lib.hid (stable_star (stable_blk hb (.cells (hartC 16384 256) 29)) SY.out)
  have PG2 := Lib.hid (PG.out _ b pb _ SH.out H8.out)
  clear PG H7
  go_upto_region 8 with (go_at_call 24; refine PG2.out.mono ?_; rintro e w9 ⟨o, c, rfl, h9⟩; have H9 := Lib.hid h9; clear h9)
  clear PG2 H8
  have HROW := Lib.hid H9.out.right.row
  obtain ⟨g, rfl⟩ : ∃ g, o = some ⟨g, 0, none⟩ := by
    rcases Joins.ownsRow_forms HROW.out with ⟨h, h0⟩ | ⟨g, cap, h⟩
    · exact absurd h0 (by decide)
    · injection h with h _; exact ⟨g, h⟩
  have r0 : w9.cell? ⟨g, 0, none⟩ = some (.int .i64 1) := (World.ownsRow.cellAt HROW.out 0 (by decide)).trans rfl
  have r1 : w9.cell? ⟨g, 1, none⟩ = some (.int .i64 2) := (World.ownsRow.cellAt HROW.out 1 (by decide)).trans rfl
  have r2 : w9.cell? ⟨g, 2, none⟩ = some (.int .i64 56) := (World.ownsRow.cellAt HROW.out 2 (by decide)).trans rfl
  have r9 : w9.cell? ⟨g, 9, none⟩ = some (.int .i64 63) := (World.ownsRow.cellAt HROW.out 9 (by decide)).trans rfl
  have BH := Lib.hid H9.out.right.swap2.blk
  have BY := Lib.hid H9.out.right.right.swap2.blk
  have BX := Lib.hid H9.out.right.right.right.swap2.blk
  have y0 := blk_cell BY.out 0 (v := .int .i64 0) rfl
  have y1 := blk_cell BY.out 1 (v := .string ⟨#[97, 98, 99, 100]⟩) rfl
  have y2 := blk_cell BY.out 2 (v := .string ⟨#[]⟩) rfl
  have y3 := blk_cell BY.out 3 (v := .int .i64 1) rfl
  have x0 := blk_cell BX.out 0 (v := .int .i64 0) rfl
  have x1 := blk_cell BX.out 1 (v := .string ⟨#[97, 98, 99, 100]⟩) rfl
  have x2 := blk_cell BX.out 2 (v := .string ⟨#[]⟩) rfl
  have x3 := blk_cell BX.out 3 (v := .int .i64 1) rfl
  have h2 := blk_cell BH.out 2 (v := .int .u64 16384) rfl
  have h32 := blk_cell BH.out 32 (v := .int .u64 256) rfl
  clear HROW BH BX BY
  go_wp2_with fail
  go_ret
  exact ⟨rfl, H9.out.sub⟩
end Go.Proofs.YtdlglnoffpnonaaGreat.P
namespace Go.Proofs.YtdlglnoffpnonaaGreat.P
open Go.RowKit Go.MuLone Go.Maps
theorem laid_tkn {fi r n0 : Nat} {lf : Int} {own0 : Who} {pp q : Nat} {z : Sp} (h : Laid fi r lf n0 own0 pp q z) : tknB z.L fi (r : Int) = true := by
  obtain ⟨own, p, j, hw, hr, _, _⟩ := h.ex
  exact hw.tkn hr
theorem exP_enc (w : World) : Calls Tryz.prog 22 #[.agg #[.int .i64 0, .string ⟨#[97, 98, 99, 100]⟩, .string ⟨#[]⟩, .int .i64 1]] w fun e w' => e = .returned (.tuple #[.string (encP exP), .int .i64 0]) ∧ Gr w w' := by
  have := c_encode exP (by decide) (by decide) w
  unfold encV encE at this
  rw [exP_may] at this
  exact this
theorem exP_dec (w : World) : Calls Tryz.prog 23 #[.string (encP exP)] w fun e w' => e = .returned (.tuple #[.agg #[.int .i64 0, .string ⟨#[97, 98, 99, 100]⟩, .string ⟨#[]⟩, .int .i64 1], .int .i64 0]) ∧ Gr w w' := by
  have := c_decode (encP exP) (by rw [enc_size]; decide) w
  unfold decP decE at this
  rw [(dec_enc exP_may).1, (dec_enc exP_may).2] at this
  exact this
theorem c_shown12 (w : World) : Calls Tryz.prog 5 #[] w fun e w' => e = .returned (.bool true) ∧ Gr w w' := by
  obtain ⟨s1, s2⟩ := exP_sz
  obtain ⟨r, zs, e0, e1, hlt, _, hz0, hz, LA⟩ := load_st (wf_zNw 32 (by decide) (by decide)) exP_may (by rw [left_new 32 (by decide) (by decide), s1, s2]; decide)
  have hlt2 : r < 32 := hlt
  refine shown12_g w r zs (encP exP) _ rfl (by omega) exP_enc exP_dec (fun w1 b pb R hR h => ?_) (fun w1 b pb R hR h => ?_)
  · have := o_load_ok h hR exP (by decide) (by decide) exP_may 32 (left_new 32 (by decide) (by decide)) (by rw [s1, s2]; decide) (r : Int) ⟨by omega, by omega⟩ e0 e1 zs hz0 hz
    rw [s1] at this
    exact this
  · have := o_pages h hR (r : Int) ⟨by omega, by omega⟩ (laid_tkn LA)
    rw [laid_pages LA (by rw [s1, s2]; decide) (Nat.le_refl _), s1, s2] at this
    exact this
end Go.Proofs.YtdlglnoffpnonaaGreat.P
