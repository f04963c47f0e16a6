/- Stage 5: a step without a memory. No condition. -/
import Derived.Test.YtngeabphjdfdgaaDoorHQ
set_option linter.unusedVariables false
set_option linter.unusedSimpArgs false
set_option maxRecDepth 100000
namespace Go.Proofs.YtngeabphjdfdgaaDoor.P
open Go.RowKit Go.MuLone Go.Proofs.YtngeabphjdfdgaaDoor.W
theorem wpList_build0 {P : Program} {ops : Array Oper} {rest : List Oper} {o : Oper} {a : Act} {w : World} {Q : Exit → Act → World → Prop} (hg : o.guard = none) (t : TypeId) (ho : o.op = .build t #[])
    (cells : Array Value) (hb : P.built t [] = some cells) (h : wpList P ops Q rest (a.put o.dst (.agg cells)) w) : wpList P ops Q (o :: rest) a w := by
  have hb2 : P.built t ((#[] : Array (Nat × Operand)).map fun (i, x) => (i, a.eval x)).toList = some cells := by simpa using hb
  exact wpList_plain hg fun _ hK => by
    refine wp_build t _ ho (by rw [hb2]; rfl) ?_
    rw [hb2]
    exact hK _ _ h
theorem built_hart : Tryd.prog.built 26 [] = some (hC HZ) := by kernel_rfl
theorem built_event : Tryd.prog.built 39 [] = some (evC e0) := by kernel_rfl
set_option maxHeartbeats 6400000 in
theorem o_step_nil (w : World) (r : Int) (hr : i64 r) (H : HS) : Calls Tryd.prog 11 #[.pointer none, .int .i64 r, .agg (hC H)] w fun e w' => e = .returned (.tuple #[.agg (hC HZ), .agg (evC e0), .int .i64 1]) ∧ Gr w w' := by
  have hi : RowKit.Hid (Own w (((((w.alloc (.cells #[.pointer none] 28)).alloc (.cells #[.int .i64 r] 3)).alloc (.cells (hC H) 26)).alloc (.cells #[.int .u64 0, .int .u64 0, .int .u64 0, .int .u64 0, .int .u64 0, .int .u64 0, .int .u64 0, .int .u64 0, .int .u64 0, .int .u64 0, .int .u64 0, .int .u64 0, .int .u64 0, .int .u64 0, .int .u64 0, .int .u64 0, .int .u64 0, .int .u64 0, .int .u64 0, .int .u64 0, .int .u64 0, .int .u64 0, .int .u64 0, .int .u64 0, .int .u64 0, .int .u64 0, .int .u64 0, .int .u64 0, .int .u64 0, .int .u64 0, .int .u64 0, .int .u64 0, .int .u64 0, .bool false, .int .u64 0] 26)).alloc (.cells #[.int .i64 0, .int .u64 0, .bool false] 39))
      (Star (blkA (w.heap.size + 1 + 1 + 1 + 1) (.cells (evC e0) 39)) (Star (blkA (w.heap.size + 1 + 1 + 1) (.cells (hC HZ) 26)) (Star (blkA (w.heap.size + 1 + 1) (.cells (hC H) 26)) (Star (blkA (w.heap.size + 1) (.cells #[.int .i64 r] 3)) (Star (blkA w.heap.size (.cells #[.pointer none] 28)) emp)))))) := Lib.hid (by
    have S0 := stable_emp
    have h1 := (Own.start (Gr.refl w)).alloc S0 (.cells #[.pointer none] 28)
    have S1 := stable_star (stable_blk w.heap.size (.cells #[.pointer none] 28)) S0
    have h2 := h1.alloc S1 (.cells #[.int .i64 r] 3)
    rw [World.size_alloc] at h2
    have S2 := stable_star (stable_blk (w.heap.size + 1) (.cells #[.int .i64 r] 3)) S1
    have h3 := h2.alloc S2 (.cells (hC H) 26)
    rw [World.size_alloc, World.size_alloc] at h3
    have S3 := stable_star (stable_blk (w.heap.size + 1 + 1) (.cells (hC H) 26)) S2
    have h4 := h3.alloc S3 (.cells (hC HZ) 26)
    rw [World.size_alloc, World.size_alloc, World.size_alloc] at h4
    have S4 := stable_star (stable_blk (w.heap.size + 1 + 1 + 1) (.cells (hC HZ) 26)) S3
    have h5 := h4.alloc S4 (.cells (evC e0) 39)
    rw [World.size_alloc, World.size_alloc, World.size_alloc, World.size_alloc] at h5
    exact h5)
  go_enter Tryd.func11, Tryd.ntmps11
  go_upto_region 1 with fail
  generalize (World.alloc _ (.cells _ 39)) = w1 at *
  generalize w.heap.size + 1 + 1 + 1 + 1 = eb at *
  generalize w.heap.size + 1 + 1 + 1 = zb at *
  generalize w.heap.size + 1 + 1 = hb at *
  generalize w.heap.size + 1 = rb at *
  generalize w.heap.size = mb at *
  have c0 := blk_cell hi.out.right.right.right.right.blk 0 (v := .pointer none) rfl
  have c1 := blk_cell hi.out.right.right.right.blk 0 (v := .int .i64 r) rfl
  have hr2 : r < 0 ∨ (¬ r < 0 ∧ 0 ≤ r) := by omega
  rcases hr2 with d1 | ⟨d1, d2⟩
  all_goals
    go_wp2_with fail
    go_quiet ((go_at_call 19; exact Calls.quiet_of_same (n_frames _)))
    have SE := Lib.hid (stable_star (stable_blk eb (.cells (evC e0) 39)) (stable_star (stable_blk hb (.cells (hC H) 26)) (stable_star (stable_blk rb (.cells #[.int .i64 r] 3)) (stable_star (stable_blk mb (.cells #[.pointer none] 28)) stable_emp))))
    have SZ := Lib.hid (stable_star (stable_blk zb (.cells (hC HZ) 26)) (stable_star (stable_blk hb (.cells (hC H) 26)) (stable_star (stable_blk rb (.cells #[.int .i64 r] 3)) (stable_star (stable_blk mb (.cells #[.pointer none] 28)) stable_emp))))
    have k2 := hi.out.gr (stable_star (stable_blk _ _) SZ.out) (gr_dN2 w1 nq)
    have Z1 := Lib.hid k2.swap2
    have Z2 := Lib.hid (Z1.out.setRow SE.out (hC HZ)).swap2
    have Z3 := Lib.hid (Z2.out.setRow SZ.out (evC e0))
    clear hi k2 c0 c1 d1
    generalize w1.drewN nq = w2 at *
    go_wp2_with (first
      | (refine wpList_build0 rfl 26 rfl _ built_hart ?_)
      | (refine wpList_build0 rfl 39 rfl _ built_event ?_)
      | (refine wpList_store_row rfl 26 _ _ rfl _ _ rfl rfl 26 _ Z1.out.blk (hC_info _) rfl (hC_all1 _) ?_)
      | (refine wpList_store_row rfl 39 _ _ rfl _ _ rfl rfl 39 _ Z2.out.blk (evC_info _) rfl (evC_all1 _) ?_))
    refine bodyPost_ret (res_step rfl _ _ _ zb eb _ _ rfl rfl (ldH Z3.out.right.blk) (ldE Z3.out.blk)) rfl ⟨?_, Z3.out.sub⟩
    rfl
end Go.Proofs.YtngeabphjdfdgaaDoor.P
