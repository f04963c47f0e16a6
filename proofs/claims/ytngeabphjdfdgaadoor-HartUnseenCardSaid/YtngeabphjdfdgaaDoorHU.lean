/- Stage 5: a step is put together. No condition. -/
import Derived.Test.YtngeabphjdfdgaaDoorHQ
set_option linter.unusedVariables false
set_option linter.unusedSimpArgs false
set_option maxRecDepth 100000
namespace Go.Proofs.YtngeabphjdfdgaaDoor.P
open Go.RowKit Go.MuLone Go.Proofs.YtngeabphjdfdgaaDoor.W
theorem built_step (I : InS) (a b m : Int) (G : HS) : Tryd.prog.built 69 [(0, .agg #[.int .i64 I.op, .int .i64 (I.rd : Int), .int .i64 (I.a : Int), .int .i64 (I.b : Int), .int .i64 I.i]), (1, .int .u64 a), (2, .int .u64 b), (3, .int .u64 m), (4, .agg (hC G))] = some (sC I a b m G e0 .nilFunc .nilFunc) := by kernel_rfl
theorem ex_step {w : World} {I : InS} {a b m : Int} {G : HS} {x0 x1 x2 x3 x4 : Operand} {e : Operand → Value} {d : Option Tmp} {ty : TypeId} {p : String} {af : Array Edge} {gd : Option (Nat × Bool)}
    (h0 : e x0 = .agg #[.int .i64 I.op, .int .i64 (I.rd : Int), .int .i64 (I.a : Int), .int .i64 (I.b : Int), .int .i64 I.i]) (h1 : e x1 = .int .u64 a) (h2 : e x2 = .int .u64 b) (h3 : e x3 = .int .u64 m) (h4 : e x4 = .agg (hC G)) :
    (execOp e ⟨d, .build 69 #[(0, x0), (1, x1), (2, x2), (3, x3), (4, x4)], ty, p, af, gd⟩).run Tryd.prog w = .ok (.value (.agg (sC I a b m G e0 .nilFunc .nilFunc))) w := by
  have hb : Tryd.prog.built 69 ((#[(0, x0), (1, x1), (2, x2), (3, x3), (4, x4)] : Array (Nat × Operand)).map fun (i, x) => (i, e x)).toList = some (sC I a b m G e0 .nilFunc .nilFunc) := by
    simp only [List.map_toArray, List.map_cons, List.map_nil, h0, h1, h2, h3, h4]
    exact built_step I a b m G
  unfold execOp
  simp only [Sem.run_bind, run_build w 69 _ _ hb, Result.andThen_ok]
  rfl
end Go.Proofs.YtngeabphjdfdgaaDoor.P
