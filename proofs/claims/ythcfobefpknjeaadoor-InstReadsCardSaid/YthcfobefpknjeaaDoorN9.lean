/- Stage 2: the document's table. -/
import Derived.Test.YthcfobefpknjeaaDoorN1
import Derived.Test.YthcfobefpknjeaaDoorG
import Derived.Great.Walk
import Derived.Deep.Cut
set_option linter.unusedVariables false
set_option linter.unusedSimpArgs false
set_option maxRecDepth 100000
namespace Go.Proofs.YthcfobefpknjeaaDoor.P
open Go.RowKit Go.Great
noncomputable def rowsOps : List Oper := match (Tryd.f22).body with
  | some (.seq _ (.seq (.region _ ops _) _)) => ops.toList
  | _ => []
def runB (P : Program) : List Oper → Act → Option Act
  | [], a => some a
  | o :: os, a => match o.guard, o.op with
    | none, .build t parts => match P.built t (parts.map fun (i, x) => (i, a.eval x)).toList with
      | some c => runB P os (a.put o.dst (.agg c))
      | none => none
    | _, _ => none
noncomputable def rowsB : List Oper := rowsOps.take 88
noncomputable def rowsE : Oper := rowsOps.getD 88 default
noncomputable def rowsZ : Oper := rowsOps.getD 89 default
noncomputable def rowsA0 : Act := { tmps := #[.slice none 0 0] ++ Array.replicate 89 undef, defers := [] }
noncomputable def rowsAct : Act := (runB Tryd.prog rowsB rowsA0).getD rowsA0
noncomputable def rowsParts : Array (Nat × Operand) := match rowsE.op with | .buildSlice _ _ parts => parts | _ => #[]
noncomputable def rowsC : Array Value := (Tryd.prog.builtSlice 47 88 (rowsParts.map fun (i, x) => (i, rowsAct.eval x)).toList).getD #[]
theorem rows_parts : rowsOps = rowsB ++ [rowsE, rowsZ] := by kernel_rfl
theorem wpList_builds {P : Program} {ops : Array Oper} {Q : Exit → Act → World → Prop} {rest : List Oper} {w : World} : ∀ (bs : List Oper) (a a' : Act), runB P bs a = some a' → wpList P ops Q rest a' w → wpList P ops Q (bs ++ rest) a w
  | [], a, a', h, k => by cases h; exact k
  | o :: os, a, a', h, k => by
    unfold runB at h
    cases hg : o.guard with
    | some g => rw [hg] at h; simp at h
    | none =>
      rw [hg] at h
      cases ho : o.op <;> rw [ho] at h <;> try (simp at h; done)
      rename_i t parts
      simp only at h
      cases hb : P.built t (parts.map fun (i, x) => (i, a.eval x)).toList with
      | none => rw [hb] at h; simp at h
      | some c =>
        rw [hb] at h
        refine wpList_build hg t parts ho (by rw [hb]; rfl) ?_
        rw [hb]
        exact wpList_builds os _ a' h k
theorem c_rows (w : World) : Calls Tryd.prog 22 #[] w fun e w' => e = .returned (.slice (some ⟨w.heap.size, 0, none⟩) 88 88) ∧ w' = w.alloc (.cells rowsC 47) := by
  go_enter Tryd.func22, Tryd.ntmps22
  go_upto_region 1 with (fail)
  rename_i K hK
  refine wp_region_list ?_
  change wpList _ _ _ rowsOps _ _
  rw [rows_parts]
  refine wpList_builds rowsB _ rowsAct (by kernel_rfl) ?_
  refine wpList_buildSliceTo (o := rowsE) (by kernel_rfl) 48 47 88 rowsParts (by kernel_rfl) w.heap.size rfl (some 89) (by kernel_rfl) (by kernel_rfl) rowsC (by kernel_rfl) ?_
  refine wpList_runTo (o := rowsZ) (by kernel_rfl) (some 0) (by kernel_rfl) (.slice (some ⟨w.heap.size, 0, none⟩) 88 88) (w.alloc (.cells rowsC 47)) (by kernel_rfl) ?_
  apply wpList_nil
  refine hK _ _ (wp_ret (bodyPost_ret (v := .slice (some ⟨w.heap.size, 0, none⟩) 88 88) (by kernel_rfl) (by kernel_rfl) ⟨rfl, rfl⟩))
theorem rows_name : ∀ a : Nat, a < 88 → rowsC[5 * a]? = some (.string (nmT a)) := by
  intro a ha
  have h : (List.range 88).all (fun a => match rowsC[5 * a]? with | some (.string s) => s.data == (nmT a).data | _ => false) = true := by kernel_rfl
  have := List.all_eq_true.1 h a (List.mem_range.2 ha)
  revert this
  cases e : rowsC[5 * a]? with
  | none => simp
  | some v =>
    cases v <;> simp
    intro h
    exact ByteArray.ext h
end Go.Proofs.YthcfobefpknjeaaDoor.P
