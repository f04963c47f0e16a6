/- Stage 2: the document's table. -/
import Derived.Test.YtngeabphjdfdgaaGreatDoorN6
import Derived.Test.YtngeabphjdfdgaaGreatDoorO
import Derived.Great.Walk
import Derived.Deep.Cut
import Derived.Test.YtngeabphjdfdgaaGreatDoorS2
set_option linter.unusedVariables false
set_option linter.unusedSimpArgs false
set_option maxRecDepth 100000
namespace Go.Proofs.YtngeabphjdfdgaaGreatDoor.P
open Go.RowKit Go.Great
noncomputable def rowsOps : List Oper := match (Tryz.f74).body with
  | some (.seq _ (.seq (.region _ ops _) _)) => ops.toList
  | _ => []
def runB (P : Program) : List Oper → Act → Option Act
  | [], a => some a
  | o :: os, a => match o.guard, o.op with
    | none, .build t parts => match P.built t (parts.map fun (i, x) => (i, a.eval x)).toList with
      | some c => runB P os (a.put o.dst (.agg c))
      | none => none
    | _, _ => none
noncomputable def rowsB : List Oper := rowsOps.take 88
noncomputable def rowsE : Oper := rowsOps.getD 88 default
noncomputable def rowsZ : Oper := rowsOps.getD 89 default
noncomputable def rowsA0 : Act := { tmps := #[.slice none 0 0] ++ Array.replicate 89 undef, defers := [] }
noncomputable def rowsAct : Act := (runB Tryz.prog rowsB rowsA0).getD rowsA0
noncomputable def rowsParts : Array (Nat × Operand) := match rowsE.op with | .buildSlice _ _ parts => parts | _ => #[]
noncomputable def rowsC : Array Value := (Tryz.prog.builtSlice 136 88 (rowsParts.map fun (i, x) => (i, rowsAct.eval x)).toList).getD #[]
theorem rows_parts : rowsOps = rowsB ++ [rowsE, rowsZ] := by kernel_rfl
theorem wpList_builds {P : Program} {ops : Array Oper} {Q : Exit → Act → World → Prop} {rest : List Oper} {w : World} : ∀ (bs : List Oper) (a a' : Act), runB P bs a = some a' → wpList P ops Q rest a' w → wpList P ops Q (bs ++ rest) a w
  | [], a, a', h, k => by cases h; exact k
  | o :: os, a, a', h, k => by
    unfold runB at h
    cases hg : o.guard with
    | some g => rw [hg] at h; simp at h
    | none =>
      rw [hg] at h
      cases ho : o.op <;> rw [ho] at h <;> try (simp at h; done)
      rename_i t parts
      simp only at h
      cases hb : P.built t (parts.map fun (i, x) => (i, a.eval x)).toList with
      | none => rw [hb] at h; simp at h
      | some c =>
        rw [hb] at h
        refine wpList_build hg t parts ho (by rw [hb]; rfl) ?_
        rw [hb]
        exact wpList_builds os _ a' h k
theorem c_rows (w : World) : Calls Tryz.prog 74 #[] w fun e w' => e = .returned (.slice (some ⟨w.heap.size, 0, none⟩) 88 88) ∧ w' = w.alloc (.cells rowsC 136) := by
  go_enter Tryz.func74, Tryz.ntmps74
  go_upto_region 1 with (fail)
  rename_i K hK
  refine wp_region_list ?_
  change wpList _ _ _ rowsOps _ _
  rw [rows_parts]
  refine wpList_builds rowsB _ rowsAct (by kernel_rfl) ?_
  refine wpList_buildSliceTo (o := rowsE) (by kernel_rfl) 137 136 88 rowsParts (by kernel_rfl) w.heap.size rfl (some 89) (by kernel_rfl) (by kernel_rfl) rowsC (by kernel_rfl) ?_
  refine wpList_runTo (o := rowsZ) (by kernel_rfl) (some 0) (by kernel_rfl) (.slice (some ⟨w.heap.size, 0, none⟩) 88 88) (w.alloc (.cells rowsC 136)) (by kernel_rfl) ?_
  apply wpList_nil
  refine hK _ _ (wp_ret (bodyPost_ret (v := .slice (some ⟨w.heap.size, 0, none⟩) 88 88) (by kernel_rfl) (by kernel_rfl) ⟨rfl, rfl⟩))
theorem rows_name : ∀ a : Nat, a < 88 → rowsC[5 * a]? = some (.string (nmT a)) := by
  intro a ha
  have h : (List.range 88).all (fun a => match rowsC[5 * a]? with | some (.string s) => s.data == (nmT a).data | _ => false) = true := by kernel_rfl
  have := List.all_eq_true.1 h a (List.mem_range.2 ha)
  revert this
  cases e : rowsC[5 * a]? with
  | none => simp
  | some v =>
    cases v <;> simp
    intro h
    exact ByteArray.ext h
end Go.Proofs.YtngeabphjdfdgaaGreatDoor.P
namespace Go.Proofs.YtngeabphjdfdgaaGreatDoor.P
open Go.RowKit
theorem nmz_ne : ∀ k : Nat, k < 88 → 1 ≤ k → (nmT k).data.toList ≠ [] := by decide +kernel
theorem nm_inj_all : (List.range 88).all (fun j => (List.range 88).all (fun k => decide (j = k) || !decide ((nmT j).data.toList = (nmT k).data.toList))) = true := by decide +kernel
theorem nm_inj {j k : Nat} (hj : j < 88) (hk : k < 88) (h : nmT j = nmT k) : j = k := by
  have := List.all_eq_true.1 (List.all_eq_true.1 nm_inj_all j (List.mem_range.2 hj)) k (List.mem_range.2 hk)
  rw [h] at this
  simpa using this
theorem nmz_ne' {k : Nat} (hk : k < 88) (h1 : 1 ≤ k) : nmT k ≠ ⟨#[]⟩ := fun h => nmz_ne k hk h1 (by rw [h])
theorem name_out {op : Int} (h : op < 1 ∨ 87 < op) : nameF op = ⟨#[]⟩ := by
  unfold nameF
  have e : (decide (1 ≤ op) && decide (op ≤ 87)) = false := by
    rcases h with h | h
    · rw [decide_eq_false (by omega : ¬ 1 ≤ op)]; rfl
    · rw [decide_eq_false (by omega : ¬ op ≤ 87), Bool.and_false]
  rw [e]; rfl
theorem name_in {k : Nat} (hk : k < 88) (h1 : 1 ≤ k) : nameF (k : Int) = nmT k := by
  unfold nameF
  rw [decide_eq_true (by omega : (1 : Int) ≤ k), decide_eq_true (by omega : (k : Int) ≤ 87), Int.toNat_natCast]; rfl
theorem name_apart {k : Nat} (hk : k < 88) (h1 : 1 ≤ k) {b : Int} (h : nameF b = nmT k) : b = (k : Int) := by
  by_cases hb : b < 1 ∨ 87 < b
  · rw [name_out hb] at h; exact absurd h.symm (nmz_ne' hk h1)
  · obtain ⟨j, rfl⟩ : ∃ j : Nat, b = (j : Int) := ⟨b.toNat, by omega⟩
    rw [name_in (by omega) (by omega)] at h
    rw [nm_inj (by omega) hk h]
end Go.Proofs.YtngeabphjdfdgaaGreatDoor.P
