/- Stage 7: a commit's acts. No condition. -/
import Derived.Test.YtgaibknhdaeidaaA17
set_option linter.unusedVariables false
set_option maxRecDepth 50000
namespace Go.Proofs.Ytgaibknhdaeidaa.P
open Go.RowKit
def thenE (a : Int × DState) (f : DState → Int × DState) : Int × DState := bif decide (a.1 = 0) then f a.2 else a
theorem thenE_ok {a : Int × DState} {f : DState → Int × DState} (h : a.1 = 0) : thenE a f = f a.2 := by unfold thenE; rw [decide_eq_true h]; rfl
theorem thenE_no {a : Int × DState} {f : DState → Int × DState} (h : a.1 ≠ 0) : thenE a f = a := by unfold thenE; rw [decide_eq_false h]; rfl
theorem exec_then (a b : List DOp) (z : DState) : exec (a ++ b) z = thenE (exec a z) (exec b) := exec_append a b z
theorem commit_then (st : List (Int × ByteArray)) (z : DState) : exec (commitOps st) z = thenE (exec (holdOps 0 st ++ [.fl]) z) (fun z1 => thenE (exec (pointOps (st.map (·.1))) z1) (fun z2 => thenE (exec (homeOps st ++ [.fl]) z2) (exec (pointOps [])))) := by
  have e : commitOps st = (holdOps 0 st ++ [.fl]) ++ (pointOps (st.map (·.1)) ++ ((homeOps st ++ [.fl]) ++ pointOps [])) := by
    unfold commitOps installOps; simp
  rw [e, exec_then]
  refine congrArg (thenE _) (funext fun z1 => ?_)
  rw [exec_then]
  refine congrArg (thenE _) (funext fun z2 => ?_)
  rw [exec_then]
def EO (w0 : World) (D : DState → Asn) (q : Int × DState) (e : Ending) (w' : World) : Prop := e = .returned (.int .i64 q.1) ∧ Own w0 w' (D q.2)
set_option maxHeartbeats 1600000 in
theorem o_acts {w0 w : World} {d : Nat} {z : DState} {l mb : Nat} {st : List (Int × ByteArray)} {dead : Bool} {R : Asn} (o : Option Addr) (c : Nat) (h : Own w0 w (DL d z l mb st dead (Star (rowIA o (st.map (·.1))) R))) (hs : Stable R) (hl : st.length ≤ 30) (hb : ∀ x ∈ st, 0 ≤ x.1 ∧ x.1 < 65536) (hw : z.wait.length ≤ 2000000000000) :
    Calls Try.prog 33 #[.pointer (some ⟨l, 0, none⟩), .slice o st.length c] w (EO w0 (fun z => DL d z l mb st dead (Star (rowIA o (st.map (·.1))) R)) (exec (commitOps st) z)) := by
  have hs2 : Stable (Star (rowIA o (st.map (·.1))) R) := stable_star (stable_rowI _ _) hs
  rw [commit_then]
  have hkb : ∀ i ∈ st.map (·.1), 0 ≤ i ∧ i < 65536 := fun i hi => by
    obtain ⟨x, hx, rfl⟩ := List.mem_map.1 hi
    exact hb x hx
  have b1 := exec_wait (holdOps 0 st ++ [.fl]) z
  rw [List.length_append, hold_len] at b1
  have C1 := Lib.hid (o_writeAll_hold o c h hs hl hb (by omega))
  generalize exec (holdOps 0 st ++ [.fl]) z = q1 at *
  obtain ⟨a1, z1⟩ := q1
  dsimp only [List.length_cons, List.length_nil] at b1
  have b2 := exec_wait (pointOps (st.map (·.1))) z1
  have C2 : Hid (∀ w1, Own w0 w1 (DL d z1 l mb st dead (Star (rowIA o (st.map (·.1))) R)) → Calls Try.prog 54 #[.pointer (some ⟨l, 0, none⟩), .slice o st.length c] w1 (EO w0 (fun z => DL d z l mb st dead (Star (rowIA o (st.map (·.1))) R)) (exec (pointOps (st.map (·.1))) z1))) :=
    Lib.hid (fun w1 h1 => by
      have := o_point h1 hs2 o c (st.map (·.1)) h1.right.right.left.get.choose_spec.1 (by rw [List.length_map]; exact hl) hkb (by omega)
      rw [List.length_map] at this
      exact this)
  have e2 : thenE (a1, z1) (fun z1 => thenE (exec (pointOps (st.map (·.1))) z1) (fun z2 => thenE (exec (homeOps st ++ [.fl]) z2) (exec (pointOps [])))) = bif decide (a1 = 0) then thenE (exec (pointOps (st.map (·.1))) z1) (fun z2 => thenE (exec (homeOps st ++ [.fl]) z2) (exec (pointOps []))) else (a1, z1) := rfl
  rw [e2]
  generalize exec (pointOps (st.map (·.1))) z1 = q2 at *
  obtain ⟨a2, z2⟩ := q2
  have p2 : (pointOps (st.map (·.1))).length = 2 := rfl
  rw [p2] at b2
  dsimp only at b2
  have b3 := exec_wait (homeOps st ++ [.fl]) z2
  rw [List.length_append, home_len] at b3
  have C3 : Hid (∀ w1, Own w0 w1 (DL d z2 l mb st dead (Star (rowIA o (st.map (·.1))) R)) → Calls Try.prog 55 #[.pointer (some ⟨l, 0, none⟩), .slice o st.length c, .func (.func 57) #[] #[]] w1 (EO w0 (fun z => DL d z l mb st dead (Star (rowIA o (st.map (·.1))) R)) (exec (homeOps st ++ [.fl]) z2))) :=
    Lib.hid (fun w1 h1 => o_writeAll_home o c h1 hs hl hb (by omega))
  have e3 : thenE (a2, z2) (fun z2 => thenE (exec (homeOps st ++ [.fl]) z2) (exec (pointOps []))) = bif decide (a2 = 0) then thenE (exec (homeOps st ++ [.fl]) z2) (exec (pointOps [])) else (a2, z2) := rfl
  rw [e3]
  generalize exec (homeOps st ++ [.fl]) z2 = q3 at *
  obtain ⟨a3, z3⟩ := q3
  dsimp only [List.length_cons, List.length_nil] at b3
  have C4 : Hid (∀ w1, Own w0 w1 (DL d z3 l mb st dead (Star (rowIA o (st.map (·.1))) R)) → Calls Try.prog 54 #[.pointer (some ⟨l, 0, none⟩), .slice none 0 0] w1 (EO w0 (fun z => DL d z l mb st dead (Star (rowIA o (st.map (·.1))) R)) (exec (pointOps []) z3))) :=
    Lib.hid (fun w1 h1 => o_point h1 hs2 none 0 [] (rowI_nil _ _) (by simp) (fun i hi => by cases hi) (by omega))
  have e4 : thenE (a3, z3) (exec (pointOps [])) = bif decide (a3 = 0) then exec (pointOps []) z3 else (a3, z3) := rfl
  rw [e4]
  generalize exec (pointOps []) z3 = q4 at *
  clear b1 b2 b3 h hb hkb hs hs2 e2 e3 e4 p2
  have hl2 : st.length ≤ 30 := hl
  generalize st.length = n at *
  by_cases k1 : a1 = 0
  · subst k1
    rw [decide_eq_true rfl, cond_true]
    by_cases k2 : a2 = 0
    · subst k2
      rw [decide_eq_true rfl, cond_true]
      by_cases k3 : a3 = 0
      · subst k3
        rw [decide_eq_true rfl, cond_true]
        go_enter Try.func33, Try.ntmps33
        go_upto_region 4 with (go_at_call 55; refine C1.out.mono ?_; rintro e w1 ⟨rfl, h1⟩; have H1 := Lib.hid h1; clear h1)
        go_upto_region 7 with (go_at_call 54; refine (C2.out _ H1.out).mono ?_; rintro e w1 ⟨rfl, h1⟩; have H2 := Lib.hid h1; clear h1)
        go_upto_region 10 with (go_at_call 55; refine (C3.out _ H2.out).mono ?_; rintro e w1 ⟨rfl, h1⟩; have H3 := Lib.hid h1; clear h1)
        go_wp2_with (go_at_call 54; refine (C4.out _ H3.out).mono ?_; rintro e w1 ⟨rfl, h1⟩; have H4 := Lib.hid h1; clear h1)
        go_ret
        exact ⟨rfl, H4.out⟩
      · rw [decide_eq_false k3, cond_false]
        go_enter Try.func33, Try.ntmps33
        go_upto_region 4 with (go_at_call 55; refine C1.out.mono ?_; rintro e w1 ⟨rfl, h1⟩; have H1 := Lib.hid h1; clear h1)
        go_upto_region 7 with (go_at_call 54; refine (C2.out _ H1.out).mono ?_; rintro e w1 ⟨rfl, h1⟩; have H2 := Lib.hid h1; clear h1)
        go_wp2_with (go_at_call 55; refine (C3.out _ H2.out).mono ?_; rintro e w1 ⟨rfl, h1⟩; have H3 := Lib.hid h1; clear h1)
        go_ret
        exact ⟨rfl, H3.out⟩
    · rw [decide_eq_false k2, cond_false]
      go_enter Try.func33, Try.ntmps33
      go_upto_region 4 with (go_at_call 55; refine C1.out.mono ?_; rintro e w1 ⟨rfl, h1⟩; have H1 := Lib.hid h1; clear h1)
      go_wp2_with (go_at_call 54; refine (C2.out _ H1.out).mono ?_; rintro e w1 ⟨rfl, h1⟩; have H2 := Lib.hid h1; clear h1)
      go_ret
      exact ⟨rfl, H2.out⟩
  · rw [decide_eq_false k1, cond_false]
    go_enter Try.func33, Try.ntmps33
    go_wp2_with (go_at_call 55; refine C1.out.mono ?_; rintro e w1 ⟨rfl, h1⟩; have H1 := Lib.hid h1; clear h1)
    go_ret
    exact ⟨rfl, H1.out⟩
end Go.Proofs.Ytgaibknhdaeidaa.P
