/- Stage 8: the sectors of a file, gone through. No condition. -/
import Derived.Test.YtlpcccpagmipnaaGreatPG
import Derived.Test.YtlpcccpagmipnaaGreatRF
set_option linter.unusedVariables false
set_option linter.unusedSimpArgs false
set_option maxRecDepth 100000
namespace Go.Proofs.YtlpcccpagmipnaaGreat.P
open Go.RowKit Go.ChangeMaps Go.MapKept
section
variable {w0 w : World} {R : Asn}
abbrev ib (B : Nat) (x : Nat) : Asn := blkA B (.cells #[.int .i64 (x : Int)] 3)
/-- What the iterator has captured. -/
def secA (OB EB FB off en : Nat) (f : Fil) : Asn := Star (ib OB off) (Star (ib EB en) (fk FB f))
theorem stable_sec (OB EB FB off en : Nat) (f : Fil) : Stable (secA OB EB FB off en f) := stable_star (stable_blk _ _) (stable_star (stable_blk _ _) (stable_blk _ _))
def SecP (w0 : World) (off en : Nat) (f : Fil) (R : Asn) (e : Ending) (w' : World) : Prop := ∃ OB EB FB, e = .returned (.func (.func 105) #[] #[.pointer (some ⟨OB, 0, none⟩), .pointer (some ⟨EB, 0, none⟩), .pointer (some ⟨FB, 0, none⟩)]) ∧ Own w0 w' (Star (secA OB EB FB off en f) R)
theorem c_fsec (h : Own w0 w R) (hs : Stable R) (f : Fil) (off en : Nat) :
    Calls Tryz.prog 71 #[.agg (filL f).toArray, .int .i64 (off : Int), .int .i64 (en : Int)] w (SecP w0 off en f R) := by
  have h1 := h.alloc hs (.cells (filL f).toArray 137)
  have h2 := h1.alloc (stable_star (stable_blk _ _) hs) (.cells #[.int .i64 (off : Int)] 3)
  have h3 := h2.alloc (stable_star (stable_blk _ _) (stable_star (stable_blk _ _) hs)) (.cells #[.int .i64 (en : Int)] 3)
  simp only [World.size_alloc] at h3 h2
  have H3 : RowKit.Hid (Own w0 _ (Star (secA (w.heap.size + 1) (w.heap.size + 1 + 1) w.heap.size off en f) R)) := Lib.hid (h3.ac (by unfold secA; ac_rfl))
  clear h h1 h2 h3 hs
  generalize (filL f).toArray = C at *
  go_enter Tryz.func71, Tryz.ntmps71
  go_wp2_with fail
  go_ret
  exact ⟨_, _, _, rfl, H3.out⟩
end
def encS (f : Fil) (off k : Nat) : Array Value := #[.int .i64 ((off / 64 + k : Nat) : Int), .int .i64 ((f.all.getD (off / 64 + k) 0 : Nat) : Int)]
attribute [local go_sem] Oper.semAt_some
set_option maxHeartbeats 2000000 in
theorem sectors_seq {OB EB FB off en : Nat} {f : Fil} (hx : f.ino.pl.length = 6) (h37 : f.all.length = 37) (ho : off ≤ 2368) (he : en ≤ 2368) :
    SeqN Tryz.prog 105 #[.pointer (some ⟨OB, 0, none⟩), .pointer (some ⟨EB, 0, none⟩), .pointer (some ⟨FB, 0, none⟩)] (encS f off) (cntN en - off / 64) (secA OB EB FB off en f) := by
  intro l X Xx hX w0 W h0 hY
  have hcn : cntN en ≤ 37 := cnt_le en he
  have hst : ∀ k, Stable (Star (secA OB EB FB off en f) (X k)) := fun k => stable_star (stable_sec _ _ _ _ _ _) (hX k)
  have HC : RowKit.Hid (∀ k W', Own w0 W' (Star (secA OB EB FB off en f) (X k)) → W'.cell? ⟨OB, 0, none⟩ = some (.int .i64 (off : Int)) ∧ W'.cell? ⟨EB, 0, none⟩ = some (.int .i64 (en : Int)) ∧ ∀ j, j < 37 → W'.cell? ⟨FB, 9 + j, none⟩ = some (.int .i64 ((f.all.getD j 0 : Nat) : Int))) := Lib.hid (fun k W' hw => by
    have hw1 : Own w0 W' (Star (ib OB off) (Star (ib EB en) (Star (fk FB f) (X k)))) := hw.ac (by unfold secA; ac_rfl)
    exact ⟨blk_cell hw1.blk 0 rfl, blk_cell hw1.right.blk 0 rfl, fun j hj => blk_cell hw1.right.right.blk (9 + j) (fil_at hx j (by omega))⟩)
  have HCN : RowKit.Hid (∀ wx, CallsIn Fence.wide 0 Tryz.prog 78 #[.int .i64 (en : Int)] wx fun e w' => e = .returned (.int .i64 (cntN en : Int)) ∧ w' = wx) := Lib.hid (fun wx => callsIn_wide.2 (c_count en (by omega) wx))
  obtain ⟨d0, _, _⟩ := HC.out _ _ h0
  have H0 := Lib.hid h0
  clear h0
  have e0 : ((off : Nat) : Int) / 64 = ((off / 64 : Nat) : Int) := by omega
  have e1 : ((off : Nat) : Int).tdiv 64 = ((off / 64 : Nat) : Int) := by rw [Int.tdiv_eq_ediv_of_nonneg (by omega)]; exact e0
  have e2 : IntKind.i64.wrap ((off / 64 : Nat) : Int) = ((off / 64 : Nat) : Int) := IntWalk.i64_in _ (by omega)
  have e3 : IntKind.i64.wrap (((off : Nat) : Int) / 64) = ((off / 64 : Nat) : Int) := by rw [e0]; exact e2
  have hp37 : off / 64 ≤ 37 := by omega
  unfold encS at hY
  clear e0 e1 e2
  generalize off / 64 = p at *
  refine callsIn_of_wp Tryz.func105 rfl trivial ?_ rfl
  simp only [Tryz.ntmps105, List.size_toArray, List.length_cons, List.length_nil, Nat.reduceAdd, Nat.reduceSub, Array.replicate_succ, Array.replicate_zero, List.push_toArray, List.append_toArray, List.nil_append, List.cons_append]
  gi_wp2
  gi_loopw [5] (fun i wr => ∃ k : Nat, k ≤ cntN en - p ∧ i = .int .i64 ((p + k : Nat) : Int) ∧ Own w0 wr (Star (secA OB EB FB off en f) (X k)))
    (fun i _ => 100 - (intOf i).toNat)
  case atStart => exact ⟨0, Nat.zero_le _, by simp, H0.out⟩
  case round =>
    obtain ⟨k, hk, rfl, ho1⟩ := hrel
    obtain ⟨_, d1, d2⟩ := HC.out _ _ ho1
    by_cases hlt : k < cntN en - p
    · have d3 := d2 (p + k) (by omega)
      obtain ⟨fn, tmps, assign, body, hy, hR⟩ := hY k wr hlt ho1
      have dl : decide (p + k < cntN en) = true := decide_eq_true (by omega)
      have dl2 : p + k < cntN en := by omega
      have q0 : (0 : Int) ≤ ((p + k : Nat) : Int) := by omega
      have q1 : ((p + k : Nat) : Int) < 37 := by omega
      have q2 : IntKind.i64.wrap (((p + k : Nat) : Int) + 1) = ((p + (k + 1) : Nat) : Int) := by rw [IntWalk.i64_in _ (by omega)]; omega
      have HHR := Lib.hid hR
      have hm : p + k < 37 := by omega
      clear hY d2 ho1
      generalize f.all.getD (p + k) 0 = v at *
      generalize hqq : p + k = q at *
      have HQ := Lib.hid hqq
      clear hqq
      gi_wp2_with (first
        | (refine ⟨trivial, ?_⟩; gi_at_call 78; refine (HCN.out _).mono ?_; rintro e w' ⟨rfl, hw'⟩; rw [hw']; clear hw' w'; dsimp only))
      refine HHR.out.mono ?_
      rintro e W3 (⟨rfl, hJ3⟩ | ⟨rfl, hJx3⟩)
      · dsimp only
        gi_wp2
        go_roundw
        case rel => exact ⟨k + 1, by omega, by go_num, hJ3⟩
        case measure => have := HQ.out; simp [intOf]; omega
      · dsimp only
        gi_wp2
        refine bodyPost_ret (results_none rfl _ _ _) rfl ?_
        exact ⟨⟨_, rfl⟩, .inr ⟨k, hlt, hJx3⟩⟩
    · obtain rfl : k = cntN en - p := by omega
      have dl : decide (p + (cntN en - p) < cntN en) = false := decide_eq_false (by omega)
      have dl2 : ¬ p + (cntN en - p) < cntN en := by omega
      have H1 := Lib.hid ho1
      clear ho1 hY
      generalize p + (cntN en - p) = q at *
      gi_wp2_with (refine ⟨trivial, ?_⟩; gi_at_call 78; refine (HCN.out _).mono ?_; rintro e w' ⟨rfl, hw'⟩; rw [hw']; clear hw' w'; dsimp only)
      go_end0
      exact ⟨⟨_, rfl⟩, .inl H1.out⟩
end Go.Proofs.YtlpcccpagmipnaaGreat.P
