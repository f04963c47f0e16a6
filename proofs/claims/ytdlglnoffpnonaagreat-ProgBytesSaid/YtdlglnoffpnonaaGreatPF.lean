/- Stage 12: Encode. No condition. -/
import Derived.Test.YtdlglnoffpnonaaGreatPD
import Derived.Test.YtdlglnoffpnonaaGreatSG
import Derived.Handy
import Derived.Laws.Concat
set_option linter.unusedVariables false
set_option linter.unusedSimpArgs false
set_option maxRecDepth 100000
namespace Go.Proofs.YtdlglnoffpnonaaGreat.P
open Go.RowKit Go.Proofs.YtdlglnoffpnonaaGreat.W
def encV (x : Pg) : ByteArray := bif mayP x then encP x else ⟨#[]⟩
def encE (x : Pg) : Int := bif mayP x then 0 else 6
theorem zeros12 : (⟨(Lib.repeatL (⟨#[0]⟩ : ByteArray).data.toList 12).toArray⟩ : ByteArray) = noughtB := rfl
theorem idx4 (a b c d : Int) (w : World) :
    (Instr.index 124 (.agg #[.int .i64 a, .int .i64 b, .int .i64 c, .int .i64 d]) (.int .i64 0)).run Tryz.prog w = .ok (.int .i64 a) w ∧
    (Instr.index 124 (.agg #[.int .i64 a, .int .i64 b, .int .i64 c, .int .i64 d]) (.int .i64 1)).run Tryz.prog w = .ok (.int .i64 b) w ∧
    (Instr.index 124 (.agg #[.int .i64 a, .int .i64 b, .int .i64 c, .int .i64 d]) (.int .i64 2)).run Tryz.prog w = .ok (.int .i64 c) w ∧
    (Instr.index 124 (.agg #[.int .i64 a, .int .i64 b, .int .i64 c, .int .i64 d]) (.int .i64 3)).run Tryz.prog w = .ok (.int .i64 d) w := by
  refine ⟨?_, ?_, ?_, ?_⟩ <;> simp [Instr.index, run_underlying Tryz.underlying124, asIntOf, go_sem, part]
set_option maxHeartbeats 6400000 in
theorem c_encode (x : Pg) (h1 : x.tx.size ≤ maxLen) (h2 : x.da.size ≤ maxLen) (w : World) :
    Calls Tryz.prog 22 #[pgV x] w fun e w' => e = .returned (.tuple #[.string (encV x), .int .i64 (encE x)]) ∧ Gr w w' := by
  have CM := Lib.hid (fun w => c_may x h1 h2 w)
  have CB := Lib.hid (fun v w (hv : word v) => c_bytes v 4 hv w)
  unfold encV encE
  cases hm : mayP x with
  | false =>
    rw [hm] at CM
    obtain ⟨en, tx, da, bs⟩ := x
    have CM2 : RowKit.Hid (∀ w, Calls Tryz.prog 25 #[.agg #[.int .i64 en, .string tx, .string da, .int .i64 bs]] w fun e w' => e = .returned (.bool false) ∧ Gr w w') := Lib.hid CM.out
    show Calls Tryz.prog 22 #[.agg #[.int .i64 en, .string tx, .string da, .int .i64 bs]] w _
    clear CM hm h1 h2
    go_enter Tryz.func22, Tryz.ntmps22
    go_wp2_with (go_at_call 25; refine (CM2.out _).mono ?_; rintro e w1 ⟨rfl, g1⟩; have G1 := Lib.hid (galloc _ g1); clear g1)
    go_ret2
    exact ⟨rfl, G1.out⟩
  | true =>
    rw [hm] at CM
    obtain ⟨m1, m2, m3, m4, m5, m6, m7, m8, m9, m10⟩ := may_iff.1 hm
    obtain ⟨en, tx, da, bs⟩ := x
    have CM2 : RowKit.Hid (∀ w, Calls Tryz.prog 25 #[.agg #[.int .i64 en, .string tx, .string da, .int .i64 bs]] w fun e w' => e = .returned (.bool true) ∧ Gr w w') := Lib.hid CM.out
    show Calls Tryz.prog 22 #[.agg #[.int .i64 en, .string tx, .string da, .int .i64 bs]] w _
    have m1 : 4 ≤ tx.size := m1
    have m2 : tx.size ≤ 2048 := m2
    have m4 : 0 ≤ en := m4
    have m5 : en < tx.size := m5
    have m7 : da.size ≤ 1024 := m7
    have m8 : 0 ≤ bs := m8
    have m9 : bs ≤ 4096 := m9
    have k1 : IntKind.u64.wrap en = en := by rw [IntKind.wrap_u64]; omega
    have k2 : IntKind.u64.wrap (tx.size : Int) = (tx.size : Int) := by rw [IntKind.wrap_u64]; omega
    have k3 : IntKind.u64.wrap (da.size : Int) = (da.size : Int) := by rw [IntKind.wrap_u64]; omega
    have k4 : IntKind.u64.wrap bs = bs := by rw [IntKind.wrap_u64]; omega
    have v1 : word en := ⟨by omega, by omega⟩
    have v2 : word (tx.size : Int) := ⟨by omega, by omega⟩
    have v3 : word (da.size : Int) := ⟨by omega, by omega⟩
    have v4 : word bs := ⟨by omega, by omega⟩
    have HV := Lib.hid (And.intro v1 (And.intro v2 (And.intro v3 v4)))
    have RP : RowKit.Hid (∀ w, Calls Tryz.prog 50 #[.string ⟨#[0]⟩, .int .i64 12] w fun e w' => e = .returned (.string noughtB) ∧ Gr w w') := Lib.hid (fun w => by
      have h := sh_strings_Repeat ⟨#[0]⟩ 12 w (by decide) (by decide)
      rw [zeros12] at h
      exact h)
    obtain ⟨S, hS⟩ : ∃ S, encP ⟨en, tx, da, bs⟩ = S := ⟨_, rfl⟩
    have hS2 : beginB ++ bytesF en 4 ++ bytesF (tx.size : Int) 4 ++ bytesF (da.size : Int) 4 ++ bytesF bs 4 ++ noughtB ++ tx ++ da = S := hS
    have z1 := b4_size en
    have z2 := b4_size (tx.size : Int)
    have z3 := b4_size (da.size : Int)
    have z4 := b4_size bs
    have zn : noughtB.size = 12 := rfl
    have zb : beginB.size = 4 := rfl
    rw [cond_true, cond_true, hS]
    have B1 := Lib.hid (fun w => CB.out en w v1)
    have B2 := Lib.hid (fun w => CB.out (tx.size : Int) w v2)
    have B3 := Lib.hid (fun w => CB.out (da.size : Int) w v3)
    have B4 := Lib.hid (fun w => CB.out bs w v4)
    generalize bytesF en 4 = b1 at *
    generalize bytesF (tx.size : Int) 4 = b2 at *
    generalize bytesF (da.size : Int) 4 = b3 at *
    generalize bytesF bs 4 = b4 at *
    have z1 : b1.size = 4 := z1
    have hS3 : (⟨#[66, 75, 80, 1]⟩ : ByteArray) ++ b1 ++ b2 ++ b3 ++ b4 ++ noughtB ++ tx ++ da = S := hS2
    have zb : (⟨#[66, 75, 80, 1]⟩ : ByteArray).size = 4 := zb
    obtain ⟨H1, e1⟩ : ∃ H, (⟨#[66, 75, 80, 1]⟩ : ByteArray) ++ b1 = H := ⟨_, rfl⟩
    have q1 : H1.size = 8 := by rw [← e1, ByteArray.size_append, zb, z1]
    have s1 : ∀ w, (Op.stringOp .add (⟨#[66, 75, 80, 1]⟩ : ByteArray) b1).run Tryz.prog w = .ok (.string H1) w := fun w => by rw [← e1]; exact run_string_add_sum _ _ _ (by omega)
    rw [e1] at hS3
    obtain ⟨H2, e2⟩ : ∃ H, H1 ++ b2 = H := ⟨_, rfl⟩
    have q2 : H2.size = 12 := by rw [← e2, ByteArray.size_append, q1, z2]
    have s2 : ∀ w, (Op.stringOp .add H1 b2).run Tryz.prog w = .ok (.string H2) w := fun w => by rw [← e2]; exact run_string_add_sum _ _ _ (by omega)
    rw [e2] at hS3
    obtain ⟨H3, e3⟩ : ∃ H, H2 ++ b3 = H := ⟨_, rfl⟩
    have q3 : H3.size = 16 := by rw [← e3, ByteArray.size_append, q2, z3]
    have s3 : ∀ w, (Op.stringOp .add H2 b3).run Tryz.prog w = .ok (.string H3) w := fun w => by rw [← e3]; exact run_string_add_sum _ _ _ (by omega)
    rw [e3] at hS3
    obtain ⟨H4, e4⟩ : ∃ H, H3 ++ b4 = H := ⟨_, rfl⟩
    have q4 : H4.size = 20 := by rw [← e4, ByteArray.size_append, q3, z4]
    have s4 : ∀ w, (Op.stringOp .add H3 b4).run Tryz.prog w = .ok (.string H4) w := fun w => by rw [← e4]; exact run_string_add_sum _ _ _ (by omega)
    rw [e4] at hS3
    obtain ⟨H5, e5⟩ : ∃ H, H4 ++ noughtB = H := ⟨_, rfl⟩
    have q5 : H5.size = 32 := by rw [← e5, ByteArray.size_append, q4, zn]
    have s5 : ∀ w, (Op.stringOp .add H4 noughtB).run Tryz.prog w = .ok (.string H5) w := fun w => by rw [← e5]; exact run_string_add_sum _ _ _ (by omega)
    rw [e5] at hS3
    obtain ⟨H6, e6⟩ : ∃ H, H5 ++ tx = H := ⟨_, rfl⟩
    have q6 : H6.size = 32 + tx.size := by rw [← e6, ByteArray.size_append, q5]
    have s6 : ∀ w, (Op.stringOp .add H5 tx).run Tryz.prog w = .ok (.string H6) w := fun w => by rw [← e6]; exact run_string_add_sum _ _ _ (by omega)
    rw [e6] at hS3
    have s7 : ∀ w, (Op.stringOp .add H6 da).run Tryz.prog w = .ok (.string S) w := fun w => by rw [← hS3]; exact run_string_add_sum _ _ _ (by omega)
    have q42 : (H4.size : Int) = 20 := by omega
    clear e1 e2 e3 e4 e5 e6 q1 q2 q3 q4 q5 q6 z1 z2 z3 z4 zn zb hS3
    clear CM CB hm h1 h2 m1 m2 m3 m4 m5 m6 m7 m8 m9 m10 v1 v2 v3 v4 hS hS2
    go_enter Tryz.func22, Tryz.ntmps22
    go_upto_region 3 with (go_at_call 25; refine (CM2.out _).mono ?_; rintro e w1 ⟨rfl, g1⟩; have G1 := Lib.hid g1; clear g1)
    have c0 : w1.cell? ⟨w.heap.size, 0, none⟩ = some (.int .i64 en) := kcell G1.out (cnew w #[.int .i64 en, .string tx, .string da, .int .i64 bs] 23 0 rfl)
    have c1 : w1.cell? ⟨w.heap.size, 1, none⟩ = some (.string tx) := kcell G1.out (cnew w #[.int .i64 en, .string tx, .string da, .int .i64 bs] 23 1 rfl)
    have c2 : w1.cell? ⟨w.heap.size, 2, none⟩ = some (.string da) := kcell G1.out (cnew w #[.int .i64 en, .string tx, .string da, .int .i64 bs] 23 2 rfl)
    have c3 : w1.cell? ⟨w.heap.size, 3, none⟩ = some (.int .i64 bs) := kcell G1.out (cnew w #[.int .i64 en, .string tx, .string da, .int .i64 bs] 23 3 rfl)
    have GG := Lib.hid (galloc _ G1.out)
    clear G1
    generalize w.heap.size = xb at *
    go_wp2_with fail
    have i0 := fun w => (idx4 en tx.size da.size bs w).1
    have i1 := fun w => (idx4 en tx.size da.size bs w).2.1
    have i2 := fun w => (idx4 en tx.size da.size bs w).2.2.1
    have i3 := fun w => (idx4 en tx.size da.size bs w).2.2.2
    refine wp_loop_rounds 5 ?_
    rw [rounds_succ]
    go_wp2_with (first
      | (go_at_call 49; refine (B1.out _).mono ?_; rintro e wk ⟨rfl, gk⟩; have c1 : wk.cell? ⟨xb, 1, none⟩ = some (.string tx) := kcell gk (by assumption); have c2 : wk.cell? ⟨xb, 2, none⟩ = some (.string da) := kcell gk (by assumption); have GG : RowKit.Hid (Gr w wk) := Lib.hid (gtrans (RowKit.Hid.out (p := Gr w _) (by assumption)) gk); clear gk)
      | (go_at_call 50; refine (RP.out _).mono ?_; rintro e wk ⟨rfl, gk⟩; have c1 : wk.cell? ⟨xb, 1, none⟩ = some (.string tx) := kcell gk (by assumption); have c2 : wk.cell? ⟨xb, 2, none⟩ = some (.string da) := kcell gk (by assumption); have GG : RowKit.Hid (Gr w wk) := Lib.hid (gtrans (RowKit.Hid.out (p := Gr w _) (by assumption)) gk); clear gk))
    rw [rounds_succ]
    go_wp2_with (first
      | (go_at_call 49; refine (B2.out _).mono ?_; rintro e wk ⟨rfl, gk⟩; have c1 : wk.cell? ⟨xb, 1, none⟩ = some (.string tx) := kcell gk (by assumption); have c2 : wk.cell? ⟨xb, 2, none⟩ = some (.string da) := kcell gk (by assumption); have GG : RowKit.Hid (Gr w wk) := Lib.hid (gtrans (RowKit.Hid.out (p := Gr w _) (by assumption)) gk); clear gk)
      | (go_at_call 50; refine (RP.out _).mono ?_; rintro e wk ⟨rfl, gk⟩; have c1 : wk.cell? ⟨xb, 1, none⟩ = some (.string tx) := kcell gk (by assumption); have c2 : wk.cell? ⟨xb, 2, none⟩ = some (.string da) := kcell gk (by assumption); have GG : RowKit.Hid (Gr w wk) := Lib.hid (gtrans (RowKit.Hid.out (p := Gr w _) (by assumption)) gk); clear gk))
    rw [rounds_succ]
    go_wp2_with (first
      | (go_at_call 49; refine (B3.out _).mono ?_; rintro e wk ⟨rfl, gk⟩; have c1 : wk.cell? ⟨xb, 1, none⟩ = some (.string tx) := kcell gk (by assumption); have c2 : wk.cell? ⟨xb, 2, none⟩ = some (.string da) := kcell gk (by assumption); have GG : RowKit.Hid (Gr w wk) := Lib.hid (gtrans (RowKit.Hid.out (p := Gr w _) (by assumption)) gk); clear gk)
      | (go_at_call 50; refine (RP.out _).mono ?_; rintro e wk ⟨rfl, gk⟩; have c1 : wk.cell? ⟨xb, 1, none⟩ = some (.string tx) := kcell gk (by assumption); have c2 : wk.cell? ⟨xb, 2, none⟩ = some (.string da) := kcell gk (by assumption); have GG : RowKit.Hid (Gr w wk) := Lib.hid (gtrans (RowKit.Hid.out (p := Gr w _) (by assumption)) gk); clear gk))
    rw [rounds_succ]
    go_wp2_with (first
      | (go_at_call 49; refine (B4.out _).mono ?_; rintro e wk ⟨rfl, gk⟩; have c1 : wk.cell? ⟨xb, 1, none⟩ = some (.string tx) := kcell gk (by assumption); have c2 : wk.cell? ⟨xb, 2, none⟩ = some (.string da) := kcell gk (by assumption); have GG : RowKit.Hid (Gr w wk) := Lib.hid (gtrans (RowKit.Hid.out (p := Gr w _) (by assumption)) gk); clear gk)
      | (go_at_call 50; refine (RP.out _).mono ?_; rintro e wk ⟨rfl, gk⟩; have c1 : wk.cell? ⟨xb, 1, none⟩ = some (.string tx) := kcell gk (by assumption); have c2 : wk.cell? ⟨xb, 2, none⟩ = some (.string da) := kcell gk (by assumption); have GG : RowKit.Hid (Gr w wk) := Lib.hid (gtrans (RowKit.Hid.out (p := Gr w _) (by assumption)) gk); clear gk))
    rw [rounds_succ]
    go_wp2_with (first
      | (go_at_call 49; refine (B4.out _).mono ?_; rintro e wk ⟨rfl, gk⟩; have c1 : wk.cell? ⟨xb, 1, none⟩ = some (.string tx) := kcell gk (by assumption); have c2 : wk.cell? ⟨xb, 2, none⟩ = some (.string da) := kcell gk (by assumption); have GG : RowKit.Hid (Gr w wk) := Lib.hid (gtrans (RowKit.Hid.out (p := Gr w _) (by assumption)) gk); clear gk)
      | (go_at_call 50; refine (RP.out _).mono ?_; rintro e wk ⟨rfl, gk⟩; have c1 : wk.cell? ⟨xb, 1, none⟩ = some (.string tx) := kcell gk (by assumption); have c2 : wk.cell? ⟨xb, 2, none⟩ = some (.string da) := kcell gk (by assumption); have GG : RowKit.Hid (Gr w wk) := Lib.hid (gtrans (RowKit.Hid.out (p := Gr w _) (by assumption)) gk); clear gk))
    go_ret2
    exact ⟨rfl, RowKit.Hid.out (p := Gr w _) (by assumption)⟩
end Go.Proofs.YtdlglnoffpnonaaGreat.P
namespace Go.Proofs.YtdlglnoffpnonaaGreat.P
open Go.RowKit Go.Proofs.YtdlglnoffpnonaaGreat.W
def headS (R : ByteArray) (n : Nat) : ByteArray := R.extract 0 (min n R.size)
def tailS (R : ByteArray) (n : Nat) : ByteArray := R.extract (min n R.size) R.size
set_option maxHeartbeats 1600000 in
theorem c_cut (w : World) (rb : Nat) (R : ByteArray) (n : Nat) (hR : R.size ≤ 4096) (hc : w.heap[rb]? = some (.cells #[.string R] 9)) :
    Calls Tryz.prog 51 #[.int .i64 n, .pointer (some ⟨rb, 0, none⟩)] w fun e w' => e = .returned (.string (headS R n)) ∧ w' = w.setCell ⟨rb, 0, none⟩ (.string (tailS R n)) := by
  have c0 := blk_cell hc 0 (v := .string R) rfl
  have f0 := blk_frozen hc 0
  unfold headS tailS
  obtain ⟨m, hm⟩ : ∃ m, min n R.size = m := ⟨_, rfl⟩
  have hmi : min (n : Int) (R.size : Int) = (m : Int) := by omega
  have hle : m ≤ R.size := by omega
  rw [hm]
  have z0 : 0 ≤ (m : Int) := by omega
  have z1 : (m : Int) ≤ (R.size : Int) := by omega
  have z2 : (m : Int).toNat = m := by omega
  clear hm hR hc
  go_enter Tryz.func51, Tryz.ntmps51
  go_wp2_with fail
  go_ret
  exact ⟨rfl, rfl⟩
def restS (s : ByteArray) (a : Nat) : ByteArray := s.extract a s.size
theorem rest_size (s : ByteArray) (a : Nat) : (restS s a).size = s.size - a := by unfold restS; rw [ByteArray.size_extract]; omega
theorem head_rest (s : ByteArray) (a n : Nat) : headS (restS s a) n = s.extract a (a + min n (s.size - a)) := by
  unfold headS
  rw [rest_size]
  unfold restS
  rw [ByteArray.extract_extract, Nat.add_zero]
  by_cases h : a ≤ s.size
  · rw [Nat.min_eq_left (show a + min n (s.size - a) ≤ s.size by omega)]
  · rw [ByteArray.extract_eq_empty_iff.2 (by omega), ByteArray.extract_eq_empty_iff.2 (by omega)]
theorem tail_rest (s : ByteArray) (a n : Nat) (h : a ≤ s.size) : tailS (restS s a) n = restS s (a + min n (s.size - a)) := by
  unfold tailS
  rw [rest_size]
  unfold restS
  rw [ByteArray.extract_extract, Nat.min_eq_right (show s.size ≤ a + (s.size - a) by omega)]
theorem rest_zero (s : ByteArray) : restS s 0 = s := ByteArray.extract_zero_size
end Go.Proofs.YtdlglnoffpnonaaGreat.P
