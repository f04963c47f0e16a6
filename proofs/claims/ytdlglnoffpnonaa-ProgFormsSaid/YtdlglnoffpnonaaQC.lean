/- Stage 12: the document's Encode. No condition. -/
import Derived.Test.YtdlglnoffpnonaaPJ
import Derived.Test.YtdlglnoffpnonaaPZ
import Derived.Test.YtdlglnoffpnonaaPI
import Derived.Test.YtdlglnoffpnonaaPG
set_option linter.unusedVariables false
set_option linter.unusedSimpArgs false
set_option maxRecDepth 100000
namespace Go.Proofs.Ytdlglnoffpnonaa.P
open Go.RowKit Go.Proofs.Ytdlglnoffpnonaa.W
def zer12 : List UInt8 := List.replicate 12 0
theorem bys12 (j : Nat) (hj : j < 12) : (bys zer12)[j]? = some (.int .u8 (((zer12.getD j 0).toNat : Nat) : Int)) := by
  have hs : j = 0 ∨ j = 1 ∨ j = 2 ∨ j = 3 ∨ j = 4 ∨ j = 5 ∨ j = 6 ∨ j = 7 ∨ j = 8 ∨ j = 9 ∨ j = 10 ∨ j = 11 := by omega
  rcases hs with rfl | rfl | rfl | rfl | rfl | rfl | rfl | rfl | rfl | rfl | rfl | rfl <;> rfl
set_option maxHeartbeats 6400000 in
theorem r_encode12 (x : Pg) (h1 : x.tx.size ≤ maxLen) (h2 : x.da.size ≤ maxLen) (w : World) :
    Calls Try.prog 10 #[pgV x] w fun e w' => e = .returned (.tuple #[.string (encV x), .int .i64 (encE x)]) ∧ Gr w w' := by
  have CM := Lib.hid (fun w => r_may12 x h1 h2 w)
  have CB := Lib.hid (fun v w (hv : word v) => c_rbytes v 4 hv w)
  unfold encV encE
  cases hm : mayP x with
  | false =>
    rw [hm] at CM
    obtain ⟨en, tx, da, bs⟩ := x
    have CM2 : RowKit.Hid (∀ w, Calls Try.prog 15 #[.agg #[.int .i64 en, .string tx, .string da, .int .i64 bs]] w fun e w' => e = .returned (.bool false) ∧ Gr w w') := Lib.hid CM.out
    show Calls Try.prog 10 #[.agg #[.int .i64 en, .string tx, .string da, .int .i64 bs]] w _
    clear CM hm h1 h2
    go_enter Try.func10, Try.ntmps10
    go_wp2_with (go_at_call 15; refine (CM2.out _).mono ?_; rintro e w1 ⟨rfl, g1⟩; have G1 := Lib.hid (galloc _ g1); clear g1)
    go_ret2
    exact ⟨rfl, G1.out⟩
  | true =>
    rw [hm] at CM
    obtain ⟨m1, m2, m3, m4, m5, m6, m7, m8, m9, m10⟩ := may_iff.1 hm
    obtain ⟨en, tx, da, bs⟩ := x
    have CM2 : RowKit.Hid (∀ w, Calls Try.prog 15 #[.agg #[.int .i64 en, .string tx, .string da, .int .i64 bs]] w fun e w' => e = .returned (.bool true) ∧ Gr w w') := Lib.hid CM.out
    show Calls Try.prog 10 #[.agg #[.int .i64 en, .string tx, .string da, .int .i64 bs]] w _
    have m1 : 4 ≤ tx.size := m1
    have m2 : tx.size ≤ 2048 := m2
    have m4 : 0 ≤ en := m4
    have m5 : en < tx.size := m5
    have m7 : da.size ≤ 1024 := m7
    have m8 : 0 ≤ bs := m8
    have m9 : bs ≤ 4096 := m9
    have k1 : IntKind.u64.wrap en = en := by rw [IntKind.wrap_u64]; omega
    have k2 : IntKind.u64.wrap (tx.size : Int) = (tx.size : Int) := by rw [IntKind.wrap_u64]; omega
    have k3 : IntKind.u64.wrap (da.size : Int) = (da.size : Int) := by rw [IntKind.wrap_u64]; omega
    have k4 : IntKind.u64.wrap bs = bs := by rw [IntKind.wrap_u64]; omega
    have v1 : word en := ⟨by omega, by omega⟩
    have v2 : word (tx.size : Int) := ⟨by omega, by omega⟩
    have v3 : word (da.size : Int) := ⟨by omega, by omega⟩
    have v4 : word bs := ⟨by omega, by omega⟩
    have HV := Lib.hid (And.intro v1 (And.intro v2 (And.intro v3 v4)))
    have RP : RowKit.Hid (∀ w, Calls Try.prog 23 #[.string ⟨#[0]⟩, .int .i64 12] w fun e w' => e = .returned (.string noughtB) ∧ Gr w w') := Lib.hid (fun w => by
      have h := sh_strings_Repeat ⟨#[0]⟩ 12 w (by decide) (by decide)
      rw [zeros12] at h
      exact h)
    obtain ⟨S, hS⟩ : ∃ S, encP ⟨en, tx, da, bs⟩ = S := ⟨_, rfl⟩
    have hS2 : beginB ++ bytesF en 4 ++ bytesF (tx.size : Int) 4 ++ bytesF (da.size : Int) 4 ++ bytesF bs 4 ++ noughtB ++ tx ++ da = S := hS
    have z1 := b4_size en
    have z2 := b4_size (tx.size : Int)
    have z3 := b4_size (da.size : Int)
    have z4 := b4_size bs
    have zn : noughtB.size = 12 := rfl
    have zb : beginB.size = 4 := rfl
    rw [cond_true, cond_true, hS]
    have B1 := Lib.hid (fun w => CB.out en w v1)
    have B2 := Lib.hid (fun w => CB.out (tx.size : Int) w v2)
    have B3 := Lib.hid (fun w => CB.out (da.size : Int) w v3)
    have B4 := Lib.hid (fun w => CB.out bs w v4)
    generalize bytesF en 4 = b1 at *
    generalize bytesF (tx.size : Int) 4 = b2 at *
    generalize bytesF (da.size : Int) 4 = b3 at *
    generalize bytesF bs 4 = b4 at *
    have z1 : b1.size = 4 := z1
    have hS3 : (⟨#[66, 75, 80, 1]⟩ : ByteArray) ++ b1 ++ b2 ++ b3 ++ b4 ++ noughtB ++ tx ++ da = S := hS2
    have zb : (⟨#[66, 75, 80, 1]⟩ : ByteArray).size = 4 := zb
    obtain ⟨H1, e1⟩ : ∃ H, (⟨#[66, 75, 80, 1]⟩ : ByteArray) ++ b1 = H := ⟨_, rfl⟩
    have q1 : H1.size = 8 := by rw [← e1, ByteArray.size_append, zb, z1]
    have s1 : ∀ w, (Op.stringOp .add (⟨#[66, 75, 80, 1]⟩ : ByteArray) b1).run Try.prog w = .ok (.string H1) w := fun w => by rw [← e1]; exact run_string_add_sum _ _ _ (by omega)
    rw [e1] at hS3
    obtain ⟨H2, e2⟩ : ∃ H, H1 ++ b2 = H := ⟨_, rfl⟩
    have q2 : H2.size = 12 := by rw [← e2, ByteArray.size_append, q1, z2]
    have s2 : ∀ w, (Op.stringOp .add H1 b2).run Try.prog w = .ok (.string H2) w := fun w => by rw [← e2]; exact run_string_add_sum _ _ _ (by omega)
    rw [e2] at hS3
    obtain ⟨H3, e3⟩ : ∃ H, H2 ++ b3 = H := ⟨_, rfl⟩
    have q3 : H3.size = 16 := by rw [← e3, ByteArray.size_append, q2, z3]
    have s3 : ∀ w, (Op.stringOp .add H2 b3).run Try.prog w = .ok (.string H3) w := fun w => by rw [← e3]; exact run_string_add_sum _ _ _ (by omega)
    rw [e3] at hS3
    obtain ⟨H4, e4⟩ : ∃ H, H3 ++ b4 = H := ⟨_, rfl⟩
    have q4 : H4.size = 20 := by rw [← e4, ByteArray.size_append, q3, z4]
    have s4 : ∀ w, (Op.stringOp .add H3 b4).run Try.prog w = .ok (.string H4) w := fun w => by rw [← e4]; exact run_string_add_sum _ _ _ (by omega)
    rw [e4] at hS3
    obtain ⟨H5, e5⟩ : ∃ H, H4 ++ noughtB = H := ⟨_, rfl⟩
    have q5 : H5.size = 32 := by rw [← e5, ByteArray.size_append, q4, zn]
    have s5 : ∀ w, (Op.stringOp .add H4 noughtB).run Try.prog w = .ok (.string H5) w := fun w => by rw [← e5]; exact run_string_add_sum _ _ _ (by omega)
    rw [e5] at hS3
    obtain ⟨H6, e6⟩ : ∃ H, H5 ++ tx = H := ⟨_, rfl⟩
    have q6 : H6.size = 32 + tx.size := by rw [← e6, ByteArray.size_append, q5]
    have s6 : ∀ w, (Op.stringOp .add H5 tx).run Try.prog w = .ok (.string H6) w := fun w => by rw [← e6]; exact run_string_add_sum _ _ _ (by omega)
    rw [e6] at hS3
    have s7 : ∀ w, (Op.stringOp .add H6 da).run Try.prog w = .ok (.string S) w := fun w => by rw [← hS3]; exact run_string_add_sum _ _ _ (by omega)
    have q42 : (H4.size : Int) = 20 := by omega
    clear e1 e2 e3 e4 e5 e6 q1 q2 q3 q4 q5 q6 z1 z2 z3 z4 zn zb hS3
    clear CM CB hm h1 h2 m1 m2 m3 m4 m5 m6 m7 m8 m9 m10 v1 v2 v3 v4 hS hS2
    go_enter Try.func10, Try.ntmps10
    go_upto_region 4 with (go_at_call 15; refine (CM2.out _).mono ?_; rintro e w1 ⟨rfl, g1⟩; have G1 := Lib.hid g1; clear g1)
    have BB := Lib.hid (show w1.drew.heap[w.heap.size]? = some (.cells #[.int .i64 en, .string tx, .string da, .int .i64 bs] 23) from blk_gr (Below.drew G1.out) (blk_new _ _))
    have G9 := Lib.hid (Below.drew (galloc _ G1.out))
    clear G1
    obtain ⟨xb, hxb⟩ : ∃ n, w.heap.size = n := ⟨_, rfl⟩
    rw [hxb] at BB
    rw [hxb]
    clear hxb
    refine wp_region_held_drew (S := fun w' => w'.heap[xb]? = some (.cells #[.int .i64 en, .string tx, .string da, .int .i64 bs] 23)) (by kernel_rfl) (BB.out) (fun hH => ?_)
    generalize w1.drew = wd at *
    try simp only [Act.put, List.setIfInBounds_toArray, List.set_cons_zero, List.set_cons_succ]
    refine wpAnyH_take (i := 0) (oi := { dst := some 10, op := Go.Op.fieldAddr 23 (Go.Operand.tmp 1) 0, type := 0, pos := "ref.go:29", after := #[], guard := none }) (v := .pointer (some ⟨xb, 0, none⟩)) rfl (by kernel_rfl) (by kernel_rfl) (by kernel_rfl) (fun _ _ _ h => h) (Or.inl ⟨by rfl, fun w' hS' => by first | rfl | (go_simp; done) | (go_simp; rfl)⟩) hH ?_
    try simp only [Act.put, List.setIfInBounds_toArray, List.set_cons_zero, List.set_cons_succ]
    refine wpAnyH_take (i := 1) (oi := { dst := some 11, op := Go.Op.load 3 (Go.Operand.tmp 10), type := 3, pos := "ref.go:29", after := #[{ on := 0, ground := Go.Ground.data }], guard := none }) (v := .int .i64 en) rfl (by kernel_rfl) (by kernel_rfl) (by kernel_rfl) (fun _ _ _ h => h) (Or.inl ⟨by rfl, fun w' hS' => by have c := blk_cell hS' 0 (v := .int .i64 (en)) rfl; go_simp⟩) hH ?_
    try simp only [Act.put, List.setIfInBounds_toArray, List.set_cons_zero, List.set_cons_succ]
    refine wpAnyH_take (i := 2) (oi := { dst := some 12, op := Go.Op.convert 3 44 (Go.Operand.tmp 11), type := 44, pos := "ref.go:29", after := #[{ on := 1, ground := Go.Ground.data }], guard := none }) (v := .int .u64 en) rfl (by kernel_rfl) (by kernel_rfl) (by kernel_rfl) (fun _ _ _ h => h) (Or.inl ⟨by rfl, fun w' hS' => by first | rfl | (go_simp; done) | (go_simp; rfl)⟩) hH ?_
    try simp only [Act.put, List.setIfInBounds_toArray, List.set_cons_zero, List.set_cons_succ]
    refine wpAnyH_take (i := 5) (oi := { dst := some 15, op := Go.Op.fieldAddr 23 (Go.Operand.tmp 1) 1, type := 0, pos := "ref.go:29", after := #[], guard := none }) (v := .pointer (some ⟨xb, 1, none⟩)) rfl (by kernel_rfl) (by kernel_rfl) (by kernel_rfl) (fun _ _ _ h => h) (Or.inl ⟨by rfl, fun w' hS' => by first | rfl | (go_simp; done) | (go_simp; rfl)⟩) hH ?_
    try simp only [Act.put, List.setIfInBounds_toArray, List.set_cons_zero, List.set_cons_succ]
    refine wpAnyH_take (i := 6) (oi := { dst := some 16, op := Go.Op.load 9 (Go.Operand.tmp 15), type := 9, pos := "ref.go:29", after := #[{ on := 5, ground := Go.Ground.data }], guard := none }) (v := .string tx) rfl (by kernel_rfl) (by kernel_rfl) (by kernel_rfl) (fun _ _ _ h => h) (Or.inl ⟨by rfl, fun w' hS' => by have c := blk_cell hS' 1 (v := .string tx) rfl; go_simp⟩) hH ?_
    try simp only [Act.put, List.setIfInBounds_toArray, List.set_cons_zero, List.set_cons_succ]
    refine wpAnyH_take (i := 7) (oi := { dst := some 17, op := Go.Op.call { callee := Go.Callee.builtin Go.Builtin.len, args := #[Go.Operand.tmp 16], argTypes := #[9] }, type := 3, pos := "ref.go:29", after := #[{ on := 6, ground := Go.Ground.data }], guard := none }) (v := .int .i64 (tx.size : Int)) rfl (by kernel_rfl) (by kernel_rfl) (by kernel_rfl) (fun _ _ _ h => h) (Or.inl ⟨by rfl, fun w' hS' => by first | rfl | (go_simp; done) | (go_simp; rfl)⟩) hH ?_
    try simp only [Act.put, List.setIfInBounds_toArray, List.set_cons_zero, List.set_cons_succ]
    refine wpAnyH_take (i := 8) (oi := { dst := some 18, op := Go.Op.convert 3 44 (Go.Operand.tmp 17), type := 44, pos := "ref.go:29", after := #[{ on := 7, ground := Go.Ground.data }], guard := none }) (v := .int .u64 (tx.size : Int)) rfl (by kernel_rfl) (by kernel_rfl) (by kernel_rfl) (fun _ _ _ h => h) (Or.inl ⟨by rfl, fun w' hS' => by first | rfl | (go_simp; done) | (go_simp; rfl)⟩) hH ?_
    try simp only [Act.put, List.setIfInBounds_toArray, List.set_cons_zero, List.set_cons_succ]
    refine wpAnyH_take (i := 11) (oi := { dst := some 21, op := Go.Op.fieldAddr 23 (Go.Operand.tmp 1) 2, type := 0, pos := "ref.go:29", after := #[], guard := none }) (v := .pointer (some ⟨xb, 2, none⟩)) rfl (by kernel_rfl) (by kernel_rfl) (by kernel_rfl) (fun _ _ _ h => h) (Or.inl ⟨by rfl, fun w' hS' => by first | rfl | (go_simp; done) | (go_simp; rfl)⟩) hH ?_
    try simp only [Act.put, List.setIfInBounds_toArray, List.set_cons_zero, List.set_cons_succ]
    refine wpAnyH_take (i := 12) (oi := { dst := some 22, op := Go.Op.load 9 (Go.Operand.tmp 21), type := 9, pos := "ref.go:29", after := #[{ on := 11, ground := Go.Ground.data }], guard := none }) (v := .string da) rfl (by kernel_rfl) (by kernel_rfl) (by kernel_rfl) (fun _ _ _ h => h) (Or.inl ⟨by rfl, fun w' hS' => by have c := blk_cell hS' 2 (v := .string da) rfl; go_simp⟩) hH ?_
    try simp only [Act.put, List.setIfInBounds_toArray, List.set_cons_zero, List.set_cons_succ]
    refine wpAnyH_take (i := 13) (oi := { dst := some 23, op := Go.Op.call { callee := Go.Callee.builtin Go.Builtin.len, args := #[Go.Operand.tmp 22], argTypes := #[9] }, type := 3, pos := "ref.go:29", after := #[{ on := 12, ground := Go.Ground.data }], guard := none }) (v := .int .i64 (da.size : Int)) rfl (by kernel_rfl) (by kernel_rfl) (by kernel_rfl) (fun _ _ _ h => h) (Or.inl ⟨by rfl, fun w' hS' => by first | rfl | (go_simp; done) | (go_simp; rfl)⟩) hH ?_
    try simp only [Act.put, List.setIfInBounds_toArray, List.set_cons_zero, List.set_cons_succ]
    refine wpAnyH_take (i := 14) (oi := { dst := some 24, op := Go.Op.convert 3 44 (Go.Operand.tmp 23), type := 44, pos := "ref.go:29", after := #[{ on := 13, ground := Go.Ground.data }], guard := none }) (v := .int .u64 (da.size : Int)) rfl (by kernel_rfl) (by kernel_rfl) (by kernel_rfl) (fun _ _ _ h => h) (Or.inl ⟨by rfl, fun w' hS' => by first | rfl | (go_simp; done) | (go_simp; rfl)⟩) hH ?_
    try simp only [Act.put, List.setIfInBounds_toArray, List.set_cons_zero, List.set_cons_succ]
    refine wpAnyH_take (i := 17) (oi := { dst := some 27, op := Go.Op.fieldAddr 23 (Go.Operand.tmp 1) 3, type := 0, pos := "ref.go:29", after := #[], guard := none }) (v := .pointer (some ⟨xb, 3, none⟩)) rfl (by kernel_rfl) (by kernel_rfl) (by kernel_rfl) (fun _ _ _ h => h) (Or.inl ⟨by rfl, fun w' hS' => by first | rfl | (go_simp; done) | (go_simp; rfl)⟩) hH ?_
    try simp only [Act.put, List.setIfInBounds_toArray, List.set_cons_zero, List.set_cons_succ]
    refine wpAnyH_take (i := 18) (oi := { dst := some 28, op := Go.Op.load 3 (Go.Operand.tmp 27), type := 3, pos := "ref.go:29", after := #[{ on := 17, ground := Go.Ground.data }], guard := none }) (v := .int .i64 bs) rfl (by kernel_rfl) (by kernel_rfl) (by kernel_rfl) (fun _ _ _ h => h) (Or.inl ⟨by rfl, fun w' hS' => by have c := blk_cell hS' 3 (v := .int .i64 (bs)) rfl; go_simp⟩) hH ?_
    try simp only [Act.put, List.setIfInBounds_toArray, List.set_cons_zero, List.set_cons_succ]
    refine wpAnyH_take (i := 19) (oi := { dst := some 29, op := Go.Op.convert 3 44 (Go.Operand.tmp 28), type := 44, pos := "ref.go:29", after := #[{ on := 18, ground := Go.Ground.data }], guard := none }) (v := .int .u64 bs) rfl (by kernel_rfl) (by kernel_rfl) (by kernel_rfl) (fun _ _ _ h => h) (Or.inl ⟨by rfl, fun w' hS' => by first | rfl | (go_simp; done) | (go_simp; rfl)⟩) hH ?_
    try simp only [Act.put, List.setIfInBounds_toArray, List.set_cons_zero, List.set_cons_succ]
    refine wpAnyH_ready (rs := [3]) (by kernel_rfl) (by simp) ?_
    refine AllReadyH.cons (o := { dst := some 13, op := Go.Op.call { callee := Go.Callee.value (Go.Operand.func 24), args := #[Go.Operand.tmp 12, Go.Operand.const (Go.Value.int Go.IntKind.i64 4)], argTypes := #[44, 3] }, type := 9, pos := "ref.go:29", after := #[{ on := 2, ground := Go.Ground.data }], guard := none }) rfl (fun K' hK => ?_) AllReadyH.nil
    rw [if_pos (by rfl)]
    go_wp2_with (go_at_call 24; refine (B1.out _).mono ?_; rintro e wk0 ⟨rfl, gk⟩; have BB0 := Lib.hid (blk_gr gk BB.out); have GG0 := Lib.hid (gtrans G9.out gk); clear gk)
    refine hK.out _ _ (BB0.out) (fun hH1 => ?_)
    clear hK K'
    try simp only [Act.put, List.setIfInBounds_toArray, List.set_cons_zero, List.set_cons_succ]
    refine wpAnyH_take (i := 4) (oi := { dst := some 14, op := Go.Op.binOp Go.BinOp.add 9 (Go.Operand.const (Go.Value.string { data := #[66, 75, 80, 1] })) (Go.Operand.tmp 13) 9, type := 9, pos := "ref.go:29", after := #[{ on := 3, ground := Go.Ground.data }], guard := none }) (v := .string H1) rfl (by kernel_rfl) (by kernel_rfl) (by kernel_rfl) (fun _ _ _ h => h) (Or.inl ⟨by rfl, fun w' hS' => by first | rfl | (go_simp; done) | (go_simp; rfl)⟩) BB0.out ?_
    try simp only [Act.put, List.setIfInBounds_toArray, List.set_cons_zero, List.set_cons_succ]
    refine wpAnyH_ready (rs := [9]) (by kernel_rfl) (by simp) ?_
    refine AllReadyH.cons (o := { dst := some 19, op := Go.Op.call { callee := Go.Callee.value (Go.Operand.func 24), args := #[Go.Operand.tmp 18, Go.Operand.const (Go.Value.int Go.IntKind.i64 4)], argTypes := #[44, 3] }, type := 9, pos := "ref.go:29", after := #[{ on := 8, ground := Go.Ground.data }, { on := 3, ground := Go.Ground.chain }], guard := none }) rfl (fun K' hK => ?_) AllReadyH.nil
    rw [if_pos (by rfl)]
    go_wp2_with (go_at_call 24; refine (B2.out _).mono ?_; rintro e wk1 ⟨rfl, gk⟩; have BB1 := Lib.hid (blk_gr gk BB0.out); have GG1 := Lib.hid (gtrans GG0.out gk); clear gk)
    refine hK.out _ _ (BB1.out) (fun hH2 => ?_)
    clear hK K'
    try simp only [Act.put, List.setIfInBounds_toArray, List.set_cons_zero, List.set_cons_succ]
    refine wpAnyH_take (i := 10) (oi := { dst := some 20, op := Go.Op.binOp Go.BinOp.add 9 (Go.Operand.tmp 14) (Go.Operand.tmp 19) 9, type := 9, pos := "ref.go:29", after := #[{ on := 4, ground := Go.Ground.data }, { on := 9, ground := Go.Ground.data }], guard := none }) (v := .string H2) rfl (by kernel_rfl) (by kernel_rfl) (by kernel_rfl) (fun _ _ _ h => h) (Or.inl ⟨by rfl, fun w' hS' => by first | rfl | (go_simp; done) | (go_simp; rfl)⟩) BB1.out ?_
    try simp only [Act.put, List.setIfInBounds_toArray, List.set_cons_zero, List.set_cons_succ]
    refine wpAnyH_ready (rs := [15]) (by kernel_rfl) (by simp) ?_
    refine AllReadyH.cons (o := { dst := some 25, op := Go.Op.call { callee := Go.Callee.value (Go.Operand.func 24), args := #[Go.Operand.tmp 24, Go.Operand.const (Go.Value.int Go.IntKind.i64 4)], argTypes := #[44, 3] }, type := 9, pos := "ref.go:29", after := #[{ on := 14, ground := Go.Ground.data }, { on := 9, ground := Go.Ground.chain }], guard := none }) rfl (fun K' hK => ?_) AllReadyH.nil
    rw [if_pos (by rfl)]
    go_wp2_with (go_at_call 24; refine (B3.out _).mono ?_; rintro e wk2 ⟨rfl, gk⟩; have BB2 := Lib.hid (blk_gr gk BB1.out); have GG2 := Lib.hid (gtrans GG1.out gk); clear gk)
    refine hK.out _ _ (BB2.out) (fun hH3 => ?_)
    clear hK K'
    try simp only [Act.put, List.setIfInBounds_toArray, List.set_cons_zero, List.set_cons_succ]
    refine wpAnyH_take (i := 16) (oi := { dst := some 26, op := Go.Op.binOp Go.BinOp.add 9 (Go.Operand.tmp 20) (Go.Operand.tmp 25) 9, type := 9, pos := "ref.go:29", after := #[{ on := 10, ground := Go.Ground.data }, { on := 15, ground := Go.Ground.data }], guard := none }) (v := .string H3) rfl (by kernel_rfl) (by kernel_rfl) (by kernel_rfl) (fun _ _ _ h => h) (Or.inl ⟨by rfl, fun w' hS' => by first | rfl | (go_simp; done) | (go_simp; rfl)⟩) BB2.out ?_
    try simp only [Act.put, List.setIfInBounds_toArray, List.set_cons_zero, List.set_cons_succ]
    refine wpAnyH_ready (rs := [20]) (by kernel_rfl) (by simp) ?_
    refine AllReadyH.cons (o := { dst := some 30, op := Go.Op.call { callee := Go.Callee.value (Go.Operand.func 24), args := #[Go.Operand.tmp 29, Go.Operand.const (Go.Value.int Go.IntKind.i64 4)], argTypes := #[44, 3] }, type := 9, pos := "ref.go:29", after := #[{ on := 19, ground := Go.Ground.data }, { on := 15, ground := Go.Ground.chain }], guard := none }) rfl (fun K' hK => ?_) AllReadyH.nil
    rw [if_pos (by rfl)]
    go_wp2_with (go_at_call 24; refine (B4.out _).mono ?_; rintro e wk3 ⟨rfl, gk⟩; have BB3 := Lib.hid (blk_gr gk BB2.out); have GG3 := Lib.hid (gtrans GG2.out gk); clear gk)
    refine hK.out _ _ (BB3.out) (fun hH4 => ?_)
    clear hK K'
    try simp only [Act.put, List.setIfInBounds_toArray, List.set_cons_zero, List.set_cons_succ]
    refine wpAnyH_take (i := 21) (oi := { dst := some 31, op := Go.Op.binOp Go.BinOp.add 9 (Go.Operand.tmp 26) (Go.Operand.tmp 30) 9, type := 9, pos := "ref.go:29", after := #[{ on := 16, ground := Go.Ground.data }, { on := 20, ground := Go.Ground.data }], guard := none }) (v := .string H4) rfl (by kernel_rfl) (by kernel_rfl) (by kernel_rfl) (fun _ _ _ h => h) (Or.inl ⟨by rfl, fun w' hS' => by first | rfl | (go_simp; done) | (go_simp; rfl)⟩) BB3.out ?_
    try simp only [Act.put, List.setIfInBounds_toArray, List.set_cons_zero, List.set_cons_succ]
    refine wpAnyH_take (i := 22) (oi := { dst := some 5, op := Go.Op.assign (Go.Operand.tmp 31), type := 9, pos := "ref.go:29", after := #[{ on := 21, ground := Go.Ground.data }, { on := 20, ground := Go.Ground.chain }, { on := 0, ground := Go.Ground.phase }, { on := 1, ground := Go.Ground.phase }, { on := 2, ground := Go.Ground.phase }, { on := 3, ground := Go.Ground.phase }, { on := 4, ground := Go.Ground.phase }, { on := 5, ground := Go.Ground.phase }, { on := 6, ground := Go.Ground.phase }, { on := 7, ground := Go.Ground.phase }, { on := 8, ground := Go.Ground.phase }, { on := 9, ground := Go.Ground.phase }, { on := 10, ground := Go.Ground.phase }, { on := 11, ground := Go.Ground.phase }, { on := 12, ground := Go.Ground.phase }, { on := 13, ground := Go.Ground.phase }, { on := 14, ground := Go.Ground.phase }, { on := 15, ground := Go.Ground.phase }, { on := 16, ground := Go.Ground.phase }, { on := 17, ground := Go.Ground.phase }, { on := 18, ground := Go.Ground.phase }, { on := 19, ground := Go.Ground.phase }, { on := 20, ground := Go.Ground.phase }, { on := 21, ground := Go.Ground.phase }], guard := none }) (v := .string H4) rfl (by kernel_rfl) (by kernel_rfl) (by kernel_rfl) (fun _ _ _ h => h) (Or.inl ⟨by rfl, fun w' hS' => by first | rfl | (go_simp; done) | (go_simp; rfl)⟩) BB3.out ?_
    try simp only [Act.put, List.setIfInBounds_toArray, List.set_cons_zero, List.set_cons_succ]
    refine wpAnyH_done (by kernel_rfl) ?_ _
    go_upto_region 5 with fail
    have BD := Lib.hid (show wk3.drew.heap[xb]? = some (.cells #[.int .i64 en, .string tx, .string da, .int .i64 bs] 23) from BB3.out)
    have GD := Lib.hid (Below.drew GG3.out)
    refine wp_region_held_drew (S := fun w' => w'.heap[xb]? = some (.cells #[.int .i64 en, .string tx, .string da, .int .i64 bs] 23)) (by kernel_rfl) (BD.out) (fun hH => ?_)
    generalize wk3.drew = we at *
    try simp only [Act.put, List.setIfInBounds_toArray, List.set_cons_zero, List.set_cons_succ]
    refine wpAnyH_take (i := 0) (oi := { dst := some 32, op := Go.Op.move (Go.Operand.tmp 5), type := 9, pos := "ref.go:30", after := #[], guard := none }) (v := .string H4) rfl (by kernel_rfl) (by kernel_rfl) (by kernel_rfl) (fun _ _ _ h => h) (Or.inl ⟨by rfl, fun w' hS' => by first | rfl | (go_simp; done) | (go_simp; rfl)⟩) BD.out ?_
    try simp only [Act.put, List.setIfInBounds_toArray, List.set_cons_zero, List.set_cons_succ]
    refine wpAnyH_take (i := 4) (oi := { dst := some 36, op := Go.Op.fieldAddr 23 (Go.Operand.tmp 1) 1, type := 0, pos := "ref.go:30", after := #[], guard := none }) (v := .pointer (some ⟨xb, 1, none⟩)) rfl (by kernel_rfl) (by kernel_rfl) (by kernel_rfl) (fun _ _ _ h => h) (Or.inl ⟨by rfl, fun w' hS' => by first | rfl | (go_simp; done) | (go_simp; rfl)⟩) BD.out ?_
    try simp only [Act.put, List.setIfInBounds_toArray, List.set_cons_zero, List.set_cons_succ]
    refine wpAnyH_take (i := 5) (oi := { dst := some 37, op := Go.Op.load 9 (Go.Operand.tmp 36), type := 9, pos := "ref.go:30", after := #[{ on := 4, ground := Go.Ground.data }], guard := none }) (v := .string tx) rfl (by kernel_rfl) (by kernel_rfl) (by kernel_rfl) (fun _ _ _ h => h) (Or.inl ⟨by rfl, fun w' hS' => by have c := blk_cell hS' 1 (v := .string tx) rfl; go_simp⟩) BD.out ?_
    try simp only [Act.put, List.setIfInBounds_toArray, List.set_cons_zero, List.set_cons_succ]
    refine wpAnyH_take (i := 7) (oi := { dst := some 39, op := Go.Op.fieldAddr 23 (Go.Operand.tmp 1) 2, type := 0, pos := "ref.go:30", after := #[], guard := none }) (v := .pointer (some ⟨xb, 2, none⟩)) rfl (by kernel_rfl) (by kernel_rfl) (by kernel_rfl) (fun _ _ _ h => h) (Or.inl ⟨by rfl, fun w' hS' => by first | rfl | (go_simp; done) | (go_simp; rfl)⟩) BD.out ?_
    try simp only [Act.put, List.setIfInBounds_toArray, List.set_cons_zero, List.set_cons_succ]
    refine wpAnyH_take (i := 8) (oi := { dst := some 40, op := Go.Op.load 9 (Go.Operand.tmp 39), type := 9, pos := "ref.go:30", after := #[{ on := 7, ground := Go.Ground.data }], guard := none }) (v := .string da) rfl (by kernel_rfl) (by kernel_rfl) (by kernel_rfl) (fun _ _ _ h => h) (Or.inl ⟨by rfl, fun w' hS' => by have c := blk_cell hS' 2 (v := .string da) rfl; go_simp⟩) BD.out ?_
    try simp only [Act.put, List.setIfInBounds_toArray, List.set_cons_zero, List.set_cons_succ]
    refine wpAnyH_ready (rs := [1]) (by kernel_rfl) (by simp) ?_
    refine AllReadyH.cons (o := { dst := some 33, op := Go.Op.makeSlice 55 (Go.Operand.const (Go.Value.int Go.IntKind.i64 12)) (Go.Operand.const (Go.Value.int Go.IntKind.i64 12)), type := 55, pos := "ref.go:30", after := #[], guard := none }) rfl (fun K' hK => ?_) AllReadyH.nil
    rw [if_pos (by rfl)]
    have mk : ∀ w, (Instr.makeSlice 55 (.int .i64 12) (.int .i64 12)).run Try.prog w = .ok (.slice (some ⟨w.heap.size, 0, none⟩) 12 12) (w.alloc (.cells (bys zer12) 5)) := fun w => mk_bytes 12 (by decide) w
    go_simp
    have BN := Lib.hid (blk_new we (.cells (bys zer12) 5))
    have BX := Lib.hid (blk_alloc (.cells (bys zer12) 5) BD.out)
    have GN := Lib.hid (GD.out.alloc GD.out.size (.cells (bys zer12) 5))
    refine hK.out _ _ BX.out (fun hHm => ?_)
    clear hK K' mk
    try simp only [Act.put, List.setIfInBounds_toArray, List.set_cons_zero, List.set_cons_succ]
    generalize (World.alloc we _) = wn at *
    generalize we.heap.size = nb at *
    have cv : (convert 55 9 (.slice (some ⟨nb, 0, none⟩) 12 12)).run Try.prog wn = .ok (.string noughtB) wn := bytes_back wn nb 12 12 zer12 rfl (fun j hj => blk_cell BN.out j (bys12 j hj))
    refine wpAnyH_ready (rs := [2]) (by kernel_rfl) (by simp) ?_
    refine AllReadyH.cons (o := { dst := some 34, op := Go.Op.convert 55 9 (Go.Operand.tmp 33), type := 9, pos := "ref.go:30", after := #[{ on := 1, ground := Go.Ground.data }], guard := none }) rfl (fun K' hK => ?_) AllReadyH.nil
    rw [if_pos (by rfl)]
    go_wp2_with fail
    refine hK.out _ _ BX.out (fun hHn => ?_)
    clear hK K'
    try simp only [Act.put, List.setIfInBounds_toArray, List.set_cons_zero, List.set_cons_succ]
    refine wpAnyH_take (i := 3) (oi := { dst := some 35, op := Go.Op.binOp Go.BinOp.add 9 (Go.Operand.tmp 32) (Go.Operand.tmp 34) 9, type := 9, pos := "ref.go:30", after := #[{ on := 0, ground := Go.Ground.data }, { on := 2, ground := Go.Ground.data }], guard := none }) (v := .string H5) rfl (by kernel_rfl) (by kernel_rfl) (by kernel_rfl) (fun _ _ _ h => h) (Or.inl ⟨by rfl, fun w' hS' => by first | rfl | (go_simp; done) | (go_simp; rfl)⟩) BX.out ?_
    try simp only [Act.put, List.setIfInBounds_toArray, List.set_cons_zero, List.set_cons_succ]
    refine wpAnyH_take (i := 6) (oi := { dst := some 38, op := Go.Op.binOp Go.BinOp.add 9 (Go.Operand.tmp 35) (Go.Operand.tmp 37) 9, type := 9, pos := "ref.go:30", after := #[{ on := 3, ground := Go.Ground.data }, { on := 5, ground := Go.Ground.data }], guard := none }) (v := .string H6) rfl (by kernel_rfl) (by kernel_rfl) (by kernel_rfl) (fun _ _ _ h => h) (Or.inl ⟨by rfl, fun w' hS' => by first | rfl | (go_simp; done) | (go_simp; rfl)⟩) BX.out ?_
    try simp only [Act.put, List.setIfInBounds_toArray, List.set_cons_zero, List.set_cons_succ]
    refine wpAnyH_take (i := 9) (oi := { dst := some 41, op := Go.Op.binOp Go.BinOp.add 9 (Go.Operand.tmp 38) (Go.Operand.tmp 40) 9, type := 9, pos := "ref.go:30", after := #[{ on := 6, ground := Go.Ground.data }, { on := 8, ground := Go.Ground.data }], guard := none }) (v := .string S) rfl (by kernel_rfl) (by kernel_rfl) (by kernel_rfl) (fun _ _ _ h => h) (Or.inl ⟨by rfl, fun w' hS' => by first | rfl | (go_simp; done) | (go_simp; rfl)⟩) BX.out ?_
    try simp only [Act.put, List.setIfInBounds_toArray, List.set_cons_zero, List.set_cons_succ]
    refine wpAnyH_take (i := 10) (oi := { dst := some 2, op := Go.Op.assign (Go.Operand.tmp 41), type := 9, pos := "ref.go:30", after := #[{ on := 9, ground := Go.Ground.data }, { on := 0, ground := Go.Ground.phase }, { on := 1, ground := Go.Ground.phase }, { on := 2, ground := Go.Ground.phase }, { on := 3, ground := Go.Ground.phase }, { on := 4, ground := Go.Ground.phase }, { on := 5, ground := Go.Ground.phase }, { on := 6, ground := Go.Ground.phase }, { on := 7, ground := Go.Ground.phase }, { on := 8, ground := Go.Ground.phase }, { on := 9, ground := Go.Ground.phase }], guard := none }) (v := .string S) rfl (by kernel_rfl) (by kernel_rfl) (by kernel_rfl) (fun _ _ _ h => h) (Or.inl ⟨by rfl, fun w' hS' => by first | rfl | (go_simp; done) | (go_simp; rfl)⟩) BX.out ?_
    try simp only [Act.put, List.setIfInBounds_toArray, List.set_cons_zero, List.set_cons_succ]
    refine wpAnyH_take (i := 11) (oi := { dst := some 3, op := Go.Op.assign (Go.Operand.const (Go.Value.int Go.IntKind.i64 0)), type := 3, pos := "ref.go:30", after := #[{ on := 10, ground := Go.Ground.chain }, { on := 0, ground := Go.Ground.phase }, { on := 1, ground := Go.Ground.phase }, { on := 2, ground := Go.Ground.phase }, { on := 3, ground := Go.Ground.phase }, { on := 4, ground := Go.Ground.phase }, { on := 5, ground := Go.Ground.phase }, { on := 6, ground := Go.Ground.phase }, { on := 7, ground := Go.Ground.phase }, { on := 8, ground := Go.Ground.phase }, { on := 9, ground := Go.Ground.phase }, { on := 10, ground := Go.Ground.phase }], guard := none }) (v := .int .i64 0) rfl (by kernel_rfl) (by kernel_rfl) (by kernel_rfl) (fun _ _ _ h => h) (Or.inl ⟨by rfl, fun w' hS' => by first | rfl | (go_simp; done) | (go_simp; rfl)⟩) BX.out ?_
    try simp only [Act.put, List.setIfInBounds_toArray, List.set_cons_zero, List.set_cons_succ]
    refine wpAnyH_done (by kernel_rfl) ?_ _
    go_wp2_with fail
    go_ret2
    exact ⟨rfl, GN.out⟩
end Go.Proofs.Ytdlglnoffpnonaa.P
namespace Go.Proofs.Ytdlglnoffpnonaa.P
open Go.RowKit
def ddP (s : ByteArray) : Pg := bif docOK s then docC s else pg0
def ddE (s : ByteArray) : Int := bif docOK s then 0 else 6
theorem dd_is (s : ByteArray) : ddP s = decP s ∧ ddE s = decE s := by
  obtain ⟨h1, h2⟩ := doc_is s
  unfold ddP ddE decP decE
  rw [← h1]
  cases h : docOK s with
  | false => simp only [cond_false, and_self]
  | true => rw [h2 h]; exact ⟨rfl, rfl⟩
set_option maxHeartbeats 6400000 in
theorem r_decode12 (s : ByteArray) (hs : s.size ≤ maxLen) (w : World) :
    Calls Try.prog 12 #[.string s] w fun e w' => e = .returned (.tuple #[pgV (decP s), .int .i64 (decE s)]) ∧ Gr w w' := by
  rw [← (dd_is s).1, ← (dd_is s).2]
  unfold maxLen at hs
  unfold ddP ddE
  obtain ⟨d, hd⟩ : ∃ d, docOK s = d := ⟨_, rfl⟩
  rw [hd]
  have HDEC0 := hd
  unfold docOK at HDEC0
  by_cases h1 : 32 ≤ s.size
  rotate_left
  · rw [decide_eq_false h1, Bool.false_and] at HDEC0
    subst HDEC0
    have m1 : (s.size : Int) < 32 := by omega
    clear hd
    have BZ := Lib.hid (blk_new w (.cells (pgC pg0) 23))
    go_enter Try.func12, Try.ntmps12
    go_wp2_with (refine wpList_store_row rfl 23 _ _ rfl _ (pgC pg0) rfl rfl 23 _ BZ.out pg_info rfl (pgC_all _) ?_)
    first
      | (refine bodyPost_ret (res2' rfl _ _ _ w.heap.size (pgV pg0) rfl (ldP (blk_new _ _))) rfl ?_; exact ⟨rfl, (Gr.refl w).alloc (Nat.le_refl _) _⟩)
      | (refine bodyPost_ret (res2' rfl _ _ _ w.heap.size (pgV pg0) rfl (ldP (setRow_heap _ _ _ (pgC pg0) _ _ BZ.out))) rfl ?_; exact ⟨rfl, below_setRow ((Gr.refl w).alloc (Nat.le_refl _) _) (Nat.le_refl _) _⟩)
  rw [decide_eq_true h1, Bool.true_and] at HDEC0
  have m1 : ¬ (s.size : Int) < 32 := by omega
  have y6 : (8 : Int) ≤ (s.size : Int) := by omega
  have y7 : (20 : Int) ≤ (s.size : Int) := by omega
  have y8 : (12 : Int) ≤ (s.size : Int) := by omega
  have y9 : (16 : Int) ≤ (s.size : Int) := by omega
  have OF : RowKit.Hid (∀ k w, k + 4 ≤ s.size → Calls Try.prog 27 #[.string (s.extract k (k + 4))] w fun e w' => e = .returned (.int .u64 (fldF s k)) ∧ w' = w) := Lib.hid (fun k w hk => W.c_rof _ (by rw [ByteArray.size_extract]; unfold maxLen; omega) w)
  obtain ⟨n0, n1⟩ := fld_bd s 8
  obtain ⟨k0, k1⟩ := fld_bd s 12
  obtain ⟨N, hN⟩ : ∃ N : Nat, fldF s 8 = N := ⟨(fldF s 8).toNat, by omega⟩
  obtain ⟨K, hK⟩ : ∃ N : Nat, fldF s 12 = N := ⟨(fldF s 12).toNat, by omega⟩
  rw [hN] at n0 n1 HDEC0
  rw [hK] at k0 k1 HDEC0
  have O8 : RowKit.Hid (∀ w, Calls Try.prog 27 #[.string (s.extract 8 12)] w fun e w' => e = .returned (.int .u64 (N : Int)) ∧ w' = w) := Lib.hid (fun w => by have := OF.out 8 w (by omega); rw [hN] at this; exact this)
  have O12 : RowKit.Hid (∀ w, Calls Try.prog 27 #[.string (s.extract 12 16)] w fun e w' => e = .returned (.int .u64 (K : Int)) ∧ w' = w) := Lib.hid (fun w => by have := OF.out 12 w (by omega); rw [hK] at this; exact this)
  have v1 : IntKind.i64.wrap (N : Int) = (N : Int) := by rw [IntKind.wrap_i64]; omega
  have v2 : IntKind.i64.wrap (K : Int) = (K : Int) := by rw [IntKind.wrap_i64]; omega
  have v3 : IntKind.i64.wrap (32 + (N : Int)) = 32 + (N : Int) := by rw [IntKind.wrap_i64]; omega
  have v4 : IntKind.i64.wrap (32 + (N : Int) + (K : Int)) = 32 + (N : Int) + (K : Int) := by rw [IntKind.wrap_i64]; omega
  by_cases hbad : (N : Int) ≤ 4096 ∧ (K : Int) ≤ 4096 ∧ (s.size : Int) = 32 + (N : Int) + (K : Int)
  rotate_left
  · have hfl : d = false := by
      rw [← HDEC0]
      by_cases a1 : (N : Int) ≤ 4096
      · by_cases a2 : (K : Int) ≤ 4096
        · rw [decide_eq_true a1, decide_eq_true a2, decide_eq_false (fun a3 => hbad ⟨a1, a2, a3⟩)]; rfl
        · rw [decide_eq_true a1, decide_eq_false a2]; rfl
      · rw [decide_eq_false a1]; rfl
    subst hfl
    have BZ := Lib.hid (blk_new w (.cells (pgC pg0) 23))
    clear HDEC0 hN hK OF hd
    have hc : 4096 < (N : Int) ∨ (¬ 4096 < (N : Int) ∧ 4096 < (K : Int)) ∨ (¬ 4096 < (N : Int) ∧ ¬ 4096 < (K : Int) ∧ ((s.size : Int) == 32 + (N : Int) + (K : Int)) = false) := by
      by_cases a1 : 4096 < (N : Int)
      · exact .inl a1
      · by_cases a2 : 4096 < (K : Int)
        · exact .inr (.inl ⟨a1, a2⟩)
        · refine .inr (.inr ⟨a1, a2, ?_⟩)
          simp only [beq_eq_false_iff_ne]
          intro a3
          exact hbad ⟨by omega, by omega, a3⟩
    clear hbad
    rcases hc with a1 | ⟨a1, a2⟩ | ⟨a1, a2, a3⟩
    all_goals
      first
        | (have a4 : ((s.size : Int) != 32 + (N : Int) + (K : Int)) = true := by rw [bne, a3]; rfl)
        | skip
      go_enter Try.func12, Try.ntmps12
      go_upto_region 4 with (go_at_call 27; refine (O8.out _).mono ?_; rintro e w2 ⟨rfl, hw2⟩; rw [hw2]; clear hw2 w2)
      go_wp2_with (first
        | (go_at_call 27; refine (O12.out _).mono ?_; rintro e w2 ⟨rfl, hw2⟩; rw [hw2]; clear hw2 w2)
        | (refine wpList_store_row rfl 23 _ _ rfl _ (pgC pg0) rfl rfl 23 _ BZ.out pg_info rfl (pgC_all _) ?_))
      first
        | (refine bodyPost_ret (res2' rfl _ _ _ w.heap.size (pgV pg0) rfl (ldP (blk_new _ _))) rfl ?_; exact ⟨rfl, (Gr.refl w).alloc (Nat.le_refl _) _⟩)
        | (refine bodyPost_ret (res2' rfl _ _ _ w.heap.size (pgV pg0) rfl (ldP (setRow_heap _ _ _ (pgC pg0) _ _ BZ.out))) rfl ?_; exact ⟨rfl, below_setRow ((Gr.refl w).alloc (Nat.le_refl _) _) (Nat.le_refl _) _⟩)
  obtain ⟨b1, b2, b3⟩ := hbad
  rw [decide_eq_true b1, decide_eq_true b2, decide_eq_true b3, Bool.true_and, Bool.true_and, Bool.true_and] at HDEC0
  have dc : docC s = ⟨fldF s 4, s.extract 32 (32 + N), s.extract (32 + N) s.size, fldF s 16⟩ := by unfold docC; rw [hN]; rfl
  have OF4 : RowKit.Hid (∀ w, Calls Try.prog 27 #[.string (s.extract 4 8)] w fun e w' => e = .returned (.int .u64 (fldF s 4)) ∧ w' = w) := Lib.hid (fun w => OF.out 4 w (by omega))
  have OF16 : RowKit.Hid (∀ w, Calls Try.prog 27 #[.string (s.extract 16 20)] w fun e w' => e = .returned (.int .u64 (fldF s 16)) ∧ w' = w) := Lib.hid (fun w => OF.out 16 w (by omega))
  have EN := Lib.hid (fun w => r_encode12 (docC s) (by rw [dc]; show (s.extract _ _).size ≤ maxLen; rw [ByteArray.size_extract]; unfold maxLen; omega) (by rw [dc]; show (s.extract _ _).size ≤ maxLen; rw [ByteArray.size_extract]; unfold maxLen; omega) w)
  rw [dc] at EN HDEC0 ⊢
  obtain ⟨e0, e1⟩ := fld_bd s 4
  obtain ⟨f0, f1⟩ := fld_bd s 16
  generalize fldF s 4 = en at *
  generalize fldF s 16 = bs at *
  have x1 : IntKind.i64.wrap en = en := by rw [IntKind.wrap_i64]; omega
  have x2 : IntKind.i64.wrap bs = bs := by rw [IntKind.wrap_i64]; omega
  obtain ⟨tx, htx⟩ : ∃ t, s.extract 32 (32 + N) = t := ⟨_, rfl⟩
  obtain ⟨da, hda⟩ : ∃ t, s.extract (32 + N) s.size = t := ⟨_, rfl⟩
  rw [htx, hda] at EN HDEC0 ⊢
  have HDEC := Lib.hid HDEC0.symm
  have y0 : (32 + (N : Int)).toNat = 32 + N := by omega
  have y1 : 0 ≤ 32 + (N : Int) := by omega
  have y2 : 32 + (N : Int) ≤ (s.size : Int) := by omega
  have y3 : (32 : Int) ≤ 32 + (N : Int) := by omega
  have y4 : ¬ 4096 < (N : Int) := by omega
  have y5 : ¬ 4096 < (K : Int) := by omega
  have b4 : ((s.size : Int) == 32 + (N : Int) + (K : Int)) = true := by rw [b3]; exact beq_self_eq_true _
  have b5 : ((s.size : Int) != 32 + (N : Int) + (K : Int)) = false := by rw [bne, b4]; rfl
  clear HDEC0 hN hK OF dc hd n0 n1 k0 k1 b3 b1 b2 e0 e1 f0 f1
  have Z0 := Lib.hid (show ((w.alloc (.cells #[.int .i64 0, .string ⟨#[]⟩, .string ⟨#[]⟩, .int .i64 0] 23)).heap[w.heap.size]? = some (.cells #[.int .i64 0, .string ⟨#[]⟩, .string ⟨#[]⟩, .int .i64 0] 23) ∧ Gr w (w.alloc (.cells #[.int .i64 0, .string ⟨#[]⟩, .string ⟨#[]⟩, .int .i64 0] 23))) from ⟨blk_new _ _, (Gr.refl w).alloc (Nat.le_refl _) _⟩)
  go_enter Try.func12, Try.ntmps12
  go_upto_region 1 with fail
  obtain ⟨wb, hw1⟩ : ∃ w1, w.alloc (.cells #[.int .i64 0, .string ⟨#[]⟩, .string ⟨#[]⟩, .int .i64 0] 23) = w1 := ⟨_, rfl⟩
  rw [hw1] at Z0
  rw [hw1]
  clear hw1
  obtain ⟨rb, hrb⟩ : ∃ n, w.heap.size = n := ⟨_, rfl⟩
  have RN := Lib.hid (show w.heap.size ≤ rb by omega)
  rw [hrb] at Z0
  rw [hrb]
  clear hrb
  go_upto_region 4 with (go_at_call 27; refine (O8.out _).mono ?_; rintro e w2 ⟨rfl, hw2⟩; rw [hw2]; clear hw2 w2)
  go_upto_region 7 with (go_at_call 27; refine (O12.out _).mono ?_; rintro e w2 ⟨rfl, hw2⟩; rw [hw2]; clear hw2 w2)
  have HD0 := Lib.hid (show (wb.drew.heap[rb]? = some (.cells #[.int .i64 0, .string ⟨#[]⟩, .string ⟨#[]⟩, .int .i64 0] 23) ∧ Gr w wb.drew) from ⟨Z0.out.1, Below.drew Z0.out.2⟩)
  clear O8 O12 Z0
  refine wp_region_held_drew (S := fun w' => w'.heap[rb]? = some (.cells #[.int .i64 0, .string ⟨#[]⟩, .string ⟨#[]⟩, .int .i64 0] 23) ∧ Gr w w') (by kernel_rfl) HD0.out (fun hH => ?_)
  have HD := Lib.hid HD0.out
  clear HD0
  generalize wb.drew = wd at *
  try simp only [Act.put, List.setIfInBounds_toArray, List.set_cons_zero, List.set_cons_succ]
  refine wpAnyH_take (i := 0) (oi := { dst := some 37, op := Go.Op.move (Go.Operand.tmp 0), type := 9, pos := "ref.go:43", after := #[], guard := none }) (v := .string s) rfl (by kernel_rfl) (by kernel_rfl) (by kernel_rfl) (fun _ _ _ h => h) (Or.inl ⟨by rfl, fun w' hS' => by first | rfl | (go_simp; done) | (go_simp; rfl)⟩) HD.out ?_
  try simp only [Act.put, List.setIfInBounds_toArray, List.set_cons_zero, List.set_cons_succ]
  refine wpAnyH_take (i := 1) (oi := { dst := some 38, op := Go.Op.slice 9 (Go.Operand.tmp 37) (some (Go.Operand.const (Go.Value.int Go.IntKind.i64 4))) (some (Go.Operand.const (Go.Value.int Go.IntKind.i64 8))) none, type := 9, pos := "ref.go:43", after := #[{ on := 0, ground := Go.Ground.data }], guard := none }) (v := .string (s.extract 4 8)) rfl (by kernel_rfl) (by kernel_rfl) (by kernel_rfl) (fun _ _ _ h => h) (Or.inl ⟨by rfl, fun w' hS' => by first | rfl | (go_simp; done) | (go_simp; rfl)⟩) HD.out ?_
  try simp only [Act.put, List.setIfInBounds_toArray, List.set_cons_zero, List.set_cons_succ]
  refine wpAnyH_take (i := 4) (oi := { dst := some 41, op := Go.Op.move (Go.Operand.tmp 0), type := 9, pos := "ref.go:43", after := #[], guard := none }) (v := .string s) rfl (by kernel_rfl) (by kernel_rfl) (by kernel_rfl) (fun _ _ _ h => h) (Or.inl ⟨by rfl, fun w' hS' => by first | rfl | (go_simp; done) | (go_simp; rfl)⟩) HD.out ?_
  try simp only [Act.put, List.setIfInBounds_toArray, List.set_cons_zero, List.set_cons_succ]
  refine wpAnyH_take (i := 5) (oi := { dst := some 42, op := Go.Op.move (Go.Operand.tmp 4), type := 3, pos := "ref.go:43", after := #[], guard := none }) (v := .int .i64 (N : Int)) rfl (by kernel_rfl) (by kernel_rfl) (by kernel_rfl) (fun _ _ _ h => h) (Or.inl ⟨by rfl, fun w' hS' => by first | rfl | (go_simp; done) | (go_simp; rfl)⟩) HD.out ?_
  try simp only [Act.put, List.setIfInBounds_toArray, List.set_cons_zero, List.set_cons_succ]
  refine wpAnyH_take (i := 6) (oi := { dst := some 43, op := Go.Op.binOp Go.BinOp.add 3 (Go.Operand.const (Go.Value.int Go.IntKind.i64 32)) (Go.Operand.tmp 42) 3, type := 3, pos := "ref.go:43", after := #[{ on := 5, ground := Go.Ground.data }], guard := none }) (v := .int .i64 (32 + (N : Int))) rfl (by kernel_rfl) (by kernel_rfl) (by kernel_rfl) (fun _ _ _ h => h) (Or.inl ⟨by rfl, fun w' hS' => by first | rfl | (go_simp; done) | (go_simp; rfl)⟩) HD.out ?_
  try simp only [Act.put, List.setIfInBounds_toArray, List.set_cons_zero, List.set_cons_succ]
  refine wpAnyH_take (i := 7) (oi := { dst := some 44, op := Go.Op.slice 9 (Go.Operand.tmp 41) (some (Go.Operand.const (Go.Value.int Go.IntKind.i64 32))) (some (Go.Operand.tmp 43)) none, type := 9, pos := "ref.go:43", after := #[{ on := 4, ground := Go.Ground.data }, { on := 6, ground := Go.Ground.data }], guard := none }) (v := .string tx) rfl (by kernel_rfl) (by kernel_rfl) (by kernel_rfl) (fun _ _ _ h => h) (Or.inl ⟨by rfl, fun w' hS' => by first | rfl | (go_simp; done) | (go_simp; rfl)⟩) HD.out ?_
  try simp only [Act.put, List.setIfInBounds_toArray, List.set_cons_zero, List.set_cons_succ]
  refine wpAnyH_take (i := 8) (oi := { dst := some 45, op := Go.Op.move (Go.Operand.tmp 0), type := 9, pos := "ref.go:43", after := #[], guard := none }) (v := .string s) rfl (by kernel_rfl) (by kernel_rfl) (by kernel_rfl) (fun _ _ _ h => h) (Or.inl ⟨by rfl, fun w' hS' => by first | rfl | (go_simp; done) | (go_simp; rfl)⟩) HD.out ?_
  try simp only [Act.put, List.setIfInBounds_toArray, List.set_cons_zero, List.set_cons_succ]
  refine wpAnyH_take (i := 9) (oi := { dst := some 46, op := Go.Op.move (Go.Operand.tmp 4), type := 3, pos := "ref.go:43", after := #[], guard := none }) (v := .int .i64 (N : Int)) rfl (by kernel_rfl) (by kernel_rfl) (by kernel_rfl) (fun _ _ _ h => h) (Or.inl ⟨by rfl, fun w' hS' => by first | rfl | (go_simp; done) | (go_simp; rfl)⟩) HD.out ?_
  try simp only [Act.put, List.setIfInBounds_toArray, List.set_cons_zero, List.set_cons_succ]
  refine wpAnyH_take (i := 10) (oi := { dst := some 47, op := Go.Op.binOp Go.BinOp.add 3 (Go.Operand.const (Go.Value.int Go.IntKind.i64 32)) (Go.Operand.tmp 46) 3, type := 3, pos := "ref.go:43", after := #[{ on := 9, ground := Go.Ground.data }], guard := none }) (v := .int .i64 (32 + (N : Int))) rfl (by kernel_rfl) (by kernel_rfl) (by kernel_rfl) (fun _ _ _ h => h) (Or.inl ⟨by rfl, fun w' hS' => by first | rfl | (go_simp; done) | (go_simp; rfl)⟩) HD.out ?_
  try simp only [Act.put, List.setIfInBounds_toArray, List.set_cons_zero, List.set_cons_succ]
  refine wpAnyH_take (i := 11) (oi := { dst := some 48, op := Go.Op.slice 9 (Go.Operand.tmp 45) (some (Go.Operand.tmp 47)) none none, type := 9, pos := "ref.go:43", after := #[{ on := 8, ground := Go.Ground.data }, { on := 10, ground := Go.Ground.data }], guard := none }) (v := .string da) rfl (by kernel_rfl) (by kernel_rfl) (by kernel_rfl) (fun _ _ _ h => h) (Or.inl ⟨by rfl, fun w' hS' => by first | rfl | (go_simp; done) | (go_simp; rfl)⟩) HD.out ?_
  try simp only [Act.put, List.setIfInBounds_toArray, List.set_cons_zero, List.set_cons_succ]
  refine wpAnyH_take (i := 12) (oi := { dst := some 49, op := Go.Op.move (Go.Operand.tmp 0), type := 9, pos := "ref.go:43", after := #[], guard := none }) (v := .string s) rfl (by kernel_rfl) (by kernel_rfl) (by kernel_rfl) (fun _ _ _ h => h) (Or.inl ⟨by rfl, fun w' hS' => by first | rfl | (go_simp; done) | (go_simp; rfl)⟩) HD.out ?_
  try simp only [Act.put, List.setIfInBounds_toArray, List.set_cons_zero, List.set_cons_succ]
  refine wpAnyH_take (i := 13) (oi := { dst := some 50, op := Go.Op.slice 9 (Go.Operand.tmp 49) (some (Go.Operand.const (Go.Value.int Go.IntKind.i64 16))) (some (Go.Operand.const (Go.Value.int Go.IntKind.i64 20))) none, type := 9, pos := "ref.go:43", after := #[{ on := 12, ground := Go.Ground.data }], guard := none }) (v := .string (s.extract 16 20)) rfl (by kernel_rfl) (by kernel_rfl) (by kernel_rfl) (fun _ _ _ h => h) (Or.inl ⟨by rfl, fun w' hS' => by first | rfl | (go_simp; done) | (go_simp; rfl)⟩) HD.out ?_
  try simp only [Act.put, List.setIfInBounds_toArray, List.set_cons_zero, List.set_cons_succ]
  refine wpAnyH_ready (rs := [2, 17]) (by kernel_rfl) (by simp) ?_
  refine AllReadyH.cons (o := { dst := some 39, op := Go.Op.call { callee := Go.Callee.value (Go.Operand.func 27), args := #[Go.Operand.tmp 38], argTypes := #[9] }, type := 44, pos := "ref.go:43", after := #[{ on := 1, ground := Go.Ground.data }], guard := none }) rfl (fun K' hK => ?_) (AllReadyH.cons (o := { dst := some 6, op := Go.Op.alloc 23, type := 0, pos := "ref.go:43", after := #[], guard := none }) rfl (fun K' hK => ?_) AllReadyH.nil)
  · rw [if_pos (by rfl)]
    go_wp2_with (go_at_call 27; refine (OF4.out _).mono ?_; rintro e wk ⟨rfl, hwk⟩; rw [hwk]; clear hwk wk)
    refine hK.out _ _ (HD.out) (fun hh1 => ?_)
    clear hK K'
    try simp only [Act.put, List.setIfInBounds_toArray, List.set_cons_zero, List.set_cons_succ]
    refine wpAnyH_take (i := 3) (oi := { dst := some 40, op := Go.Op.convert 44 3 (Go.Operand.tmp 39), type := 3, pos := "ref.go:43", after := #[{ on := 2, ground := Go.Ground.data }], guard := none }) (v := .int .i64 en) rfl (by kernel_rfl) (by kernel_rfl) (by kernel_rfl) (fun _ _ _ h => h) (Or.inl ⟨by rfl, fun w' hS' => by first | rfl | (go_simp; done) | (go_simp; rfl)⟩) HD.out ?_
    try simp only [Act.put, List.setIfInBounds_toArray, List.set_cons_zero, List.set_cons_succ]
    refine wpAnyH_ready (rs := [14, 17]) (by kernel_rfl) (by simp) ?_
    refine AllReadyH.cons (o := { dst := some 51, op := Go.Op.call { callee := Go.Callee.value (Go.Operand.func 27), args := #[Go.Operand.tmp 50], argTypes := #[9] }, type := 44, pos := "ref.go:43", after := #[{ on := 13, ground := Go.Ground.data }, { on := 2, ground := Go.Ground.chain }], guard := none }) rfl (fun K' hK => ?_) (AllReadyH.cons (o := { dst := some 6, op := Go.Op.alloc 23, type := 0, pos := "ref.go:43", after := #[], guard := none }) rfl (fun K' hK => ?_) AllReadyH.nil)
    · rw [if_pos (by rfl)]
      go_wp2_with (go_at_call 27; refine (OF16.out _).mono ?_; rintro e wk ⟨rfl, hwk⟩; rw [hwk]; clear hwk wk)
      refine hK.out _ _ (HD.out) (fun hh2 => ?_)
      clear hK K'
      try simp only [Act.put, List.setIfInBounds_toArray, List.set_cons_zero, List.set_cons_succ]
      refine wpAnyH_take (i := 15) (oi := { dst := some 52, op := Go.Op.convert 44 3 (Go.Operand.tmp 51), type := 3, pos := "ref.go:43", after := #[{ on := 14, ground := Go.Ground.data }], guard := none }) (v := .int .i64 bs) rfl (by kernel_rfl) (by kernel_rfl) (by kernel_rfl) (fun _ _ _ h => h) (Or.inl ⟨by rfl, fun w' hS' => by first | rfl | (go_simp; done) | (go_simp; rfl)⟩) HD.out ?_
      try simp only [Act.put, List.setIfInBounds_toArray, List.set_cons_zero, List.set_cons_succ]
      refine wpAnyH_take (i := 16) (oi := { dst := some 53, op := Go.Op.build 23 #[(0, Go.Operand.tmp 40), (1, Go.Operand.tmp 44), (2, Go.Operand.tmp 48), (3, Go.Operand.tmp 52)], type := 23, pos := "ref.go:43", after := #[{ on := 3, ground := Go.Ground.data }, { on := 7, ground := Go.Ground.data }, { on := 11, ground := Go.Ground.data }, { on := 15, ground := Go.Ground.data }], guard := none }) (v := .agg (pgC ⟨en, tx, da, bs⟩)) rfl (by kernel_rfl) (by kernel_rfl) (by kernel_rfl) (fun _ _ _ h => h) (Or.inl ⟨by rfl, fun w' hS' => by first | rfl | (go_simp; done) | (go_simp; rfl)⟩) HD.out ?_
      try simp only [Act.put, List.setIfInBounds_toArray, List.set_cons_zero, List.set_cons_succ]
      refine wpAnyH_ready (rs := [17]) (by kernel_rfl) (by simp) ?_
      refine AllReadyH.cons (o := { dst := some 6, op := Go.Op.alloc 23, type := 0, pos := "ref.go:43", after := #[], guard := none }) rfl (fun K' hK => ?_) AllReadyH.nil
      have SA := Lib.hid (show ((wd.alloc (.cells #[.int .i64 0, .string ⟨#[]⟩, .string ⟨#[]⟩, .int .i64 0] 23)).heap[rb]? = some (.cells #[.int .i64 0, .string ⟨#[]⟩, .string ⟨#[]⟩, .int .i64 0] 23) ∧ Gr w (wd.alloc (.cells #[.int .i64 0, .string ⟨#[]⟩, .string ⟨#[]⟩, .int .i64 0] 23))) from ⟨blk_alloc _ HD.out.1, HD.out.2.alloc HD.out.2.size _⟩)
      have NB := Lib.hid (blk_new wd (.cells #[.int .i64 0, .string ⟨#[]⟩, .string ⟨#[]⟩, .int .i64 0] 23))
      rw [if_pos (by rfl)]
      go_simp
      refine hK.out _ _ (SA.out) (fun hh3 => ?_)
      clear hK K'
      try simp only [Act.put, List.setIfInBounds_toArray, List.set_cons_zero, List.set_cons_succ]
      refine wpAnyH_ready (rs := [18]) (by kernel_rfl) (by simp) ?_
      refine AllReadyH.cons (o := { dst := none, op := Go.Op.store 23 (Go.Operand.tmp 6) (Go.Operand.tmp 53), type := 0, pos := "ref.go:43", after := #[{ on := 17, ground := Go.Ground.data }, { on := 16, ground := Go.Ground.data }, { on := 14, ground := Go.Ground.chain }, { on := 0, ground := Go.Ground.phase }, { on := 1, ground := Go.Ground.phase }, { on := 2, ground := Go.Ground.phase }, { on := 3, ground := Go.Ground.phase }, { on := 4, ground := Go.Ground.phase }, { on := 5, ground := Go.Ground.phase }, { on := 6, ground := Go.Ground.phase }, { on := 7, ground := Go.Ground.phase }, { on := 8, ground := Go.Ground.phase }, { on := 9, ground := Go.Ground.phase }, { on := 10, ground := Go.Ground.phase }, { on := 11, ground := Go.Ground.phase }, { on := 12, ground := Go.Ground.phase }, { on := 13, ground := Go.Ground.phase }, { on := 14, ground := Go.Ground.phase }, { on := 15, ground := Go.Ground.phase }, { on := 16, ground := Go.Ground.phase }, { on := 17, ground := Go.Ground.phase }], guard := none }) rfl (fun K' hK => ?_) AllReadyH.nil
      rw [if_pos (by rfl)]
      refine wp_store_row 23 _ _ rfl _ (pgC ⟨en, tx, da, bs⟩) rfl rfl 23 _ NB.out pg_info rfl (by simp [pgC, Value.oneCell']) ?_
      have NE := Lib.hid (show rb ≠ wd.heap.size from Nat.ne_of_lt (blk_lt HD.out.1))
      have SF := Lib.hid (show ((World.setRow (wd.alloc (.cells #[.int .i64 0, .string ⟨#[]⟩, .string ⟨#[]⟩, .int .i64 0] 23)) wd.heap.size (pgC ⟨en, tx, da, bs⟩)).heap[rb]? = some (.cells #[.int .i64 0, .string ⟨#[]⟩, .string ⟨#[]⟩, .int .i64 0] 23) ∧ Gr w (World.setRow (wd.alloc (.cells #[.int .i64 0, .string ⟨#[]⟩, .string ⟨#[]⟩, .int .i64 0] 23)) wd.heap.size (pgC ⟨en, tx, da, bs⟩))) from ⟨(setRow_other _ _ _ _ NE.out).trans SA.out.1, below_setRow SA.out.2 HD.out.2.size _⟩)
      have BF := Lib.hid (setRow_heap (wd.alloc (.cells #[.int .i64 0, .string ⟨#[]⟩, .string ⟨#[]⟩, .int .i64 0] 23)) wd.heap.size _ (pgC ⟨en, tx, da, bs⟩) _ _ NB.out)
      refine hK.out _ _ (SF.out) (fun hh4 => ?_)
      clear hK K'
      try simp only [Act.put, List.setIfInBounds_toArray, List.set_cons_zero, List.set_cons_succ]
      refine wpAnyH_done (by kernel_rfl) ?_ _
      generalize (World.setRow _ _ _) = wF at *
      generalize wd.heap.size = nb at *
      clear SA NB NE HD
      have BF2 : RowKit.Hid (wF.heap[nb]? = some (.cells (pgC ⟨en, tx, da, bs⟩) 23)) := Lib.hid BF.out
      clear BF
      cases hm : mayP ⟨en, tx, da, bs⟩ with
      | false =>
        rw [hm, Bool.false_and] at HDEC
        have EN2 : RowKit.Hid (∀ w, Calls Try.prog 10 #[.agg (pgC ⟨en, tx, da, bs⟩)] w fun e w' => e = .returned (.tuple #[.string ⟨#[]⟩, .int .i64 6]) ∧ Gr w w') := Lib.hid (by have := EN.out; unfold encV encE at this; rw [hm] at this; exact this)
        clear EN hm
        go_wp2_with (first
          | (refine wpList_load_row rfl 23 _ rfl _ rfl 23 _ (0, 0) _ BF2.out Try.underlying23 rfl pg_info ?_)
          | (refine wpList_store_row rfl 23 _ _ rfl _ (pgC pg0) rfl rfl 23 _ XE.out pg_info rfl (pgC_all _) ?_)
          | (go_at_call 10; refine (EN2.out _).mono ?_; rintro e wE ⟨rfl, gE⟩; have XE := Lib.hid (blk_gr gE SF.out.1); have BE := Lib.hid (blk_gr gE BF2.out); have GE := Lib.hid (gtrans SF.out.2 gE); clear gE))
        refine bodyPost_ret (res2' rfl _ _ _ rb (pgV pg0) rfl (ldP (setRow_heap _ _ _ (pgC pg0) _ _ XE.out))) rfl ⟨?_, below_setRow GE.out RN.out _⟩
        rw [HDEC.out]; rfl
      | true =>
        rw [hm, Bool.true_and] at HDEC
        have EN2 : RowKit.Hid (∀ w, Calls Try.prog 10 #[.agg (pgC ⟨en, tx, da, bs⟩)] w fun e w' => e = .returned (.tuple #[.string (encP ⟨en, tx, da, bs⟩), .int .i64 0]) ∧ Gr w w') := Lib.hid (by have := EN.out; unfold encV encE at this; rw [hm] at this; exact this)
        clear EN hm
        by_cases he : encP ⟨en, tx, da, bs⟩ = s
        · rw [he, decide_eq_true rfl] at HDEC
          rw [he] at EN2
          clear he
          have hb0 : (s.toList == s.toList) = true := beq_self_eq_true _
          have hb3 : (s.toList != s.toList) = false := by rw [bne, hb0]; rfl
          go_wp2_with (first
            | (refine wpList_load_row rfl 23 _ rfl _ rfl 23 _ (0, 0) _ BF2.out Try.underlying23 rfl pg_info ?_)
            | (refine wpList_load_row rfl 23 _ rfl _ rfl 23 _ (0, 0) _ BE.out Try.underlying23 rfl pg_info ?_)
            | (refine wpList_store_row rfl 23 _ _ rfl _ (pgC ⟨en, tx, da, bs⟩) rfl rfl 23 _ XE.out pg_info rfl (pgC_all _) ?_)
            | (go_at_call 10; refine (EN2.out _).mono ?_; rintro e wE ⟨rfl, gE⟩; have XE := Lib.hid (blk_gr gE SF.out.1); have BE := Lib.hid (blk_gr gE BF2.out); have GE := Lib.hid (gtrans SF.out.2 gE); clear gE))
          refine bodyPost_ret (res2' rfl _ _ _ rb (pgV ⟨en, tx, da, bs⟩) rfl (ldP (setRow_heap _ _ _ (pgC ⟨en, tx, da, bs⟩) _ _ XE.out))) rfl ⟨?_, below_setRow GE.out RN.out _⟩
          rw [HDEC.out]; rfl
        · rw [decide_eq_false he] at HDEC
          generalize encP ⟨en, tx, da, bs⟩ = S1 at *
          have hb1 : (S1.toList == s.toList) = false := tlp_ne he
          have hb2 : (S1.toList != s.toList) = true := by rw [bne, hb1]; rfl
          clear he
          go_wp2_with (first
            | (refine wpList_load_row rfl 23 _ rfl _ rfl 23 _ (0, 0) _ BF2.out Try.underlying23 rfl pg_info ?_)
            | (refine wpList_store_row rfl 23 _ _ rfl _ (pgC pg0) rfl rfl 23 _ XE.out pg_info rfl (pgC_all _) ?_)
            | (go_at_call 10; refine (EN2.out _).mono ?_; rintro e wE ⟨rfl, gE⟩; have XE := Lib.hid (blk_gr gE SF.out.1); have BE := Lib.hid (blk_gr gE BF2.out); have GE := Lib.hid (gtrans SF.out.2 gE); clear gE))
          refine bodyPost_ret (res2' rfl _ _ _ rb (pgV pg0) rfl (ldP (setRow_heap _ _ _ (pgC pg0) _ _ XE.out))) rfl ⟨?_, below_setRow GE.out RN.out _⟩
          rw [HDEC.out]; rfl

    · have SA := Lib.hid (show ((wd.alloc (.cells #[.int .i64 0, .string ⟨#[]⟩, .string ⟨#[]⟩, .int .i64 0] 23)).heap[rb]? = some (.cells #[.int .i64 0, .string ⟨#[]⟩, .string ⟨#[]⟩, .int .i64 0] 23) ∧ Gr w (wd.alloc (.cells #[.int .i64 0, .string ⟨#[]⟩, .string ⟨#[]⟩, .int .i64 0] 23))) from ⟨blk_alloc _ HD.out.1, HD.out.2.alloc HD.out.2.size _⟩)
      have NB := Lib.hid (blk_new wd (.cells #[.int .i64 0, .string ⟨#[]⟩, .string ⟨#[]⟩, .int .i64 0] 23))
      rw [if_pos (by rfl)]
      go_simp
      refine hK.out _ _ (SA.out) (fun hh5 => ?_)
      clear hK K'
      try simp only [Act.put, List.setIfInBounds_toArray, List.set_cons_zero, List.set_cons_succ]
      refine wpAnyH_ready (rs := [14]) (by kernel_rfl) (by simp) ?_
      refine AllReadyH.cons (o := { dst := some 51, op := Go.Op.call { callee := Go.Callee.value (Go.Operand.func 27), args := #[Go.Operand.tmp 50], argTypes := #[9] }, type := 44, pos := "ref.go:43", after := #[{ on := 13, ground := Go.Ground.data }, { on := 2, ground := Go.Ground.chain }], guard := none }) rfl (fun K' hK => ?_) AllReadyH.nil
      rw [if_pos (by rfl)]
      go_wp2_with (go_at_call 27; refine (OF16.out _).mono ?_; rintro e wk ⟨rfl, hwk⟩; rw [hwk]; clear hwk wk)
      refine hK.out _ _ (SA.out) (fun hh6 => ?_)
      clear hK K'
      try simp only [Act.put, List.setIfInBounds_toArray, List.set_cons_zero, List.set_cons_succ]
      refine wpAnyH_take (i := 15) (oi := { dst := some 52, op := Go.Op.convert 44 3 (Go.Operand.tmp 51), type := 3, pos := "ref.go:43", after := #[{ on := 14, ground := Go.Ground.data }], guard := none }) (v := .int .i64 bs) rfl (by kernel_rfl) (by kernel_rfl) (by kernel_rfl) (fun _ _ _ h => h) (Or.inl ⟨by rfl, fun w' hS' => by first | rfl | (go_simp; done) | (go_simp; rfl)⟩) SA.out ?_
      try simp only [Act.put, List.setIfInBounds_toArray, List.set_cons_zero, List.set_cons_succ]
      refine wpAnyH_take (i := 16) (oi := { dst := some 53, op := Go.Op.build 23 #[(0, Go.Operand.tmp 40), (1, Go.Operand.tmp 44), (2, Go.Operand.tmp 48), (3, Go.Operand.tmp 52)], type := 23, pos := "ref.go:43", after := #[{ on := 3, ground := Go.Ground.data }, { on := 7, ground := Go.Ground.data }, { on := 11, ground := Go.Ground.data }, { on := 15, ground := Go.Ground.data }], guard := none }) (v := .agg (pgC ⟨en, tx, da, bs⟩)) rfl (by kernel_rfl) (by kernel_rfl) (by kernel_rfl) (fun _ _ _ h => h) (Or.inl ⟨by rfl, fun w' hS' => by first | rfl | (go_simp; done) | (go_simp; rfl)⟩) SA.out ?_
      try simp only [Act.put, List.setIfInBounds_toArray, List.set_cons_zero, List.set_cons_succ]
      refine wpAnyH_ready (rs := [18]) (by kernel_rfl) (by simp) ?_
      refine AllReadyH.cons (o := { dst := none, op := Go.Op.store 23 (Go.Operand.tmp 6) (Go.Operand.tmp 53), type := 0, pos := "ref.go:43", after := #[{ on := 17, ground := Go.Ground.data }, { on := 16, ground := Go.Ground.data }, { on := 14, ground := Go.Ground.chain }, { on := 0, ground := Go.Ground.phase }, { on := 1, ground := Go.Ground.phase }, { on := 2, ground := Go.Ground.phase }, { on := 3, ground := Go.Ground.phase }, { on := 4, ground := Go.Ground.phase }, { on := 5, ground := Go.Ground.phase }, { on := 6, ground := Go.Ground.phase }, { on := 7, ground := Go.Ground.phase }, { on := 8, ground := Go.Ground.phase }, { on := 9, ground := Go.Ground.phase }, { on := 10, ground := Go.Ground.phase }, { on := 11, ground := Go.Ground.phase }, { on := 12, ground := Go.Ground.phase }, { on := 13, ground := Go.Ground.phase }, { on := 14, ground := Go.Ground.phase }, { on := 15, ground := Go.Ground.phase }, { on := 16, ground := Go.Ground.phase }, { on := 17, ground := Go.Ground.phase }], guard := none }) rfl (fun K' hK => ?_) AllReadyH.nil
      rw [if_pos (by rfl)]
      refine wp_store_row 23 _ _ rfl _ (pgC ⟨en, tx, da, bs⟩) rfl rfl 23 _ NB.out pg_info rfl (by simp [pgC, Value.oneCell']) ?_
      have NE := Lib.hid (show rb ≠ wd.heap.size from Nat.ne_of_lt (blk_lt HD.out.1))
      have SF := Lib.hid (show ((World.setRow (wd.alloc (.cells #[.int .i64 0, .string ⟨#[]⟩, .string ⟨#[]⟩, .int .i64 0] 23)) wd.heap.size (pgC ⟨en, tx, da, bs⟩)).heap[rb]? = some (.cells #[.int .i64 0, .string ⟨#[]⟩, .string ⟨#[]⟩, .int .i64 0] 23) ∧ Gr w (World.setRow (wd.alloc (.cells #[.int .i64 0, .string ⟨#[]⟩, .string ⟨#[]⟩, .int .i64 0] 23)) wd.heap.size (pgC ⟨en, tx, da, bs⟩))) from ⟨(setRow_other _ _ _ _ NE.out).trans SA.out.1, below_setRow SA.out.2 HD.out.2.size _⟩)
      have BF := Lib.hid (setRow_heap (wd.alloc (.cells #[.int .i64 0, .string ⟨#[]⟩, .string ⟨#[]⟩, .int .i64 0] 23)) wd.heap.size _ (pgC ⟨en, tx, da, bs⟩) _ _ NB.out)
      refine hK.out _ _ (SF.out) (fun hh7 => ?_)
      clear hK K'
      try simp only [Act.put, List.setIfInBounds_toArray, List.set_cons_zero, List.set_cons_succ]
      refine wpAnyH_done (by kernel_rfl) ?_ _
      generalize (World.setRow _ _ _) = wF at *
      generalize wd.heap.size = nb at *
      clear SA NB NE HD
      have BF2 : RowKit.Hid (wF.heap[nb]? = some (.cells (pgC ⟨en, tx, da, bs⟩) 23)) := Lib.hid BF.out
      clear BF
      cases hm : mayP ⟨en, tx, da, bs⟩ with
      | false =>
        rw [hm, Bool.false_and] at HDEC
        have EN2 : RowKit.Hid (∀ w, Calls Try.prog 10 #[.agg (pgC ⟨en, tx, da, bs⟩)] w fun e w' => e = .returned (.tuple #[.string ⟨#[]⟩, .int .i64 6]) ∧ Gr w w') := Lib.hid (by have := EN.out; unfold encV encE at this; rw [hm] at this; exact this)
        clear EN hm
        go_wp2_with (first
          | (refine wpList_load_row rfl 23 _ rfl _ rfl 23 _ (0, 0) _ BF2.out Try.underlying23 rfl pg_info ?_)
          | (refine wpList_store_row rfl 23 _ _ rfl _ (pgC pg0) rfl rfl 23 _ XE.out pg_info rfl (pgC_all _) ?_)
          | (go_at_call 10; refine (EN2.out _).mono ?_; rintro e wE ⟨rfl, gE⟩; have XE := Lib.hid (blk_gr gE SF.out.1); have BE := Lib.hid (blk_gr gE BF2.out); have GE := Lib.hid (gtrans SF.out.2 gE); clear gE))
        refine bodyPost_ret (res2' rfl _ _ _ rb (pgV pg0) rfl (ldP (setRow_heap _ _ _ (pgC pg0) _ _ XE.out))) rfl ⟨?_, below_setRow GE.out RN.out _⟩
        rw [HDEC.out]; rfl
      | true =>
        rw [hm, Bool.true_and] at HDEC
        have EN2 : RowKit.Hid (∀ w, Calls Try.prog 10 #[.agg (pgC ⟨en, tx, da, bs⟩)] w fun e w' => e = .returned (.tuple #[.string (encP ⟨en, tx, da, bs⟩), .int .i64 0]) ∧ Gr w w') := Lib.hid (by have := EN.out; unfold encV encE at this; rw [hm] at this; exact this)
        clear EN hm
        by_cases he : encP ⟨en, tx, da, bs⟩ = s
        · rw [he, decide_eq_true rfl] at HDEC
          rw [he] at EN2
          clear he
          have hb0 : (s.toList == s.toList) = true := beq_self_eq_true _
          have hb3 : (s.toList != s.toList) = false := by rw [bne, hb0]; rfl
          go_wp2_with (first
            | (refine wpList_load_row rfl 23 _ rfl _ rfl 23 _ (0, 0) _ BF2.out Try.underlying23 rfl pg_info ?_)
            | (refine wpList_load_row rfl 23 _ rfl _ rfl 23 _ (0, 0) _ BE.out Try.underlying23 rfl pg_info ?_)
            | (refine wpList_store_row rfl 23 _ _ rfl _ (pgC ⟨en, tx, da, bs⟩) rfl rfl 23 _ XE.out pg_info rfl (pgC_all _) ?_)
            | (go_at_call 10; refine (EN2.out _).mono ?_; rintro e wE ⟨rfl, gE⟩; have XE := Lib.hid (blk_gr gE SF.out.1); have BE := Lib.hid (blk_gr gE BF2.out); have GE := Lib.hid (gtrans SF.out.2 gE); clear gE))
          refine bodyPost_ret (res2' rfl _ _ _ rb (pgV ⟨en, tx, da, bs⟩) rfl (ldP (setRow_heap _ _ _ (pgC ⟨en, tx, da, bs⟩) _ _ XE.out))) rfl ⟨?_, below_setRow GE.out RN.out _⟩
          rw [HDEC.out]; rfl
        · rw [decide_eq_false he] at HDEC
          generalize encP ⟨en, tx, da, bs⟩ = S1 at *
          have hb1 : (S1.toList == s.toList) = false := tlp_ne he
          have hb2 : (S1.toList != s.toList) = true := by rw [bne, hb1]; rfl
          clear he
          go_wp2_with (first
            | (refine wpList_load_row rfl 23 _ rfl _ rfl 23 _ (0, 0) _ BF2.out Try.underlying23 rfl pg_info ?_)
            | (refine wpList_store_row rfl 23 _ _ rfl _ (pgC pg0) rfl rfl 23 _ XE.out pg_info rfl (pgC_all _) ?_)
            | (go_at_call 10; refine (EN2.out _).mono ?_; rintro e wE ⟨rfl, gE⟩; have XE := Lib.hid (blk_gr gE SF.out.1); have BE := Lib.hid (blk_gr gE BF2.out); have GE := Lib.hid (gtrans SF.out.2 gE); clear gE))
          refine bodyPost_ret (res2' rfl _ _ _ rb (pgV pg0) rfl (ldP (setRow_heap _ _ _ (pgC pg0) _ _ XE.out))) rfl ⟨?_, below_setRow GE.out RN.out _⟩
          rw [HDEC.out]; rfl

  · have SA := Lib.hid (show ((wd.alloc (.cells #[.int .i64 0, .string ⟨#[]⟩, .string ⟨#[]⟩, .int .i64 0] 23)).heap[rb]? = some (.cells #[.int .i64 0, .string ⟨#[]⟩, .string ⟨#[]⟩, .int .i64 0] 23) ∧ Gr w (wd.alloc (.cells #[.int .i64 0, .string ⟨#[]⟩, .string ⟨#[]⟩, .int .i64 0] 23))) from ⟨blk_alloc _ HD.out.1, HD.out.2.alloc HD.out.2.size _⟩)
    have NB := Lib.hid (blk_new wd (.cells #[.int .i64 0, .string ⟨#[]⟩, .string ⟨#[]⟩, .int .i64 0] 23))
    rw [if_pos (by rfl)]
    go_simp
    refine hK.out _ _ (SA.out) (fun hh8 => ?_)
    clear hK K'
    try simp only [Act.put, List.setIfInBounds_toArray, List.set_cons_zero, List.set_cons_succ]
    refine wpAnyH_ready (rs := [2]) (by kernel_rfl) (by simp) ?_
    refine AllReadyH.cons (o := { dst := some 39, op := Go.Op.call { callee := Go.Callee.value (Go.Operand.func 27), args := #[Go.Operand.tmp 38], argTypes := #[9] }, type := 44, pos := "ref.go:43", after := #[{ on := 1, ground := Go.Ground.data }], guard := none }) rfl (fun K' hK => ?_) AllReadyH.nil
    rw [if_pos (by rfl)]
    go_wp2_with (go_at_call 27; refine (OF4.out _).mono ?_; rintro e wk ⟨rfl, hwk⟩; rw [hwk]; clear hwk wk)
    refine hK.out _ _ (SA.out) (fun hh9 => ?_)
    clear hK K'
    try simp only [Act.put, List.setIfInBounds_toArray, List.set_cons_zero, List.set_cons_succ]
    refine wpAnyH_take (i := 3) (oi := { dst := some 40, op := Go.Op.convert 44 3 (Go.Operand.tmp 39), type := 3, pos := "ref.go:43", after := #[{ on := 2, ground := Go.Ground.data }], guard := none }) (v := .int .i64 en) rfl (by kernel_rfl) (by kernel_rfl) (by kernel_rfl) (fun _ _ _ h => h) (Or.inl ⟨by rfl, fun w' hS' => by first | rfl | (go_simp; done) | (go_simp; rfl)⟩) SA.out ?_
    try simp only [Act.put, List.setIfInBounds_toArray, List.set_cons_zero, List.set_cons_succ]
    refine wpAnyH_ready (rs := [14]) (by kernel_rfl) (by simp) ?_
    refine AllReadyH.cons (o := { dst := some 51, op := Go.Op.call { callee := Go.Callee.value (Go.Operand.func 27), args := #[Go.Operand.tmp 50], argTypes := #[9] }, type := 44, pos := "ref.go:43", after := #[{ on := 13, ground := Go.Ground.data }, { on := 2, ground := Go.Ground.chain }], guard := none }) rfl (fun K' hK => ?_) AllReadyH.nil
    rw [if_pos (by rfl)]
    go_wp2_with (go_at_call 27; refine (OF16.out _).mono ?_; rintro e wk ⟨rfl, hwk⟩; rw [hwk]; clear hwk wk)
    refine hK.out _ _ (SA.out) (fun hh10 => ?_)
    clear hK K'
    try simp only [Act.put, List.setIfInBounds_toArray, List.set_cons_zero, List.set_cons_succ]
    refine wpAnyH_take (i := 15) (oi := { dst := some 52, op := Go.Op.convert 44 3 (Go.Operand.tmp 51), type := 3, pos := "ref.go:43", after := #[{ on := 14, ground := Go.Ground.data }], guard := none }) (v := .int .i64 bs) rfl (by kernel_rfl) (by kernel_rfl) (by kernel_rfl) (fun _ _ _ h => h) (Or.inl ⟨by rfl, fun w' hS' => by first | rfl | (go_simp; done) | (go_simp; rfl)⟩) SA.out ?_
    try simp only [Act.put, List.setIfInBounds_toArray, List.set_cons_zero, List.set_cons_succ]
    refine wpAnyH_take (i := 16) (oi := { dst := some 53, op := Go.Op.build 23 #[(0, Go.Operand.tmp 40), (1, Go.Operand.tmp 44), (2, Go.Operand.tmp 48), (3, Go.Operand.tmp 52)], type := 23, pos := "ref.go:43", after := #[{ on := 3, ground := Go.Ground.data }, { on := 7, ground := Go.Ground.data }, { on := 11, ground := Go.Ground.data }, { on := 15, ground := Go.Ground.data }], guard := none }) (v := .agg (pgC ⟨en, tx, da, bs⟩)) rfl (by kernel_rfl) (by kernel_rfl) (by kernel_rfl) (fun _ _ _ h => h) (Or.inl ⟨by rfl, fun w' hS' => by first | rfl | (go_simp; done) | (go_simp; rfl)⟩) SA.out ?_
    try simp only [Act.put, List.setIfInBounds_toArray, List.set_cons_zero, List.set_cons_succ]
    refine wpAnyH_ready (rs := [18]) (by kernel_rfl) (by simp) ?_
    refine AllReadyH.cons (o := { dst := none, op := Go.Op.store 23 (Go.Operand.tmp 6) (Go.Operand.tmp 53), type := 0, pos := "ref.go:43", after := #[{ on := 17, ground := Go.Ground.data }, { on := 16, ground := Go.Ground.data }, { on := 14, ground := Go.Ground.chain }, { on := 0, ground := Go.Ground.phase }, { on := 1, ground := Go.Ground.phase }, { on := 2, ground := Go.Ground.phase }, { on := 3, ground := Go.Ground.phase }, { on := 4, ground := Go.Ground.phase }, { on := 5, ground := Go.Ground.phase }, { on := 6, ground := Go.Ground.phase }, { on := 7, ground := Go.Ground.phase }, { on := 8, ground := Go.Ground.phase }, { on := 9, ground := Go.Ground.phase }, { on := 10, ground := Go.Ground.phase }, { on := 11, ground := Go.Ground.phase }, { on := 12, ground := Go.Ground.phase }, { on := 13, ground := Go.Ground.phase }, { on := 14, ground := Go.Ground.phase }, { on := 15, ground := Go.Ground.phase }, { on := 16, ground := Go.Ground.phase }, { on := 17, ground := Go.Ground.phase }], guard := none }) rfl (fun K' hK => ?_) AllReadyH.nil
    rw [if_pos (by rfl)]
    refine wp_store_row 23 _ _ rfl _ (pgC ⟨en, tx, da, bs⟩) rfl rfl 23 _ NB.out pg_info rfl (by simp [pgC, Value.oneCell']) ?_
    have NE := Lib.hid (show rb ≠ wd.heap.size from Nat.ne_of_lt (blk_lt HD.out.1))
    have SF := Lib.hid (show ((World.setRow (wd.alloc (.cells #[.int .i64 0, .string ⟨#[]⟩, .string ⟨#[]⟩, .int .i64 0] 23)) wd.heap.size (pgC ⟨en, tx, da, bs⟩)).heap[rb]? = some (.cells #[.int .i64 0, .string ⟨#[]⟩, .string ⟨#[]⟩, .int .i64 0] 23) ∧ Gr w (World.setRow (wd.alloc (.cells #[.int .i64 0, .string ⟨#[]⟩, .string ⟨#[]⟩, .int .i64 0] 23)) wd.heap.size (pgC ⟨en, tx, da, bs⟩))) from ⟨(setRow_other _ _ _ _ NE.out).trans SA.out.1, below_setRow SA.out.2 HD.out.2.size _⟩)
    have BF := Lib.hid (setRow_heap (wd.alloc (.cells #[.int .i64 0, .string ⟨#[]⟩, .string ⟨#[]⟩, .int .i64 0] 23)) wd.heap.size _ (pgC ⟨en, tx, da, bs⟩) _ _ NB.out)
    refine hK.out _ _ (SF.out) (fun hh11 => ?_)
    clear hK K'
    try simp only [Act.put, List.setIfInBounds_toArray, List.set_cons_zero, List.set_cons_succ]
    refine wpAnyH_done (by kernel_rfl) ?_ _
    generalize (World.setRow _ _ _) = wF at *
    generalize wd.heap.size = nb at *
    clear SA NB NE HD
    have BF2 : RowKit.Hid (wF.heap[nb]? = some (.cells (pgC ⟨en, tx, da, bs⟩) 23)) := Lib.hid BF.out
    clear BF
    cases hm : mayP ⟨en, tx, da, bs⟩ with
    | false =>
      rw [hm, Bool.false_and] at HDEC
      have EN2 : RowKit.Hid (∀ w, Calls Try.prog 10 #[.agg (pgC ⟨en, tx, da, bs⟩)] w fun e w' => e = .returned (.tuple #[.string ⟨#[]⟩, .int .i64 6]) ∧ Gr w w') := Lib.hid (by have := EN.out; unfold encV encE at this; rw [hm] at this; exact this)
      clear EN hm
      go_wp2_with (first
        | (refine wpList_load_row rfl 23 _ rfl _ rfl 23 _ (0, 0) _ BF2.out Try.underlying23 rfl pg_info ?_)
        | (refine wpList_store_row rfl 23 _ _ rfl _ (pgC pg0) rfl rfl 23 _ XE.out pg_info rfl (pgC_all _) ?_)
        | (go_at_call 10; refine (EN2.out _).mono ?_; rintro e wE ⟨rfl, gE⟩; have XE := Lib.hid (blk_gr gE SF.out.1); have BE := Lib.hid (blk_gr gE BF2.out); have GE := Lib.hid (gtrans SF.out.2 gE); clear gE))
      refine bodyPost_ret (res2' rfl _ _ _ rb (pgV pg0) rfl (ldP (setRow_heap _ _ _ (pgC pg0) _ _ XE.out))) rfl ⟨?_, below_setRow GE.out RN.out _⟩
      rw [HDEC.out]; rfl
    | true =>
      rw [hm, Bool.true_and] at HDEC
      have EN2 : RowKit.Hid (∀ w, Calls Try.prog 10 #[.agg (pgC ⟨en, tx, da, bs⟩)] w fun e w' => e = .returned (.tuple #[.string (encP ⟨en, tx, da, bs⟩), .int .i64 0]) ∧ Gr w w') := Lib.hid (by have := EN.out; unfold encV encE at this; rw [hm] at this; exact this)
      clear EN hm
      by_cases he : encP ⟨en, tx, da, bs⟩ = s
      · rw [he, decide_eq_true rfl] at HDEC
        rw [he] at EN2
        clear he
        have hb0 : (s.toList == s.toList) = true := beq_self_eq_true _
        have hb3 : (s.toList != s.toList) = false := by rw [bne, hb0]; rfl
        go_wp2_with (first
          | (refine wpList_load_row rfl 23 _ rfl _ rfl 23 _ (0, 0) _ BF2.out Try.underlying23 rfl pg_info ?_)
          | (refine wpList_load_row rfl 23 _ rfl _ rfl 23 _ (0, 0) _ BE.out Try.underlying23 rfl pg_info ?_)
          | (refine wpList_store_row rfl 23 _ _ rfl _ (pgC ⟨en, tx, da, bs⟩) rfl rfl 23 _ XE.out pg_info rfl (pgC_all _) ?_)
          | (go_at_call 10; refine (EN2.out _).mono ?_; rintro e wE ⟨rfl, gE⟩; have XE := Lib.hid (blk_gr gE SF.out.1); have BE := Lib.hid (blk_gr gE BF2.out); have GE := Lib.hid (gtrans SF.out.2 gE); clear gE))
        refine bodyPost_ret (res2' rfl _ _ _ rb (pgV ⟨en, tx, da, bs⟩) rfl (ldP (setRow_heap _ _ _ (pgC ⟨en, tx, da, bs⟩) _ _ XE.out))) rfl ⟨?_, below_setRow GE.out RN.out _⟩
        rw [HDEC.out]; rfl
      · rw [decide_eq_false he] at HDEC
        generalize encP ⟨en, tx, da, bs⟩ = S1 at *
        have hb1 : (S1.toList == s.toList) = false := tlp_ne he
        have hb2 : (S1.toList != s.toList) = true := by rw [bne, hb1]; rfl
        clear he
        go_wp2_with (first
          | (refine wpList_load_row rfl 23 _ rfl _ rfl 23 _ (0, 0) _ BF2.out Try.underlying23 rfl pg_info ?_)
          | (refine wpList_store_row rfl 23 _ _ rfl _ (pgC pg0) rfl rfl 23 _ XE.out pg_info rfl (pgC_all _) ?_)
          | (go_at_call 10; refine (EN2.out _).mono ?_; rintro e wE ⟨rfl, gE⟩; have XE := Lib.hid (blk_gr gE SF.out.1); have BE := Lib.hid (blk_gr gE BF2.out); have GE := Lib.hid (gtrans SF.out.2 gE); clear gE))
        refine bodyPost_ret (res2' rfl _ _ _ rb (pgV pg0) rfl (ldP (setRow_heap _ _ _ (pgC pg0) _ _ XE.out))) rfl ⟨?_, below_setRow GE.out RN.out _⟩
        rw [HDEC.out]; rfl


end Go.Proofs.Ytdlglnoffpnonaa.P
