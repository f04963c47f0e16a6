/- Stage 2: an instruction as text. No condition. -/
import Derived.Test.YthcfobefpknjeaaDoorN3
import Derived.Test.YthcfobefpknjeaaDoorB7
import Derived.Deep.RegionHeld3
import Derived.Deep.DeepCutAuto
set_option linter.unusedVariables false
set_option linter.unusedSimpArgs false
set_option maxRecDepth 100000
namespace Go.Proofs.YthcfobefpknjeaaDoor.P
open Go.RowKit
set_option maxHeartbeats 3200000 in
theorem c_text_85 (k : Nat) (hk : k < 88) (h1 : 1 ≤ k) (hv : fmT k = 85) (rd a b : Nat) (i : Int) (hi : i64 i) (hm : mayF (k : Int) rd a b i = true) (hrd : rd < 32) (ha : a < 32) (hb : b < 32) (F : ByteArray) (hFs : F.size ≤ 30) (w : World) (hF : FT w)
    (CFI : ∀ w1, Gr w w1 → Calls Tryd.prog 35 #[.int .i64 i, .int .i64 10] w1 fun e w' => e = .returned (.string F) ∧ Gr w1 w') :
    Calls Tryd.prog 17 #[iv (k : Int) rd a b i] w fun e w' => e = .returned (.tuple #[.string (textF k rd a b i F), .int .i64 0]) ∧ Gr w w' := by
  have gb : Gr w (w.alloc (.cells #[.int .i64 (k : Int), .int .i64 rd, .int .i64 a, .int .i64 b, .int .i64 i] 23)) := (Gr.refl w).alloc (Nat.le_refl _) _
  have HFT := Lib.hid (fun w1 (g : Gr w w1) => FT.gr hF g)
  have CM : Hid (∀ w1, Gr w w1 → Calls Tryd.prog 11 #[iv (k : Int) rd a b i] w1 fun e w' => e = .returned (.bool true) ∧ Gr w1 w') := Lib.hid (fun w1 g => by have := c_may (k : Int) rd a b i hi w1 (hF.gr g); rw [hm] at this; exact this)
  have CN : Hid (∀ w1, Calls Tryd.prog 21 #[.int .i64 (k : Int)] w1 fun e w' => e = .returned (.string (nmT k)) ∧ w' = w1) := Lib.hid (fun w1 => c_name_in k hk h1 w1)
  have CF := Lib.hid CFI
  have CR1 := Lib.hid (c_reg rd hrd)
  have CR2 := Lib.hid (c_reg a ha)
  have CR3 := Lib.hid (c_reg b hb)
  have hl : 0 < w.heap.size := cell_lt (hF k hk)
  have HV := Lib.hid hv
  have z1 := nm_size k hk
  have z2 := reg_size rd hrd
  have z3 := reg_size a ha
  have z4 := reg_size b hb
  have z5 := end_size i
  clear hF hv hm CFI
  obtain ⟨i0, i1⟩ := hi
  go_enter Tryd.func17, Tryd.ntmps17
  go_wp2_with (first
    | (go_at_call 11; refine (CM.out _ gb).mono ?_; rintro e w2 ⟨rfl, g2⟩))
  have hb2 := blk_gr g2 (blk_new w (.cells #[.int .i64 (k : Int), .int .i64 rd, .int .i64 a, .int .i64 b, .int .i64 i] 23))
  have gw2 : Gr w w2 := gtrans gb g2
  have hl2 : 0 < w2.heap.size := Nat.lt_of_lt_of_le hl gw2.size
  generalize w.heap.size = B at *
  have HB2 := Lib.hid hb2
  have GW2 := Lib.hid gw2
  have c0 := blk_cell hb2 0 (v := .int .i64 (k : Int)) rfl
  have c4 := blk_cell hb2 4 (v := .int .i64 i) rfl
  clear hb2 gw2 g2 gb hl CM
  go_cut [4, 5] (fun s4 s5 wx => s4 = .string (nmT k) ∧ s5 = .string F ∧ Gr w2 wx)
  case first =>
    have g0 : Gr w2 w2 := Gr.refl _
    have g0d : Gr w2 w2.drew := Gr.drewN g0 1
    go_region_held3 (fun w' => (w'.cell? ⟨B, 0, none⟩ = some (.int .i64 (k : Int)) ∧ w'.cell? ⟨B, 4, none⟩ = some (.int .i64 i)) ∧ Gr w2 w')
      ((refine ⟨⟨?_, ?_⟩, ?_⟩ <;> first | assumption | exact cell_drew6 (by assumption) | exact Gr.drewN (by assumption) 1))
      (first | (go_at_call 21; refine (CN.out _).mono ?_; rintro e w3 ⟨rfl, rfl⟩) | (go_at_call 35; refine (CF.out _ (gtrans GW2.out (by assumption))).mono ?_; rintro e w3 ⟨rfl, g3⟩; have g4 : Gr w2 w3 := gtrans (by assumption) g3; have c03 := blk_cell (blk_gr g4 HB2.out) 0 (v := .int .i64 (k : Int)) rfl; have c43 := blk_cell (blk_gr g4 HB2.out) 4 (v := .int .i64 i) rfl))
    all_goals
      go_wp2_with fail
      go_meet
      exact ⟨rfl, rfl, by assumption⟩
  case rest =>
    obtain ⟨rfl, rfl, g⟩ := hcut
    have hb1 := blk_gr g HB2.out
    have q0 := blk_cell hb1 0 (v := .int .i64 (k : Int)) rfl
    have q1 := blk_cell hb1 1 (v := .int .i64 rd) rfl
    have q2 := blk_cell hb1 2 (v := .int .i64 a) rfl
    have q3 := blk_cell hb1 3 (v := .int .i64 b) rfl
    have q4 := blk_cell hb1 4 (v := .int .i64 i) rfl
    have hcx := HFT.out _ (gtrans GW2.out g) k hk
    rw [HV.out] at hcx
    have GC := Lib.hid (gtrans GW2.out g)
    clear hb1 g c0 c4
    go_wp2_with fail
    go_quiet ((first | (go_at_call 36; exact Calls.quiet_of_same (CR1.out _)) | (go_at_call 36; exact Calls.quiet_of_same (CR2.out _)) | (go_at_call 36; exact Calls.quiet_of_same (CR3.out _))))
    go_wp2_with (first | (go_at_call 37; refine (c_line2 _ (regF rd) F _ (by omega) (by (try simp only [ByteArray.size_append, parF, offF]); have e1 : (⟨#[40]⟩ : ByteArray).size = 1 := rfl; have e2 : (⟨#[41]⟩ : ByteArray).size = 1 := rfl; omega) (by (try simp only [ByteArray.size_append, parF, offF]); have e1 : (⟨#[40]⟩ : ByteArray).size = 1 := rfl; have e2 : (⟨#[41]⟩ : ByteArray).size = 1 := rfl; omega)  _ (by first | exact blk_new _ _ | exact blk_gr (Gr.drewN (Gr.refl _) _) (blk_new _ _))).mono ?_; rintro e w5 ⟨rfl, g5⟩))
    first | go_ret2 | go_ret
    refine ⟨ret_se ?_ rfl, gtrans GC.out (gtrans (gr_alloc (Gr.drewN (Gr.refl _) _) _) g5)⟩
    unfold textF
    rw [HV.out]
    rfl
set_option maxHeartbeats 3200000 in
theorem c_text_74 (k : Nat) (hk : k < 88) (h1 : 1 ≤ k) (hv : fmT k = 74) (rd a b : Nat) (i : Int) (hi : i64 i) (hm : mayF (k : Int) rd a b i = true) (hrd : rd < 32) (ha : a < 32) (hb : b < 32) (F : ByteArray) (hFs : F.size ≤ 30) (w : World) (hF : FT w)
    (CFI : ∀ w1, Gr w w1 → Calls Tryd.prog 35 #[.int .i64 i, .int .i64 10] w1 fun e w' => e = .returned (.string F) ∧ Gr w1 w') :
    Calls Tryd.prog 17 #[iv (k : Int) rd a b i] w fun e w' => e = .returned (.tuple #[.string (textF k rd a b i F), .int .i64 0]) ∧ Gr w w' := by
  have gb : Gr w (w.alloc (.cells #[.int .i64 (k : Int), .int .i64 rd, .int .i64 a, .int .i64 b, .int .i64 i] 23)) := (Gr.refl w).alloc (Nat.le_refl _) _
  have HFT := Lib.hid (fun w1 (g : Gr w w1) => FT.gr hF g)
  have CM : Hid (∀ w1, Gr w w1 → Calls Tryd.prog 11 #[iv (k : Int) rd a b i] w1 fun e w' => e = .returned (.bool true) ∧ Gr w1 w') := Lib.hid (fun w1 g => by have := c_may (k : Int) rd a b i hi w1 (hF.gr g); rw [hm] at this; exact this)
  have CN : Hid (∀ w1, Calls Tryd.prog 21 #[.int .i64 (k : Int)] w1 fun e w' => e = .returned (.string (nmT k)) ∧ w' = w1) := Lib.hid (fun w1 => c_name_in k hk h1 w1)
  have CF := Lib.hid CFI
  have CR1 := Lib.hid (c_reg rd hrd)
  have CR2 := Lib.hid (c_reg a ha)
  have CR3 := Lib.hid (c_reg b hb)
  have hl : 0 < w.heap.size := cell_lt (hF k hk)
  have HV := Lib.hid hv
  have z1 := nm_size k hk
  have z2 := reg_size rd hrd
  have z3 := reg_size a ha
  have z4 := reg_size b hb
  have z5 := end_size i
  clear hF hv hm CFI
  obtain ⟨i0, i1⟩ := hi
  go_enter Tryd.func17, Tryd.ntmps17
  go_wp2_with (first
    | (go_at_call 11; refine (CM.out _ gb).mono ?_; rintro e w2 ⟨rfl, g2⟩))
  have hb2 := blk_gr g2 (blk_new w (.cells #[.int .i64 (k : Int), .int .i64 rd, .int .i64 a, .int .i64 b, .int .i64 i] 23))
  have gw2 : Gr w w2 := gtrans gb g2
  have hl2 : 0 < w2.heap.size := Nat.lt_of_lt_of_le hl gw2.size
  generalize w.heap.size = B at *
  have HB2 := Lib.hid hb2
  have GW2 := Lib.hid gw2
  have c0 := blk_cell hb2 0 (v := .int .i64 (k : Int)) rfl
  have c4 := blk_cell hb2 4 (v := .int .i64 i) rfl
  clear hb2 gw2 g2 gb hl CM
  go_cut [4, 5] (fun s4 s5 wx => s4 = .string (nmT k) ∧ s5 = .string F ∧ Gr w2 wx)
  case first =>
    have g0 : Gr w2 w2 := Gr.refl _
    have g0d : Gr w2 w2.drew := Gr.drewN g0 1
    go_region_held3 (fun w' => (w'.cell? ⟨B, 0, none⟩ = some (.int .i64 (k : Int)) ∧ w'.cell? ⟨B, 4, none⟩ = some (.int .i64 i)) ∧ Gr w2 w')
      ((refine ⟨⟨?_, ?_⟩, ?_⟩ <;> first | assumption | exact cell_drew6 (by assumption) | exact Gr.drewN (by assumption) 1))
      (first | (go_at_call 21; refine (CN.out _).mono ?_; rintro e w3 ⟨rfl, rfl⟩) | (go_at_call 35; refine (CF.out _ (gtrans GW2.out (by assumption))).mono ?_; rintro e w3 ⟨rfl, g3⟩; have g4 : Gr w2 w3 := gtrans (by assumption) g3; have c03 := blk_cell (blk_gr g4 HB2.out) 0 (v := .int .i64 (k : Int)) rfl; have c43 := blk_cell (blk_gr g4 HB2.out) 4 (v := .int .i64 i) rfl))
    all_goals
      go_wp2_with fail
      go_meet
      exact ⟨rfl, rfl, by assumption⟩
  case rest =>
    obtain ⟨rfl, rfl, g⟩ := hcut
    have hb1 := blk_gr g HB2.out
    have q0 := blk_cell hb1 0 (v := .int .i64 (k : Int)) rfl
    have q1 := blk_cell hb1 1 (v := .int .i64 rd) rfl
    have q2 := blk_cell hb1 2 (v := .int .i64 a) rfl
    have q3 := blk_cell hb1 3 (v := .int .i64 b) rfl
    have q4 := blk_cell hb1 4 (v := .int .i64 i) rfl
    have hcx := HFT.out _ (gtrans GW2.out g) k hk
    rw [HV.out] at hcx
    have GC := Lib.hid (gtrans GW2.out g)
    clear hb1 g c0 c4
    go_wp2_with fail
    go_quiet ((first | (go_at_call 36; exact Calls.quiet_of_same (CR1.out _)) | (go_at_call 36; exact Calls.quiet_of_same (CR2.out _)) | (go_at_call 36; exact Calls.quiet_of_same (CR3.out _))))
    go_wp2_with (first | (go_at_call 37; refine (c_line2 _ (regF rd) F _ (by omega) (by (try simp only [ByteArray.size_append, parF, offF]); have e1 : (⟨#[40]⟩ : ByteArray).size = 1 := rfl; have e2 : (⟨#[41]⟩ : ByteArray).size = 1 := rfl; omega) (by (try simp only [ByteArray.size_append, parF, offF]); have e1 : (⟨#[40]⟩ : ByteArray).size = 1 := rfl; have e2 : (⟨#[41]⟩ : ByteArray).size = 1 := rfl; omega)  _ (by first | exact blk_new _ _ | exact blk_gr (Gr.drewN (Gr.refl _) _) (blk_new _ _))).mono ?_; rintro e w5 ⟨rfl, g5⟩))
    first | go_ret2 | go_ret
    refine ⟨ret_se ?_ rfl, gtrans GC.out (gtrans (gr_alloc (Gr.drewN (Gr.refl _) _) _) g5)⟩
    unfold textF
    rw [HV.out]
    rfl
set_option maxHeartbeats 3200000 in
theorem c_text_66 (k : Nat) (hk : k < 88) (h1 : 1 ≤ k) (hv : fmT k = 66) (rd a b : Nat) (i : Int) (hi : i64 i) (hm : mayF (k : Int) rd a b i = true) (hrd : rd < 32) (ha : a < 32) (hb : b < 32) (F : ByteArray) (hFs : F.size ≤ 30) (w : World) (hF : FT w)
    (CFI : ∀ w1, Gr w w1 → Calls Tryd.prog 35 #[.int .i64 i, .int .i64 10] w1 fun e w' => e = .returned (.string F) ∧ Gr w1 w') :
    Calls Tryd.prog 17 #[iv (k : Int) rd a b i] w fun e w' => e = .returned (.tuple #[.string (textF k rd a b i F), .int .i64 0]) ∧ Gr w w' := by
  have gb : Gr w (w.alloc (.cells #[.int .i64 (k : Int), .int .i64 rd, .int .i64 a, .int .i64 b, .int .i64 i] 23)) := (Gr.refl w).alloc (Nat.le_refl _) _
  have HFT := Lib.hid (fun w1 (g : Gr w w1) => FT.gr hF g)
  have CM : Hid (∀ w1, Gr w w1 → Calls Tryd.prog 11 #[iv (k : Int) rd a b i] w1 fun e w' => e = .returned (.bool true) ∧ Gr w1 w') := Lib.hid (fun w1 g => by have := c_may (k : Int) rd a b i hi w1 (hF.gr g); rw [hm] at this; exact this)
  have CN : Hid (∀ w1, Calls Tryd.prog 21 #[.int .i64 (k : Int)] w1 fun e w' => e = .returned (.string (nmT k)) ∧ w' = w1) := Lib.hid (fun w1 => c_name_in k hk h1 w1)
  have CF := Lib.hid CFI
  have CR1 := Lib.hid (c_reg rd hrd)
  have CR2 := Lib.hid (c_reg a ha)
  have CR3 := Lib.hid (c_reg b hb)
  have hl : 0 < w.heap.size := cell_lt (hF k hk)
  have HV := Lib.hid hv
  have z1 := nm_size k hk
  have z2 := reg_size rd hrd
  have z3 := reg_size a ha
  have z4 := reg_size b hb
  have z5 := end_size i
  clear hF hv hm CFI
  obtain ⟨i0, i1⟩ := hi
  go_enter Tryd.func17, Tryd.ntmps17
  go_wp2_with (first
    | (go_at_call 11; refine (CM.out _ gb).mono ?_; rintro e w2 ⟨rfl, g2⟩))
  have hb2 := blk_gr g2 (blk_new w (.cells #[.int .i64 (k : Int), .int .i64 rd, .int .i64 a, .int .i64 b, .int .i64 i] 23))
  have gw2 : Gr w w2 := gtrans gb g2
  have hl2 : 0 < w2.heap.size := Nat.lt_of_lt_of_le hl gw2.size
  generalize w.heap.size = B at *
  have HB2 := Lib.hid hb2
  have GW2 := Lib.hid gw2
  have c0 := blk_cell hb2 0 (v := .int .i64 (k : Int)) rfl
  have c4 := blk_cell hb2 4 (v := .int .i64 i) rfl
  clear hb2 gw2 g2 gb hl CM
  go_cut [4, 5] (fun s4 s5 wx => s4 = .string (nmT k) ∧ s5 = .string F ∧ Gr w2 wx)
  case first =>
    have g0 : Gr w2 w2 := Gr.refl _
    have g0d : Gr w2 w2.drew := Gr.drewN g0 1
    go_region_held3 (fun w' => (w'.cell? ⟨B, 0, none⟩ = some (.int .i64 (k : Int)) ∧ w'.cell? ⟨B, 4, none⟩ = some (.int .i64 i)) ∧ Gr w2 w')
      ((refine ⟨⟨?_, ?_⟩, ?_⟩ <;> first | assumption | exact cell_drew6 (by assumption) | exact Gr.drewN (by assumption) 1))
      (first | (go_at_call 21; refine (CN.out _).mono ?_; rintro e w3 ⟨rfl, rfl⟩) | (go_at_call 35; refine (CF.out _ (gtrans GW2.out (by assumption))).mono ?_; rintro e w3 ⟨rfl, g3⟩; have g4 : Gr w2 w3 := gtrans (by assumption) g3; have c03 := blk_cell (blk_gr g4 HB2.out) 0 (v := .int .i64 (k : Int)) rfl; have c43 := blk_cell (blk_gr g4 HB2.out) 4 (v := .int .i64 i) rfl))
    all_goals
      go_wp2_with fail
      go_meet
      exact ⟨rfl, rfl, by assumption⟩
  case rest =>
    obtain ⟨rfl, rfl, g⟩ := hcut
    have hb1 := blk_gr g HB2.out
    have q0 := blk_cell hb1 0 (v := .int .i64 (k : Int)) rfl
    have q1 := blk_cell hb1 1 (v := .int .i64 rd) rfl
    have q2 := blk_cell hb1 2 (v := .int .i64 a) rfl
    have q3 := blk_cell hb1 3 (v := .int .i64 b) rfl
    have q4 := blk_cell hb1 4 (v := .int .i64 i) rfl
    have hcx := HFT.out _ (gtrans GW2.out g) k hk
    rw [HV.out] at hcx
    have GC := Lib.hid (gtrans GW2.out g)
    clear hb1 g c0 c4
    go_wp2_with fail
    go_quiet ((first | (go_at_call 36; exact Calls.quiet_of_same (CR1.out _)) | (go_at_call 36; exact Calls.quiet_of_same (CR2.out _)) | (go_at_call 36; exact Calls.quiet_of_same (CR3.out _))))
    go_wp2_with (first | (go_at_call 37; refine (c_line3 _ (regF a) (regF b) F _ (by omega) (by (try simp only [ByteArray.size_append, parF, offF]); have e1 : (⟨#[40]⟩ : ByteArray).size = 1 := rfl; have e2 : (⟨#[41]⟩ : ByteArray).size = 1 := rfl; omega) (by (try simp only [ByteArray.size_append, parF, offF]); have e1 : (⟨#[40]⟩ : ByteArray).size = 1 := rfl; have e2 : (⟨#[41]⟩ : ByteArray).size = 1 := rfl; omega) (by (try simp only [ByteArray.size_append, parF, offF]); have e1 : (⟨#[40]⟩ : ByteArray).size = 1 := rfl; have e2 : (⟨#[41]⟩ : ByteArray).size = 1 := rfl; omega)  _ (by first | exact blk_new _ _ | exact blk_gr (Gr.drewN (Gr.refl _) _) (blk_new _ _))).mono ?_; rintro e w5 ⟨rfl, g5⟩))
    first | go_ret2 | go_ret
    refine ⟨ret_se ?_ rfl, gtrans GC.out (gtrans (gr_alloc (Gr.drewN (Gr.refl _) _) _) g5)⟩
    unfold textF
    rw [HV.out]
    rfl
end Go.Proofs.YthcfobefpknjeaaDoor.P
namespace Go.Proofs.YthcfobefpknjeaaDoor.P
open Go.RowKit
set_option maxHeartbeats 3200000 in
theorem c_text_82 (k : Nat) (hk : k < 88) (h1 : 1 ≤ k) (hv : fmT k = 82) (rd a b : Nat) (i : Int) (hi : i64 i) (hm : mayF (k : Int) rd a b i = true) (hrd : rd < 32) (ha : a < 32) (hb : b < 32) (F : ByteArray) (hFs : F.size ≤ 30) (w : World) (hF : FT w)
    (CFI : ∀ w1, Gr w w1 → Calls Tryd.prog 35 #[.int .i64 i, .int .i64 10] w1 fun e w' => e = .returned (.string F) ∧ Gr w1 w') :
    Calls Tryd.prog 17 #[iv (k : Int) rd a b i] w fun e w' => e = .returned (.tuple #[.string (textF k rd a b i F), .int .i64 0]) ∧ Gr w w' := by
  have gb : Gr w (w.alloc (.cells #[.int .i64 (k : Int), .int .i64 rd, .int .i64 a, .int .i64 b, .int .i64 i] 23)) := (Gr.refl w).alloc (Nat.le_refl _) _
  have HFT := Lib.hid (fun w1 (g : Gr w w1) => FT.gr hF g)
  have CM : Hid (∀ w1, Gr w w1 → Calls Tryd.prog 11 #[iv (k : Int) rd a b i] w1 fun e w' => e = .returned (.bool true) ∧ Gr w1 w') := Lib.hid (fun w1 g => by have := c_may (k : Int) rd a b i hi w1 (hF.gr g); rw [hm] at this; exact this)
  have CN : Hid (∀ w1, Calls Tryd.prog 21 #[.int .i64 (k : Int)] w1 fun e w' => e = .returned (.string (nmT k)) ∧ w' = w1) := Lib.hid (fun w1 => c_name_in k hk h1 w1)
  have CF := Lib.hid CFI
  have CR1 := Lib.hid (c_reg rd hrd)
  have CR2 := Lib.hid (c_reg a ha)
  have CR3 := Lib.hid (c_reg b hb)
  have hl : 0 < w.heap.size := cell_lt (hF k hk)
  have HV := Lib.hid hv
  have z1 := nm_size k hk
  have z2 := reg_size rd hrd
  have z3 := reg_size a ha
  have z4 := reg_size b hb
  have z5 := end_size i
  clear hF hv hm CFI
  obtain ⟨i0, i1⟩ := hi
  go_enter Tryd.func17, Tryd.ntmps17
  go_wp2_with (first
    | (go_at_call 11; refine (CM.out _ gb).mono ?_; rintro e w2 ⟨rfl, g2⟩))
  have hb2 := blk_gr g2 (blk_new w (.cells #[.int .i64 (k : Int), .int .i64 rd, .int .i64 a, .int .i64 b, .int .i64 i] 23))
  have gw2 : Gr w w2 := gtrans gb g2
  have hl2 : 0 < w2.heap.size := Nat.lt_of_lt_of_le hl gw2.size
  generalize w.heap.size = B at *
  have HB2 := Lib.hid hb2
  have GW2 := Lib.hid gw2
  have c0 := blk_cell hb2 0 (v := .int .i64 (k : Int)) rfl
  have c4 := blk_cell hb2 4 (v := .int .i64 i) rfl
  clear hb2 gw2 g2 gb hl CM
  go_cut [4, 5] (fun s4 s5 wx => s4 = .string (nmT k) ∧ s5 = .string F ∧ Gr w2 wx)
  case first =>
    have g0 : Gr w2 w2 := Gr.refl _
    have g0d : Gr w2 w2.drew := Gr.drewN g0 1
    go_region_held3 (fun w' => (w'.cell? ⟨B, 0, none⟩ = some (.int .i64 (k : Int)) ∧ w'.cell? ⟨B, 4, none⟩ = some (.int .i64 i)) ∧ Gr w2 w')
      ((refine ⟨⟨?_, ?_⟩, ?_⟩ <;> first | assumption | exact cell_drew6 (by assumption) | exact Gr.drewN (by assumption) 1))
      (first | (go_at_call 21; refine (CN.out _).mono ?_; rintro e w3 ⟨rfl, rfl⟩) | (go_at_call 35; refine (CF.out _ (gtrans GW2.out (by assumption))).mono ?_; rintro e w3 ⟨rfl, g3⟩; have g4 : Gr w2 w3 := gtrans (by assumption) g3; have c03 := blk_cell (blk_gr g4 HB2.out) 0 (v := .int .i64 (k : Int)) rfl; have c43 := blk_cell (blk_gr g4 HB2.out) 4 (v := .int .i64 i) rfl))
    all_goals
      go_wp2_with fail
      go_meet
      exact ⟨rfl, rfl, by assumption⟩
  case rest =>
    obtain ⟨rfl, rfl, g⟩ := hcut
    have hb1 := blk_gr g HB2.out
    have q0 := blk_cell hb1 0 (v := .int .i64 (k : Int)) rfl
    have q1 := blk_cell hb1 1 (v := .int .i64 rd) rfl
    have q2 := blk_cell hb1 2 (v := .int .i64 a) rfl
    have q3 := blk_cell hb1 3 (v := .int .i64 b) rfl
    have q4 := blk_cell hb1 4 (v := .int .i64 i) rfl
    have hcx := HFT.out _ (gtrans GW2.out g) k hk
    rw [HV.out] at hcx
    have GC := Lib.hid (gtrans GW2.out g)
    clear hb1 g c0 c4
    go_wp2_with fail
    go_quiet ((first | (go_at_call 36; exact Calls.quiet_of_same (CR1.out _)) | (go_at_call 36; exact Calls.quiet_of_same (CR2.out _)) | (go_at_call 36; exact Calls.quiet_of_same (CR3.out _))))
    go_wp2_with (first | (go_at_call 37; refine (c_line3 _ (regF rd) (regF a) (regF b) _ (by omega) (by (try simp only [ByteArray.size_append, parF, offF]); have e1 : (⟨#[40]⟩ : ByteArray).size = 1 := rfl; have e2 : (⟨#[41]⟩ : ByteArray).size = 1 := rfl; omega) (by (try simp only [ByteArray.size_append, parF, offF]); have e1 : (⟨#[40]⟩ : ByteArray).size = 1 := rfl; have e2 : (⟨#[41]⟩ : ByteArray).size = 1 := rfl; omega) (by (try simp only [ByteArray.size_append, parF, offF]); have e1 : (⟨#[40]⟩ : ByteArray).size = 1 := rfl; have e2 : (⟨#[41]⟩ : ByteArray).size = 1 := rfl; omega)  _ (by first | exact blk_new _ _ | exact blk_gr (Gr.drewN (Gr.refl _) _) (blk_new _ _))).mono ?_; rintro e w5 ⟨rfl, g5⟩))
    first | go_ret2 | go_ret
    refine ⟨ret_se ?_ rfl, gtrans GC.out (gtrans (gr_alloc (Gr.drewN (Gr.refl _) _) _) g5)⟩
    unfold textF
    rw [HV.out]
    rfl
set_option maxHeartbeats 3200000 in
theorem c_text_78 (k : Nat) (hk : k < 88) (h1 : 1 ≤ k) (hv : fmT k = 78) (rd a b : Nat) (i : Int) (hi : i64 i) (hm : mayF (k : Int) rd a b i = true) (hrd : rd < 32) (ha : a < 32) (hb : b < 32) (F : ByteArray) (hFs : F.size ≤ 30) (w : World) (hF : FT w)
    (CFI : ∀ w1, Gr w w1 → Calls Tryd.prog 35 #[.int .i64 i, .int .i64 10] w1 fun e w' => e = .returned (.string F) ∧ Gr w1 w') :
    Calls Tryd.prog 17 #[iv (k : Int) rd a b i] w fun e w' => e = .returned (.tuple #[.string (textF k rd a b i F), .int .i64 0]) ∧ Gr w w' := by
  have gb : Gr w (w.alloc (.cells #[.int .i64 (k : Int), .int .i64 rd, .int .i64 a, .int .i64 b, .int .i64 i] 23)) := (Gr.refl w).alloc (Nat.le_refl _) _
  have HFT := Lib.hid (fun w1 (g : Gr w w1) => FT.gr hF g)
  have CM : Hid (∀ w1, Gr w w1 → Calls Tryd.prog 11 #[iv (k : Int) rd a b i] w1 fun e w' => e = .returned (.bool true) ∧ Gr w1 w') := Lib.hid (fun w1 g => by have := c_may (k : Int) rd a b i hi w1 (hF.gr g); rw [hm] at this; exact this)
  have CN : Hid (∀ w1, Calls Tryd.prog 21 #[.int .i64 (k : Int)] w1 fun e w' => e = .returned (.string (nmT k)) ∧ w' = w1) := Lib.hid (fun w1 => c_name_in k hk h1 w1)
  have CF := Lib.hid CFI
  have CR1 := Lib.hid (c_reg rd hrd)
  have CR2 := Lib.hid (c_reg a ha)
  have CR3 := Lib.hid (c_reg b hb)
  have hl : 0 < w.heap.size := cell_lt (hF k hk)
  have HV := Lib.hid hv
  have z1 := nm_size k hk
  have z2 := reg_size rd hrd
  have z3 := reg_size a ha
  have z4 := reg_size b hb
  have z5 := end_size i
  clear hF hv hm CFI
  obtain ⟨i0, i1⟩ := hi
  go_enter Tryd.func17, Tryd.ntmps17
  go_wp2_with (first
    | (go_at_call 11; refine (CM.out _ gb).mono ?_; rintro e w2 ⟨rfl, g2⟩))
  have hb2 := blk_gr g2 (blk_new w (.cells #[.int .i64 (k : Int), .int .i64 rd, .int .i64 a, .int .i64 b, .int .i64 i] 23))
  have gw2 : Gr w w2 := gtrans gb g2
  have hl2 : 0 < w2.heap.size := Nat.lt_of_lt_of_le hl gw2.size
  generalize w.heap.size = B at *
  have HB2 := Lib.hid hb2
  have GW2 := Lib.hid gw2
  have c0 := blk_cell hb2 0 (v := .int .i64 (k : Int)) rfl
  have c4 := blk_cell hb2 4 (v := .int .i64 i) rfl
  clear hb2 gw2 g2 gb hl CM
  go_cut [4, 5] (fun s4 s5 wx => s4 = .string (nmT k) ∧ s5 = .string F ∧ Gr w2 wx)
  case first =>
    have g0 : Gr w2 w2 := Gr.refl _
    have g0d : Gr w2 w2.drew := Gr.drewN g0 1
    go_region_held3 (fun w' => (w'.cell? ⟨B, 0, none⟩ = some (.int .i64 (k : Int)) ∧ w'.cell? ⟨B, 4, none⟩ = some (.int .i64 i)) ∧ Gr w2 w')
      ((refine ⟨⟨?_, ?_⟩, ?_⟩ <;> first | assumption | exact cell_drew6 (by assumption) | exact Gr.drewN (by assumption) 1))
      (first | (go_at_call 21; refine (CN.out _).mono ?_; rintro e w3 ⟨rfl, rfl⟩) | (go_at_call 35; refine (CF.out _ (gtrans GW2.out (by assumption))).mono ?_; rintro e w3 ⟨rfl, g3⟩; have g4 : Gr w2 w3 := gtrans (by assumption) g3; have c03 := blk_cell (blk_gr g4 HB2.out) 0 (v := .int .i64 (k : Int)) rfl; have c43 := blk_cell (blk_gr g4 HB2.out) 4 (v := .int .i64 i) rfl))
    all_goals
      go_wp2_with fail
      go_meet
      exact ⟨rfl, rfl, by assumption⟩
  case rest =>
    obtain ⟨rfl, rfl, g⟩ := hcut
    have hb1 := blk_gr g HB2.out
    have q0 := blk_cell hb1 0 (v := .int .i64 (k : Int)) rfl
    have q1 := blk_cell hb1 1 (v := .int .i64 rd) rfl
    have q2 := blk_cell hb1 2 (v := .int .i64 a) rfl
    have q3 := blk_cell hb1 3 (v := .int .i64 b) rfl
    have q4 := blk_cell hb1 4 (v := .int .i64 i) rfl
    have hcx := HFT.out _ (gtrans GW2.out g) k hk
    rw [HV.out] at hcx
    have GC := Lib.hid (gtrans GW2.out g)
    clear hb1 g c0 c4
    go_wp2_with fail
    go_quiet ((first | (go_at_call 36; exact Calls.quiet_of_same (CR1.out _)) | (go_at_call 36; exact Calls.quiet_of_same (CR2.out _)) | (go_at_call 36; exact Calls.quiet_of_same (CR3.out _))))
    go_wp2_with (go_at_call 37; refine (c_line0 _ _).mono ?_; rintro e w5 ⟨rfl, rfl⟩)
    first | go_ret2 | go_ret
    refine ⟨ret_se ?_ rfl, gtrans GC.out (Gr.drewN (Gr.refl _) _)⟩
    unfold textF
    rw [HV.out]
    rfl
end Go.Proofs.YthcfobefpknjeaaDoor.P
namespace Go.Proofs.YthcfobefpknjeaaDoor.P
open Go.RowKit
set_option maxHeartbeats 3200000 in
theorem c_text_73 (k : Nat) (hk : k < 88) (h1 : 1 ≤ k) (hv : fmT k = 73) (rd a b : Nat) (i : Int) (hi : i64 i) (hm : mayF (k : Int) rd a b i = true) (hrd : rd < 32) (ha : a < 32) (hb : b < 32) (F : ByteArray) (hFs : F.size ≤ 30) (w : World) (hF : FT w)
    (CFI : ∀ w1, Gr w w1 → Calls Tryd.prog 35 #[.int .i64 i, .int .i64 10] w1 fun e w' => e = .returned (.string F) ∧ Gr w1 w') :
    Calls Tryd.prog 17 #[iv (k : Int) rd a b i] w fun e w' => e = .returned (.tuple #[.string (textF k rd a b i F), .int .i64 0]) ∧ Gr w w' := by
  have gb : Gr w (w.alloc (.cells #[.int .i64 (k : Int), .int .i64 rd, .int .i64 a, .int .i64 b, .int .i64 i] 23)) := (Gr.refl w).alloc (Nat.le_refl _) _
  have HFT := Lib.hid (fun w1 (g : Gr w w1) => FT.gr hF g)
  have CM : Hid (∀ w1, Gr w w1 → Calls Tryd.prog 11 #[iv (k : Int) rd a b i] w1 fun e w' => e = .returned (.bool true) ∧ Gr w1 w') := Lib.hid (fun w1 g => by have := c_may (k : Int) rd a b i hi w1 (hF.gr g); rw [hm] at this; exact this)
  have CN : Hid (∀ w1, Calls Tryd.prog 21 #[.int .i64 (k : Int)] w1 fun e w' => e = .returned (.string (nmT k)) ∧ w' = w1) := Lib.hid (fun w1 => c_name_in k hk h1 w1)
  have CF := Lib.hid CFI
  have CR1 := Lib.hid (c_reg rd hrd)
  have CR2 := Lib.hid (c_reg a ha)
  have CR3 := Lib.hid (c_reg b hb)
  have hl : 0 < w.heap.size := cell_lt (hF k hk)
  have HV := Lib.hid hv
  have z1 := nm_size k hk
  have z2 := reg_size rd hrd
  have z3 := reg_size a ha
  have z4 := reg_size b hb
  have z5 := end_size i
  clear hF hv hm CFI
  obtain ⟨i0, i1⟩ := hi
  go_enter Tryd.func17, Tryd.ntmps17
  go_wp2_with (first
    | (go_at_call 11; refine (CM.out _ gb).mono ?_; rintro e w2 ⟨rfl, g2⟩))
  have hb2 := blk_gr g2 (blk_new w (.cells #[.int .i64 (k : Int), .int .i64 rd, .int .i64 a, .int .i64 b, .int .i64 i] 23))
  have gw2 : Gr w w2 := gtrans gb g2
  have hl2 : 0 < w2.heap.size := Nat.lt_of_lt_of_le hl gw2.size
  generalize w.heap.size = B at *
  have HB2 := Lib.hid hb2
  have GW2 := Lib.hid gw2
  have c0 := blk_cell hb2 0 (v := .int .i64 (k : Int)) rfl
  have c4 := blk_cell hb2 4 (v := .int .i64 i) rfl
  clear hb2 gw2 g2 gb hl CM
  go_cut [4, 5] (fun s4 s5 wx => s4 = .string (nmT k) ∧ s5 = .string F ∧ Gr w2 wx)
  case first =>
    have g0 : Gr w2 w2 := Gr.refl _
    have g0d : Gr w2 w2.drew := Gr.drewN g0 1
    go_region_held3 (fun w' => (w'.cell? ⟨B, 0, none⟩ = some (.int .i64 (k : Int)) ∧ w'.cell? ⟨B, 4, none⟩ = some (.int .i64 i)) ∧ Gr w2 w')
      ((refine ⟨⟨?_, ?_⟩, ?_⟩ <;> first | assumption | exact cell_drew6 (by assumption) | exact Gr.drewN (by assumption) 1))
      (first | (go_at_call 21; refine (CN.out _).mono ?_; rintro e w3 ⟨rfl, rfl⟩) | (go_at_call 35; refine (CF.out _ (gtrans GW2.out (by assumption))).mono ?_; rintro e w3 ⟨rfl, g3⟩; have g4 : Gr w2 w3 := gtrans (by assumption) g3; have c03 := blk_cell (blk_gr g4 HB2.out) 0 (v := .int .i64 (k : Int)) rfl; have c43 := blk_cell (blk_gr g4 HB2.out) 4 (v := .int .i64 i) rfl))
    all_goals
      go_wp2_with fail
      go_meet
      exact ⟨rfl, rfl, by assumption⟩
  case rest =>
    obtain ⟨rfl, rfl, g⟩ := hcut
    have hb1 := blk_gr g HB2.out
    have q0 := blk_cell hb1 0 (v := .int .i64 (k : Int)) rfl
    have q1 := blk_cell hb1 1 (v := .int .i64 rd) rfl
    have q2 := blk_cell hb1 2 (v := .int .i64 a) rfl
    have q3 := blk_cell hb1 3 (v := .int .i64 b) rfl
    have q4 := blk_cell hb1 4 (v := .int .i64 i) rfl
    have hcx := HFT.out _ (gtrans GW2.out g) k hk
    rw [HV.out] at hcx
    have GC := Lib.hid (gtrans GW2.out g)
    clear hb1 g c0 c4
    go_wp2_with fail
    go_quiet ((first | (go_at_call 36; exact Calls.quiet_of_same (CR1.out _)) | (go_at_call 36; exact Calls.quiet_of_same (CR2.out _)) | (go_at_call 36; exact Calls.quiet_of_same (CR3.out _))))
    have HRB : Hid (∀ r, loadB k = r → textF k rd a b i F = (bif r then lineF (nmT k) [regF rd, offF F (regF a)] else lineF (nmT k) [regF rd, regF a, F])) := Lib.hid (fun r e => by unfold textF; rw [HV.out, ← e]; rfl)
    by_cases h4 : (k : Int) = 4
    · have hcx4 := hcx
      rw [show k = 4 by omega] at hcx4
      go_wp2_with (first | (go_at_call 37; refine (c_line2 _ (regF rd) (offF F (regF a)) _ (by omega) (by (try simp only [ByteArray.size_append, parF, offF]); have e1 : (⟨#[40]⟩ : ByteArray).size = 1 := rfl; have e2 : (⟨#[41]⟩ : ByteArray).size = 1 := rfl; omega) (by (try simp only [ByteArray.size_append, parF, offF]); have e1 : (⟨#[40]⟩ : ByteArray).size = 1 := rfl; have e2 : (⟨#[41]⟩ : ByteArray).size = 1 := rfl; omega)  _ (by first | exact blk_new _ _ | exact blk_gr (Gr.drewN (Gr.refl _) _) (blk_new _ _))).mono ?_; rintro e w5 ⟨rfl, g5⟩))
      first | go_ret2 | go_ret
      refine ⟨ret_se ?_ rfl, gtrans GC.out (gtrans (gr_alloc (Gr.drewN (Gr.refl _) _) _) g5)⟩
      exact (HRB.out true (by unfold loadB; simp; omega)).symm
    · have b4 : ((k : Int) == 4) = false := by simp [h4]
      by_cases h11 : 11 ≤ k
      · have d11 : decide (11 ≤ k) = true := decide_eq_true h11
        by_cases h17 : k ≤ 17
        · have d17 : decide (k ≤ 17) = true := decide_eq_true h17
          go_wp2_with (first | (go_at_call 37; refine (c_line2 _ (regF rd) (offF F (regF a)) _ (by omega) (by (try simp only [ByteArray.size_append, parF, offF]); have e1 : (⟨#[40]⟩ : ByteArray).size = 1 := rfl; have e2 : (⟨#[41]⟩ : ByteArray).size = 1 := rfl; omega) (by (try simp only [ByteArray.size_append, parF, offF]); have e1 : (⟨#[40]⟩ : ByteArray).size = 1 := rfl; have e2 : (⟨#[41]⟩ : ByteArray).size = 1 := rfl; omega)  _ (by first | exact blk_new _ _ | exact blk_gr (Gr.drewN (Gr.refl _) _) (blk_new _ _))).mono ?_; rintro e w5 ⟨rfl, g5⟩))
          first | go_ret2 | go_ret
          refine ⟨ret_se ?_ rfl, gtrans GC.out (gtrans (gr_alloc (Gr.drewN (Gr.refl _) _) _) g5)⟩
          exact (HRB.out true (by unfold loadB; simp; omega)).symm
        · have d17 : decide (k ≤ 17) = false := decide_eq_false h17
          go_wp2_with (first | (go_at_call 37; refine (c_line3 _ (regF rd) (regF a) F _ (by omega) (by (try simp only [ByteArray.size_append, parF, offF]); have e1 : (⟨#[40]⟩ : ByteArray).size = 1 := rfl; have e2 : (⟨#[41]⟩ : ByteArray).size = 1 := rfl; omega) (by (try simp only [ByteArray.size_append, parF, offF]); have e1 : (⟨#[40]⟩ : ByteArray).size = 1 := rfl; have e2 : (⟨#[41]⟩ : ByteArray).size = 1 := rfl; omega) (by (try simp only [ByteArray.size_append, parF, offF]); have e1 : (⟨#[40]⟩ : ByteArray).size = 1 := rfl; have e2 : (⟨#[41]⟩ : ByteArray).size = 1 := rfl; omega)  _ (by first | exact blk_new _ _ | exact blk_gr (Gr.drewN (Gr.refl _) _) (blk_new _ _))).mono ?_; rintro e w5 ⟨rfl, g5⟩))
          first | go_ret2 | go_ret
          refine ⟨ret_se ?_ rfl, gtrans GC.out (gtrans (gr_alloc (Gr.drewN (Gr.refl _) _) _) g5)⟩
          exact (HRB.out false (by unfold loadB; simp; omega)).symm
      · have d11 : decide (11 ≤ k) = false := decide_eq_false h11
        go_wp2_with (first | (go_at_call 37; refine (c_line3 _ (regF rd) (regF a) F _ (by omega) (by (try simp only [ByteArray.size_append, parF, offF]); have e1 : (⟨#[40]⟩ : ByteArray).size = 1 := rfl; have e2 : (⟨#[41]⟩ : ByteArray).size = 1 := rfl; omega) (by (try simp only [ByteArray.size_append, parF, offF]); have e1 : (⟨#[40]⟩ : ByteArray).size = 1 := rfl; have e2 : (⟨#[41]⟩ : ByteArray).size = 1 := rfl; omega) (by (try simp only [ByteArray.size_append, parF, offF]); have e1 : (⟨#[40]⟩ : ByteArray).size = 1 := rfl; have e2 : (⟨#[41]⟩ : ByteArray).size = 1 := rfl; omega)  _ (by first | exact blk_new _ _ | exact blk_gr (Gr.drewN (Gr.refl _) _) (blk_new _ _))).mono ?_; rintro e w5 ⟨rfl, g5⟩))
        first | go_ret2 | go_ret
        refine ⟨ret_se ?_ rfl, gtrans GC.out (gtrans (gr_alloc (Gr.drewN (Gr.refl _) _) _) g5)⟩
        exact (HRB.out false (by unfold loadB; simp; omega)).symm
end Go.Proofs.YthcfobefpknjeaaDoor.P
namespace Go.Proofs.YthcfobefpknjeaaDoor.P
open Go.RowKit
set_option maxHeartbeats 3200000 in
theorem c_text_72 (k : Nat) (hk : k < 88) (h1 : 1 ≤ k) (hv : fmT k = 72) (rd a b : Nat) (i : Int) (hi : i64 i) (hm : mayF (k : Int) rd a b i = true) (hrd : rd < 32) (ha : a < 32) (hb : b < 32) (F : ByteArray) (hFs : F.size ≤ 30) (w : World) (hF : FT w)
    (CFI : ∀ w1, Gr w w1 → Calls Tryd.prog 35 #[.int .i64 i, .int .i64 10] w1 fun e w' => e = .returned (.string F) ∧ Gr w1 w') :
    Calls Tryd.prog 17 #[iv (k : Int) rd a b i] w fun e w' => e = .returned (.tuple #[.string (textF k rd a b i F), .int .i64 0]) ∧ Gr w w' := by
  have gb : Gr w (w.alloc (.cells #[.int .i64 (k : Int), .int .i64 rd, .int .i64 a, .int .i64 b, .int .i64 i] 23)) := (Gr.refl w).alloc (Nat.le_refl _) _
  have HFT := Lib.hid (fun w1 (g : Gr w w1) => FT.gr hF g)
  have CM : Hid (∀ w1, Gr w w1 → Calls Tryd.prog 11 #[iv (k : Int) rd a b i] w1 fun e w' => e = .returned (.bool true) ∧ Gr w1 w') := Lib.hid (fun w1 g => by have := c_may (k : Int) rd a b i hi w1 (hF.gr g); rw [hm] at this; exact this)
  have CN : Hid (∀ w1, Calls Tryd.prog 21 #[.int .i64 (k : Int)] w1 fun e w' => e = .returned (.string (nmT k)) ∧ w' = w1) := Lib.hid (fun w1 => c_name_in k hk h1 w1)
  have CF := Lib.hid CFI
  have CR1 := Lib.hid (c_reg rd hrd)
  have CR2 := Lib.hid (c_reg a ha)
  have CR3 := Lib.hid (c_reg b hb)
  have hl : 0 < w.heap.size := cell_lt (hF k hk)
  have HV := Lib.hid hv
  have z1 := nm_size k hk
  have z2 := reg_size rd hrd
  have z3 := reg_size a ha
  have z4 := reg_size b hb
  have z5 := end_size i
  clear hF hv hm CFI
  obtain ⟨i0, i1⟩ := hi
  go_enter Tryd.func17, Tryd.ntmps17
  go_wp2_with (first
    | (go_at_call 11; refine (CM.out _ gb).mono ?_; rintro e w2 ⟨rfl, g2⟩))
  have hb2 := blk_gr g2 (blk_new w (.cells #[.int .i64 (k : Int), .int .i64 rd, .int .i64 a, .int .i64 b, .int .i64 i] 23))
  have gw2 : Gr w w2 := gtrans gb g2
  have hl2 : 0 < w2.heap.size := Nat.lt_of_lt_of_le hl gw2.size
  generalize w.heap.size = B at *
  have HB2 := Lib.hid hb2
  have GW2 := Lib.hid gw2
  have c0 := blk_cell hb2 0 (v := .int .i64 (k : Int)) rfl
  have c4 := blk_cell hb2 4 (v := .int .i64 i) rfl
  clear hb2 gw2 g2 gb hl CM
  go_cut [4, 5] (fun s4 s5 wx => s4 = .string (nmT k) ∧ s5 = .string F ∧ Gr w2 wx)
  case first =>
    have g0 : Gr w2 w2 := Gr.refl _
    have g0d : Gr w2 w2.drew := Gr.drewN g0 1
    go_region_held3 (fun w' => (w'.cell? ⟨B, 0, none⟩ = some (.int .i64 (k : Int)) ∧ w'.cell? ⟨B, 4, none⟩ = some (.int .i64 i)) ∧ Gr w2 w')
      ((refine ⟨⟨?_, ?_⟩, ?_⟩ <;> first | assumption | exact cell_drew6 (by assumption) | exact Gr.drewN (by assumption) 1))
      (first | (go_at_call 21; refine (CN.out _).mono ?_; rintro e w3 ⟨rfl, rfl⟩) | (go_at_call 35; refine (CF.out _ (gtrans GW2.out (by assumption))).mono ?_; rintro e w3 ⟨rfl, g3⟩; have g4 : Gr w2 w3 := gtrans (by assumption) g3; have c03 := blk_cell (blk_gr g4 HB2.out) 0 (v := .int .i64 (k : Int)) rfl; have c43 := blk_cell (blk_gr g4 HB2.out) 4 (v := .int .i64 i) rfl))
    all_goals
      go_wp2_with fail
      go_meet
      exact ⟨rfl, rfl, by assumption⟩
  case rest =>
    obtain ⟨rfl, rfl, g⟩ := hcut
    have hb1 := blk_gr g HB2.out
    have q0 := blk_cell hb1 0 (v := .int .i64 (k : Int)) rfl
    have q1 := blk_cell hb1 1 (v := .int .i64 rd) rfl
    have q2 := blk_cell hb1 2 (v := .int .i64 a) rfl
    have q3 := blk_cell hb1 3 (v := .int .i64 b) rfl
    have q4 := blk_cell hb1 4 (v := .int .i64 i) rfl
    have hcx := HFT.out _ (gtrans GW2.out g) k hk
    rw [HV.out] at hcx
    have GC := Lib.hid (gtrans GW2.out g)
    clear hb1 g c0 c4
    go_wp2_with fail
    go_quiet ((first | (go_at_call 36; exact Calls.quiet_of_same (CR1.out _)) | (go_at_call 36; exact Calls.quiet_of_same (CR2.out _)) | (go_at_call 36; exact Calls.quiet_of_same (CR3.out _))))
    have HRB : Hid (∀ r, loadB k = r → textF k rd a b i F = (bif r then lineF (nmT k) [regF rd, offF F (regF a)] else lineF (nmT k) [regF rd, regF a, F])) := Lib.hid (fun r e => by unfold textF; rw [HV.out, ← e]; rfl)
    have h18 : 18 ≤ k := (by decide +kernel : ∀ k : Nat, k < 88 → fmT k = 72 → 18 ≤ k) k hk HV.out
    have b4 : ((k : Int) == 4) = false := by simp; omega
    have n4 : ¬ (k : Int) = 4 := by omega
    have d11 : decide (11 ≤ k) = true := decide_eq_true (by omega)
    have d17 : decide (k ≤ 17) = false := decide_eq_false (by omega)
    go_wp2_with (first | (go_at_call 37; refine (c_line3 _ (regF rd) (regF a) F _ (by omega) (by (try simp only [ByteArray.size_append, parF, offF]); have e1 : (⟨#[40]⟩ : ByteArray).size = 1 := rfl; have e2 : (⟨#[41]⟩ : ByteArray).size = 1 := rfl; omega) (by (try simp only [ByteArray.size_append, parF, offF]); have e1 : (⟨#[40]⟩ : ByteArray).size = 1 := rfl; have e2 : (⟨#[41]⟩ : ByteArray).size = 1 := rfl; omega) (by (try simp only [ByteArray.size_append, parF, offF]); have e1 : (⟨#[40]⟩ : ByteArray).size = 1 := rfl; have e2 : (⟨#[41]⟩ : ByteArray).size = 1 := rfl; omega)  _ (by first | exact blk_new _ _ | exact blk_gr (Gr.drewN (Gr.refl _) _) (blk_new _ _))).mono ?_; rintro e w5 ⟨rfl, g5⟩))
    first | go_ret2 | go_ret
    refine ⟨ret_se ?_ rfl, gtrans GC.out (gtrans (gr_alloc (Gr.drewN (Gr.refl _) _) _) g5)⟩
    exact (HRB.out false (by unfold loadB; simp; omega)).symm
set_option maxHeartbeats 3200000 in
theorem c_text_86 (k : Nat) (hk : k < 88) (h1 : 1 ≤ k) (hv : fmT k = 86) (rd a b : Nat) (i : Int) (hi : i64 i) (hm : mayF (k : Int) rd a b i = true) (hrd : rd < 32) (ha : a < 32) (hb : b < 32) (F : ByteArray) (hFs : F.size ≤ 30) (w : World) (hF : FT w)
    (CFI : ∀ w1, Gr w w1 → Calls Tryd.prog 35 #[.int .i64 i, .int .i64 10] w1 fun e w' => e = .returned (.string F) ∧ Gr w1 w') :
    Calls Tryd.prog 17 #[iv (k : Int) rd a b i] w fun e w' => e = .returned (.tuple #[.string (textF k rd a b i F), .int .i64 0]) ∧ Gr w w' := by
  have gb : Gr w (w.alloc (.cells #[.int .i64 (k : Int), .int .i64 rd, .int .i64 a, .int .i64 b, .int .i64 i] 23)) := (Gr.refl w).alloc (Nat.le_refl _) _
  have HFT := Lib.hid (fun w1 (g : Gr w w1) => FT.gr hF g)
  have CM : Hid (∀ w1, Gr w w1 → Calls Tryd.prog 11 #[iv (k : Int) rd a b i] w1 fun e w' => e = .returned (.bool true) ∧ Gr w1 w') := Lib.hid (fun w1 g => by have := c_may (k : Int) rd a b i hi w1 (hF.gr g); rw [hm] at this; exact this)
  have CN : Hid (∀ w1, Calls Tryd.prog 21 #[.int .i64 (k : Int)] w1 fun e w' => e = .returned (.string (nmT k)) ∧ w' = w1) := Lib.hid (fun w1 => c_name_in k hk h1 w1)
  have CF := Lib.hid CFI
  have CR1 := Lib.hid (c_reg rd hrd)
  have CR2 := Lib.hid (c_reg a ha)
  have CR3 := Lib.hid (c_reg b hb)
  have hl : 0 < w.heap.size := cell_lt (hF k hk)
  have HV := Lib.hid hv
  have z1 := nm_size k hk
  have z2 := reg_size rd hrd
  have z3 := reg_size a ha
  have z4 := reg_size b hb
  have z5 := end_size i
  clear hF hv hm CFI
  obtain ⟨i0, i1⟩ := hi
  go_enter Tryd.func17, Tryd.ntmps17
  go_wp2_with (first
    | (go_at_call 11; refine (CM.out _ gb).mono ?_; rintro e w2 ⟨rfl, g2⟩))
  have hb2 := blk_gr g2 (blk_new w (.cells #[.int .i64 (k : Int), .int .i64 rd, .int .i64 a, .int .i64 b, .int .i64 i] 23))
  have gw2 : Gr w w2 := gtrans gb g2
  have hl2 : 0 < w2.heap.size := Nat.lt_of_lt_of_le hl gw2.size
  generalize w.heap.size = B at *
  have HB2 := Lib.hid hb2
  have GW2 := Lib.hid gw2
  have c0 := blk_cell hb2 0 (v := .int .i64 (k : Int)) rfl
  have c4 := blk_cell hb2 4 (v := .int .i64 i) rfl
  clear hb2 gw2 g2 gb hl CM
  go_cut [4, 5] (fun s4 s5 wx => s4 = .string (nmT k) ∧ s5 = .string F ∧ Gr w2 wx)
  case first =>
    have g0 : Gr w2 w2 := Gr.refl _
    have g0d : Gr w2 w2.drew := Gr.drewN g0 1
    go_region_held3 (fun w' => (w'.cell? ⟨B, 0, none⟩ = some (.int .i64 (k : Int)) ∧ w'.cell? ⟨B, 4, none⟩ = some (.int .i64 i)) ∧ Gr w2 w')
      ((refine ⟨⟨?_, ?_⟩, ?_⟩ <;> first | assumption | exact cell_drew6 (by assumption) | exact Gr.drewN (by assumption) 1))
      (first | (go_at_call 21; refine (CN.out _).mono ?_; rintro e w3 ⟨rfl, rfl⟩) | (go_at_call 35; refine (CF.out _ (gtrans GW2.out (by assumption))).mono ?_; rintro e w3 ⟨rfl, g3⟩; have g4 : Gr w2 w3 := gtrans (by assumption) g3; have c03 := blk_cell (blk_gr g4 HB2.out) 0 (v := .int .i64 (k : Int)) rfl; have c43 := blk_cell (blk_gr g4 HB2.out) 4 (v := .int .i64 i) rfl))
    all_goals
      go_wp2_with fail
      go_meet
      exact ⟨rfl, rfl, by assumption⟩
  case rest =>
    obtain ⟨rfl, rfl, g⟩ := hcut
    have hb1 := blk_gr g HB2.out
    have q0 := blk_cell hb1 0 (v := .int .i64 (k : Int)) rfl
    have q1 := blk_cell hb1 1 (v := .int .i64 rd) rfl
    have q2 := blk_cell hb1 2 (v := .int .i64 a) rfl
    have q3 := blk_cell hb1 3 (v := .int .i64 b) rfl
    have q4 := blk_cell hb1 4 (v := .int .i64 i) rfl
    have hcx := HFT.out _ (gtrans GW2.out g) k hk
    rw [HV.out] at hcx
    have GC := Lib.hid (gtrans GW2.out g)
    clear hb1 g c0 c4
    go_wp2_with fail
    go_quiet ((first | (go_at_call 36; exact Calls.quiet_of_same (CR1.out _)) | (go_at_call 36; exact Calls.quiet_of_same (CR2.out _)) | (go_at_call 36; exact Calls.quiet_of_same (CR3.out _))))
    have HRB : Hid (∀ r, loadB k = r → textF k rd a b i F = (bif r then lineF (nmT k) [regF rd, offF F (regF a)] else lineF (nmT k) [regF rd, regF a, F])) := Lib.hid (fun r e => by unfold textF; rw [HV.out, ← e]; rfl)
    have h18 : 18 ≤ k := (by decide +kernel : ∀ k : Nat, k < 88 → fmT k = 86 → 18 ≤ k) k hk HV.out
    have b4 : ((k : Int) == 4) = false := by simp; omega
    have n4 : ¬ (k : Int) = 4 := by omega
    have d11 : decide (11 ≤ k) = true := decide_eq_true (by omega)
    have d17 : decide (k ≤ 17) = false := decide_eq_false (by omega)
    go_wp2_with (first | (go_at_call 37; refine (c_line3 _ (regF rd) (regF a) F _ (by omega) (by (try simp only [ByteArray.size_append, parF, offF]); have e1 : (⟨#[40]⟩ : ByteArray).size = 1 := rfl; have e2 : (⟨#[41]⟩ : ByteArray).size = 1 := rfl; omega) (by (try simp only [ByteArray.size_append, parF, offF]); have e1 : (⟨#[40]⟩ : ByteArray).size = 1 := rfl; have e2 : (⟨#[41]⟩ : ByteArray).size = 1 := rfl; omega) (by (try simp only [ByteArray.size_append, parF, offF]); have e1 : (⟨#[40]⟩ : ByteArray).size = 1 := rfl; have e2 : (⟨#[41]⟩ : ByteArray).size = 1 := rfl; omega)  _ (by first | exact blk_new _ _ | exact blk_gr (Gr.drewN (Gr.refl _) _) (blk_new _ _))).mono ?_; rintro e w5 ⟨rfl, g5⟩))
    first | go_ret2 | go_ret
    refine ⟨ret_se ?_ rfl, gtrans GC.out (gtrans (gr_alloc (Gr.drewN (Gr.refl _) _) _) g5)⟩
    exact (HRB.out false (by unfold loadB; simp; omega)).symm
end Go.Proofs.YthcfobefpknjeaaDoor.P
