/- Stage 2: an instruction as text. No condition. -/
import Derived.Test.YthcfobefpknjeaaDoorN2
import Derived.Test.YthcfobefpknjeaaDoorB7
import Derived.Deep.RegionHeld3
import Derived.Deep.DeepCutAuto
set_option linter.unusedVariables false
set_option linter.unusedSimpArgs false
set_option maxRecDepth 100000
namespace Go.Proofs.YthcfobefpknjeaaDoor.P
open Go.RowKit
theorem nm_size : ∀ k : Nat, k < 88 → (nmT k).size ≤ 20 := by decide +kernel
theorem end_size (i : Int) : (endF i).size ≤ 5 := by
  unfold endF
  repeat' split
  all_goals decide
theorem reg_size (n : Nat) (hn : n < 32) : (regF n).size ≤ 3 := by
  have := dig_len n hn
  unfold regF
  rw [ByteArray.size_append]
  show 1 + (Lib.decDigits n).length ≤ 3
  omega
theorem join2_len (x y : ByteArray) (hx : x.size ≤ 60) (hy : y.size ≤ 60) : (Lib.join ([x, y].map (fun x => x.data.toList)) [44, 32]).length ≤ 1000 := by
  rw [List.map_cons, Lib.join_cons]
  simp only [Lib.joinTail, List.map_cons, List.map_nil, List.flatten_cons, List.flatten_nil, List.length_append, Array.length_toList, List.length_cons, List.length_nil]
  have e1 : x.data.size = x.size := rfl
  have e2 : y.data.size = y.size := rfl
  omega
theorem join3_len (x y z : ByteArray) (hx : x.size ≤ 60) (hy : y.size ≤ 60) (hz : z.size ≤ 60) : (Lib.join ([x, y, z].map (fun x => x.data.toList)) [44, 32]).length ≤ 1000 := by
  rw [List.map_cons, Lib.join_cons]
  simp only [Lib.joinTail, List.map_cons, List.map_nil, List.flatten_cons, List.flatten_nil, List.length_append, Array.length_toList, List.length_cons, List.length_nil]
  have e1 : x.data.size = x.size := rfl
  have e2 : y.data.size = y.size := rfl
  have e3 : z.data.size = z.size := rfl
  omega
theorem c_line2 (nm x y : ByteArray) (bk : Nat) (hnm : nm.size ≤ 100) (hx : x.size ≤ 60) (hy : y.size ≤ 60) (w : World) (hb : w.heap[bk]? = some (.cells #[.string x, .string y] 9)) :
    Calls Tryd.prog 37 #[.string nm, .slice (some ⟨bk, 0, none⟩) 2 2] w fun e w' => e = .returned (.string (lineF nm [x, y])) ∧ Gr w w' :=
  c_line nm bk [x, y] (by simp) (by simp) (join2_len x y hx hy) hnm w (fun j z hj => by
    rw [Nat.zero_add]
    refine blk_cell hb j ?_
    match j, hj with
    | 0, hj => injection hj with hj; rw [← hj]; rfl
    | 1, hj => injection hj with hj; rw [← hj]; rfl
    | j + 2, hj => cases hj) (blk_lt hb)
theorem c_line3 (nm x y z : ByteArray) (bk : Nat) (hnm : nm.size ≤ 100) (hx : x.size ≤ 60) (hy : y.size ≤ 60) (hz : z.size ≤ 60) (w : World) (hb : w.heap[bk]? = some (.cells #[.string x, .string y, .string z] 9)) :
    Calls Tryd.prog 37 #[.string nm, .slice (some ⟨bk, 0, none⟩) 3 3] w fun e w' => e = .returned (.string (lineF nm [x, y, z])) ∧ Gr w w' :=
  c_line nm bk [x, y, z] (by simp) (by simp) (join3_len x y z hx hy hz) hnm w (fun j q hj => by
    rw [Nat.zero_add]
    refine blk_cell hb j ?_
    match j, hj with
    | 0, hj => injection hj with hj; rw [← hj]; rfl
    | 1, hj => injection hj with hj; rw [← hj]; rfl
    | 2, hj => injection hj with hj; rw [← hj]; rfl
    | j + 3, hj => cases hj) (blk_lt hb)
theorem ret_se {a b : ByteArray} {c d : Int} (h : a = b) (h2 : c = d) : Ending.returned (.tuple #[.string a, .int .i64 c]) = .returned (.tuple #[.string b, .int .i64 d]) := by rw [h, h2]
def loadB (k : Nat) : Bool := decide (k = 4) || (decide (11 ≤ k) && decide (k ≤ 17))
def parF (x : ByteArray) : ByteArray := ((⟨#[40]⟩ : ByteArray) ++ x) ++ ⟨#[41]⟩
def offF (F x : ByteArray) : ByteArray := ((F ++ (⟨#[40]⟩ : ByteArray)) ++ x) ++ ⟨#[41]⟩
def textF (k rd a b : Nat) (i : Int) (F : ByteArray) : ByteArray :=
  if fmT k = 85 ∨ fmT k = 74 then lineF (nmT k) [regF rd, F] else
  if fmT k = 66 then lineF (nmT k) [regF a, regF b, F] else
  if fmT k = 83 then lineF (nmT k) [regF b, offF F (regF a)] else
  if fmT k = 82 then lineF (nmT k) [regF rd, regF a, regF b] else
  if fmT k = 65 then (bif resB k then lineF (nmT k ++ endF i) [regF rd, parF (regF a)] else lineF (nmT k ++ endF i) [regF rd, regF b, parF (regF a)]) else
  if fmT k = 78 then nmT k else
  bif loadB k then lineF (nmT k) [regF rd, offF F (regF a)] else lineF (nmT k) [regF rd, regF a, F]
set_option maxHeartbeats 3200000 in
theorem c_text_83 (k : Nat) (hk : k < 88) (h1 : 1 ≤ k) (hv : fmT k = 83) (rd a b : Nat) (i : Int) (hi : i64 i) (hm : mayF (k : Int) rd a b i = true) (hrd : rd < 32) (ha : a < 32) (hb : b < 32) (F : ByteArray) (hFs : F.size ≤ 30) (w : World) (hF : FT w)
    (CFI : ∀ w1, Gr w w1 → Calls Tryd.prog 35 #[.int .i64 i, .int .i64 10] w1 fun e w' => e = .returned (.string F) ∧ Gr w1 w') :
    Calls Tryd.prog 17 #[iv (k : Int) rd a b i] w fun e w' => e = .returned (.tuple #[.string (textF k rd a b i F), .int .i64 0]) ∧ Gr w w' := by
  have gb : Gr w (w.alloc (.cells #[.int .i64 (k : Int), .int .i64 rd, .int .i64 a, .int .i64 b, .int .i64 i] 23)) := (Gr.refl w).alloc (Nat.le_refl _) _
  have HFT := Lib.hid (fun w1 (g : Gr w w1) => FT.gr hF g)
  have CM : Hid (∀ w1, Gr w w1 → Calls Tryd.prog 11 #[iv (k : Int) rd a b i] w1 fun e w' => e = .returned (.bool true) ∧ Gr w1 w') := Lib.hid (fun w1 g => by have := c_may (k : Int) rd a b i hi w1 (hF.gr g); rw [hm] at this; exact this)
  have CN : Hid (∀ w1, Calls Tryd.prog 21 #[.int .i64 (k : Int)] w1 fun e w' => e = .returned (.string (nmT k)) ∧ w' = w1) := Lib.hid (fun w1 => c_name_in k hk h1 w1)
  have CF := Lib.hid CFI
  have CR1 := Lib.hid (c_reg rd hrd)
  have CR2 := Lib.hid (c_reg a ha)
  have CR3 := Lib.hid (c_reg b hb)
  have hl : 0 < w.heap.size := cell_lt (hF k hk)
  have HV := Lib.hid hv
  have z1 := nm_size k hk
  have z2 := reg_size rd hrd
  have z3 := reg_size a ha
  have z4 := reg_size b hb
  have z5 := end_size i
  clear hF hv hm CFI
  obtain ⟨i0, i1⟩ := hi
  go_enter Tryd.func17, Tryd.ntmps17
  go_wp2_with (first
    | (go_at_call 11; refine (CM.out _ gb).mono ?_; rintro e w2 ⟨rfl, g2⟩))
  have hb2 := blk_gr g2 (blk_new w (.cells #[.int .i64 (k : Int), .int .i64 rd, .int .i64 a, .int .i64 b, .int .i64 i] 23))
  have gw2 : Gr w w2 := gtrans gb g2
  have hl2 : 0 < w2.heap.size := Nat.lt_of_lt_of_le hl gw2.size
  generalize w.heap.size = B at *
  have HB2 := Lib.hid hb2
  have GW2 := Lib.hid gw2
  have c0 := blk_cell hb2 0 (v := .int .i64 (k : Int)) rfl
  have c4 := blk_cell hb2 4 (v := .int .i64 i) rfl
  clear hb2 gw2 g2 gb hl CM
  go_cut [4, 5] (fun s4 s5 wx => s4 = .string (nmT k) ∧ s5 = .string F ∧ Gr w2 wx)
  case first =>
    have g0 : Gr w2 w2 := Gr.refl _
    have g0d : Gr w2 w2.drew := Gr.drewN g0 1
    go_region_held3 (fun w' => (w'.cell? ⟨B, 0, none⟩ = some (.int .i64 (k : Int)) ∧ w'.cell? ⟨B, 4, none⟩ = some (.int .i64 i)) ∧ Gr w2 w')
      ((refine ⟨⟨?_, ?_⟩, ?_⟩ <;> first | assumption | exact cell_drew6 (by assumption) | exact Gr.drewN (by assumption) 1))
      (first | (go_at_call 21; refine (CN.out _).mono ?_; rintro e w3 ⟨rfl, rfl⟩) | (go_at_call 35; refine (CF.out _ (gtrans GW2.out (by assumption))).mono ?_; rintro e w3 ⟨rfl, g3⟩; have g4 : Gr w2 w3 := gtrans (by assumption) g3; have c03 := blk_cell (blk_gr g4 HB2.out) 0 (v := .int .i64 (k : Int)) rfl; have c43 := blk_cell (blk_gr g4 HB2.out) 4 (v := .int .i64 i) rfl))
    all_goals
      go_wp2_with fail
      go_meet
      exact ⟨rfl, rfl, by assumption⟩
  case rest =>
    obtain ⟨rfl, rfl, g⟩ := hcut
    have hb1 := blk_gr g HB2.out
    have q0 := blk_cell hb1 0 (v := .int .i64 (k : Int)) rfl
    have q1 := blk_cell hb1 1 (v := .int .i64 rd) rfl
    have q2 := blk_cell hb1 2 (v := .int .i64 a) rfl
    have q3 := blk_cell hb1 3 (v := .int .i64 b) rfl
    have q4 := blk_cell hb1 4 (v := .int .i64 i) rfl
    have hcx := HFT.out _ (gtrans GW2.out g) k hk
    rw [HV.out] at hcx
    have GC := Lib.hid (gtrans GW2.out g)
    clear hb1 g c0 c4
    go_wp2_with fail
    go_quiet ((first | (go_at_call 36; exact Calls.quiet_of_same (CR1.out _)) | (go_at_call 36; exact Calls.quiet_of_same (CR2.out _)) | (go_at_call 36; exact Calls.quiet_of_same (CR3.out _))))
    go_wp2_with (first | (go_at_call 37; refine (c_line2 _ (regF b) (offF F (regF a)) _ (by omega) (by (try simp only [ByteArray.size_append, parF, offF]); have e1 : (⟨#[40]⟩ : ByteArray).size = 1 := rfl; have e2 : (⟨#[41]⟩ : ByteArray).size = 1 := rfl; omega) (by (try simp only [ByteArray.size_append, parF, offF]); have e1 : (⟨#[40]⟩ : ByteArray).size = 1 := rfl; have e2 : (⟨#[41]⟩ : ByteArray).size = 1 := rfl; omega)  _ (by first | exact blk_new _ _ | exact blk_gr (Gr.drewN (Gr.refl _) _) (blk_new _ _))).mono ?_; rintro e w5 ⟨rfl, g5⟩))
    first | go_ret2 | go_ret
    refine ⟨ret_se ?_ rfl, gtrans GC.out (gtrans (gr_alloc (Gr.drewN (Gr.refl _) _) _) g5)⟩
    unfold textF
    rw [HV.out]
    rfl
set_option maxHeartbeats 3200000 in
theorem c_text_65 (k : Nat) (hk : k < 88) (h1 : 1 ≤ k) (hv : fmT k = 65) (rd a b : Nat) (i : Int) (hi : i64 i) (hm : mayF (k : Int) rd a b i = true) (hrd : rd < 32) (ha : a < 32) (hb : b < 32) (F : ByteArray) (hFs : F.size ≤ 30) (w : World) (hF : FT w)
    (CFI : ∀ w1, Gr w w1 → Calls Tryd.prog 35 #[.int .i64 i, .int .i64 10] w1 fun e w' => e = .returned (.string F) ∧ Gr w1 w') :
    Calls Tryd.prog 17 #[iv (k : Int) rd a b i] w fun e w' => e = .returned (.tuple #[.string (textF k rd a b i F), .int .i64 0]) ∧ Gr w w' := by
  have gb : Gr w (w.alloc (.cells #[.int .i64 (k : Int), .int .i64 rd, .int .i64 a, .int .i64 b, .int .i64 i] 23)) := (Gr.refl w).alloc (Nat.le_refl _) _
  have HFT := Lib.hid (fun w1 (g : Gr w w1) => FT.gr hF g)
  have CM : Hid (∀ w1, Gr w w1 → Calls Tryd.prog 11 #[iv (k : Int) rd a b i] w1 fun e w' => e = .returned (.bool true) ∧ Gr w1 w') := Lib.hid (fun w1 g => by have := c_may (k : Int) rd a b i hi w1 (hF.gr g); rw [hm] at this; exact this)
  have CN : Hid (∀ w1, Calls Tryd.prog 21 #[.int .i64 (k : Int)] w1 fun e w' => e = .returned (.string (nmT k)) ∧ w' = w1) := Lib.hid (fun w1 => c_name_in k hk h1 w1)
  have CF := Lib.hid CFI
  have CR1 := Lib.hid (c_reg rd hrd)
  have CR2 := Lib.hid (c_reg a ha)
  have CR3 := Lib.hid (c_reg b hb)
  have hl : 0 < w.heap.size := cell_lt (hF k hk)
  have HV := Lib.hid hv
  have z1 := nm_size k hk
  have z2 := reg_size rd hrd
  have z3 := reg_size a ha
  have z4 := reg_size b hb
  have z5 := end_size i
  clear hF hv hm CFI
  obtain ⟨i0, i1⟩ := hi
  go_enter Tryd.func17, Tryd.ntmps17
  go_wp2_with (first
    | (go_at_call 11; refine (CM.out _ gb).mono ?_; rintro e w2 ⟨rfl, g2⟩))
  have hb2 := blk_gr g2 (blk_new w (.cells #[.int .i64 (k : Int), .int .i64 rd, .int .i64 a, .int .i64 b, .int .i64 i] 23))
  have gw2 : Gr w w2 := gtrans gb g2
  have hl2 : 0 < w2.heap.size := Nat.lt_of_lt_of_le hl gw2.size
  generalize w.heap.size = B at *
  have HB2 := Lib.hid hb2
  have GW2 := Lib.hid gw2
  have c0 := blk_cell hb2 0 (v := .int .i64 (k : Int)) rfl
  have c4 := blk_cell hb2 4 (v := .int .i64 i) rfl
  clear hb2 gw2 g2 gb hl CM
  go_cut [4, 5] (fun s4 s5 wx => s4 = .string (nmT k) ∧ s5 = .string F ∧ Gr w2 wx)
  case first =>
    have g0 : Gr w2 w2 := Gr.refl _
    have g0d : Gr w2 w2.drew := Gr.drewN g0 1
    go_region_held3 (fun w' => (w'.cell? ⟨B, 0, none⟩ = some (.int .i64 (k : Int)) ∧ w'.cell? ⟨B, 4, none⟩ = some (.int .i64 i)) ∧ Gr w2 w')
      ((refine ⟨⟨?_, ?_⟩, ?_⟩ <;> first | assumption | exact cell_drew6 (by assumption) | exact Gr.drewN (by assumption) 1))
      (first | (go_at_call 21; refine (CN.out _).mono ?_; rintro e w3 ⟨rfl, rfl⟩) | (go_at_call 35; refine (CF.out _ (gtrans GW2.out (by assumption))).mono ?_; rintro e w3 ⟨rfl, g3⟩; have g4 : Gr w2 w3 := gtrans (by assumption) g3; have c03 := blk_cell (blk_gr g4 HB2.out) 0 (v := .int .i64 (k : Int)) rfl; have c43 := blk_cell (blk_gr g4 HB2.out) 4 (v := .int .i64 i) rfl))
    all_goals
      go_wp2_with fail
      go_meet
      exact ⟨rfl, rfl, by assumption⟩
  case rest =>
    obtain ⟨rfl, rfl, g⟩ := hcut
    have hb1 := blk_gr g HB2.out
    have q0 := blk_cell hb1 0 (v := .int .i64 (k : Int)) rfl
    have q1 := blk_cell hb1 1 (v := .int .i64 rd) rfl
    have q2 := blk_cell hb1 2 (v := .int .i64 a) rfl
    have q3 := blk_cell hb1 3 (v := .int .i64 b) rfl
    have q4 := blk_cell hb1 4 (v := .int .i64 i) rfl
    have hcx := HFT.out _ (gtrans GW2.out g) k hk
    rw [HV.out] at hcx
    have GC := Lib.hid (gtrans GW2.out g)
    clear hb1 g c0 c4
    go_wp2_with fail
    go_quiet ((first | (go_at_call 36; exact Calls.quiet_of_same (CR1.out _)) | (go_at_call 36; exact Calls.quiet_of_same (CR2.out _)) | (go_at_call 36; exact Calls.quiet_of_same (CR3.out _))))
    have CS : Hid (∀ w1, Calls Tryd.prog 24 #[.int .i64 (k : Int)] w1 fun e w' => e = .returned (.bool (resB k)) ∧ w' = w1) := Lib.hid (fun w1 => c_reserves (k : Int) w1)
    have CE := Lib.hid (c_ending i)
    have HRB : Hid (∀ r, resB k = r → textF k rd a b i F = (bif r then lineF (nmT k ++ endF i) [regF rd, parF (regF a)] else lineF (nmT k ++ endF i) [regF rd, regF b, parF (regF a)])) := Lib.hid (fun r e => by unfold textF; rw [HV.out, ← e]; rfl)
    generalize hrs : resB k = rs at *
    have HRS := Lib.hid hrs
    clear hrs
    cases rs
    · go_wp2_with (first | (go_at_call 24; refine (CS.out _).mono ?_; rintro e w4 ⟨rfl, rfl⟩) | (go_at_call 38; refine (CE.out _).mono ?_; rintro e w4 ⟨rfl, rfl⟩) | (go_at_call 37; refine (c_line3 _ (regF rd) (regF b) (parF (regF a)) _ (by rw [ByteArray.size_append]; omega) (by (try simp only [ByteArray.size_append, parF, offF]); have e1 : (⟨#[40]⟩ : ByteArray).size = 1 := rfl; have e2 : (⟨#[41]⟩ : ByteArray).size = 1 := rfl; omega) (by (try simp only [ByteArray.size_append, parF, offF]); have e1 : (⟨#[40]⟩ : ByteArray).size = 1 := rfl; have e2 : (⟨#[41]⟩ : ByteArray).size = 1 := rfl; omega) (by (try simp only [ByteArray.size_append, parF, offF]); have e1 : (⟨#[40]⟩ : ByteArray).size = 1 := rfl; have e2 : (⟨#[41]⟩ : ByteArray).size = 1 := rfl; omega)  _ (by first | exact blk_new _ _ | exact blk_gr (Gr.drewN (Gr.refl _) _) (blk_new _ _))).mono ?_; rintro e w5 ⟨rfl, g5⟩))
      first | go_ret2 | go_ret
      refine ⟨ret_se ?_ rfl, gtrans GC.out (gtrans (gr_alloc (Gr.drewN (Gr.refl _) _) _) g5)⟩
      exact (HRB.out _ rfl).symm
    · go_wp2_with (first | (go_at_call 24; refine (CS.out _).mono ?_; rintro e w4 ⟨rfl, rfl⟩) | (go_at_call 38; refine (CE.out _).mono ?_; rintro e w4 ⟨rfl, rfl⟩) | (go_at_call 37; refine (c_line2 _ (regF rd) (parF (regF a)) _ (by rw [ByteArray.size_append]; omega) (by (try simp only [ByteArray.size_append, parF, offF]); have e1 : (⟨#[40]⟩ : ByteArray).size = 1 := rfl; have e2 : (⟨#[41]⟩ : ByteArray).size = 1 := rfl; omega) (by (try simp only [ByteArray.size_append, parF, offF]); have e1 : (⟨#[40]⟩ : ByteArray).size = 1 := rfl; have e2 : (⟨#[41]⟩ : ByteArray).size = 1 := rfl; omega)  _ (by first | exact blk_new _ _ | exact blk_gr (Gr.drewN (Gr.refl _) _) (blk_new _ _))).mono ?_; rintro e w5 ⟨rfl, g5⟩))
      first | go_ret2 | go_ret
      refine ⟨ret_se ?_ rfl, gtrans GC.out (gtrans (gr_alloc (Gr.drewN (Gr.refl _) _) _) g5)⟩
      exact (HRB.out _ rfl).symm
end Go.Proofs.YthcfobefpknjeaaDoor.P
