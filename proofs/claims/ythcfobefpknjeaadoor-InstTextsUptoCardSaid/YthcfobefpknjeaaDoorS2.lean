/- Stage 2: the document's examples. No condition. -/
import Derived.Test.YthcfobefpknjeaaDoorD5
import Derived.Test.YthcfobefpknjeaaDoorB7
import Derived.Test.YthcfobefpknjeaaDoorN8
set_option linter.unusedVariables false
set_option linter.unusedSimpArgs false
set_option maxRecDepth 100000
namespace Go.Proofs.YthcfobefpknjeaaDoor.P
open Go.RowKit
theorem ex_enc (w : World) (hF : FT w) : Calls Tryd.prog 13 #[iv 22 1 2 0 (-5)] w fun e w' => e = .returned (.tuple #[.int .u32 4289790099, .int .i64 0]) ∧ Gr w w' := by
  have := c_encode 22 1 2 0 (-5) ⟨by decide, by decide⟩ w hF
  rw [show encV 22 1 2 0 (-5) = 4289790099 by decide +kernel, show encE 22 1 2 0 (-5) = 0 by decide +kernel] at this
  exact this
theorem ex_dec (w : World) (hF : FT w) : Calls Tryd.prog 15 #[.int .u32 4263546595] w fun e w' => e = .returned (.tuple #[iv 5 0 1 2 (-4), .int .i64 0]) ∧ Gr w w' := by
  refine c_decode_yes 4263546595 ⟨by decide, by decide⟩ 5 (by decide) (by decide +kernel) (by decide +kernel) (by decide +kernel) (fun j j1 j2 j3 => ?_) 0 1 2 (-4) w hF (fun w1 g => ?_)
  · exfalso
    have : fromF (4263546595 % 128) = 5 := by decide +kernel
    omega
  · have := c_fld_66 5 (by decide) (by decide) (by decide +kernel) 4263546595 ⟨by decide, by decide⟩ w1 (hF.gr g)
    rw [show (4263546595 / 32768 % 32 : Int) = 1 by decide +kernel, show (4263546595 / 1048576 % 32 : Int) = 2 by decide +kernel, show fldR (fmT 5) 4263546595 = -4 by decide +kernel] at this
    exact this
theorem c_fi_small (n : Nat) (hn : n < 100) (w : World) : Calls Tryd.prog 35 #[.int .i64 (n : Int), .int .i64 10] w fun e w' => e = .returned (.string ⟨(Lib.decDigits n).toArray⟩) ∧ Gr w w' :=
  (sh_strconv_FormatInt_10_small n hn w).mono (by
    rintro e w' ⟨rfl, rfl⟩
    exact ⟨rfl, Gr.refl _⟩)
theorem ex_text (w : World) (hF : FT w) : Calls Tryd.prog 17 #[iv 69 5 6 7 3] w fun e w' => e = .returned (.tuple #[.string ⟨#[97, 109, 111, 97, 100, 100, 46, 119, 46, 97, 113, 114, 108, 32, 120, 53, 44, 32, 120, 55, 44, 32, 40, 120, 54, 41]⟩, .int .i64 0]) ∧ Gr w w' := by
  have := c_text_65 69 (by decide) (by decide) (by decide +kernel) 5 6 7 3 ⟨by decide, by decide⟩ (by decide +kernel) (by decide) (by decide) (by decide) ⟨(Lib.decDigits 3).toArray⟩ (by decide +kernel) w hF (fun w1 g => c_fi_small 3 (by decide) w1)
  rw [show textF 69 5 6 7 3 ⟨(Lib.decDigits 3).toArray⟩ = ⟨#[97, 109, 111, 97, 100, 100, 46, 119, 46, 97, 113, 114, 108, 32, 120, 53, 44, 32, 120, 55, 44, 32, 40, 120, 54, 41]⟩ by decide +kernel] at this
  exact this
def sdS : ByteArray := ⟨#[115, 100, 32, 120, 49, 44, 32, 49, 54, 40, 120, 50, 41]⟩
def sdL (k : Nat) : ByteArray := [(⟨#[120, 49, 44, 32, 49, 54, 40, 120, 50, 41]⟩ : ByteArray), ⟨#[44, 32, 49, 54, 40, 120, 50, 41]⟩, ⟨#[40, 120, 50, 41]⟩, ⟨#[41]⟩].getD k ⟨#[]⟩
def sdT (k : Nat) : ByteArray := [(⟨#[49, 44, 32, 49, 54, 40, 120, 50, 41]⟩ : ByteArray), ⟨#[49, 54, 40, 120, 50, 41]⟩, ⟨#[50, 41]⟩].getD k ⟨#[]⟩
def sdU (k : Nat) : ByteArray := [(⟨#[49]⟩ : ByteArray), ⟨#[49, 54]⟩, ⟨#[50]⟩].getD k ⟨#[]⟩
def sdA (k : Nat) : Nat := [1, 2, 2].getD k 0
def sdB (k : Nat) : Nat := [1, 2, 1].getD k 0
def sdV (k : Nat) : Int := [1, 16, 2].getD k 0
theorem sd_num (k : Nat) (hk : k < 3) : NumS (sdL k) (sdT k) (sdU k) (sdL (k + 1)) (sdA k) (sdB k) (sdB k : Int) (sdV k) := by
  have : k = 0 ∨ k = 1 ∨ k = 2 := by omega
  rcases this with rfl | rfl | rfl
  all_goals exact ⟨by decide +kernel, by decide +kernel, by decide +kernel, by decide +kernel, by decide +kernel, .inl rfl, by decide +kernel, by decide +kernel, by decide +kernel, by decide +kernel, by decide +kernel, by decide +kernel⟩
theorem ex_guess (w : World) (hF : FT w) (hM : ML w) : Calls Tryd.prog 41 #[.string sdS] w fun e w' => e = .returned (iv 21 0 2 1 16) ∧ Gr w w' :=
  c_guess_83 21 (by decide) (by decide) (by decide +kernel) sdS (sdL 0) true (by decide +kernel) (by decide +kernel) sdV w hF hM (fun w1 => c_numbers sdL sdT sdU sdA sdB (fun k => (sdB k : Int)) sdV 3 (by decide) sd_num (.inl rfl) w1)
theorem ex_parse (w : World) (hF : FT w) (hM : ML w) : Calls Tryd.prog 19 #[.string ⟨#[115, 100, 32, 120, 49, 44, 32, 49, 54, 40, 120, 50, 41]⟩] w fun e w' => e = .returned (.tuple #[iv 21 0 2 1 16, .int .i64 0]) ∧ Gr w w' :=
  c_parse_yes sdS (by decide +kernel) 21 0 2 1 16 w (fun w1 g => ex_guess w1 (hF.gr g) (hM.gr g)) (fun w1 g => by
    have := c_text_83 21 (by decide) (by decide) (by decide +kernel) 0 2 1 16 ⟨by decide, by decide⟩ (by decide +kernel) (by decide) (by decide) (by decide) ⟨(Lib.decDigits 16).toArray⟩ (by decide +kernel) w1 (hF.gr g) (fun w2 g2 => c_fi_small 16 (by decide) w2)
    rw [show textF 21 0 2 1 16 ⟨(Lib.decDigits 16).toArray⟩ = sdS by decide +kernel] at this
    exact this)
end Go.Proofs.YthcfobefpknjeaaDoor.P
namespace Go.Proofs.YthcfobefpknjeaaDoor.P
open Go.RowKit
set_option maxHeartbeats 6400000 in
theorem c_shown2 (w : World) (hF : FT w) (hM : ML w) : Calls Tryd.prog 10 #[] w fun e w' => e = .returned (.bool true) ∧ Gr w w' := by
  have CE := Lib.hid (fun w1 (g : Gr w w1) => ex_enc w1 (hF.gr g))
  have CD := Lib.hid (fun w1 (g : Gr w w1) => ex_dec w1 (hF.gr g))
  have CT := Lib.hid (fun w1 (g : Gr w w1) => ex_text w1 (hF.gr g))
  have CP := Lib.hid (fun w1 (g : Gr w w1) => ex_parse w1 (hF.gr g) (hM.gr g))
  clear hF hM
  go_enter Tryd.func10, Tryd.ntmps10
  go_upto_region 2 with (go_at_call 13; refine (CE.out _ (Gr.refl _)).mono ?_; rintro e w1 ⟨rfl, g1⟩)
  have G1 := Lib.hid g1
  clear g1 CE
  go_upto_region 3 with (go_at_call 15; refine (CD.out _ G1.out).mono ?_; rintro e w2 ⟨rfl, g2⟩)
  have G3 := Lib.hid (gr_al (gtrans G1.out g2) (.cells #[.int .i64 5, .int .i64 0, .int .i64 1, .int .i64 2, .int .i64 (-4)] 23))
  have hb3 := blk_new w2 (.cells #[.int .i64 5, .int .i64 0, .int .i64 1, .int .i64 2, .int .i64 (-4)] 23)
  generalize w2.alloc (.cells #[.int .i64 5, .int .i64 0, .int .i64 1, .int .i64 2, .int .i64 (-4)] 23) = w3 at *
  generalize w2.heap.size = B at *
  have HB3 := Lib.hid hb3
  clear hb3 g2 CD G1
  go_upto_region 4 with (go_at_call 17; refine (CT.out _ G3.out).mono ?_; rintro e w4 ⟨rfl, g4⟩)
  have HB4 := Lib.hid (blk_gr g4 HB3.out)
  have G4 := Lib.hid (gtrans G3.out g4)
  clear g4 HB3 G3 CT
  go_upto_region 5 with (go_at_call 19; refine (CP.out _ G4.out).mono ?_; rintro e w5 ⟨rfl, g5⟩)
  have G6 := Lib.hid (gr_al (gtrans G4.out g5) (.cells #[.int .i64 21, .int .i64 0, .int .i64 2, .int .i64 1, .int .i64 16] 23))
  have hb6 := blk_new w5 (.cells #[.int .i64 21, .int .i64 0, .int .i64 2, .int .i64 1, .int .i64 16] 23)
  have hb4 := blk_alloc (.cells #[.int .i64 21, .int .i64 0, .int .i64 2, .int .i64 1, .int .i64 16] 23) (blk_gr g5 HB4.out)
  generalize w5.alloc (.cells #[.int .i64 21, .int .i64 0, .int .i64 2, .int .i64 1, .int .i64 16] 23) = w6 at *
  generalize w5.heap.size = C at *
  have c0 := blk_cell hb4 0 (v := .int .i64 5) rfl
  have c1 := blk_cell hb4 1 (v := .int .i64 0) rfl
  have c2 := blk_cell hb4 2 (v := .int .i64 1) rfl
  have c3 := blk_cell hb4 3 (v := .int .i64 2) rfl
  have c4 := blk_cell hb4 4 (v := .int .i64 (-4)) rfl
  have d0 := blk_cell hb6 0 (v := .int .i64 21) rfl
  have d1 := blk_cell hb6 1 (v := .int .i64 0) rfl
  have d2 := blk_cell hb6 2 (v := .int .i64 2) rfl
  have d3 := blk_cell hb6 3 (v := .int .i64 1) rfl
  have d4 := blk_cell hb6 4 (v := .int .i64 16) rfl
  clear hb6 hb4 g5 G4 HB4 CP
  go_wp2_with fail
  go_ret
  exact ⟨rfl, G6.out⟩
end Go.Proofs.YthcfobefpknjeaaDoor.P
