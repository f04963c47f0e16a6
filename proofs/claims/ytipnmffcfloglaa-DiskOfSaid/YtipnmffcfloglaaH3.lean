/- Stage 6: the example at the head of each law. No condition. -/
import Derived.Test.YtipnmffcfloglaaH2
import Derived.Deep.RegionHeld3
set_option linter.unusedVariables false
namespace Go.Proofs.Ytipnmffcfloglaa.P
open Go.RowKit
theorem cell_drew6 {w : World} {p : Addr} {v : Value} (h : w.cell? p = some v) : w.drew.cell? p = some v := h
theorem gr_drew6 {a b : World} (h : Gr a b) : Gr a b.drew := Gr.drewN h 1
set_option maxRecDepth 100000 in
set_option maxHeartbeats 2000000 in
theorem c_shown (w : World) : Calls Try.prog 9 #[] w fun e w' => e = .returned (.bool true) ∧ Gr w w' := by
  have HF := Lib.hid shown_facts
  have HL := Lib.hid shown_lens
  have HS := Lib.hid secs
  have CN := Lib.hid (s_new w w (Gr.refl w) 48 (by omega) (by omega))
  go_enter Try.func9, Try.ntmps9
  go_wp2_with fail
  refine CN.out.mono ?_
  rintro e w1 ⟨d, rfl, h1⟩
  have H1 := Lib.hid h1
  clear h1
  go_wp2_with fail
  refine (HS.out.1 _).mono ?_
  rintro e w2 ⟨rfl, g2⟩
  have H2 := Lib.hid (H1.out.gr g2)
  clear g2
  go_wp2_with fail
  refine (s_write w w2 d n0 H2.out 3 secA HL.out.1).mono ?_
  rintro e w3 ⟨rfl, h3⟩
  have H3 : RowKit.Hid (SS w w3 d n1) := Lib.hid h3
  clear h3
  generalize writeR n0 3 secA = r3
  go_wp2_with fail
  refine (HS.out.2.1 _).mono ?_
  rintro e w4 ⟨rfl, g4⟩
  have H4 := Lib.hid (H3.out.gr g4)
  clear g4
  go_wp2_with fail
  refine (s_write w w4 d n1 H4.out 3 secB HL.out.2.1).mono ?_
  rintro e w5 ⟨rfl, h5⟩
  have H5 : RowKit.Hid (SS w w5 d n2) := Lib.hid h5
  clear h5
  generalize writeR n1 3 secB = r5
  go_wp2_with fail
  have HR := Lib.hid (s_read w w5 d n2 H5.out 3 HL.out.2.2.1)
  rw [HF.out.1] at HR
  generalize readR n2 3 = r6 at HR
  refine HR.out.mono ?_
  rintro e w6 ⟨rfl, h6⟩
  have H6 := Lib.hid h6
  clear h6 HR
  go_wp2_with fail
  refine (s_crash w w6 d n2 H6.out 1 ⟨by decide, by decide⟩ HL.out.2.2.1).mono ?_
  rintro e w7 ⟨rfl, h7⟩
  have H7 : RowKit.Hid (SS w w7 d n3) := Lib.hid h7
  clear h7
  go_wp2_with fail
  have HR := Lib.hid (s_read w w7 d n3 H7.out 3 HL.out.2.2.2.1)
  rw [HF.out.2.1] at HR
  generalize readR n3 3 = r7 at HR
  refine HR.out.mono ?_
  rintro e w8 ⟨rfl, h8⟩
  have H8 := Lib.hid h8
  clear h8 HR
  go_wp2_with fail
  refine (s_power w w8 d n3 H8.out 1 (by decide)).mono ?_
  rintro e w9 ⟨rfl, h9⟩
  have H9 : RowKit.Hid (SS w w9 d n4) := Lib.hid h9
  clear h9
  go_wp2_with fail
  refine (HS.out.2.2 _).mono ?_
  rintro e w10 ⟨rfl, g10⟩
  have H10 := Lib.hid (H9.out.gr g10)
  clear g10
  go_wp2_with fail
  have HR := Lib.hid (s_write w w10 d n4 H10.out 4 secC HL.out.2.2.2.2.1)
  rw [HF.out.2.2.1] at HR
  refine HR.out.mono ?_
  rintro e w11 ⟨rfl, h11⟩
  have H11 : RowKit.Hid (SS w w11 d n5) := Lib.hid h11
  clear h11 HR
  go_wp2_with fail
  have HR := Lib.hid (s_flush w w11 d n5 H11.out HL.out.2.2.2.2.2.1)
  rw [HF.out.2.2.2.1] at HR
  refine HR.out.mono ?_
  rintro e w12 ⟨rfl, h12⟩
  have H12 : RowKit.Hid (SS w w12 d n6) := Lib.hid h12
  clear h12 HR
  go_wp2_with fail
  have HR := Lib.hid (s_read w w12 d n6 H12.out 4 HL.out.2.2.2.2.2.2)
  rw [HF.out.2.2.2.2.1] at HR
  generalize readB n6 4 = b12 at HR
  refine HR.out.mono ?_
  rintro e w13 ⟨rfl, h13⟩
  have H13 := Lib.hid h13
  clear h13 HR
  go_wp2_with fail
  refine (s_crash w w13 d n6 H13.out 1 ⟨by decide, by decide⟩ HL.out.2.2.2.2.2.2).mono ?_
  rintro e w14 ⟨rfl, h14⟩
  have H14 : RowKit.Hid (SS w w14 d n7) := Lib.hid h14
  clear h14
  go_wp2_with fail
  refine (s_image w w14 d n7 H14.out).mono ?_
  rintro e w15 ⟨g, cap, rfl, h15, hg15, hs15⟩
  rw [HF.out.2.2.2.2.2.1] at h15 ⊢
  have c4 : w15.cell? ⟨g, 4, none⟩ = some (.string secC) := by
    rw [World.ownsRow.cellAt h15 4 (by omega)]
    unfold strs
    rw [List.getElem?_map, HF.out.2.2.2.2.2.2]; rfl
  have HG := Lib.hid hs15.2
  clear h15 hg15 hs15
  have hc1 := cell_drew6 c4
  have hS : Gr w w15 := HG.out
  have hS1 := gr_drew6 hS
  clear c4
  go_wp2_with fail
  go_region_held3 (fun w' => Gr w w' ∧ w'.cell? ⟨g, 4, none⟩ = some (.string secC))
    ((refine ⟨?_, ?_⟩ <;> first | (with_reducible assumption) | (with_reducible exact gr_drew6 (by assumption)) | (with_reducible exact cell_drew6 (by assumption))))
    (first
      | (go_at_call 21; refine (HS.out.1 _).mono ?_; rintro e w2 ⟨rfl, hq⟩; have hS2 : Gr w w2 := gtrans (by assumption : Gr w _) hq; have hc2 : w2.cell? ⟨g, 4, none⟩ = some (.string secC) := kcell hq (by assumption); clear hq)
      | (go_at_call 21; refine (HS.out.2.1 _).mono ?_; rintro e w2 ⟨rfl, hq⟩; have hS2 : Gr w w2 := gtrans (by assumption : Gr w _) hq; have hc2 : w2.cell? ⟨g, 4, none⟩ = some (.string secC) := kcell hq (by assumption); clear hq)
      | (go_at_call 21; refine (HS.out.2.2 _).mono ?_; rintro e w2 ⟨rfl, hq⟩; have hS2 : Gr w w2 := gtrans (by assumption : Gr w _) hq; have hc2 : w2.cell? ⟨g, 4, none⟩ = some (.string secC) := kcell hq (by assumption); clear hq))
  all_goals
    go_wp2_with fail
    go_ret
    exact ⟨rfl, (by assumption : Gr w _)⟩
end Go.Proofs.Ytipnmffcfloglaa.P
