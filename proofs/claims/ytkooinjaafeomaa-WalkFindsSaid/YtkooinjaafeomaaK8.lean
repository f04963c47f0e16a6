/- Stage 4: WalkPages, WalkKinds. No condition. -/
import Derived.Test.YtkooinjaafeomaaK7
set_option linter.unusedVariables false
namespace Go.Proofs.Ytkooinjaafeomaa.P
open Go.RowKit Go.MuLone
theorem page_part (a z l : Int) (h : z / 256 = a / 256) : partI z l = partI a l := by
  unfold partI
  have e : (z < 8388608) ↔ (a < 8388608) := by omega
  by_cases h1 : 0 ≤ l ∧ l ≤ 2 ∧ a < 8388608
  · rw [if_pos h1, if_pos ⟨h1.1, h1.2.1, e.2 h1.2.2⟩]
    have hl : l = 0 ∨ l = 1 ∨ l = 2 := by omega
    rcases hl with rfl | rfl | rfl
    · show z / 256 % 32 = a / 256 % 32; rw [h]
    · show z / 8192 % 32 = a / 8192 % 32; omega
    · show z / 262144 % 32 = a / 262144 % 32; omega
  · rw [if_neg h1, if_neg (fun h2 => h1 ⟨h2.1, h2.2.1, e.1 h2.2.2⟩)]
theorem page_leaf (s : List UInt8) (r a z : Int) (h : z / 256 = a / 256) : leafR 8 s r z = leafR 8 s r a ∧ leafV 8 s r z = leafV 8 s r a := by
  have e2 : leafA s r z = leafA s r a := by unfold leafA; rw [page_part a z 2 h]
  have e3 : leafC s r z = leafC s r a := by unfold leafC; rw [e2, page_part a z 1 h]
  have e4 : leafR 8 s r z = leafR 8 s r a := by
    unfold leafR; rw [e2, e3, show decide (z < 8388608) = decide (a < 8388608) from decide_eq_decide.2 (by omega)]
  exact ⟨e4, by unfold leafV; rw [e4, e3, page_part a z 0 h]⟩
theorem page_walk (s : List UInt8) (r a z acc : Int) (h : z / 256 = a / 256) : walkR 8 s r z acc = walkR 8 s r a acc ∧ walkE 8 s r z = walkE 8 s r a := by
  have e1 : walkE 8 s r z = walkE 8 s r a := by unfold walkE; rw [(page_leaf s r a z h).2]
  exact ⟨by unfold walkR; rw [e1, (page_leaf s r a z h).1], e1⟩
theorem page_frame (s : List UInt8) (r a acc : Int) (h : walkR 8 s r a acc = 0) : ∃ T : Nat, T < 8 ∧ walkE 8 s r a / 1024 = (T : Int) ∧ walkV 8 s r a acc = (T : Int) * 256 + a % 256 := by
  have hv : walkV 8 s r a acc = walkE 8 s r a / 1024 * 256 + a % 256 := by unfold walkV; rw [h]; rfl
  have hw : W.word (walkE 8 s r a) := ent_word s _
  have hlt : walkE 8 s r a / 1024 < 8 := by
    by_cases q : walkE 8 s r a / 1024 < ((8 : Nat) : Int)
    · exact q
    · exfalso
      unfold walkR at h
      rw [decide_eq_false q, Bool.and_false] at h
      cases h1 : decide (neededI acc = 0) <;> cases h2 : decide (leafR 8 s r a = 0) <;> simp_all
  obtain ⟨w0, w1⟩ := hw
  exact ⟨(walkE 8 s r a / 1024).toNat, by omega, by omega, by rw [hv]; omega⟩
set_option maxRecDepth 100000 in
theorem l_kpages (w : World) (o : Option Addr) (len cap bl off : Nat) (f : Nat → WActV) (hlen : len ≤ 9223372036854775807) (ho : 0 < len → o = some ⟨bl, off, none⟩ ∧ bl < w.heap.size) (hl : WActs w bl off len f) (r a acc by_ : Int) (hr : i64 r) (ha : u64 a) (hb : u64 by_) :
    Calls Try.prog 5 #[.agg #[.slice o len cap, .int .i64 r, .int .u64 a, .int .i64 acc, .int .u64 by_]] w fun e w' => e = .returned (.bool true) ∧ Gr w w' := by
  have HL := Lib.hid hl
  have HO := Lib.hid ho
  have HLEN := Lib.hid hlen
  have HR := Lib.hid hr
  have HA := Lib.hid ha
  obtain ⟨a0, a1⟩ := ha
  obtain ⟨b0, b1⟩ := hb
  clear hl ho hlen hr
  obtain ⟨Z, hZ⟩ : ∃ Z : Int, a / 256 * 256 + by_ % 256 = Z := ⟨_, rfl⟩
  have HUZ : RowKit.Hid (u64 Z) := Lib.hid ⟨by omega, by omega⟩
  have HZA : RowKit.Hid (Z / 256 = a / 256) := Lib.hid (by omega)
  have HZ := Lib.hid hZ
  clear hZ
  go_enter Try.func5, Try.ntmps5
  go_wp2_with fail
  refine (c_kshown _).mono ?_; rintro e w1 ⟨rfl, g⟩
  have G := Lib.hid (galloc _ g); clear g
  go_wp2_with fail
  refine (c_memory w1 o len cap bl off f HLEN.out (fun q => ⟨(HO.out q).1, by have := (HO.out q).2; have := G.out.size; omega⟩) (wacts_gr G.out HL.out)).mono ?_; rintro e w2 ⟨b, rb, vb, rfl, h⟩
  have H2 := Lib.hid (PW.up G.out h); clear h
  generalize stW f len = s at *
  have HP := Lib.hid (page_walk s r a Z acc HZA.out)
  have HE := Lib.hid (show walkV 8 s r Z acc = bif decide (walkR 8 s r a acc = 0) then walkE 8 s r a / 1024 * 256 + Z % 256 else 0 by unfold walkV; rw [HP.out.1, HP.out.2])
  go_wp2_with fail
  rw [HZ.out]
  obtain ⟨X, hX⟩ : ∃ X, walkR 8 s r a acc = X := ⟨_, rfl⟩
  obtain ⟨V, hV⟩ : ∃ V, walkV 8 s r a acc = V := ⟨_, rfl⟩
  obtain ⟨U, hU⟩ : ∃ U, walkV 8 s r Z acc = U := ⟨_, rfl⟩
  have HX := Lib.hid hX
  have HV := Lib.hid hV
  have HU := Lib.hid hU
  clear hX hV hU
  refine (pw_walk H2.out r a acc V X HA.out HR.out HV.out HX.out).mono ?_; rintro e w3 ⟨rfl, h⟩
  have H3 := Lib.hid h; clear h
  go_wp2_with fail
  try rw [HZ.out]
  refine (pw_walk H3.out r Z acc U X HUZ.out HR.out HU.out (HP.out.1.trans HX.out)).mono ?_; rintro e w4 ⟨rfl, h⟩
  have H4 := Lib.hid h; clear h
  by_cases h0 : X = 0
  · subst h0
    obtain ⟨T, hT, hE, hv⟩ := page_frame s r a acc HX.out
    rw [HV.out] at hv
    have hu : U = (T : Int) * 256 + Z % 256 := by rw [← HU.out, HE.out, HX.out, hE]; rfl
    have q1 : V / 256 = T := by omega
    have q2 : U / 256 = T := by omega
    have q3 : V % 256 = a % 256 := by omega
    have q4 : U % 256 = Z % 256 := by omega
    have q5 : decide (V < 2048) = true := decide_eq_true (by omega)
    have v1 : V ≤ 2047 := by omega
    have u1 : U ≤ 2047 := by omega
    clear hT hE hv hu HE
    have v0 : 0 ≤ V := by omega
    have z0 : 0 ≤ Z := HUZ.out.1
    have z1 : Z ≤ 18446744073709551615 := HUZ.out.2
    have u0 : 0 ≤ U := by omega
    go_wp2_with fail
    go_ret
    exact ⟨rfl, H4.out.1⟩
  · have dx : (X == 0) = false := by simpa using h0
    have dx2 : decide (X = 0) = false := decide_eq_false h0
    go_wp2_with fail
    go_ret
    exact ⟨rfl, H4.out.1⟩
section
open Go.ChangeShapes Go.WideShapes Go.Deep
variable {H : Type} {enc : TypeId × Value → H} {w : World} {base : Nat} {spare : Nat → Bool} {held : Bool}
set_option maxRecDepth 100000 in
theorem open_pages {v : Value} {d : DataW H} {ps : List MemPlace} {r : Reach} {b0 : Nat} (hv : Value.okWide Try.prog w r b0 49 v) (h : DataW.Trod enc Try.prog w base spare held 49 v d ps) :
    ∃ (o_l : Option Addr) (len_l cap_l bl_l off_l : Nat) (f_l : Nat → WActV) (r : Int) (a : Int) (acc : Int) (by_ : Int), v = .agg #[.slice o_l len_l cap_l, .int .i64 r, .int .u64 a, .int .i64 acc, .int .u64 by_] ∧ (len_l ≤ maxLen ∧ (0 < len_l → o_l = some ⟨bl_l, off_l, none⟩ ∧ bl_l < w.heap.size) ∧ WActs w bl_l off_l len_l f_l) ∧ i64 r ∧ u64 a ∧ i64 acc ∧ u64 by_ := by
  obtain ⟨c, rfl, hsz⟩ := okWide_struct Try.underlying49 hv
  obtain ⟨fuel, hf⟩ := h
  obtain ⟨ys, n, _, _, hl, hy, hg⟩ := DataW.trod_struct Try.underlying49 hf
  have e0 : Try.prog.cellsOf 49 = 5 := by kernel_rfl
  rw [e0] at hl
  obtain ⟨l⟩ := c
  match l, hl, ys, hy with
  | [x0, x1, x2, x3, x4], _, [y0, y1, y2, y3, y4], _ =>
    have h0 : DataW.trod enc Try.prog w base spare held n 28 (([x0, x1, x2, x3, x4].drop 0).take (Try.prog.cellsOf 28)) = some y0 := hg 0 _ rfl
    rw [show Try.prog.cellsOf 28 = 1 by kernel_rfl] at h0
    change DataW.trod enc Try.prog w base spare held n 28 [x0] = some y0 at h0
    have h1 : DataW.trod enc Try.prog w base spare held n 3 (([x0, x1, x2, x3, x4].drop 1).take (Try.prog.cellsOf 3)) = some y1 := hg 1 _ rfl
    rw [show Try.prog.cellsOf 3 = 1 by kernel_rfl] at h1
    change DataW.trod enc Try.prog w base spare held n 3 [x1] = some y1 at h1
    have h2 : DataW.trod enc Try.prog w base spare held n 22 (([x0, x1, x2, x3, x4].drop 2).take (Try.prog.cellsOf 22)) = some y2 := hg 2 _ rfl
    rw [show Try.prog.cellsOf 22 = 1 by kernel_rfl] at h2
    change DataW.trod enc Try.prog w base spare held n 22 [x2] = some y2 at h2
    have h3 : DataW.trod enc Try.prog w base spare held n 3 (([x0, x1, x2, x3, x4].drop 3).take (Try.prog.cellsOf 3)) = some y3 := hg 3 _ rfl
    rw [show Try.prog.cellsOf 3 = 1 by kernel_rfl] at h3
    change DataW.trod enc Try.prog w base spare held n 3 [x3] = some y3 at h3
    have h4 : DataW.trod enc Try.prog w base spare held n 22 (([x0, x1, x2, x3, x4].drop 4).take (Try.prog.cellsOf 22)) = some y4 := hg 4 _ rfl
    rw [show Try.prog.cellsOf 22 = 1 by kernel_rfl] at h4
    change DataW.trod enc Try.prog w base spare held n 22 [x4] = some y4 at h4
    obtain ⟨o0, len0, cap0, bl0, off0, f0, rfl, a0, b0, c0⟩ := Wopen_acts_c h0
    obtain ⟨z1, e1, _, k1⟩ := DataW.trod_int Try.underlying3 h1
    rw [List.singleton_inj] at e1
    subst e1
    obtain ⟨z2, e2, _, k2⟩ := DataW.trod_int Try.underlying22 h2
    rw [List.singleton_inj] at e2
    subst e2
    obtain ⟨z3, e3, _, k3⟩ := DataW.trod_int Try.underlying3 h3
    rw [List.singleton_inj] at e3
    subst e3
    obtain ⟨z4, e4, _, k4⟩ := DataW.trod_int Try.underlying22 h4
    rw [List.singleton_inj] at e4
    subst e4
    exact ⟨o0, len0, cap0, bl0, off0, f0, z1, z2, z3, z4, rfl, ⟨a0, b0, c0⟩, wf_i64 k1, wf_u64 k2, wf_i64 k3, wf_u64 k4⟩
end
end Go.Proofs.Ytkooinjaafeomaa.P
