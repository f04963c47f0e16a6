/- Stage 4: WalkFinds. No condition. -/
import Derived.Test.YtkooinjaafeomaaK11
set_option linter.unusedVariables false
namespace Go.Proofs.Ytkooinjaafeomaa.P
open Go.RowKit Go.MuLone
theorem qw_leaf {w0 w : World} {b rb vb : Nat} {s : List UInt8} (h : PW w0 w b rb vb s) (r a v x : Int) (ha : u64 a) (hr : i64 r) (hv : leafV 8 s r a = v) (hx : leafR 8 s r a = x) :
    Calls Try.prog 18 #[.pointer (some ⟨rb, 0, none⟩), .int .i64 r, .int .u64 a] w fun e w' => e = .returned (.tuple #[.int .u64 v, .int .i64 x]) ∧ PW w0 w' b rb vb s := by
  obtain ⟨g, S, t, t', h2, h3⟩ := h
  obtain ⟨hc, hb, hr', hv', y, hy, hs, hM, hR⟩ := h2
  refine (r_leaf rb vb 8 s t' w hR hM.1 r a v x ha hr hv hx).mono ?_
  rintro e w' ⟨rfl, ⟨t2, hR'⟩, hK⟩
  exact ⟨rfl, PW.step g h3 (px_right hc hb hr' hv' hy hs hM hR' (hK.mono fun x hx => .inl hx))⟩
theorem qw_walk {w0 w : World} {b rb vb : Nat} {s : List UInt8} (h : PW w0 w b rb vb s) (r a acc v x : Int) (ha : u64 a) (hr : i64 r) (hv : walkV 8 s r a acc = v) (hx : walkR 8 s r a acc = x) :
    Calls Try.prog 20 #[.pointer (some ⟨rb, 0, none⟩), .int .i64 r, .int .u64 a, .int .i64 acc] w fun e w' => e = .returned (.tuple #[.int .u64 v, .int .i64 x]) ∧ PW w0 w' b rb vb s := by
  obtain ⟨g, S, t, t', h2, h3⟩ := h
  obtain ⟨hc, hb, hr', hv', y, hy, hs, hM, hR⟩ := h2
  refine (r_walk rb vb 8 s t' w hR hM.1 r a acc v x ha hr hv hx).mono ?_
  rintro e w' ⟨rfl, ⟨t2, hR'⟩, hK⟩
  exact ⟨rfl, PW.step g h3 (px_right hc hb hr' hv' hy hs hM hR' (hK.mono fun x hx => .inl hx))⟩
theorem pw_get {w0 w : World} {b rb vb : Nat} {s : List UInt8} (h : PW w0 w b rb vb s) (a n : Int) (ha0 : 0 ≤ a) (ha1 : a ≤ 18446744073709551615) (hn1 : n ≤ 9223372036854775807) (v : ByteArray) (x : Int) (hv : getV s a n = v) (hx : getR s a n = x) :
    Calls Try.prog 21 #[.pointer (some ⟨b, 0, none⟩), .int .u64 a, .int .i64 n] w fun e w' => e = .returned (.tuple #[.string v, .int .i64 x]) ∧ PW w0 w' b rb vb s := by
  subst hv; subst hx
  obtain ⟨g, S, t, t', h2, h3⟩ := h
  refine (p_get h2 a n ha0 ha1 hn1).mono ?_
  rintro e w' ⟨rfl, h⟩
  exact ⟨rfl, PW.step g h3 h⟩
theorem PW.len {w0 w : World} {b rb vb : Nat} {s : List UInt8} (h : PW w0 w b rb vb s) : s.length = 2048 := by
  obtain ⟨g, S, t, t', h2, h3⟩ := h
  exact h2.len.1
theorem PW.right {w0 w : World} {b rb vb : Nat} {s : List UInt8} (h : PW w0 w b rb vb s) : w.cell? ⟨rb, 0, none⟩ = some (.slice (some ⟨vb, 0, none⟩) 2048 2048) ∧ (convert 44 9 (.slice (some ⟨vb, 0, none⟩) 2048 2048)).run Try.prog w = .ok (.string (subB s 0 2048)) w := by
  have hl := h.len
  obtain ⟨g, S, t, t', h2, h3⟩ := h
  obtain ⟨hc, hb, hr', hv', y, hy, hs, hM, hR⟩ := h2
  have c0 := blk_cell hR.1 0 (v := .slice (some ⟨vb, 0, none⟩) s.length s.length) rfl
  have e := conv_part vb s 0 2048 (by omega) w hR.2.2.1
  rw [hl] at c0 e
  exact ⟨c0, e⟩
theorem get_whole (s : List UInt8) (h : s.length = 2048) : getV s 0 2048 = subB s 0 2048 := by
  unfold getV inB
  rw [if_neg (by decide), if_pos (decide_eq_true (by omega))]; rfl
set_option maxRecDepth 100000 in
set_option maxHeartbeats 1600000 in
theorem l_kfinds (w : World) (o : Option Addr) (len cap bl off : Nat) (f : Nat → WActV) (hlen : len ≤ 9223372036854775807) (ho : 0 < len → o = some ⟨bl, off, none⟩ ∧ bl < w.heap.size) (hl : WActs w bl off len f) (r a acc : Int) (hr : i64 r) (ha : u64 a) :
    Calls Try.prog 4 #[.agg #[.slice o len cap, .int .i64 r, .int .u64 a, .int .i64 acc]] w fun e w' => e = .returned (.bool true) ∧ Gr w w' := by
  have HL := Lib.hid hl
  have HO := Lib.hid ho
  have HLEN := Lib.hid hlen
  have HR := Lib.hid hr
  have HA := Lib.hid ha
  clear hl ho hlen hr ha
  go_enter Try.func4, Try.ntmps4
  go_wp2_with fail
  refine (c_kshown _).mono ?_; rintro e w1 ⟨rfl, g⟩
  have G := Lib.hid (galloc _ g); clear g
  go_wp2_with fail
  refine (c_memory w1 o len cap bl off f HLEN.out (fun q => ⟨(HO.out q).1, by have := (HO.out q).2; have := G.out.size; omega⟩) (wacts_gr G.out HL.out)).mono ?_; rintro e w2 ⟨b, rb, vb, rfl, h⟩
  have H2 := Lib.hid (PW.up G.out h); clear h
  generalize stW f len = s at *
  go_wp2_with fail
  obtain ⟨X, hX⟩ : ∃ X, walkR 8 s r a acc = X := ⟨_, rfl⟩
  obtain ⟨V, hV⟩ : ∃ V, walkV 8 s r a acc = V := ⟨_, rfl⟩
  obtain ⟨Y, hY⟩ : ∃ X, leafR 8 s r a = X := ⟨_, rfl⟩
  obtain ⟨U, hU⟩ : ∃ V, leafV 8 s r a = V := ⟨_, rfl⟩
  have HX := Lib.hid hX
  have HV := Lib.hid hV
  have HY := Lib.hid hY
  have HU := Lib.hid hU
  clear hX hV hU hY
  refine (pw_leaf H2.out r a U Y HA.out HR.out HU.out HY.out).mono ?_; rintro e w3 ⟨rfl, h⟩
  have H3 := Lib.hid h; clear h
  go_wp2_with fail
  refine (qw_leaf H3.out r a U Y HA.out HR.out HU.out HY.out).mono ?_; rintro e w4 ⟨rfl, h⟩
  have H4 := Lib.hid h; clear h
  go_wp2_with fail
  refine (pw_walk H4.out r a acc V X HA.out HR.out HV.out HX.out).mono ?_; rintro e w5 ⟨rfl, h⟩
  have H5 := Lib.hid h; clear h
  go_wp2_with fail
  refine (qw_walk H5.out r a acc V X HA.out HR.out HV.out HX.out).mono ?_; rintro e w6 ⟨rfl, h⟩
  have H6 := Lib.hid h; clear h
  go_wp2_with fail
  refine (pw_get H6.out 0 2048 (by decide) (by decide) (by decide) _ _ rfl rfl).mono ?_; rintro e w7 ⟨rfl, h⟩
  have H7 := Lib.hid h; clear h
  obtain ⟨c0, hcv⟩ := H7.out.right
  rw [get_whole s H7.out.len]
  generalize subB s 0 2048 = Z at *
  generalize getR s 0 2048 = ZR at *
  go_wp2_with fail
  go_ret
  exact ⟨rfl, H7.out.1⟩
section
open Go.ChangeShapes Go.WideShapes Go.Deep
variable {H : Type} {enc : TypeId × Value → H} {w : World} {base : Nat} {spare : Nat → Bool} {held : Bool}
set_option maxRecDepth 100000 in
theorem open_finds {v : Value} {d : DataW H} {ps : List MemPlace} {r : Reach} {b0 : Nat} (hv : Value.okWide Try.prog w r b0 30 v) (h : DataW.Trod enc Try.prog w base spare held 30 v d ps) :
    ∃ (o_l : Option Addr) (len_l cap_l bl_l off_l : Nat) (f_l : Nat → WActV) (r : Int) (a : Int) (acc : Int), v = .agg #[.slice o_l len_l cap_l, .int .i64 r, .int .u64 a, .int .i64 acc] ∧ (len_l ≤ maxLen ∧ (0 < len_l → o_l = some ⟨bl_l, off_l, none⟩ ∧ bl_l < w.heap.size) ∧ WActs w bl_l off_l len_l f_l) ∧ i64 r ∧ u64 a ∧ i64 acc := by
  obtain ⟨c, rfl, hsz⟩ := okWide_struct Try.underlying30 hv
  obtain ⟨fuel, hf⟩ := h
  obtain ⟨ys, n, _, _, hl, hy, hg⟩ := DataW.trod_struct Try.underlying30 hf
  have e0 : Try.prog.cellsOf 30 = 4 := by kernel_rfl
  rw [e0] at hl
  obtain ⟨l⟩ := c
  match l, hl, ys, hy with
  | [x0, x1, x2, x3], _, [y0, y1, y2, y3], _ =>
    have h0 : DataW.trod enc Try.prog w base spare held n 28 (([x0, x1, x2, x3].drop 0).take (Try.prog.cellsOf 28)) = some y0 := hg 0 _ rfl
    rw [show Try.prog.cellsOf 28 = 1 by kernel_rfl] at h0
    change DataW.trod enc Try.prog w base spare held n 28 [x0] = some y0 at h0
    have h1 : DataW.trod enc Try.prog w base spare held n 3 (([x0, x1, x2, x3].drop 1).take (Try.prog.cellsOf 3)) = some y1 := hg 1 _ rfl
    rw [show Try.prog.cellsOf 3 = 1 by kernel_rfl] at h1
    change DataW.trod enc Try.prog w base spare held n 3 [x1] = some y1 at h1
    have h2 : DataW.trod enc Try.prog w base spare held n 22 (([x0, x1, x2, x3].drop 2).take (Try.prog.cellsOf 22)) = some y2 := hg 2 _ rfl
    rw [show Try.prog.cellsOf 22 = 1 by kernel_rfl] at h2
    change DataW.trod enc Try.prog w base spare held n 22 [x2] = some y2 at h2
    have h3 : DataW.trod enc Try.prog w base spare held n 3 (([x0, x1, x2, x3].drop 3).take (Try.prog.cellsOf 3)) = some y3 := hg 3 _ rfl
    rw [show Try.prog.cellsOf 3 = 1 by kernel_rfl] at h3
    change DataW.trod enc Try.prog w base spare held n 3 [x3] = some y3 at h3
    obtain ⟨o0, len0, cap0, bl0, off0, f0, rfl, a0, b0, c0⟩ := Wopen_acts_c h0
    obtain ⟨z1, e1, _, k1⟩ := DataW.trod_int Try.underlying3 h1
    rw [List.singleton_inj] at e1
    subst e1
    obtain ⟨z2, e2, _, k2⟩ := DataW.trod_int Try.underlying22 h2
    rw [List.singleton_inj] at e2
    subst e2
    obtain ⟨z3, e3, _, k3⟩ := DataW.trod_int Try.underlying3 h3
    rw [List.singleton_inj] at e3
    subst e3
    exact ⟨o0, len0, cap0, bl0, off0, f0, z1, z2, z3, rfl, ⟨a0, b0, c0⟩, wf_i64 k1, wf_u64 k2, wf_i64 k3⟩
end
end Go.Proofs.Ytkooinjaafeomaa.P
