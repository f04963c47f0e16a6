/- Stage 3: PhysCopies. No condition. -/
import Derived.Test.YtofpkghjiecjdaaQ8
import Derived.Test.YtofpkghjiecjdaaS
import Derived.Deep.DeepCutAuto
import Derived.StillTailTactics
set_option linter.unusedVariables false
namespace Go.Proofs.Ytofpkghjiecjdaa.P
open Go.RowKit Go.MuLone Go.Proofs.Ytofpkghjiecjdaa.W
structure ActV where
  kind : Int
  size : Int
  n : Int
  at_ : Int
  v : Int
  s : ByteArray
def ActV.ok (x : ActV) : Prop := i64 x.kind ∧ i64 x.size ∧ i64 x.n ∧ u64 x.at_ ∧ u64 x.v ∧ x.s.size ≤ maxLen
/-- The acts lie there. -/
def Acts (w : World) (bl off len : Nat) (f : Nat → ActV) : Prop :=
  ∀ i, i < len → (f i).ok ∧ w.cell? ⟨bl, off + i * 6, none⟩ = some (.int .i64 (f i).kind) ∧ w.cell? ⟨bl, off + i * 6 + 1, none⟩ = some (.int .i64 (f i).size) ∧ w.cell? ⟨bl, off + i * 6 + 2, none⟩ = some (.int .i64 (f i).n) ∧ w.cell? ⟨bl, off + i * 6 + 3, none⟩ = some (.int .u64 (f i).at_) ∧ w.cell? ⟨bl, off + i * 6 + 4, none⟩ = some (.int .u64 (f i).v) ∧ w.cell? ⟨bl, off + i * 6 + 5, none⟩ = some (.string (f i).s)
section
open Go.ChangeShapes Go.WideShapes Go.Deep
variable {H : Type} {enc : TypeId × Value → H} {w : World} {base : Nat} {spare : Nat → Bool} {held : Bool}
set_option maxRecDepth 100000 in
theorem open_acts {v : Value} {d : DataW H} {ps : List MemPlace} (hv : ∃ (o : Option Addr) (l c : Nat), v = .slice o l c) (h : DataW.Trod enc Try.prog w base spare held 22 v d ps) :
    ∃ (o : Option Addr) (len cap bl off : Nat) (f : Nat → ActV), v = .slice o len cap ∧ len ≤ maxLen ∧ (0 < len → o = some ⟨bl, off, none⟩ ∧ bl < w.heap.size) ∧ Acts w bl off len f := by
  rcases open_structs_s Try.underlying22 Try.underlying34 (by kernel_rfl) (by kernel_rfl) (by decide) hv h with ⟨o, cap, rfl⟩ | ⟨bl, off, len, cap, rfl, hl0, hlc, hcap, hbl, hf⟩
  · exact ⟨o, 0, cap, 0, 0, fun _ => ⟨0, 0, 0, 0, 0, ⟨#[]⟩⟩, rfl, by unfold maxLen; omega, fun h => absurd h (by omega), fun i hi => absurd hi (by omega)⟩
  · have hx : ∀ i, ∃ a : ActV, i < len → a.ok ∧ w.cell? ⟨bl, off + i * 6, none⟩ = some (.int .i64 a.kind) ∧ w.cell? ⟨bl, off + i * 6 + 1, none⟩ = some (.int .i64 a.size) ∧ w.cell? ⟨bl, off + i * 6 + 2, none⟩ = some (.int .i64 a.n) ∧ w.cell? ⟨bl, off + i * 6 + 3, none⟩ = some (.int .u64 a.at_) ∧ w.cell? ⟨bl, off + i * 6 + 4, none⟩ = some (.int .u64 a.v) ∧ w.cell? ⟨bl, off + i * 6 + 5, none⟩ = some (.string a.s) := by
      intro i
      by_cases hi : i < len
      · obtain ⟨u0, y0, n0, c0, t0⟩ := hf i hi 0 _ rfl
        obtain ⟨u1, y1, n1, c1, t1⟩ := hf i hi 1 _ rfl
        obtain ⟨u2, y2, n2, c2, t2⟩ := hf i hi 2 _ rfl
        obtain ⟨u3, y3, n3, c3, t3⟩ := hf i hi 3 _ rfl
        obtain ⟨u4, y4, n4, c4, t4⟩ := hf i hi 4 _ rfl
        obtain ⟨u5, y5, n5, c5, t5⟩ := hf i hi 5 _ rfl
        obtain ⟨x0, e0, _, k0⟩ := DataW.trod_int Try.underlying3 t0
        obtain ⟨x1, e1, _, k1⟩ := DataW.trod_int Try.underlying3 t1
        obtain ⟨x2, e2, _, k2⟩ := DataW.trod_int Try.underlying3 t2
        obtain ⟨x3, e3, _, k3⟩ := DataW.trod_int Try.underlying32 t3
        obtain ⟨x4, e4, _, k4⟩ := DataW.trod_int Try.underlying32 t4
        obtain ⟨x5, e5, _, k5⟩ := DataW.trod_string Try.underlying9 t5
        rw [List.singleton_inj] at e0 e1 e2 e3 e4 e5
        subst e0; subst e1; subst e2; subst e3; subst e4; subst e5
        exact ⟨⟨x0, x1, x2, x3, x4, x5⟩, fun _ => ⟨⟨wf_i64 k0, wf_i64 k1, wf_i64 k2, wf_u64 k3, wf_u64 k4, k5⟩, c0, c1, c2, c3, c4, c5⟩⟩
      · exact ⟨⟨0, 0, 0, 0, 0, ⟨#[]⟩⟩, fun h => absurd h hi⟩
    obtain ⟨f, hf'⟩ := Classical.axiomOfChoice hx
    exact ⟨some ⟨bl, off, none⟩, len, cap, bl, off, f, rfl, by omega, fun _ => ⟨rfl, hbl⟩, fun i hi => hf' i hi⟩
theorem open_acts_c {u : Value} {y : DataW H × List MemPlace} {n : Nat} (h : DataW.trod enc Try.prog w base spare held n 22 [u] = some y) :
    ∃ (o : Option Addr) (len cap bl off : Nat) (f : Nat → ActV), u = .slice o len cap ∧ len ≤ maxLen ∧ (0 < len → o = some ⟨bl, off, none⟩ ∧ bl < w.heap.size) ∧ Acts w bl off len f := by
  obtain ⟨o, len, cap, rfl, ht⟩ := open_slice_c Try.underlying22 h
  exact open_acts ⟨o, len, cap, rfl⟩ ht
end
theorem sub_all (s : List UInt8) (k : Nat) : subB s k 256 = ⟨((s.drop k).take 256).toArray⟩ := rfl
theorem sub_put_same (s : List UInt8) (a : Nat) (x : List UInt8) (h : a + x.length ≤ s.length) : ((putL s a x).drop a).take x.length = x := by
  unfold putL
  have e : (s.take a).length = a := by simp; omega
  rw [List.drop_append, List.drop_eq_nil_of_le (by omega), List.nil_append, e, Nat.sub_self, List.drop_zero, List.take_left']
  rfl
theorem sub_put_other (s : List UInt8) (a : Nat) (x : List UInt8) (h : a + x.length ≤ s.length) (p n : Nat) (hp : p + n ≤ a ∨ a + x.length ≤ p) : ((putL s a x).drop p).take n = (s.drop p).take n := by
  apply List.ext_getElem?
  intro i
  by_cases hi : i < n
  · rw [List.getElem?_take_of_lt hi, List.getElem?_take_of_lt hi, List.getElem?_drop, List.getElem?_drop]
    unfold putL
    have e : (s.take a).length = a := by simp; omega
    rcases hp with hp | hp
    · rw [List.getElem?_append_left (by omega), List.getElem?_take_of_lt (by omega)]
    · rw [List.getElem?_append_right (by omega), List.getElem?_append_right (by omega), e, List.getElem?_drop]
      congr 1; omega
  · rw [List.getElem?_eq_none (by simp; omega), List.getElem?_eq_none (by simp; omega)]
set_option maxRecDepth 100000 in
set_option maxHeartbeats 3200000 in
theorem l_copies (tt frm : Int) (w : World) (o : Option Addr) (len cap bl off : Nat) (f : Nat → ActV) (hlen : len ≤ 9223372036854775807) (ho : 0 < len → o = some ⟨bl, off, none⟩ ∧ bl < w.heap.size) (hl : Acts w bl off len f) :
    Calls Try.prog 8 #[.slice o len cap, .int .i64 tt, .int .i64 frm] w fun e w' => e = .returned (.bool true) ∧ Gr w w' := by
  have HA := Lib.hid hl
  have HO := Lib.hid ho
  clear hl ho
  go_enter Try.func8, Try.ntmps8
  go_wp2_with fail
  refine (c_shown _).mono ?_; rintro e w1 ⟨rfl, g⟩
  have G := Lib.hid g; clear g
  go_wp2_with fail
  refine (mg_new w 3 (by decide) (by decide) _ G.out).mono ?_; rintro e w2 ⟨b, rfl, h⟩
  have H1 := Lib.hid h
  clear h
  go_wp2_with fail
  go_loopw [10] (fun vi wr => ∃ (i : Nat) (s : List UInt8), i ≤ len ∧ vi = .int .i64 i ∧ MG w wr b 3 s 0) (fun vi _ => len - (intOf vi).toNat)
  case atStart => exact ⟨0, _, Nat.zero_le _, rfl, H1.out⟩
  case round =>
    obtain ⟨i, s, hi, rfl, hg⟩ := hrel
    have HG := Lib.hid hg
    clear hg
    by_cases hlt : i < len
    · obtain ⟨rfl, hbl⟩ := HO.out (by omega)
      obtain ⟨⟨_, _, _, hu, _, hsz⟩, a0, a1, a2, a3, a4, a5⟩ := HA.out i hlt
      have c0 := kcell HG.out.1 a0
      have c3 := kcell HG.out.1 a3
      have c5 := kcell HG.out.1 a5
      obtain ⟨u1, u2⟩ := hu
      have U1 := Lib.hid u1
      have U2 := Lib.hid u2
      have HSZ := Lib.hid hsz
      clear a0 a1 a2 a3 a4 a5 u1 u2 hsz
      by_cases hk : (f i).kind = 4
      · rw [hk] at c0
        clear hk
        go_wp2_with fail
        go_still_tail 11, (by kernel_rfl)
        go_wp2_with fail
        refine (mg_put (HG.out.keep (Below.drew (Below.refl _ _))) (f i).at_ (f i).s U1.out U2.out HSZ.out).mono ?_; rintro e w9 ⟨rfl, h⟩
        have H9 := Lib.hid h; clear h
        clear c0 c3 c5
        go_wp2_with fail
        go_roundw
        case rel => exact ⟨i + 1, _, by omega, by go_num, H9.out⟩
        case measure => simp [intOf]; omega
      · have hk' : ((f i).kind == 4) = false := by simpa using hk
        generalize (f i).kind = kd at *
        clear hk
        go_wp2_with fail
        go_roundw
        case rel => exact ⟨i + 1, s, by omega, by go_num, HG.out⟩
        case measure => simp [intOf]; omega
    · obtain rfl : i = len := by omega
      clear hlt
      have hs := HG.out.len
      have hslen : s.length = 768 := hs.1
      have HSL := Lib.hid hslen
      clear hs hslen
      by_cases hth : (0 ≤ tt ∧ tt < 3) ∧ (0 ≤ frm ∧ frm < 3)
      · obtain ⟨⟨t0, t1⟩, q0, q1⟩ := hth
        obtain ⟨p, rfl⟩ : ∃ p : Nat, tt = (p : Int) := ⟨tt.toNat, by omega⟩
        obtain ⟨q, rfl⟩ : ∃ q : Nat, frm = (q : Int) := ⟨frm.toNat, by omega⟩
        have hp : p * 256 + 256 ≤ s.length := by rw [HSL.out]; omega
        have hq : q * 256 + 256 ≤ s.length := by rw [HSL.out]; omega
        have hxl : ((s.drop (q * 256)).take 256).length = 256 := by simp; omega
        generalize hX : (s.drop (q * 256)).take 256 = X at *
        have hl1 : (putL s (p * 256) X).length = s.length := putL_len _ _ _ (by omega)
        generalize hs1 : putL s (p * 256) X = sx at *
        have hl2 : (putL sx (p * 256) (List.replicate 256 0)).length = sx.length := putL_len _ _ _ (by rw [List.length_replicate]; omega)
        generalize hs2 : putL sx (p * 256) (List.replicate 256 0) = sy at *
        have gv : ∀ (z : List UInt8) (k : Nat), k * 256 + 256 ≤ z.length → getV z (256 * (k : Int)) 256 = ⟨((z.drop (k * 256)).take 256).toArray⟩ ∧ getR z (256 * (k : Int)) 256 = 0 := by
          intro z k hz
          have e : (256 * (k : Int)).toNat = k * 256 := by omega
          have hi : 256 * (k : Int) + 256 ≤ z.length := by omega
          unfold getV getR
          rw [if_neg (by decide), if_pos (inB_t hi), if_neg (by decide), if_pos (inB_t hi), e]
          exact ⟨rfl, rfl⟩
        obtain ⟨g1, g2⟩ := gv s q hq
        rw [hX] at g1
        obtain ⟨g3, g4⟩ := gv sx p (by omega)
        have g3' : (sx.drop (p * 256)).take 256 = X := by
          have := sub_put_same s (p * 256) X (by omega)
          rw [hs1, hxl] at this; exact this
        rw [g3'] at g3
        obtain ⟨g5, g6⟩ := gv sx q (by omega)
        have g5' : (sx.drop (q * 256)).take 256 = X := by
          by_cases hpq : p = q
          · rw [← hpq]; exact g3'
          · have := sub_put_other s (p * 256) X (by omega) (q * 256) 256 (by omega)
            rw [hs1] at this; rw [this, hX]
        rw [g5'] at g5
        obtain ⟨g7, g8⟩ := gv sy q (by omega)
        have g7' : p ≠ q → (sy.drop (q * 256)).take 256 = X := by
          intro hpq
          have := sub_put_other sx (p * 256) (List.replicate 256 0) (by rw [List.length_replicate]; omega) (q * 256) 256 (by rw [List.length_replicate]; omega)
          rw [hs2] at this; rw [this, g5']
        have k1 : copyS 3 s p q = sx := by
          unfold copyS; rw [if_pos (frB_t (by omega)), if_pos (frB_t (by omega)), Int.toNat_natCast, Int.toNat_natCast, hX, hs1]
        have k2 : copyR 3 p q = 0 := by unfold copyR; rw [if_pos (frB_t (by omega)), if_pos (frB_t (by omega))]
        have k3 : clearS 3 sx p = sy := by unfold clearS; rw [if_pos (frB_t (by omega)), Int.toNat_natCast, hs2]
        have k4 : clearR 3 p = 0 := by unfold clearR; rw [if_pos (frB_t (by omega))]
        have G1 := Lib.hid g1; have G2 := Lib.hid g2; have G3 := Lib.hid g3; have G4 := Lib.hid g4; have G5 := Lib.hid g5; have G6 := Lib.hid g6; have G7 := Lib.hid g7; have G8 := Lib.hid g8; have G9 := Lib.hid g7'
        have K1 := Lib.hid k1; have K2 := Lib.hid k2; have K3 := Lib.hid k3; have K4 := Lib.hid k4
        clear g1 g2 g3 g4 g5 g6 g7 g8 g7' g3' g5' k1 k2 k3 k4 gv hl1 hl2 hs1 hs2 hX hxl hp hq
        generalize hV : (ByteArray.mk X.toArray) = V at *
        have HV := Lib.hid hV
        clear hV
        have hpq : p = q ∨ p ≠ q := by omega
        have e1 : IntKind.u64.wrap (256 * (q : Int)) = 256 * q := by rw [IntKind.wrap_u64]; omega
        have e2 : IntKind.u64.wrap (256 * (p : Int)) = 256 * p := by rw [IntKind.wrap_u64]; omega
        go_wp2_with fail
        refine (mg_get HG.out (256 * (q : Int)) 256 (by omega) (by omega) (by decide) V 0 G1.out G2.out).mono ?_; rintro e w3 ⟨rfl, h⟩
        have H3 := Lib.hid h; clear h
        go_wp2_with fail
        refine (mg_copy H3.out p q sx 0 K1.out K2.out).mono ?_; rintro e w4 ⟨rfl, h⟩
        have H4 := Lib.hid h; clear h
        go_wp2_with fail
        refine (mg_get H4.out (256 * (p : Int)) 256 (by omega) (by omega) (by decide) V 0 G3.out G4.out).mono ?_; rintro e w5 ⟨rfl, h⟩
        have H5 := Lib.hid h; clear h
        go_wp2_with fail
        refine (mg_get H5.out (256 * (q : Int)) 256 (by omega) (by omega) (by decide) V 0 G5.out G6.out).mono ?_; rintro e w6 ⟨rfl, h⟩
        have H6 := Lib.hid h; clear h
        go_wp2_with fail
        refine (mg_clear H6.out p sy 0 K3.out K4.out).mono ?_; rintro e w7 ⟨rfl, h⟩
        have H7 := Lib.hid h; clear h
        go_wp2_with fail
        rcases hpq with rfl | hpq
        · refine (mg_get H7.out (256 * (p : Int)) 256 (by omega) (by omega) (by decide) _ 0 rfl G8.out).mono ?_; rintro e w8 ⟨rfl, h⟩
          have H8 := Lib.hid h; clear h
          go_wp2_with fail
          go_ret
          exact ⟨rfl, H8.out.1⟩
        · refine (mg_get H7.out (256 * (q : Int)) 256 (by omega) (by omega) (by decide) _ 0 rfl G8.out).mono ?_; rintro e w8 ⟨rfl, h⟩
          have H8 := Lib.hid h; clear h
          rw [show getV sy (256 * (q : Int)) 256 = V by have := G7.out; rw [G9.out hpq, HV.out] at this; exact this]
          have hpq' : ((p : Int) == (q : Int)) = false := by simp; omega
          go_wp2_with fail
          go_ret
          exact ⟨rfl, H8.out.1⟩
      · have hc : tt < 0 ∨ (0 ≤ tt ∧ 3 ≤ tt) ∨ (0 ≤ tt ∧ tt < 3 ∧ frm < 0) ∨ (0 ≤ tt ∧ tt < 3 ∧ 0 ≤ frm ∧ 3 ≤ frm) := by omega
        have k2 : copyR 3 tt frm = 3 := by
          unfold copyR
          by_cases h1 : 0 ≤ tt ∧ tt < ((3 : Nat) : Int)
          · rw [if_pos (frB_t h1), if_neg (by rw [frB_f (by omega)]; simp)]
          · rw [if_neg (by rw [frB_f h1]; simp)]
        have K2 := Lib.hid k2
        clear k2 hth
        rcases hc with h1 | ⟨h1, h2⟩ | ⟨h1, h2, h3⟩ | ⟨h1, h2, h3, h4⟩
        case' inr.inr.inr => have hb3 : decide (frm < 3) = false := decide_eq_false (by omega)
        all_goals
          go_wp2_with fail
          refine (mg_copy HG.out tt frm _ 3 rfl K2.out).mono ?_; rintro e w4 ⟨rfl, h⟩
          have H4 := Lib.hid h; clear h
          go_wp2_with fail
          go_ret
          exact ⟨rfl, H4.out.1⟩
end Go.Proofs.Ytofpkghjiecjdaa.P
