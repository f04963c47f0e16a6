/- Stage 10: FramesPlays. No condition. -/
import Derived.Test.YtklkgjaljfkjbaaF13
import Derived.Test.YtklkgjaljfkjbaaS
import Derived.Deep.DeepCutAuto
import Derived.Deep.LoopGhost
import Derived.StillTailTactics
import Derived.LaidEqlPtr
import Derived.Deep.RegionHeld3
set_option linter.unusedVariables false
namespace Go.Proofs.Ytklkgjaljfkjbaa.P
open Go.RowKit Go.MuLone Go.Maps
theorem ptr_same (p : Addr) (w : World) : (binOp .eql 29 (.pointer (some p)) (.pointer (some p))).run Try.prog w = .ok (.bool true) w := by
  have h : (Try.prog.info? 78).isSome = true := by kernel_rfl
  obtain ⟨j, hj⟩ := Option.isSome_iff_exists.1 h
  exact run_eql_ptr_same w p Try.underlying29 hj
theorem fp_drew {w0 w : World} {z : Six} {first : Nat} {L : List Bool} {s : List UInt8} {H : List Bool} {s2 : List UInt8} (h : FP w0 w z first L s H s2) : FP w0 w.drew z first L s H s2 := h.gr (Below.drew (Below.refl _ _))
theorem cell10_drew {w : World} {p : Addr} {v : Value} (h : w.cell? p = some v) : w.drew.cell? p = some v := h
theorem takeL_len (L : List Bool) (first : Nat) : (takeL L first).length = L.length := by unfold takeL; cases takeB L first <;> simp
theorem giveL_len (L : List Bool) (first : Nat) (k : Int) : (giveL L first k).length = L.length := by unfold giveL; cases tknB L first k <;> simp
set_option maxRecDepth 100000 in
theorem l_plays_no (size first : Int) (v : Value) (w : World) (h : ¬ (1 ≤ size ∧ size ≤ 256)) :
    Calls Try.prog 3 #[.int .i64 size, .int .i64 first, v] w fun e w' => e = .returned (.bool true) ∧ Gr w w' := by
  have HT := fun w => r_takes size w
  rw [decide_eq_false h] at HT
  clear h
  go_enter Try.func3, Try.ntmps3
  go_wp2_with fail
  refine (c_shown10 _).mono ?_; rintro e w1 ⟨rfl, g⟩
  have G := Lib.hid g; clear g
  go_wp2_with (first
    | (go_at_call 8; refine (HT _).mono ?_; rintro e w' ⟨rfl, rfl⟩)
    | (go_at_call 9; refine (n_pool _ _).mono ?_; rintro e w' ⟨rfl, rfl⟩))
  go_ret
  exact ⟨rfl, G.out⟩
set_option maxRecDepth 100000 in
theorem l_plays_far (fr : Nat) (h1 : 1 ≤ fr) (h2 : fr ≤ 256) (first : Int) (v : Value) (w : World) (h : ¬ (0 ≤ first ∧ first ≤ fr)) :
    Calls Try.prog 3 #[.int .i64 fr, .int .i64 first, v] w fun e w' => e = .returned (.bool true) ∧ Gr w w' := by
  have HT := fun w => r_takes (fr : Int) w
  rw [decide_eq_true (show 1 ≤ (fr : Int) ∧ (fr : Int) ≤ 256 by omega)] at HT
  go_enter Try.func3, Try.ntmps3
  go_wp2_with fail
  refine (c_shown10 _).mono ?_; rintro e w1 ⟨rfl, g⟩
  have G := Lib.hid g; clear g
  go_wp2_with (go_at_call 8; refine (HT _).mono ?_; rintro e w' ⟨rfl, rfl⟩)
  refine (mem_new w _ G.out fr h1 h2).mono ?_; rintro e w2 ⟨b, rfl, hm⟩
  obtain ⟨g2, hb, y, hy, hM⟩ := hm
  have G2 := Lib.hid g2
  have HM := Lib.hid hM
  clear hM g2
  go_wp2_with fail
  refine (c_pool_no b y fr first _ 0 _ HM.out h).mono ?_; rintro e w' ⟨rfl, rfl⟩
  go_wp2_with fail
  refine (r_new fr h2 _).mono ?_; rintro e w3 ⟨rfl, hR, g3⟩
  have HR := Lib.hid hR
  have G3 := Lib.hid g3
  clear hR g3
  go_wp2_with fail
  refine (q_new_no _ _ fr first _ 0 _ HR.out (List.length_replicate) h).mono ?_; rintro e w' ⟨rfl, rfl⟩
  go_wp2_with fail
  go_ret
  exact ⟨rfl, gtrans G2.out G3.out⟩
set_option maxRecDepth 100000 in
set_option maxHeartbeats 3200000 in
theorem l_plays (fr first : Nat) (h1 : 1 ≤ fr) (h2 : fr ≤ 256) (h3 : first ≤ fr) (w : World) (o : Option Addr) (len cap bl off : Nat) (f : Nat → FActV) (hlen : len ≤ 9223372036854775807) (ho : 0 < len → o = some ⟨bl, off, none⟩ ∧ bl < w.heap.size) (hl : FActs w bl off len f) :
    Calls Try.prog 3 #[.int .i64 fr, .int .i64 first, .slice o len cap] w fun e w' => e = .returned (.bool true) ∧ Gr w w' := by
  have HA := Lib.hid hl
  have HO := Lib.hid ho
  clear hl ho
  have HT := fun w => r_takes (fr : Int) w
  rw [decide_eq_true (show 1 ≤ (fr : Int) ∧ (fr : Int) ≤ 256 by omega)] at HT
  go_enter Try.func3, Try.ntmps3
  go_wp2_with fail
  refine (c_shown10 _).mono ?_; rintro e w1 ⟨rfl, g⟩
  have G := Lib.hid g; clear g
  go_wp2_with (go_at_call 8; refine (HT _).mono ?_; rintro e w' ⟨rfl, rfl⟩)
  refine (mem_new w _ G.out fr h1 h2).mono ?_; rintro e w2 ⟨b, rfl, hm⟩
  have HM := Lib.hid hm
  clear hm
  go_wp2_with fail
  refine (pg_new w w2 b fr first _ 0 HM.out h3).mono ?_; rintro e w3 ⟨pb, rfl, h⟩
  have HP := Lib.hid h
  clear h HM
  go_wp2_with fail
  refine (r_new fr h2 _).mono ?_; rintro e w4 ⟨rfl, hR, g3⟩
  have HR := Lib.hid hR
  have G3 := Lib.hid g3
  clear hR g3
  go_wp2_with fail
  refine (q_new _ _ fr first _ 0 _ HR.out (List.length_replicate) h3 (by omega)).mono ?_; rintro e w5 ⟨rp, ib, rfl, hq, l1, l2, g4⟩
  have HF := Lib.hid (fp_new HP.out G3.out g4 hq (by have := G3.out.size; omega) (by have := G3.out.size; omega) (by omega) (Nat.le_refl _))
  generalize w3.heap.size + 1 = rb at *
  generalize w3.heap.size = vb at *
  clear hq g4 HP HR G3 l1 l2
  go_wp2_with fail
  go_loopg [16] len (fun g vi wr => ∃ (i : Nat) (L H : List Bool) (s : List UInt8), i ≤ len ∧ g = len - i ∧ vi = .int .i64 i ∧ L.length = fr ∧ Rel first L H ∧ FP w wr ⟨pb, b, rp, ib, rb, vb⟩ first L s H s)
  case atStart => exact ⟨0, _, _, _, Nat.zero_le _, rfl, rfl, fresh_len _ _, fresh_rel _ _, HF.out⟩
  case round =>
    clear HF
    obtain ⟨i, L, H, s, hi, rfl, rfl, hL, hr, hg⟩ := hrel
    have HG := Lib.hid hg
    have HL := Lib.hid hL
    have HREL := Lib.hid hr
    clear hg hL hr
    by_cases hlt : i < len
    · obtain ⟨rfl, hbl⟩ := HO.out (by omega)
      obtain ⟨⟨_, hun, hua⟩, a0', a1', a2'⟩ := HA.out i hlt
      have HUN := Lib.hid hun
      have HUA := Lib.hid hua
      have HGR := Lib.hid (show Gr w wr from HG.out.1)
      have A1 := Lib.hid a1'
      have A2 := Lib.hid a2'
      have c0 := kcell HGR.out a0'
      clear a0' a1' a2' hun hua
      by_cases hk1 : (f i).kind = 1
      · rw [hk1] at c0
        clear hk1
        go_wp2_with fail
        refine (fp_take HG.out).mono ?_; rintro e w6 ⟨rfl, h⟩
        have H6 := Lib.hid h; clear h
        go_wp2_with fail
        refine (fq_take H6.out HREL.out).mono ?_; rintro e w7 ⟨rfl, h⟩
        have H7 := Lib.hid h; clear h
        have HREL2 := Lib.hid (rel_take HREL.out)
        have HL2 := Lib.hid ((takeL_len L first).trans HL.out)
        generalize takeN L first = tN at *
        generalize takeE L first = tE at *
        generalize takeS L first s = s' at *
        generalize takeH L H first = H' at *
        generalize takeL L first = L' at *
        clear c0
        go_upto_region 30 with fail
        go_cut [166] (fun s0 wx => s0 = .bool false ∧ FP w wx ⟨pb, b, rp, ib, rb, vb⟩ first L' s' H' s')
        case first =>
          have hS : FP w _ ⟨pb, b, rp, ib, rb, vb⟩ first L' s' H' s' := H7.out
          have hc1 := kcell H7.out.1 A1.out
          have hS1 := fp_drew hS
          go_region_held3 (fun w' => FP w w' ⟨pb, b, rp, ib, rb, vb⟩ first L' s' H' s' ∧ w'.cell? ⟨bl, off + i * 3 + 1, none⟩ = some (.int .i64 (f i).n))
            ((refine ⟨?_, ?_⟩ <;> first | (with_reducible assumption) | (with_reducible exact fp_drew (by assumption)) | (with_reducible exact cell10_drew (by assumption))))
            (first
              | (go_at_call 19; refine (fp_left (by assumption : FP w _ ⟨pb, b, rp, ib, rb, vb⟩ first L' s' H' s')).mono ?_; rintro e w2 ⟨rfl, rfl⟩)
              | (go_at_call 20; refine (fq_left (by assumption : FP w _ ⟨pb, b, rp, ib, rb, vb⟩ first L' s' H' s') HREL2.out).mono ?_; rintro e w2 ⟨rfl, rfl⟩)
              | (go_at_call 22; refine (fq_taken (by assumption : FP w _ ⟨pb, b, rp, ib, rb, vb⟩ first L' s' H' s') HREL2.out _).mono ?_; rintro e w2 ⟨rfl, rfl⟩)
              | (go_at_call 21; refine (fp_taken (by assumption : FP w _ ⟨pb, b, rp, ib, rb, vb⟩ first L' s' H' s') (f i).n HUN.out).mono ?_; rintro e w2 ⟨rfl, hq⟩; have hS2 : FP w w2 ⟨pb, b, rp, ib, rb, vb⟩ first L' s' H' s' := hq; have hc2 : w2.cell? ⟨bl, off + i * 3 + 1, none⟩ = some (.int .i64 (f i).n) := kcell hq.1 A1.out; clear hq))
          all_goals
            go_wp2_with fail
            go_meet
            exact ⟨rfl, (by assumption : FP w _ ⟨pb, b, rp, ib, rb, vb⟩ first L' s' H' s')⟩
        case rest =>
          obtain ⟨rfl, hq⟩ := hcut
          have HQ := Lib.hid hq
          clear hq
          go_wp2_with fail
          go_roundg (len - (i + 1))
          case measure => omega
          case rel => exact ⟨i + 1, L', H', s', by omega, rfl, by go_num, HL2.out, HREL2.out, HQ.out⟩
      · by_cases hk2 : (f i).kind = 2
        · rw [hk2] at c0
          clear hk1 hk2
          have c1 := kcell HGR.out A1.out
          go_wp2_with fail
          refine (fp_give HG.out (f i).n HUN.out).mono ?_; rintro e w6 ⟨rfl, h⟩
          have H6 := Lib.hid h; clear h
          have c1b := kcell H6.out.1 A1.out
          clear c0 c1
          go_wp2_with fail
          refine (fq_give H6.out HREL.out (f i).n).mono ?_; rintro e w7 ⟨rfl, h⟩
          have H7 := Lib.hid h; clear h
          have HREL2 := Lib.hid (rel_give HREL.out (f i).n)
          have HL2 := Lib.hid ((giveL_len L first (f i).n).trans HL.out)
          generalize giveE L first (f i).n = tE at *
          generalize giveS L first (f i).n s = s' at *
          generalize giveH L H first (f i).n = H' at *
          generalize giveL L first (f i).n = L' at *
          clear c1b
          go_upto_region 30 with fail
          go_cut [166] (fun s0 wx => s0 = .bool false ∧ FP w wx ⟨pb, b, rp, ib, rb, vb⟩ first L' s' H' s')
          case first =>
            have hS : FP w _ ⟨pb, b, rp, ib, rb, vb⟩ first L' s' H' s' := H7.out
            have hc1 := kcell H7.out.1 A1.out
            have hS1 := fp_drew hS
            go_region_held3 (fun w' => FP w w' ⟨pb, b, rp, ib, rb, vb⟩ first L' s' H' s' ∧ w'.cell? ⟨bl, off + i * 3 + 1, none⟩ = some (.int .i64 (f i).n))
              ((refine ⟨?_, ?_⟩ <;> first | (with_reducible assumption) | (with_reducible exact fp_drew (by assumption)) | (with_reducible exact cell10_drew (by assumption))))
              (first
                | (go_at_call 19; refine (fp_left (by assumption : FP w _ ⟨pb, b, rp, ib, rb, vb⟩ first L' s' H' s')).mono ?_; rintro e w2 ⟨rfl, rfl⟩)
                | (go_at_call 20; refine (fq_left (by assumption : FP w _ ⟨pb, b, rp, ib, rb, vb⟩ first L' s' H' s') HREL2.out).mono ?_; rintro e w2 ⟨rfl, rfl⟩)
                | (go_at_call 22; refine (fq_taken (by assumption : FP w _ ⟨pb, b, rp, ib, rb, vb⟩ first L' s' H' s') HREL2.out _).mono ?_; rintro e w2 ⟨rfl, rfl⟩)
                | (go_at_call 21; refine (fp_taken (by assumption : FP w _ ⟨pb, b, rp, ib, rb, vb⟩ first L' s' H' s') (f i).n HUN.out).mono ?_; rintro e w2 ⟨rfl, hq⟩; have hS2 : FP w w2 ⟨pb, b, rp, ib, rb, vb⟩ first L' s' H' s' := hq; have hc2 : w2.cell? ⟨bl, off + i * 3 + 1, none⟩ = some (.int .i64 (f i).n) := kcell hq.1 A1.out; clear hq))
            all_goals
              go_wp2_with fail
              go_meet
              exact ⟨rfl, (by assumption : FP w _ ⟨pb, b, rp, ib, rb, vb⟩ first L' s' H' s')⟩
          case rest =>
            obtain ⟨rfl, hq⟩ := hcut
            have HQ := Lib.hid hq
            clear hq
            go_wp2_with fail
            go_roundg (len - (i + 1))
            case measure => omega
            case rel => exact ⟨i + 1, L', H', s', by omega, rfl, by go_num, HL2.out, HREL2.out, HQ.out⟩
        · by_cases hk3 : (f i).kind = 3
          · rw [hk3] at c0
            clear hk1 hk2 hk3
            have c2 := kcell HGR.out A2.out
            go_wp2_with fail
            refine (fp_put HG.out (f i).at_ ⟨#[120]⟩ HUA.out.1 HUA.out.2 (by decide)).mono ?_; rintro e w6 ⟨rfl, h⟩
            have H6 := Lib.hid h; clear h
            clear c0 c2
            have c2 := kcell H6.out.1 A2.out
            have r0 := H6.out.right.1
            go_upto_region 29 with fail
            go_still_tail 9, (by kernel_rfl)
            go_wp2_with fail
            refine (fq_put (fp_drew H6.out) (f i).at_ ⟨#[120]⟩ HUA.out.1 HUA.out.2 (by decide)).mono ?_; rintro e w7 ⟨rfl, h⟩
            have H7 := Lib.hid h; clear h c2 r0
            generalize putS s (f i).at_ ⟨#[120]⟩ = s' at *
            go_upto_region 30 with fail
            go_cut [166] (fun s0 wx => s0 = .bool false ∧ FP w wx ⟨pb, b, rp, ib, rb, vb⟩ first L s' H s')
            case first =>
              have hS : FP w _ ⟨pb, b, rp, ib, rb, vb⟩ first L s' H s' := H7.out
              have hc1 := kcell H7.out.1 A1.out
              have hS1 := fp_drew hS
              go_region_held3 (fun w' => FP w w' ⟨pb, b, rp, ib, rb, vb⟩ first L s' H s' ∧ w'.cell? ⟨bl, off + i * 3 + 1, none⟩ = some (.int .i64 (f i).n))
                ((refine ⟨?_, ?_⟩ <;> first | (with_reducible assumption) | (with_reducible exact fp_drew (by assumption)) | (with_reducible exact cell10_drew (by assumption))))
                (first
                  | (go_at_call 19; refine (fp_left (by assumption : FP w _ ⟨pb, b, rp, ib, rb, vb⟩ first L s' H s')).mono ?_; rintro e w2 ⟨rfl, rfl⟩)
                  | (go_at_call 20; refine (fq_left (by assumption : FP w _ ⟨pb, b, rp, ib, rb, vb⟩ first L s' H s') HREL.out).mono ?_; rintro e w2 ⟨rfl, rfl⟩)
                  | (go_at_call 22; refine (fq_taken (by assumption : FP w _ ⟨pb, b, rp, ib, rb, vb⟩ first L s' H s') HREL.out _).mono ?_; rintro e w2 ⟨rfl, rfl⟩)
                  | (go_at_call 21; refine (fp_taken (by assumption : FP w _ ⟨pb, b, rp, ib, rb, vb⟩ first L s' H s') (f i).n HUN.out).mono ?_; rintro e w2 ⟨rfl, hq⟩; have hS2 : FP w w2 ⟨pb, b, rp, ib, rb, vb⟩ first L s' H s' := hq; have hc2 : w2.cell? ⟨bl, off + i * 3 + 1, none⟩ = some (.int .i64 (f i).n) := kcell hq.1 A1.out; clear hq))
              all_goals
                go_wp2_with fail
                go_meet
                exact ⟨rfl, (by assumption : FP w _ ⟨pb, b, rp, ib, rb, vb⟩ first L s' H s')⟩
            case rest =>
              obtain ⟨rfl, hq⟩ := hcut
              have HQ := Lib.hid hq
              clear hq
              go_wp2_with fail
              go_roundg (len - (i + 1))
              case measure => omega
              case rel => exact ⟨i + 1, L, H, s', by omega, rfl, by go_num, HL.out, HREL.out, HQ.out⟩
          · have d1 : ((f i).kind == 1) = false := by simpa using hk1
            have d2 : ((f i).kind == 2) = false := by simpa using hk2
            have d3 : ((f i).kind == 3) = false := by simpa using hk3
            clear hk1 hk2 hk3
            go_upto_region 30 with fail
            go_cut [166] (fun s0 wx => s0 = .bool false ∧ FP w wx ⟨pb, b, rp, ib, rb, vb⟩ first L s H s)
            case first =>
              have hS : FP w _ ⟨pb, b, rp, ib, rb, vb⟩ first L s H s := HG.out
              have hc1 := kcell HG.out.1 A1.out
              have hS1 := fp_drew hS
              go_region_held3 (fun w' => FP w w' ⟨pb, b, rp, ib, rb, vb⟩ first L s H s ∧ w'.cell? ⟨bl, off + i * 3 + 1, none⟩ = some (.int .i64 (f i).n))
                ((refine ⟨?_, ?_⟩ <;> first | (with_reducible assumption) | (with_reducible exact fp_drew (by assumption)) | (with_reducible exact cell10_drew (by assumption))))
                (first
                  | (go_at_call 19; refine (fp_left (by assumption : FP w _ ⟨pb, b, rp, ib, rb, vb⟩ first L s H s)).mono ?_; rintro e w2 ⟨rfl, rfl⟩)
                  | (go_at_call 20; refine (fq_left (by assumption : FP w _ ⟨pb, b, rp, ib, rb, vb⟩ first L s H s) HREL.out).mono ?_; rintro e w2 ⟨rfl, rfl⟩)
                  | (go_at_call 22; refine (fq_taken (by assumption : FP w _ ⟨pb, b, rp, ib, rb, vb⟩ first L s H s) HREL.out _).mono ?_; rintro e w2 ⟨rfl, rfl⟩)
                  | (go_at_call 21; refine (fp_taken (by assumption : FP w _ ⟨pb, b, rp, ib, rb, vb⟩ first L s H s) (f i).n HUN.out).mono ?_; rintro e w2 ⟨rfl, hq⟩; have hS2 : FP w w2 ⟨pb, b, rp, ib, rb, vb⟩ first L s H s := hq; have hc2 : w2.cell? ⟨bl, off + i * 3 + 1, none⟩ = some (.int .i64 (f i).n) := kcell hq.1 A1.out; clear hq))
              all_goals
                go_wp2_with fail
                go_meet
                exact ⟨rfl, (by assumption : FP w _ ⟨pb, b, rp, ib, rb, vb⟩ first L s H s)⟩
            case rest =>
              obtain ⟨rfl, hq⟩ := hcut
              have HQ := Lib.hid hq
              clear hq
              go_wp2_with fail
              go_roundg (len - (i + 1))
              case measure => omega
              case rel => exact ⟨i + 1, L, H, s, by omega, rfl, by go_num, HL.out, HREL.out, HQ.out⟩
    · have hil : i = len := by omega
      subst hil
      have hs := HG.out.mem.1
      have HV := HG.out.right
      rw [hs, HL.out] at HV
      have hgv : getV s 0 (256 * (fr : Int)) = subB s 0 (fr * 256) := by
        unfold getV inB
        rw [if_neg (by omega), if_pos (decide_eq_true (by rw [hs, HL.out]; omega)), show (256 * (fr : Int)).toNat = fr * 256 by omega]; rfl
      have CG := fp_get HG.out 0 (256 * (fr : Int)) (by decide) (by decide) (by omega)
      rw [hgv] at CG
      generalize getR s 0 (256 * (fr : Int)) = RR at *
      generalize HZZ : subB s 0 (fr * 256) = ZZ at *
      have HVV := Lib.hid HV
      clear HV hgv
      go_wp2_with fail
      refine CG.mono ?_; rintro e w7 ⟨rfl, h⟩
      have H7 := Lib.hid h; clear h CG
      obtain ⟨r0, r1, hcv⟩ := H7.out.right
      rw [hs, HL.out] at r1 hcv
      have hcv2 : (convert 53 9 (.slice (some ⟨vb, 0, none⟩) (fr * 256) (fr * 256))).run Try.prog w7 = .ok (.string ZZ) w7 := by rw [hcv, HZZ]
      clear hcv
      have CM := fp_mem H7.out
      have hpe : ∀ w : World, (binOp .eql 29 (.pointer (some ⟨b, 0, none⟩)) (.pointer (some ⟨b, 0, none⟩))).run Try.prog w = .ok (.bool true) w := ptr_same _
      go_wp2_with (go_at_call 24; refine CM.mono ?_; rintro e w' ⟨rfl, rfl⟩)
      go_ret
      exact ⟨rfl, H7.out.1⟩
end Go.Proofs.Ytklkgjaljfkjbaa.P
