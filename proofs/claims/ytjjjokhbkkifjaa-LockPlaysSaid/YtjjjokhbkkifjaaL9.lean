/- Stage 15: the walk of LockPlays. No condition. -/
import Derived.Test.YtjjjokhbkkifjaaL8
import Derived.Deep.RegionHeld3
import Derived.Deep.DeepCutAuto
set_option linter.unusedVariables false
namespace Go.Proofs.Ytjjjokhbkkifjaa.P
open Go.RowKit Go.MuLone Go.Maps
/-- What the region that asks all questions keeps. -/
def SV (w0 : World) (b rb : Nat) (D : DataW Unit) (n : Nat) (wide p : Int) (l : List Bool) (w : World) : Prop := IV w0 w b rb D n wide p l
theorem sv_drew {w0 w : World} {b rb : Nat} {D : DataW Unit} {n : Nat} {wide p : Int} {l : List Bool} (h : SV w0 b rb D n wide p l w) : SV w0 b rb D n wide p l w.drew :=
  iv_keep (w := w) h (Below.drew (Below.refl _ _))
theorem cell_drew {w : World} {a : Addr} {v : Value} (h : w.cell? a = some v) : w.drew.cell? a = some v := by simpa using h
set_option maxRecDepth 100000 in
set_option maxHeartbeats 1600000 in
theorem l_plays_no (wide : Int) (v : Value) (w : World) (h : ¬ (1 ≤ wide ∧ wide ≤ 64)) : Calls Try.prog 3 #[.int .i64 wide, v] w fun e w' => e = .returned (.bool true) ∧ Gr w w' := by
  go_enter Try.func3, Try.ntmps3
  go_wp2_with fail
  refine (c_shown _).mono ?_; rintro e w1 ⟨rfl, g⟩
  have G := Lib.hid g; clear g
  go_wp2_with fail
  refine (c_new_no wide h _).mono ?_; rintro e w2 ⟨rfl, rfl⟩
  go_wp2_with fail
  refine (r_takes wide _).mono ?_; rintro e w2 ⟨rfl, rfl⟩
  rw [decide_eq_false h]
  clear h
  go_wp2_with fail
  go_ret
  exact ⟨rfl, G.out⟩
set_option maxRecDepth 100000 in
set_option maxHeartbeats 6400000 in
theorem l_plays (wide : Int) (o : Option Addr) (len cap bl off : Nat) (f : Nat → ActV) (w : World) (h1 : 1 ≤ wide) (h2 : wide ≤ 64) (hlen : len ≤ 8796093022208) (ho : 0 < len → o = some ⟨bl, off, none⟩ ∧ bl < w.heap.size) (hl : Acts w bl off len f) :
    Calls Try.prog 3 #[.int .i64 wide, .slice o len cap] w fun e w' => e = .returned (.bool true) ∧ Gr w w' := by
  have HL := Lib.hid hl
  have HO := Lib.hid ho
  clear hl ho
  go_enter Try.func3, Try.ntmps3
  go_wp2_with fail
  refine (c_shown _).mono ?_; rintro e w1 ⟨rfl, g⟩
  have G := Lib.hid g; clear g
  go_wp2_with fail
  refine (c_new wide h1 h2 _).mono ?_; rintro e w2 ⟨b, rfl, hN, hb, hg⟩
  have HN := Lib.hid hN
  have HG := Lib.hid (gtrans G.out hg)
  have hwb : w.heap.size ≤ b := by have := G.out.size; omega
  clear hN hg
  go_wp2_with fail
  refine (r_takes wide _).mono ?_; rintro e w3 ⟨rfl, rfl⟩
  rw [decide_eq_true ⟨h1, h2⟩]
  go_wp2_with fail
  have hblk := HN.out.blk
  have hlb := blk_lt hblk
  have hws := HG.out.size
  have hIV : IV w (w3.alloc (.cells #[.int .i64 wide, .slice none 0 0, .int .i64 0] 32)) b w3.heap.size (.map []) 0 wide 0 [] := by
    refine ⟨(HG.out).alloc hws _, rel_nil, none, none, hwb, hws, fun x h => (by cases h), fun x h => (by cases h), by omega, (by simp), (by simp), fun x h => (by cases h), HN.out.keep (S := fun _ => False) ((Ch.refl _ _).alloc _) (fun h => h) (fun _ _ h => h), none, 0, blk_new _ _, World.ownsRow_nil _ _ _ _, rfl, by simp⟩
  have HIV := Lib.hid hIV
  clear hIV hblk hlb hws
  generalize w3.heap.size = rb at *
  go_loopw [10] (fun v10 wr => ∃ (k n : Nat) (p : Int) (l : List Bool) (D : DataW Unit), k ≤ len ∧ v10 = .int .i64 k ∧ 0 ≤ p ∧ p ≤ k ∧ l.length ≤ k ∧ n ≤ k ∧ IV w wr b rb D n wide p l) (fun v10 _ => len - (intOf v10).toNat)
  case atStart => exact ⟨0, 0, 0, [], .map [], Nat.zero_le _, rfl, by omega, by omega, by simp, by omega, HIV.out⟩
  case round =>
    clear HIV
    obtain ⟨k, n, p, l, D, hk, rfl, hp0, hpk, hlk, hnk, hiv⟩ := hrel
    have HIV := Lib.hid hiv
    clear hiv
    by_cases hlt : k < len
    · obtain ⟨rfl, hbl⟩ := HO.out (by omega)
      obtain ⟨⟨_, hu⟩, a0, a1⟩ := HL.out k hlt
      obtain ⟨t, ht⟩ : ∃ t : Nat, (f k).t = (t : Int) := ⟨(f k).t.toNat, by have := hu.1; omega⟩
      rw [ht] at a1 hu
      have hu2 : (t : Int) ≤ 18446744073709551615 := hu.2
      have A0 := Lib.hid a0
      have A1 := Lib.hid a1
      clear hu ht a0 a1
      have c0 := kcell HIV.out.1 A0.out
      have hb4 : (0 : Int) ≤ wide := by omega
      by_cases hk1 : (f k).kind = 1
      · rw [hk1] at c0
        clear A0 hk1
        go_wp2_with fail
        refine (iv_ask HIV.out (by omega)).mono ?_; rintro e w4 ⟨rfl, hq⟩
        have HR := Lib.hid HIV.out.2.1
        have HM := Lib.hid hq
        clear hq
        go_wp2_with fail
        refine (ir_ask HR.out HM.out (by omega)).mono ?_; rintro e w5 ⟨rfl, hq⟩
        have H5 := Lib.hid hq
        have hl1 : (l ++ [false]).length ≤ k + 1 := by simp; omega
        clear hq
        go_wp2_with fail
        go_upto_region 22 with fail
        go_cut [116] (fun s wx => s = .bool false ∧ SV w b rb D n wide p (l ++ [false]) wx)
        case first =>
          have hS : SV w b rb D n wide p (l ++ [false]) _ := H5.out
          have hc1 := kcell H5.out.1 A1.out
          have hS1 := sv_drew hS
          go_region_held3 (fun w' => SV w b rb D n wide p (l ++ [false]) w' ∧ w'.cell? ⟨bl, off + k * 2 + 1, none⟩ = some (.int .u64 t))
            ((refine ⟨?_, ?_⟩ <;> first | (with_reducible assumption) | (with_reducible exact sv_drew (by assumption)) | (with_reducible exact cell_drew (by assumption))))
            (first
              | (go_at_call 13; refine (iv_has (by assumption : SV w b rb D n wide p (l ++ [false]) _) (by omega) (by omega) (by omega) (by omega) (by omega) t (by omega)).mono ?_; rintro e w2 ⟨rfl, hq⟩; have hS2 : SV w b rb D n wide p (l ++ [false]) w2 := hq; have hc2 : w2.cell? ⟨bl, off + k * 2 + 1, none⟩ = some (.int .u64 t) := kcell hq.1 A1.out; clear hq)
              | (go_at_call 14; refine (ir_has (by assumption : SV w b rb D n wide p (l ++ [false]) _) (by omega) (by omega) (by omega) (by omega) (by omega) t).mono ?_; rintro e w2 ⟨rfl, hq⟩; have hS2 : SV w b rb D n wide p (l ++ [false]) w2 := hq; have hc2 : w2.cell? ⟨bl, off + k * 2 + 1, none⟩ = some (.int .u64 t) := kcell hq.1 A1.out; clear hq)
              | (go_at_call 15; refine (iv_waiting (by assumption : SV w b rb D n wide p (l ++ [false]) _) (by omega) (by omega) (by omega) (by omega) (by omega)).mono ?_; rintro e w2 ⟨rfl, hq⟩; have hS2 : SV w b rb D n wide p (l ++ [false]) w2 := hq; have hc2 : w2.cell? ⟨bl, off + k * 2 + 1, none⟩ = some (.int .u64 t) := kcell hq.1 A1.out; clear hq)
              | (go_at_call 16; refine (ir_waiting (by assumption : SV w b rb D n wide p (l ++ [false]) _) (by omega) (by omega) (by omega) (by omega) (by omega)).mono ?_; rintro e w2 ⟨rfl, hq⟩; have hS2 : SV w b rb D n wide p (l ++ [false]) w2 := hq; have hc2 : w2.cell? ⟨bl, off + k * 2 + 1, none⟩ = some (.int .u64 t) := kcell hq.1 A1.out; clear hq)
              | (go_at_call 17; refine (iv_let (by assumption : SV w b rb D n wide p (l ++ [false]) _) (by omega) (by omega) (by omega) (by omega) (by omega)).mono ?_; rintro e w2 ⟨rfl, hq⟩; have hS2 : SV w b rb D n wide p (l ++ [false]) w2 := hq; have hc2 : w2.cell? ⟨bl, off + k * 2 + 1, none⟩ = some (.int .u64 t) := kcell hq.1 A1.out; clear hq)
              | (go_at_call 18; refine (ir_let (by assumption : SV w b rb D n wide p (l ++ [false]) _) (by omega) (by omega) (by omega) (by omega) (by omega)).mono ?_; rintro e w2 ⟨rfl, hq⟩; have hS2 : SV w b rb D n wide p (l ++ [false]) w2 := hq; have hc2 : w2.cell? ⟨bl, off + k * 2 + 1, none⟩ = some (.int .u64 t) := kcell hq.1 A1.out; clear hq))
          all_goals
            go_wp2_with fail
            go_meet
            exact ⟨rfl, (by assumption : SV w b rb D n wide p (l ++ [false]) _)⟩
        case rest =>
          obtain ⟨rfl, hq⟩ := hcut
          have HQ := Lib.hid hq
          clear hq
          go_wp2_with fail
          go_roundw
          case rel => exact ⟨k + 1, n, p, (l ++ [false]), D, by omega, by go_num, by omega, by omega, hl1, by omega, HQ.out⟩
          case measure => simp [intOf]; omega
      · by_cases hk3 : (f k).kind = 3
        · rw [hk3] at c0
          clear A0 hk1 hk3
          have hxx : rhasB l wide p t = true ∨ rhasB l wide p t = false := by cases rhasB l wide p t <;> simp
          have hc1 := kcell HIV.out.1 A1.out
          rcases hxx with hx | hx
          · have HX := Lib.hid hx
            clear hx
            go_wp2_with fail
            refine (iv_pass_yes HIV.out (by omega) (by omega) (by omega) (by omega) (by omega) t (by omega) HX.out (by unfold maxLen; omega)).mono ?_; rintro e w4 ⟨rfl, hq⟩
            have HR := Lib.hid HIV.out.2.1
            have HM := Lib.hid hq
            clear hq hc1
            have hc1 := kcell HM.out.1 A1.out
            go_wp2_with fail
            refine (ir_pass_yes HR.out t HM.out (by omega) (by omega) (by omega) (by omega) (by omega) HX.out).mono ?_; rintro e w5 ⟨rfl, hq⟩
            have H5 := Lib.hid hq
            have hl1 : (l.set t true).length ≤ k + 1 := by rw [List.length_set]; omega
            clear hq hc1
            go_wp2_with fail
            go_upto_region 22 with fail
            go_cut [116] (fun s wx => s = .bool false ∧ SV w b rb (D.put (.int .u64 t) u0) (n + 1) wide (p + 1) (l.set t true) wx)
            case first =>
              have hS : SV w b rb (D.put (.int .u64 t) u0) (n + 1) wide (p + 1) (l.set t true) _ := H5.out
              have hc1 := kcell H5.out.1 A1.out
              have hS1 := sv_drew hS
              go_region_held3 (fun w' => SV w b rb (D.put (.int .u64 t) u0) (n + 1) wide (p + 1) (l.set t true) w' ∧ w'.cell? ⟨bl, off + k * 2 + 1, none⟩ = some (.int .u64 t))
                ((refine ⟨?_, ?_⟩ <;> first | (with_reducible assumption) | (with_reducible exact sv_drew (by assumption)) | (with_reducible exact cell_drew (by assumption))))
                (first
                  | (go_at_call 13; refine (iv_has (by assumption : SV w b rb (D.put (.int .u64 t) u0) (n + 1) wide (p + 1) (l.set t true) _) (by omega) (by omega) (by omega) (by omega) (by omega) t (by omega)).mono ?_; rintro e w2 ⟨rfl, hq⟩; have hS2 : SV w b rb (D.put (.int .u64 t) u0) (n + 1) wide (p + 1) (l.set t true) w2 := hq; have hc2 : w2.cell? ⟨bl, off + k * 2 + 1, none⟩ = some (.int .u64 t) := kcell hq.1 A1.out; clear hq)
                  | (go_at_call 14; refine (ir_has (by assumption : SV w b rb (D.put (.int .u64 t) u0) (n + 1) wide (p + 1) (l.set t true) _) (by omega) (by omega) (by omega) (by omega) (by omega) t).mono ?_; rintro e w2 ⟨rfl, hq⟩; have hS2 : SV w b rb (D.put (.int .u64 t) u0) (n + 1) wide (p + 1) (l.set t true) w2 := hq; have hc2 : w2.cell? ⟨bl, off + k * 2 + 1, none⟩ = some (.int .u64 t) := kcell hq.1 A1.out; clear hq)
                  | (go_at_call 15; refine (iv_waiting (by assumption : SV w b rb (D.put (.int .u64 t) u0) (n + 1) wide (p + 1) (l.set t true) _) (by omega) (by omega) (by omega) (by omega) (by omega)).mono ?_; rintro e w2 ⟨rfl, hq⟩; have hS2 : SV w b rb (D.put (.int .u64 t) u0) (n + 1) wide (p + 1) (l.set t true) w2 := hq; have hc2 : w2.cell? ⟨bl, off + k * 2 + 1, none⟩ = some (.int .u64 t) := kcell hq.1 A1.out; clear hq)
                  | (go_at_call 16; refine (ir_waiting (by assumption : SV w b rb (D.put (.int .u64 t) u0) (n + 1) wide (p + 1) (l.set t true) _) (by omega) (by omega) (by omega) (by omega) (by omega)).mono ?_; rintro e w2 ⟨rfl, hq⟩; have hS2 : SV w b rb (D.put (.int .u64 t) u0) (n + 1) wide (p + 1) (l.set t true) w2 := hq; have hc2 : w2.cell? ⟨bl, off + k * 2 + 1, none⟩ = some (.int .u64 t) := kcell hq.1 A1.out; clear hq)
                  | (go_at_call 17; refine (iv_let (by assumption : SV w b rb (D.put (.int .u64 t) u0) (n + 1) wide (p + 1) (l.set t true) _) (by omega) (by omega) (by omega) (by omega) (by omega)).mono ?_; rintro e w2 ⟨rfl, hq⟩; have hS2 : SV w b rb (D.put (.int .u64 t) u0) (n + 1) wide (p + 1) (l.set t true) w2 := hq; have hc2 : w2.cell? ⟨bl, off + k * 2 + 1, none⟩ = some (.int .u64 t) := kcell hq.1 A1.out; clear hq)
                  | (go_at_call 18; refine (ir_let (by assumption : SV w b rb (D.put (.int .u64 t) u0) (n + 1) wide (p + 1) (l.set t true) _) (by omega) (by omega) (by omega) (by omega) (by omega)).mono ?_; rintro e w2 ⟨rfl, hq⟩; have hS2 : SV w b rb (D.put (.int .u64 t) u0) (n + 1) wide (p + 1) (l.set t true) w2 := hq; have hc2 : w2.cell? ⟨bl, off + k * 2 + 1, none⟩ = some (.int .u64 t) := kcell hq.1 A1.out; clear hq))
              all_goals
                go_wp2_with fail
                go_meet
                exact ⟨rfl, (by assumption : SV w b rb (D.put (.int .u64 t) u0) (n + 1) wide (p + 1) (l.set t true) _)⟩
            case rest =>
              obtain ⟨rfl, hq⟩ := hcut
              have HQ := Lib.hid hq
              clear hq
              go_wp2_with fail
              go_roundw
              case rel => exact ⟨k + 1, (n + 1), (p + 1), (l.set t true), (D.put (.int .u64 t) u0), by omega, by go_num, by omega, by omega, hl1, by omega, HQ.out⟩
              case measure => simp [intOf]; omega
          · have HX := Lib.hid hx
            clear hx
            go_wp2_with fail
            refine (iv_pass_no HIV.out (by omega) (by omega) (by omega) (by omega) (by omega) t (by omega) HX.out).mono ?_; rintro e w4 ⟨rfl, hq⟩
            have HM := Lib.hid hq
            clear hq hc1
            have hc1 := kcell HM.out.1 A1.out
            go_wp2_with fail
            refine (ir_pass_no HM.out (by omega) (by omega) (by omega) (by omega) (by omega) t HX.out).mono ?_; rintro e w5 ⟨rfl, hq⟩
            have H5 := Lib.hid hq
            clear hq hc1
            go_wp2_with fail
            go_upto_region 22 with fail
            go_cut [116] (fun s wx => s = .bool false ∧ SV w b rb D n wide p l wx)
            case first =>
              have hS : SV w b rb D n wide p l _ := H5.out
              have hc1 := kcell H5.out.1 A1.out
              have hS1 := sv_drew hS
              go_region_held3 (fun w' => SV w b rb D n wide p l w' ∧ w'.cell? ⟨bl, off + k * 2 + 1, none⟩ = some (.int .u64 t))
                ((refine ⟨?_, ?_⟩ <;> first | (with_reducible assumption) | (with_reducible exact sv_drew (by assumption)) | (with_reducible exact cell_drew (by assumption))))
                (first
                  | (go_at_call 13; refine (iv_has (by assumption : SV w b rb D n wide p l _) (by omega) (by omega) (by omega) (by omega) (by omega) t (by omega)).mono ?_; rintro e w2 ⟨rfl, hq⟩; have hS2 : SV w b rb D n wide p l w2 := hq; have hc2 : w2.cell? ⟨bl, off + k * 2 + 1, none⟩ = some (.int .u64 t) := kcell hq.1 A1.out; clear hq)
                  | (go_at_call 14; refine (ir_has (by assumption : SV w b rb D n wide p l _) (by omega) (by omega) (by omega) (by omega) (by omega) t).mono ?_; rintro e w2 ⟨rfl, hq⟩; have hS2 : SV w b rb D n wide p l w2 := hq; have hc2 : w2.cell? ⟨bl, off + k * 2 + 1, none⟩ = some (.int .u64 t) := kcell hq.1 A1.out; clear hq)
                  | (go_at_call 15; refine (iv_waiting (by assumption : SV w b rb D n wide p l _) (by omega) (by omega) (by omega) (by omega) (by omega)).mono ?_; rintro e w2 ⟨rfl, hq⟩; have hS2 : SV w b rb D n wide p l w2 := hq; have hc2 : w2.cell? ⟨bl, off + k * 2 + 1, none⟩ = some (.int .u64 t) := kcell hq.1 A1.out; clear hq)
                  | (go_at_call 16; refine (ir_waiting (by assumption : SV w b rb D n wide p l _) (by omega) (by omega) (by omega) (by omega) (by omega)).mono ?_; rintro e w2 ⟨rfl, hq⟩; have hS2 : SV w b rb D n wide p l w2 := hq; have hc2 : w2.cell? ⟨bl, off + k * 2 + 1, none⟩ = some (.int .u64 t) := kcell hq.1 A1.out; clear hq)
                  | (go_at_call 17; refine (iv_let (by assumption : SV w b rb D n wide p l _) (by omega) (by omega) (by omega) (by omega) (by omega)).mono ?_; rintro e w2 ⟨rfl, hq⟩; have hS2 : SV w b rb D n wide p l w2 := hq; have hc2 : w2.cell? ⟨bl, off + k * 2 + 1, none⟩ = some (.int .u64 t) := kcell hq.1 A1.out; clear hq)
                  | (go_at_call 18; refine (ir_let (by assumption : SV w b rb D n wide p l _) (by omega) (by omega) (by omega) (by omega) (by omega)).mono ?_; rintro e w2 ⟨rfl, hq⟩; have hS2 : SV w b rb D n wide p l w2 := hq; have hc2 : w2.cell? ⟨bl, off + k * 2 + 1, none⟩ = some (.int .u64 t) := kcell hq.1 A1.out; clear hq))
              all_goals
                go_wp2_with fail
                go_meet
                exact ⟨rfl, (by assumption : SV w b rb D n wide p l _)⟩
            case rest =>
              obtain ⟨rfl, hq⟩ := hcut
              have HQ := Lib.hid hq
              clear hq
              go_wp2_with fail
              go_roundw
              case rel => exact ⟨k + 1, n, p, l, D, by omega, by go_num, by omega, by omega, by omega, by omega, HQ.out⟩
              case measure => simp [intOf]; omega
        · have hk1' : ((f k).kind == 1) = false := by simpa using hk1
          have hk3' : ((f k).kind == 3) = false := by simpa using hk3
          generalize (f k).kind = kd at *
          clear hk1 hk3
          go_upto_region 22 with fail
          go_cut [116] (fun s wx => s = .bool false ∧ SV w b rb D n wide p l wx)
          case first =>
            have hS : SV w b rb D n wide p l _ := HIV.out
            have hc1 := kcell HIV.out.1 A1.out
            have hS1 := sv_drew hS
            go_region_held3 (fun w' => SV w b rb D n wide p l w' ∧ w'.cell? ⟨bl, off + k * 2 + 1, none⟩ = some (.int .u64 t))
              ((refine ⟨?_, ?_⟩ <;> first | (with_reducible assumption) | (with_reducible exact sv_drew (by assumption)) | (with_reducible exact cell_drew (by assumption))))
              (first
                | (go_at_call 13; refine (iv_has (by assumption : SV w b rb D n wide p l _) (by omega) (by omega) (by omega) (by omega) (by omega) t (by omega)).mono ?_; rintro e w2 ⟨rfl, hq⟩; have hS2 : SV w b rb D n wide p l w2 := hq; have hc2 : w2.cell? ⟨bl, off + k * 2 + 1, none⟩ = some (.int .u64 t) := kcell hq.1 A1.out; clear hq)
                | (go_at_call 14; refine (ir_has (by assumption : SV w b rb D n wide p l _) (by omega) (by omega) (by omega) (by omega) (by omega) t).mono ?_; rintro e w2 ⟨rfl, hq⟩; have hS2 : SV w b rb D n wide p l w2 := hq; have hc2 : w2.cell? ⟨bl, off + k * 2 + 1, none⟩ = some (.int .u64 t) := kcell hq.1 A1.out; clear hq)
                | (go_at_call 15; refine (iv_waiting (by assumption : SV w b rb D n wide p l _) (by omega) (by omega) (by omega) (by omega) (by omega)).mono ?_; rintro e w2 ⟨rfl, hq⟩; have hS2 : SV w b rb D n wide p l w2 := hq; have hc2 : w2.cell? ⟨bl, off + k * 2 + 1, none⟩ = some (.int .u64 t) := kcell hq.1 A1.out; clear hq)
                | (go_at_call 16; refine (ir_waiting (by assumption : SV w b rb D n wide p l _) (by omega) (by omega) (by omega) (by omega) (by omega)).mono ?_; rintro e w2 ⟨rfl, hq⟩; have hS2 : SV w b rb D n wide p l w2 := hq; have hc2 : w2.cell? ⟨bl, off + k * 2 + 1, none⟩ = some (.int .u64 t) := kcell hq.1 A1.out; clear hq)
                | (go_at_call 17; refine (iv_let (by assumption : SV w b rb D n wide p l _) (by omega) (by omega) (by omega) (by omega) (by omega)).mono ?_; rintro e w2 ⟨rfl, hq⟩; have hS2 : SV w b rb D n wide p l w2 := hq; have hc2 : w2.cell? ⟨bl, off + k * 2 + 1, none⟩ = some (.int .u64 t) := kcell hq.1 A1.out; clear hq)
                | (go_at_call 18; refine (ir_let (by assumption : SV w b rb D n wide p l _) (by omega) (by omega) (by omega) (by omega) (by omega)).mono ?_; rintro e w2 ⟨rfl, hq⟩; have hS2 : SV w b rb D n wide p l w2 := hq; have hc2 : w2.cell? ⟨bl, off + k * 2 + 1, none⟩ = some (.int .u64 t) := kcell hq.1 A1.out; clear hq))
            all_goals
              go_wp2_with fail
              go_meet
              exact ⟨rfl, (by assumption : SV w b rb D n wide p l _)⟩
          case rest =>
            obtain ⟨rfl, hq⟩ := hcut
            have HQ := Lib.hid hq
            clear hq
            go_wp2_with fail
            go_roundw
            case rel => exact ⟨k + 1, n, p, l, D, by omega, by go_num, by omega, by omega, by omega, by omega, HQ.out⟩
            case measure => simp [intOf]; omega
    · obtain rfl : k = len := by omega
      go_wp2_with fail
      go_ret
      exact ⟨rfl, HIV.out.1⟩
end Go.Proofs.Ytjjjokhbkkifjaa.P
