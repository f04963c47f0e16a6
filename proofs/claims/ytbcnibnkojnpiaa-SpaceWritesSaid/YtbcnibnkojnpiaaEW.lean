/- Stage 11: SpaceBack. No condition. -/
import Derived.Test.YtbcnibnkojnpiaaEV
import Derived.Test.YtbcnibnkojnpiaaEO
import Derived.Test.YtbcnibnkojnpiaaF12
import Derived.ChangeSlices
set_option linter.unusedVariables false
set_option linter.unusedSimpArgs false
set_option maxRecDepth 100000
namespace Go.Proofs.Ytbcnibnkojnpiaa.P
open Go.RowKit Go.MuLone Go.Maps
theorem addr_at (bl off j : Nat) : (Addr.add ⟨bl, off, none⟩ j) = ⟨bl, off + j, none⟩ := by
  unfold Addr.add; split
  · rename_i hz; rw [hz]; rfl
  · rfl
section
open Go.ChangeShapes Go.WideShapes Go.Deep
variable {H : Type} {enc : TypeId × Value → H} {w : World} {base : Nat} {spare : Nat → Bool} {held : Bool}
/-- A slice of numbers that came in. -/
theorem open_nums {v : Value} {d : DataW H} {ps : List MemPlace} (hv : ∃ (o : Option Addr) (l c : Nat), v = .slice o l c) (h : DataW.Trod enc Try.prog w base spare held 22 v d ps) :
    ∃ (o : Option Addr) (len cap b f : Nat) (A : Nat → Int), v = .slice o len cap ∧ len ≤ 9223372036854775807 ∧ (0 < len → o = some ⟨b, f, none⟩ ∧ b < w.heap.size) ∧ ∀ i, i < len → i64 (A i) ∧ w.cell? ⟨b, f + i, none⟩ = some (.int .i64 (A i)) := by
  obtain ⟨fuel, h⟩ := h
  obtain ⟨o, l, c, rfl⟩ := hv
  rcases open_ints Try.underlying22 Try.underlying3 (by kernel_rfl) h with ⟨hcs, _⟩ | ⟨a, len, cap, zs, hcs, hb, hl, hm, hzs, hx, hcell, hsz⟩
  · injection hcs with hcs _
    exact ⟨none, 0, 0, 0, 0, fun _ => 0, hcs, by omega, fun h => absurd h (by omega), fun i h => absurd h (by omega)⟩
  · injection hcs with hcs _
    have hle : len ≤ zs.length := by rw [hzs]; split <;> omega
    unfold maxLen at hm
    obtain ⟨bl, off, sp⟩ := a
    by_cases h0 : 0 < len
    · have hsp : sp = none := by simpa [Addr.add] using World.cell?_spot (hcell 0 (by omega))
      subst hsp
      have hc : ∀ i, i < len → w.cell? ⟨bl, off + i, none⟩ = some (.int .i64 (zs.getD i 0)) := fun i hi => by rw [← addr_at]; exact hcell i (by omega)
      refine ⟨some ⟨bl, off, none⟩, len, cap, bl, off, fun i => zs.getD i 0, hcs, by omega, fun _ => ⟨rfl, cell_lt (hc 0 h0)⟩, fun i hi => ⟨?_, hc i hi⟩⟩
      have hi2 : i < zs.length := by omega
      have hm2 : zs.getD i 0 ∈ zs := by rw [List.getD_eq_getElem?_getD, List.getElem?_eq_getElem hi2]; exact List.getElem_mem hi2
      exact wf_i64 (hsz _ hm2)
    · exact ⟨some ⟨bl, off, sp⟩, len, cap, 0, 0, fun _ => 0, hcs, by omega, fun h => absurd h h0, fun i h => absurd h (by omega)⟩
end
def zNew (n : Nat) : Sp := ⟨freshL n 0, List.replicate (n * 256) 0⟩
/-- A pool of n frames and the document's: the document's let go. -/
theorem o_both {w0 w : World} (g : Gr w0 w) (n : Nat) (h1 : 1 ≤ n) (h2 : n ≤ 256) :
    Calls Try.prog 7 #[.int .i64 n] w fun e w' => ∃ b pb rp, e = .returned (.tuple #[.pointer (some ⟨b, 0, none⟩), .pointer (some ⟨pb, 0, none⟩), .pointer (some ⟨rp, 0, none⟩)]) ∧ Own w0 w' (Star (plA pb b 0 (zNew n).L (zNew n).s) emp) := by
  have HT := fun w => r_takes (n : Int) w
  rw [decide_eq_true (show 1 ≤ (n : Int) ∧ (n : Int) ≤ 256 by omega)] at HT
  have K0 := Lib.hid (Own.start g)
  have EM := Lib.hid stable_emp
  go_enter Try.func7, Try.ntmps7
  go_upto_region 5 with (first
    | (go_at_call 19; refine (HT _).mono ?_; rintro e wt ⟨rfl, rfl⟩)
    | (go_at_call 17; refine (o_mnew K0.out EM.out n h1 h2).mono ?_; rintro e w1 ⟨b, rfl, k1⟩; have K1 := Lib.hid k1; clear k1))
  go_upto_region 6 with (go_at_call 18; refine (o_pnew K1.out EM.out (Nat.zero_le _)).mono ?_; rintro e w2 ⟨pb, rfl, k2⟩; have K2 := Lib.hid k2; clear k2)
  clear K0 K1
  have SP := Lib.hid (stable_star (stable_pl pb b 0 (freshL n 0) (List.replicate (n * 256) 0)) EM.out)
  go_wp2_with (first
    | (go_at_call 21; refine (r_new n h2 _).mono ?_; rintro e w3 ⟨rfl, hR, g3⟩; have HR := Lib.hid hR; have G3 := Lib.hid g3; clear hR g3)
    | (go_at_call 20; refine (q_new _ _ n 0 _ 0 _ HR.out (List.length_replicate) (Nat.zero_le _) HR.out.2.1).mono ?_; rintro e w4 ⟨rp, ib, rfl, hq, l1, l2, g4⟩; have G4 := Lib.hid g4; clear hq l1 l2 g4))
  go_ret3
  exact ⟨b, pb, rp, rfl, (K2.out.gr SP.out G3.out).gr SP.out G4.out⟩
abbrev plO (w0 w : World) (pb b : Nat) (z : Sp) : Prop := Own w0 w (Star (plA pb b 0 z.L z.s) emp)
set_option maxHeartbeats 3200000 in
theorem l_back11 (w : World) (o : Option Addr) (len cap bl off : Nat) (f : Nat → Int) (bt : Int) (hbt : u64 bt) (hlen : len ≤ 9223372036854775807) (ho : 0 < len → o = some ⟨bl, off, none⟩ ∧ bl < w.heap.size) (hl : ∀ i, i < len → i64 (f i) ∧ w.cell? ⟨bl, off + i, none⟩ = some (.int .i64 (f i))) :
    Calls Try.prog 3 #[.slice o len cap, .int .u64 bt] w fun e w' => e = .returned (.bool true) ∧ Gr w w' := by
  have HO := Lib.hid ho
  have HA := Lib.hid hl
  have HBT := Lib.hid hbt
  have EM := Lib.hid stable_emp
  obtain ⟨r, n0, n1, hs, hl0⟩ := oneS_new (n := 60) (by decide) (by decide) (List.replicate (60 * 256) 0) (by simp)
  have HN := Lib.hid hs
  have LF0 : RowKit.Hid (∀ w1 b pb, plO w w1 pb b (zNew 60) → Calls Try.prog 8 #[.pointer (some ⟨pb, 0, none⟩)] w1 fun e w' => e = .returned (.int .i64 60) ∧ w' = w1) := Lib.hid (fun w1 b pb h => o_pleft h 60 hl0)
  have NW : RowKit.Hid (∀ w1 b pb, plO w w1 pb b (zNew 60) → Calls Try.prog 9 #[.pointer (some ⟨pb, 0, none⟩)] w1 fun e w' => e = .returned (.tuple #[.int .i64 r, .int .i64 0]) ∧ plO w w' pb b (takeX 0 (zNew 60))) := Lib.hid (fun w1 b pb h => o_snew h EM.out r 0 n0 n1)
  clear ho hl hs n0 n1 hl0 hbt
  have hrb : (r : Int) < 256 := by
    obtain ⟨own, hw, ⟨p, j, hr⟩, _, _, hL⟩ := HN.out
    have := (hw.lt hr).2.1
    omega
  go_enter Try.func3, Try.ntmps3
  go_upto_region 2 with (go_at_call 6; refine (c_shown11 _).mono ?_; rintro e w1 ⟨rfl, g1⟩; have G1 := Lib.hid g1; clear g1)
  go_upto_region 3 with (go_at_call 7; refine (o_both G1.out 60 (by decide) (by decide)).mono ?_; rintro e w2 ⟨b, pb, rp, rfl, h2⟩; have H2 := Lib.hid h2; clear h2)
  go_upto_region 7 with (first
    | (go_at_call 8; refine (LF0.out _ b pb H2.out).mono ?_; rintro e wl ⟨rfl, rfl⟩)
    | (go_at_call 9; refine (NW.out _ b pb H2.out).mono ?_; rintro e w3 ⟨rfl, h3⟩; have H3 := Lib.hid h3; clear h3))
  clear LF0 NW H2
  go_wp2_with fail
  go_loopg [12] 41 (fun t v12 wr => ∃ (k : Nat) (z : Sp), k ≤ 40 ∧ k ≤ len ∧ t = 41 - k ∧ v12 = .int .i64 (k : Int) ∧ OneS 0 60 z r ∧ plO w wr pb b z)
  case atStart => exact ⟨0, _, by omega, by omega, rfl, rfl, HN.out, H3.out⟩
  case round =>
    clear H3 HN
    obtain ⟨k, z, hk, hk2, rfl, rfl, hone, ho⟩ := hrel
    have H := Lib.hid ho
    have ONE := Lib.hid hone
    clear ho hone
    have e5 : IntKind.i64.wrap ((k : Int) + 1) = (k : Int) + 1 := by rw [IntKind.wrap_i64]; omega
    by_cases hlt : k < len ∧ k < 40
    · obtain ⟨l1, l2⟩ := hlt
      obtain ⟨rfl, hbl⟩ := HO.out (by omega)
      have hc := HA.out k l1
      have c0 : wr.cell? ⟨bl, off + k, none⟩ = some (.int .i64 (f k)) := kcell H.out.sub hc.2
      have m1 : (k : Int) < len := by omega
      have m2 : (k : Int) < 40 := by omega
      have m0 : 0 ≤ (k : Int) := by omega
      have mt : (k : Int).toNat = k := by omega
      obtain ⟨E, hE⟩ : ∃ E, mapE 0 z r (f k) bt = E := ⟨_, rfl⟩
      have MP := Lib.hid (o_map H.out EM.out r (f k) bt ⟨by omega, by omega⟩ hc.1 HBT.out E _ hE rfl)
      have ON2 := Lib.hid (ONE.out.map (f k) bt HBT.out.1)
      clear hc hE
      go_wp2_with (go_at_call 10; refine MP.out.mono ?_; rintro e w5 ⟨rfl, h5⟩; have H5 := Lib.hid h5; clear h5)
      go_roundg (41 - (k + 1))
      case measure => omega
      case rel => exact ⟨k + 1, _, by omega, by omega, rfl, by go_num, ON2.out, H5.out⟩
    · have hlt2 : ¬ (k : Int) < len ∨ ((k : Int) < len ∧ ¬ (k : Int) < 40) := by omega
      obtain ⟨lf, tkr, cnt, lfr⟩ := ONE.out.left
      obtain ⟨K, hK⟩ : ∃ K, leftX 0 z = K := ⟨_, rfl⟩
      have hKb : 0 ≤ K ∧ K ≤ 60 := by
        constructor
        · rw [← hK]; unfold leftX; omega
        · omega
      rw [hK] at lf
      have LF := Lib.hid (o_pleft H.out K hK)
      have ra : i64 (r : Int) := ⟨by omega, by omega⟩
      cases hce : decide (copyE 0 z r = 0) with
      | false =>
        have hce2 := of_decide_eq_false hce
        have hcv : copyE 0 z r = 4 ∧ K < ((ilR z r).length : Int) := by
          unfold copyE at hce2 ⊢
          rw [tkr, cond_true, cnt, hK] at hce2 ⊢
          cases hd : decide (K < ((ilR z r).length : Int)) with
          | true => exact ⟨rfl, of_decide_eq_true hd⟩
          | false => rw [hd] at hce2; exact absurd rfl hce2
        have hN : copyN 0 z r = 0 := by unfold copyN; rw [hcv.1]; rfl
        have hW : copyW 0 z r = z := by unfold copyW; rw [hcv.1]; rfl
        have CP : RowKit.Hid (∀ w1, plO w w1 pb b z → Calls Try.prog 11 #[.pointer (some ⟨pb, 0, none⟩), .int .i64 r] w1 fun e w' => e = .returned (.tuple #[.int .i64 0, .int .i64 4]) ∧ plO w w' pb b z) := Lib.hid (fun w1 h => by
          have := o_copyC h EM.out r ra 0 4 hN hcv.1
          rw [hW] at this; exact this)
        have FR : RowKit.Hid (∀ w1, plO w w1 pb b z → Calls Try.prog 12 #[.pointer (some ⟨pb, 0, none⟩), .int .i64 r] w1 fun e w' => e = .returned (.int .i64 0) ∧ plO w w' pb b (freeX 0 z r)) := Lib.hid (fun w1 h => o_free h EM.out r ra tkr)
        have LF2 : RowKit.Hid (∀ w1, plO w w1 pb b (freeX 0 z r) → Calls Try.prog 8 #[.pointer (some ⟨pb, 0, none⟩)] w1 fun e w' => e = .returned (.int .i64 60) ∧ w' = w1) := Lib.hid (fun w1 h => o_pleft h 60 (by show leftX 0 (freeX 0 z r) = 60; rw [lfr]; rfl))
        have e6 : IntKind.i64.wrap (60 - K) = 60 - K := by rw [IntKind.wrap_i64]; omega
        have e7 : K < 60 - K := by have := hcv.2; omega
        clear hce hce2 hcv hN hW lf tkr cnt lfr hK
        rcases hlt2 with d1 | ⟨d1, d2⟩
        all_goals
          go_wp2_with (first
            | (go_at_call 8; first
                | (refine (LF2.out _ H6.out).mono ?_; rintro e wl ⟨rfl, rfl⟩)
                | (refine LF.out.mono ?_; rintro e wl ⟨rfl, rfl⟩))
            | (go_at_call 11; refine (CP.out _ H.out).mono ?_; rintro e w5 ⟨rfl, h5⟩; have H5 := Lib.hid h5; clear h5)
            | (go_at_call 12; refine (FR.out _ H5.out).mono ?_; rintro e w6 ⟨rfl, h6⟩; have H6 := Lib.hid h6; clear h6))
          go_ret
          exact ⟨rfl, H6.out.sub⟩
      | true =>
        have hce2 := of_decide_eq_true hce
        obtain ⟨to_, hN, cl, ct1, ct2, cl3, ct3⟩ := ONE.out.copied hce2
        have hKl : leftX 0 (copyW 0 z r) = 2 * K - 60 := by rw [cl, hK]; omega
        have tb : (to_ : Int) < 256 := by
          have h1 := (tkn_nat ct2).2.1
          have h2 := ONE.out
          obtain ⟨own, hw, _, _, _, hL⟩ := h2
          have h3 := take_bd z.L 0 hw.sz.hi
          have h4 : copyN 0 z r = takeN z.L 0 := by unfold copyN; rw [hce2]; rfl
          omega
        have ta : i64 (to_ : Int) := ⟨by omega, by omega⟩
        have CP := Lib.hid (fun w1 (h : plO w w1 pb b z) => o_copyC h EM.out r ra to_ 0 hN hce2)
        have LF2 : RowKit.Hid (∀ w1, plO w w1 pb b (copyW 0 z r) → Calls Try.prog 8 #[.pointer (some ⟨pb, 0, none⟩)] w1 fun e w' => e = .returned (.int .i64 (2 * K - 60)) ∧ w' = w1) := Lib.hid (fun w1 h => o_pleft h _ hKl)
        have F1 : RowKit.Hid (∀ w1, plO w w1 pb b (copyW 0 z r) → Calls Try.prog 12 #[.pointer (some ⟨pb, 0, none⟩), .int .i64 r] w1 fun e w' => e = .returned (.int .i64 0) ∧ plO w w' pb b (freeX 0 (copyW 0 z r) r)) := Lib.hid (fun w1 h => o_free h EM.out r ra ct1)
        have F2 : RowKit.Hid (∀ w1, plO w w1 pb b (freeX 0 (copyW 0 z r) r) → Calls Try.prog 12 #[.pointer (some ⟨pb, 0, none⟩), .int .i64 to_] w1 fun e w' => e = .returned (.int .i64 0) ∧ plO w w' pb b (freeX 0 (freeX 0 (copyW 0 z r) r) to_)) := Lib.hid (fun w1 h => o_free h EM.out to_ ta ct2)
        have F3 : RowKit.Hid (∀ w1, plO w w1 pb b (freeX 0 (freeX 0 (copyW 0 z r) r) to_) → Calls Try.prog 12 #[.pointer (some ⟨pb, 0, none⟩), .int .i64 to_] w1 fun e w' => e = .returned (.int .i64 1) ∧ plO w w' pb b (freeX 0 (freeX 0 (copyW 0 z r) r) to_)) := Lib.hid (fun w1 h => o_free_bad h EM.out to_ ta ct3)
        have LF3 : RowKit.Hid (∀ w1, plO w w1 pb b (freeX 0 (freeX 0 (copyW 0 z r) r) to_) → Calls Try.prog 8 #[.pointer (some ⟨pb, 0, none⟩)] w1 fun e w' => e = .returned (.int .i64 60) ∧ w' = w1) := Lib.hid (fun w1 h => o_pleft h 60 (by show leftX 0 (freeX 0 (freeX 0 (copyW 0 z r) r) to_) = 60; rw [cl3]; rfl))
        have e6 : IntKind.i64.wrap (2 * K) = 2 * K := by rw [IntKind.wrap_i64]; omega
        have e7 : IntKind.i64.wrap (2 * K - 60) = 2 * K - 60 := by rw [IntKind.wrap_i64]; omega
        generalize copyW 0 z r = z4 at *
        generalize freeX 0 z4 r = z5 at *
        generalize freeX 0 z5 to_ = z6 at *
        clear hce hce2 hN cl ct1 ct2 cl3 ct3 hKl lf tkr cnt lfr hK
        rcases hlt2 with d1 | ⟨d1, d2⟩
        all_goals
          go_upto_region 12 with (go_at_call 8; refine LF.out.mono ?_; rintro e wl ⟨rfl, rfl⟩)
          go_upto_region 16 with (go_at_call 11; refine (CP.out _ H.out).mono ?_; rintro e w5 ⟨rfl, h5⟩; have H5 := Lib.hid h5; clear h5)
          go_upto_region 18 with (go_at_call 8; refine (LF2.out _ H5.out).mono ?_; rintro e wl ⟨rfl, rfl⟩)
          go_upto_region 19 with (go_at_call 12; refine (F1.out _ H5.out).mono ?_; rintro e w6 ⟨rfl, h6⟩; have H6 := Lib.hid h6; clear h6)
          go_upto_region 20 with (go_at_call 12; refine (F2.out _ H6.out).mono ?_; rintro e w7 ⟨rfl, h7⟩; have H7 := Lib.hid h7; clear h7)
          go_upto_region 21 with (go_at_call 12; refine (F3.out _ H7.out).mono ?_; rintro e w8 ⟨rfl, h8⟩; have H8 := Lib.hid h8; clear h8)
          go_wp2_with (go_at_call 8; refine (LF3.out _ H8.out).mono ?_; rintro e wl ⟨rfl, rfl⟩)
          go_ret
          exact ⟨rfl, H8.out.sub⟩
end Go.Proofs.Ytbcnibnkojnpiaa.P
