/- Stage 11: SpaceTexts. No condition. -/
import Derived.Test.YtbcnibnkojnpiaaGreatVE
set_option linter.unusedVariables false
set_option linter.unusedSimpArgs false
set_option maxRecDepth 100000
namespace Go.Proofs.YtbcnibnkojnpiaaGreat.P
open Go.RowKit Go.MuLone Go.Maps Go.Proofs.YtbcnibnkojnpiaaGreat.W
theorem in_one {fi : Nat} {z : Sp} {own : Who} (hw : WF fi z own) {r p j : Nat} (hr : own r = some (3, p, j)) (V : Int) (v0 : 0 ≤ V) (v1 : V < 18446744073709551616) :
    (walkR z.L.length z.s r V 1 = 3 ∧ inE fi z r V 1 = 3 ∧ inV fi z r V 1 = ⟨#[]⟩) ∨ (∃ CB : UInt8, walkR z.L.length z.s r V 1 = 0 ∧ loadV z.s (walkV z.L.length z.s r V 1) 1 = (CB.toNat : Int) ∧ inE fi z r V 1 = 0 ∧ inV fi z r V 1 = ⟨[CB].toArray⟩) := by
  have hlen := hw.sz.len
  obtain ⟨s1, s2, s3⟩ := in_same hw hr V 1 (by decide)
  rcases walk_full hw hr V 1 v0 (.inl rfl) with ⟨q1, q2⟩ | ⟨f, t0, b, b0, b1, b2, b3, b4, b5, b6, q1, q2⟩
  · left
    have hin : rinF z r V 1 0 [] = ([], 3) := by
      rw [rinF]; unfold okAt
      rw [show ((0 : Nat) : Int) = 0 from rfl, wrap_zero V v0 v1, q1]; rfl
    rw [hin] at s1 s3
    exact ⟨q1, s1, s3 (by decide)⟩
  · right
    obtain ⟨q, hq⟩ : ∃ q : Nat, f * 256 + (V % 256).toNat = q := ⟨_, rfl⟩
    rw [hq] at q2
    have hqb : q < z.s.length := by omega
    have hin : rinF z r V 1 0 [] = ([z.s[q]'hqb], 0) := by
      rw [rinF]; unfold okAt atAt
      rw [show ((0 : Nat) : Int) = 0 from rfl, wrap_zero V v0 v1, q1, q2, decide_eq_true rfl, cond_true, Int.toNat_natCast, List.getD_eq_getElem?_getD, List.getElem?_eq_getElem hqb, Option.getD_some]; rfl
    rw [hin] at s1 s2
    refine ⟨z.s[q]'hqb, q1, ?_, s1, s2 rfl⟩
    rw [q2]; exact load_byte _ _ hqb
theorem zero_str (CB : UInt8) (S : ByteArray) (h : (⟨[CB].toArray⟩ : ByteArray) = S) : (S.toList == (⟨#[0]⟩ : ByteArray).toList) = (CB == 0) ∧ (S.toList == [0]) = (CB == 0) := by
  have e1 : S.toList = [CB] := by rw [← h]; exact Go.ByteArray.toList_eq _
  have e2 : (⟨#[0]⟩ : ByteArray).toList = [0] := Go.ByteArray.toList_eq _
  rw [e1, e2]
  have e3 : ([CB] == [0]) = (CB == 0) := by
    show (CB == 0 && true) = _
    rw [Bool.and_true]
  exact ⟨e3, e3⟩
set_option maxHeartbeats 12800000 in
theorem l_texts11 (w : World) (oa : Option Addr) (len cap bl off : Nat) (f : Nat → SAct) (at_ most : Int) (hat : u64 at_) (hmo : i64 most) (hlen : len ≤ maxLen) (hoa : 0 < len → oa = some ⟨bl, off, none⟩) (hl : SActs w bl off len f) :
    Calls Tryz.prog 5 #[.slice oa len cap, .int .u64 at_, .int .i64 most] w fun e w' => e = .returned (.bool true) ∧ Gr w w' := by
  have EM := Lib.hid stable_emp
  have HN := Lib.hid (pl_new 40 (by decide) (by decide))
  have BO := Lib.hid (fun w1 (g : Gr w w1) => o_both2 g 40)
  rw [show sizeN 40 = 40 from rfl] at BO
  have SPL := Lib.hid (fun pb b (x : Sp) => stable_pl pb b 0 x.L x.s)
  have SRP := Lib.hid (fun rp rb (x : Sp) => stable_rp rp rb 0 x.L x.s)
  have PLY := Lib.hid (fun w1 pb b rp rb z0 N h hp => c_plays11 (w0 := w) (w := w1) (pb := pb) (b := b) (rp := rp) (rb := rb) (z0 := z0) (N := N) (R := emp) h EM.out hp oa len cap bl off f hlen hoa hl)
  generalize z11 40 = z0 at *
  have HAT := Lib.hid hat
  obtain ⟨mo0, mo1⟩ := hmo
  clear hlen hoa hl hat
  go_enter Tryz.func5, Tryz.ntmps5
  go_upto_region 2 with (go_at_call 6; refine (c_shown11 _).mono ?_; rintro e w1 ⟨rfl, g1⟩; have G1 := Lib.hid g1; clear g1)
  go_upto_region 3 with (go_at_call 7; refine (BO.out _ G1.out).mono ?_; rintro e w2 ⟨b, pb, rb, rp, rfl, h2⟩; have H2 := Lib.hid h2; clear h2)
  go_upto_region 4 with (go_at_call 8; refine (PLY.out _ _ _ _ _ _ _ H2.out HN.out).mono ?_; rintro e w3 ⟨z, rs, o, c, rfl, hpl, h3⟩; have H3 := Lib.hid h3; have HPL := Lib.hid hpl; clear h3 hpl)
  clear BO PLY H2 HN G1
  obtain ⟨rl256, rlt⟩ := HPL.out.len
  have hd : rs.length = 0 ∨ (0 < rs.length ∧ most < 0) ∨ (0 < rs.length ∧ ¬ most < 0 ∧ 600 < most) ∨ (0 < rs.length ∧ ¬ most < 0 ∧ ¬ 600 < most) := by omega
  rcases hd with d1 | ⟨d1, d2⟩ | ⟨d1, d2, d3⟩ | ⟨d1, d2, d3⟩
  · have l0 : ((rs.length : Int) == 0) = true := by simp [d1]
    clear d1 rlt
    go_wp2_with fail
    go_ret
    exact ⟨rfl, H3.out.sub⟩
  · have l0 : ((rs.length : Int) == 0) = false := by
      have : ¬ (rs.length : Int) = 0 := by omega
      simpa using this
    clear rlt
    go_wp2_with fail
    go_ret
    exact ⟨rfl, H3.out.sub⟩
  · have l0 : ((rs.length : Int) == 0) = false := by
      have : ¬ (rs.length : Int) = 0 := by omega
      simpa using this
    clear rlt
    go_wp2_with fail
    go_ret
    exact ⟨rfl, H3.out.sub⟩
  · have l0 : ((rs.length : Int) == 0) = false := by
      have : ¬ (rs.length : Int) = 0 := by omega
      simpa using this
    obtain ⟨m, rfl⟩ : ∃ m : Nat, most = (m : Int) := ⟨most.toNat, by omega⟩
    have HROW := Lib.hid H3.out.right.right.row
    obtain ⟨g, hg⟩ := row_some HROW.out d1
    subst hg
    obtain ⟨r, hr⟩ : ∃ r, rs[0]? = some r := ⟨_, List.getElem?_eq_getElem d1⟩
    have CR : RowKit.Hid (∀ (w1 : World) (X Y : Asn), Own w w1 (Star X (Star Y (Star (rowA 3 1 (.slice (some ⟨g, 0, none⟩) rs.length c) rs.length (tbI rs)) emp))) → w1.cell? ⟨g, 0, none⟩ = some (.int .i64 (r : Int))) := Lib.hid (fun w1 X Y h => by
      rw [World.ownsRow.cellAt h.right.right.row 0 (by omega)]; exact tbI_of rs 0 r hr)
    have c0 := CR.out _ _ _ H3.out
    have hr256 := rlt r (List.mem_of_getElem? hr)
    obtain ⟨own, hw, hrs, _, _⟩ := HPL.out
    obtain ⟨p, j, hro⟩ := hrs r (List.mem_of_getElem? hr)
    have SB := Lib.hid (stable_star (SRP.out rp rb z) (stable_star (stable_row 3 1 (.slice (some ⟨g, 0, none⟩) rs.length c) rs.length (tbI rs)) EM.out))
    have ri : i64 (r : Int) := ⟨by omega, by omega⟩
    have mb : movedBad 0 z r (m : Int) = false := by
      unfold movedBad; rw [hw.tkn hro, decide_eq_false (by omega), decide_eq_false (by omega)]; rfl
    obtain ⟨T, hT⟩ : ∃ x, (textX z r at_ (m + 1) 0 []).1 = x := ⟨_, rfl⟩
    obtain ⟨E, hE⟩ : ∃ x, (textX z r at_ (m + 1) 0 []).2 = x := ⟨_, rfl⟩
    have HX : RowKit.Hid (textX z r at_ (m + 1) 0 [] = (T, E)) := Lib.hid (by rw [← hT, ← hE])
    have TX := Lib.hid (o_text H3.out SB.out (r : Int) at_ (m : Int) ri HAT.out T E (by unfold textV; rw [mb, cond_false, Int.toNat_natCast]; exact hT) (by unfold textE; rw [mb, cond_false, Int.toNat_natCast]; exact hE))
    have INN := Lib.hid (fun w1 Q (hQ : Stable Q) (h : Own w w1 (Star (plA pb b 0 z.L z.s) Q)) (V : Int) (hV : u64 V) v e hv he => o_in h hQ (r : Int) V 1 ri hV v e hv he)
    have ONE := Lib.hid (fun V v0 v1 => in_one hw hro V v0 v1)
    have d0 : (0 : Int) < (rs.length : Int) := by omega
    clear hT hE hw hrs hro hr HROW ri mb d1 rlt
    go_upto_region 9 with (go_at_call 16; refine TX.out.mono ?_; rintro e w4 ⟨rfl, h4⟩; have H4 := Lib.hid h4; clear h4)
    clear TX H3 c0
    have bT : (T.toList == T.toList) = true := beq_self_eq_true _
    go_wp2_with fail
    go_loopg [15, 16] (m + 2) (fun t v15 v16 wr => ∃ (k : Nat) (X : ByteArray), k ≤ m + 1 ∧ X.size = k ∧ t = m + 2 - k ∧ v15 = .string X ∧ v16 = .int .i64 (k : Int) ∧ textX z r at_ (m + 1 - k) k X.data.toList = (T, E) ∧ Own w wr (Star (plA pb b 0 z.L z.s) (Star (rpA rp rb 0 z.L z.s) (Star (rowA 3 1 (.slice (some ⟨g, 0, none⟩) rs.length c) rs.length (tbI rs)) emp))))
    case atStart => exact ⟨0, ⟨#[]⟩, by omega, rfl, rfl, rfl, rfl, HX.out, H4.out⟩
    case round =>
      clear H4 HX
      obtain ⟨k, X, hk, hX, rfl, rfl, rfl, hy, ho⟩ := hrel
      have HO := Lib.hid ho
      have HXS := Lib.hid hX
      clear ho hX
      have c0 := CR.out _ _ _ HO.out
      by_cases hkm : k ≤ m
      · have n1 : (k : Int) ≤ (m : Int) := by omega
        obtain ⟨F, hF⟩ : ∃ F, m + 1 - k = F + 1 := ⟨m - k, by omega⟩
        rw [hF, textX] at hy
        obtain ⟨V, hV⟩ : ∃ V, IntKind.u64.wrap (at_ + (k : Int)) = V := ⟨_, rfl⟩
        have hVb : 0 ≤ V ∧ V < 18446744073709551616 := by rw [← hV, IntKind.wrap_u64]; omega
        obtain ⟨v0, v1⟩ := hVb
        rw [hV] at hy
        have k1 : IntKind.u64.wrap (k : Int) = k := wrapU _ (by omega) (by omega)
        have k2 : IntKind.i64.wrap ((k : Int) + 1) = (k : Int) + 1 := wrapI _ (by omega) (by omega)
        rcases ONE.out V v0 v1 with ⟨q1, q2, q3⟩ | ⟨CB, q1, q2, q3, q4⟩
        · have IN := Lib.hid (INN.out wr _ SB.out HO.out V ⟨v0, by omega⟩ _ _ q3 q2)
          rw [q1, decide_eq_false (by decide), cond_false] at hy
          injection hy with hy1 hy2
          subst hy1; subst hy2
          clear q1 q2 q3 ONE INN bT
          go_wp2_with (go_at_call 17; refine IN.out.mono ?_; rintro e w5 ⟨rfl, h5⟩; have H5 := Lib.hid h5; clear h5)
          go_ret
          exact ⟨rfl, H5.out.sub⟩
        · obtain ⟨S, hS⟩ : ∃ S : ByteArray, (⟨[CB].toArray⟩ : ByteArray) = S := ⟨_, rfl⟩
          rw [hS] at q4
          have hSt0 := zero_str CB S hS
          obtain ⟨hSt, hSt2⟩ := hSt0
          have hSX : RowKit.Hid ((X ++ S).data.toList = X.data.toList ++ [CB]) := Lib.hid (by rw [← hS, ByteArray.data_append, Array.toList_append])
          have hS1 : RowKit.Hid (S.size = 1) := Lib.hid (by rw [← hS]; rfl)
          have IN := Lib.hid (INN.out wr _ SB.out HO.out V ⟨v0, by omega⟩ _ _ q4 q3)
          rw [q1, q2, decide_eq_true rfl, cond_true] at hy
          clear q1 q2 q3 q4 ONE INN hS
          by_cases hc0 : CB = 0
          · have hz0 : ((CB.toNat : Int)) = 0 := by rw [hc0]; rfl
            rw [hz0, decide_eq_true rfl, cond_true] at hy
            rw [hc0, show ((0 : UInt8) == 0) = true from rfl] at hSt hSt2
            injection hy with hy1 hy2
            have hy3 : (⟨X.data.toList.toArray⟩ : ByteArray) = X := by simp
            rw [hy3] at hy1
            subst hy1; subst hy2
            clear hc0 hz0 hy3 hSX
            go_wp2_with (go_at_call 17; refine IN.out.mono ?_; rintro e w5 ⟨rfl, h5⟩; have H5 := Lib.hid h5; clear h5)
            go_ret
            exact ⟨rfl, H5.out.sub⟩
          · have hcn : ¬ ((CB.toNat : Int) = 0) := fun e => hc0 (by
              have : CB.toNat = 0 := by omega
              exact UInt8.toNat_inj.1 this)
            rw [decide_eq_false hcn, cond_false, Int.toNat_natCast, UInt8.ofNat_toNat] at hy
            rw [show (CB == 0) = false by simpa using hc0] at hSt hSt2
            have HY := Lib.hid hy
            have hsz : X.size ≤ 700 := by rw [HXS.out]; omega
            have hss : X.size + S.size ≤ 800 := by rw [hS1.out]; omega
            clear hc0 hcn hy bT
            go_wp2_with (go_at_call 17; refine IN.out.mono ?_; rintro e w5 ⟨rfl, h5⟩; have H5 := Lib.hid h5; clear h5)
            go_roundg (m + 2 - (k + 1))
            case measure => omega
            case rel =>
              have hXS : (X ++ S).size = k + 1 := by rw [ByteArray.size_append, HXS.out, hS1.out]
              refine ⟨k + 1, X ++ S, by omega, hXS, rfl, rfl, by go_num, ?_, H5.out⟩
              rw [hSX.out, show m + 1 - (k + 1) = F by omega]; exact HY.out
      · obtain rfl : k = m + 1 := by omega
        have n1 : ¬ ((m + 1 : Nat) : Int) ≤ (m : Int) := by omega
        rw [Nat.sub_self, textX] at hy
        injection hy with hy1 hy2
        subst hy1; subst hy2
        clear ONE INN bT
        go_wp2_with fail
        go_ret
        exact ⟨rfl, HO.out.sub⟩
end Go.Proofs.YtbcnibnkojnpiaaGreat.P
