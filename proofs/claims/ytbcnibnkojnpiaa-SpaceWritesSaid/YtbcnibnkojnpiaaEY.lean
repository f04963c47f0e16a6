/- Stage 11: SpaceWrites. No condition. -/
import Derived.Test.YtbcnibnkojnpiaaEX
import Derived.Test.YtbcnibnkojnpiaaEW
set_option linter.unusedVariables false
set_option linter.unusedSimpArgs false
set_option maxRecDepth 100000
namespace Go.Proofs.Ytbcnibnkojnpiaa.P
open Go.RowKit Go.MuLone Go.Maps
def mayN (z : Sp) (r : Nat) (a : Int) : Nat → Bool
  | 0 => true
  | i + 1 => mayN z r a i && okB z r (vAt a i)
theorem mayN_good {z : Sp} {r : Nat} {a : Int} : ∀ n : Nat, mayN z r a n = true ↔ goodFrom z r a n 0
  | 0 => ⟨fun _ i h1 h2 => by omega, fun _ => rfl⟩
  | n + 1 => by
    rw [mayN, Bool.and_eq_true, mayN_good n]
    constructor
    · rintro ⟨h1, h2⟩ i h3 h4
      by_cases e : i < n
      · exact h1 i h3 e
      · have : i = n := by omega
        subst this; exact h2
    · intro h
      exact ⟨fun i h1 h2 => h i h1 (by omega), h n (by omega) (by omega)⟩
def isK (l : List Int) (v : Int) : Nat → Bool
  | 0 => false
  | k + 1 => isK l v k || (decide (v < 8388608) && decide (l.getD k 0 = v / 256))
theorem isK_any {l : List Int} {v : Int} : ∀ n, isK l v n = true ↔ v < 8388608 ∧ ∃ k, k < n ∧ l.getD k 0 = v / 256
  | 0 => ⟨fun h => (by cases h), fun ⟨_, k, h, _⟩ => absurd h (by omega)⟩
  | n + 1 => by
    rw [isK, Bool.or_eq_true, isK_any n, Bool.and_eq_true, decide_eq_true_eq, decide_eq_true_eq]
    constructor
    · rintro (⟨h1, k, h2, h3⟩ | ⟨h1, h2⟩)
      · exact ⟨h1, k, by omega, h3⟩
      · exact ⟨h1, n, by omega, h2⟩
    · rintro ⟨h1, k, h2, h3⟩
      by_cases e : k < n
      · exact .inl ⟨h1, k, e, h3⟩
      · have : k = n := by omega
        subst this; exact .inr ⟨h1, h3⟩
theorem isK_ok {n : Nat} {z : Sp} {r : Nat} (h : S23 n z r) (v : Int) (h0 : 0 ≤ v) : isK (pagesX 0 z r).2 v (pagesX 0 z r).2.length = okB z r v := by
  obtain ⟨own, hw, ⟨p, j, hr⟩, h23, hl⟩ := h
  rw [Bool.eq_iff_iff, isK_any, okB, Bool.and_eq_true, decide_eq_true_eq, pages_is hw hr]
  refine and_congr_right fun hv => ?_
  constructor
  · rintro ⟨k, hk, e⟩
    rw [List.length_map] at hk
    rw [List.getD_eq_getElem?_getD, List.getElem?_map, List.getElem?_eq_getElem hk] at e
    have e : (((pgs z r)[k]).n : Int) = v / 256 := e
    have hm : (pgs z r)[k] ∈ pgs z r := List.getElem_mem hk
    unfold pgs at hm
    obtain ⟨hm, h0⟩ := List.mem_filter.1 hm
    have h0 := of_decide_eq_true h0
    have hp := (ilR_mem hw hr hm).pt
    change pth z r (3 - ((pgs z r)[k]).h) ((pgs z r)[k]).n = _ at hp
    have h0 : ((pgs z r)[k]).h = 0 := h0
    rw [h0] at hp
    have : (v / 256).toNat = ((pgs z r)[k]).n := by omega
    rw [this]
    show (pth z r (3 - 0) _).isSome = true
    rw [hp]; rfl
  · intro hs
    cases hq : pth z r 3 (v / 256).toNat with
    | none => rw [hq] at hs; cases hs
    | some f =>
      obtain ⟨_, _, f', b, hm⟩ := page_items hw hr (by omega) hq
      have hm2 : (⟨0, (v / 256).toNat, f', b⟩ : It) ∈ pgs z r := List.mem_filter.2 ⟨hm, rfl⟩
      obtain ⟨k, hk, e⟩ := List.getElem_of_mem hm2
      refine ⟨k, by rw [List.length_map]; exact hk, ?_⟩
      rw [List.getD_eq_getElem?_getD, List.getElem?_map, List.getElem?_eq_getElem hk, e]
      show (((v / 256).toNat : Nat) : Int) = _
      omega
/-- What Out answers, and In behind it. -/
theorem out_in {n : Nat} {z : Sp} {r : Nat} (h : S23 n z r) (a : Int) (s : ByteArray) (hs : s.size ≤ 4096) :
    (mayN z r a s.size = true ∧ outErr 0 z r a s = 0 ∧ inE 0 (outSt 0 z r a s) r a s.size = 0 ∧ inV 0 (outSt 0 z r a s) r a s.size = s) ∨
    (mayN z r a s.size = false ∧ outErr 0 z r a s = 3 ∧ inE 0 (outSt 0 z r a s) r a s.size = 3) := by
  obtain ⟨own, hw, ⟨p, j, hr⟩, h23, hl⟩ := h
  have tk := hw.tkn hr
  have mb : movedBad 0 z r s.size = false := by
    unfold movedBad; rw [tk, decide_eq_false (by omega), decide_eq_false (by omega)]; rfl
  have wk : ∀ acc : Int, (acc = 1 ∨ acc = 2) → ∀ v, 0 ≤ v → (okB z r v = true ∧ walkR z.L.length z.s r v acc = 0) ∨ (okB z r v = false ∧ walkR z.L.length z.s r v acc = 3) := fun acc ha v h0 => by
    rcases walk_at hw hr h23 v acc h0 ha with ⟨f, h1, _, _, h2, _⟩ | h1
    · exact .inl ⟨h1, h2⟩
    · exact .inr h1
  rcases check_all (X := Unit) (a := a) (n := s.size) (f := fun _ _ _ u => u) (wk 2 (.inr rfl)) (((s.size : Nat) : Int).toNat + 1) 0 () (by omega) with ⟨h1, h2⟩ | ⟨h1, h2⟩
  · left
    have hC : outC z r a s.size = 0 := h2
    obtain ⟨w1, w2, w3⟩ := write_go hw hr h23 a s hs (((s.size : Nat) : Int).toNat + 1) 0 z (by omega) (by omega) (by omega) h1 (StP.refl hw) h1 (fun i hi => by omega)
    have hE : outErr 0 z r a s = 0 := by
      unfold outErr; rw [mb, cond_false, hC, decide_eq_true rfl, cond_true]; exact w1
    obtain ⟨y, hy⟩ : ∃ y, (chunkX (X := Sp) id r a s.size 2 (fun p a c x => putX2 s p a c x) (((s.size : Nat) : Int).toNat + 1) 0 z).1 = y := ⟨_, rfl⟩
    have hS : outSt 0 z r a s = y := by
      unfold outSt; rw [mb, cond_false, hC, decide_eq_true rfl, cond_true]; exact hy
    rw [hy] at w2 w3
    rw [hS]
    have mb2 : movedBad 0 y r s.size = false := by unfold movedBad; rw [w2.L]; exact mb
    obtain ⟨r1, r2, r3⟩ := read_go hw w2 hr h23 a s.size hs (((s.size : Nat) : Int).toNat + 1) 0 [] (by omega) (by omega) (by omega) h1 rfl (fun i hi => by omega)
    have hI : inE 0 y r a s.size = 0 := by unfold inE; rw [mb2, cond_false]; exact r1
    refine ⟨(mayN_good _).2 h1, hE, hI, ?_⟩
    unfold inV
    rw [hI, decide_eq_true rfl, cond_true]
    have : (inX y r a s.size).1 = s.data.toList := by
      apply List.ext_getElem?
      intro i
      by_cases hi : i < s.size
      · exact (r3 i hi).trans (w3 i hi)
      · rw [List.getElem?_eq_none (by have : (inX y r a s.size).1.length = s.size := r2; omega), List.getElem?_eq_none (by have : s.data.toList.length = s.size := Array.length_toList; omega)]
    rw [this]
  · right
    have hC : outC z r a s.size = 3 := h2
    refine ⟨?_, ?_, ?_⟩
    · cases hm : mayN z r a s.size with
      | false => rfl
      | true => exact absurd ((mayN_good _).1 hm) h1
    · unfold outErr; rw [mb, cond_false, hC, decide_eq_false (by decide), cond_false]
    · have hS : outSt 0 z r a s = z := by
        unfold outSt; rw [mb, cond_false, hC, decide_eq_false (by decide), cond_false]
      rw [hS]
      unfold inE; rw [mb, cond_false]
      rcases check_all (X := List UInt8) (a := a) (n := s.size) (f := fun p a b x => x ++ (getV z.s p (b - a)).data.toList) (wk 1 (.inl rfl)) (((s.size : Nat) : Int).toNat + 1) 0 [] (by omega) with ⟨g1, _⟩ | ⟨_, g2⟩
      · exact absurd g1 h1
      · exact g2
theorem pages_len {n : Nat} {z : Sp} {r : Nat} (h : S23 n z r) : (pagesX 0 z r).2.length ≤ 33825 := by
  obtain ⟨own, hw, ⟨p, j, hr⟩, h23, hl⟩ := h
  rw [pages_is hw hr, List.length_map]
  exact Nat.le_trans (List.length_filter_le _ _) (ilR_len z r)
set_option maxHeartbeats 6400000 in
theorem l_writes11 (w : World) (o : Option Addr) (len cap bl off : Nat) (f : Nat → Int) (a : Int) (s : ByteArray) (ha : u64 a) (hs : s.size ≤ maxLen) (hlen : len ≤ 9223372036854775807) (ho : 0 < len → o = some ⟨bl, off, none⟩ ∧ bl < w.heap.size) (hl : ∀ i, i < len → i64 (f i) ∧ w.cell? ⟨bl, off + i, none⟩ = some (.int .i64 (f i))) :
    Calls Try.prog 5 #[.slice o len cap, .int .u64 a, .string s] w fun e w' => e = .returned (.bool true) ∧ Gr w w' := by
  unfold maxLen at hs
  have HO := Lib.hid ho
  have HA := Lib.hid hl
  have HAT := Lib.hid ha
  have EM := Lib.hid stable_emp
  obtain ⟨r, n0, n1, hs1, hl0⟩ := oneS_new (n := 60) (by decide) (by decide) (List.replicate (60 * 256) 0) (by simp)
  have HN := Lib.hid (S23.new (n := 60) (by decide) (by decide) (List.replicate (60 * 256) 0) (by simp) n0)
  have NW : RowKit.Hid (∀ w1 b pb, plO w w1 pb b (zNew 60) → Calls Try.prog 9 #[.pointer (some ⟨pb, 0, none⟩)] w1 fun e w' => e = .returned (.tuple #[.int .i64 r, .int .i64 0]) ∧ plO w w' pb b (takeX 0 (zNew 60))) := Lib.hid (fun w1 b pb h => o_snew h EM.out r 0 n0 n1)
  clear ho hl hs1 n0 n1 hl0
  have hrb : (r : Int) < 256 := by
    obtain ⟨own, hw, ⟨p, j, hr⟩, _, hL⟩ := HN.out
    have := (hw.lt hr).2.1
    omega
  have ra : i64 (r : Int) := ⟨by omega, by omega⟩
  have HRA := Lib.hid ra
  clear ra ha
  go_enter Try.func5, Try.ntmps5
  go_upto_region 2 with (go_at_call 6; refine (c_shown11 _).mono ?_; rintro e w1 ⟨rfl, g1⟩; have G1 := Lib.hid g1; clear g1)
  go_upto_region 3 with (go_at_call 7; refine (o_both G1.out 60 (by decide) (by decide)).mono ?_; rintro e w2 ⟨b, pb, rp, rfl, h2⟩; have H2 := Lib.hid h2; clear h2)
  go_upto_region 4 with (go_at_call 9; refine (NW.out _ b pb H2.out).mono ?_; rintro e w3 ⟨rfl, h3⟩; have H3 := Lib.hid h3; clear h3)
  clear NW H2
  go_wp2_with fail
  go_loopg [13] 21 (fun t v13 wr => ∃ (k : Nat) (z : Sp), k ≤ 20 ∧ k ≤ len ∧ t = 21 - k ∧ v13 = .int .i64 (k : Int) ∧ S23 60 z r ∧ plO w wr pb b z)
  case atStart => exact ⟨0, _, by omega, by omega, rfl, rfl, HN.out, H3.out⟩
  case round =>
    clear H3 HN
    obtain ⟨k, z, hk, hk2, rfl, rfl, hone, hob⟩ := hrel
    have H := Lib.hid hob
    have ONE := Lib.hid hone
    clear hob hone
    have e5 : IntKind.i64.wrap ((k : Int) + 1) = (k : Int) + 1 := by rw [IntKind.wrap_i64]; omega
    by_cases hlt : k < len ∧ k < 20
    · obtain ⟨l1, l2⟩ := hlt
      obtain ⟨rfl, hbl⟩ := HO.out (by omega)
      have hc := HA.out k l1
      have c0 : wr.cell? ⟨bl, off + k, none⟩ = some (.int .i64 (f k)) := kcell H.out.sub hc.2
      have m1 : (k : Int) < len := by omega
      have m2 : (k : Int) < 20 := by omega
      have m0 : 0 ≤ (k : Int) := by omega
      have mt : (k : Int).toNat = k := by omega
      obtain ⟨E, hE⟩ : ∃ E, mapE 0 z r (f k) 23 = E := ⟨_, rfl⟩
      have MP := Lib.hid (o_map H.out EM.out r (f k) 23 HRA.out hc.1 ⟨by decide, by decide⟩ E _ hE rfl)
      have ON2 := Lib.hid (ONE.out.map (f k))
      clear hc hE
      go_wp2_with (go_at_call 10; refine MP.out.mono ?_; rintro e w5 ⟨rfl, h5⟩; have H5 := Lib.hid h5; clear h5)
      go_roundg (21 - (k + 1))
      case measure => omega
      case rel => exact ⟨k + 1, _, by omega, by omega, rfl, by go_num, ON2.out, H5.out⟩
    · have hlt2 : ¬ (k : Int) < len ∨ ((k : Int) < len ∧ ¬ (k : Int) < 20) := by omega
      have tkr : tknB z.L 0 (r : Int) = true := by
        obtain ⟨own, hw, ⟨p, j, hr⟩, _, _⟩ := ONE.out
        exact hw.tkn hr
      have PG := Lib.hid (o_pages H.out EM.out r HRA.out tkr)
      have IO := Lib.hid (fun h4 => out_in ONE.out a s h4)
      have IK := Lib.hid (fun v h0 => isK_ok ONE.out v h0)
      have tkr2 : RowKit.Hid (tknB z.L 0 (r : Int) = true) := Lib.hid tkr
      obtain ⟨l, hll⟩ : ∃ l, (pagesX 0 z r).2 = l := ⟨_, rfl⟩
      rw [hll] at PG IK
      have hlen9 : l.length ≤ 33825 := by rw [← hll]; exact pages_len ONE.out
      clear HO HA tkr hll hlen
      rcases hlt2 with d1 | ⟨d1, d2⟩
      all_goals
        go_upto_region 9 with (go_at_call 13; refine PG.out.mono ?_; rintro e w5 ⟨o5, c5, rfl, h5⟩; have H5 := Lib.hid h5; clear h5)
        clear PG H
        go_wp2_with fail
        go_loopg [16, 17] (s.size + 1) (fun t v16 v17 wr => ∃ i : Nat, i ≤ s.size ∧ t = s.size + 1 - i ∧ v16 = .bool (mayN z r a i) ∧ v17 = .int .i64 (i : Int) ∧ Own w wr (Star (plA pb b 0 z.L z.s) (Star (rowA 3 1 (.slice o5 l.length c5) l.length (ints l)) emp)))
        case atStart => exact ⟨0, by omega, rfl, rfl, rfl, H5.out⟩
        case round =>
          clear H5
          obtain ⟨i, hi, rfl, rfl, rfl, hq⟩ := hrel
          have H := Lib.hid hq
          clear hq
          have e7 : IntKind.u64.wrap (i : Int) = (i : Int) := wrapU _ (by omega) (by omega)
          by_cases hil : i < s.size
          · have m1 : (i : Int) < (s.size : Int) := by omega
            have e6 : IntKind.i64.wrap ((i : Int) + 1) = (i : Int) + 1 := wrapI _ (by omega) (by omega)
            obtain ⟨V, hV⟩ : ∃ V, vAt a i = V := ⟨_, rfl⟩
            have hV2 : IntKind.u64.wrap (a + (i : Int)) = V := hV
            obtain ⟨v0, v1⟩ := vAt_bd a i
            rw [hV] at v0 v1
            obtain ⟨M, hM⟩ : ∃ M, mayN z r a i = M := ⟨_, rfl⟩
            have hM2 : mayN z r a (i + 1) = (M && isK l V l.length) := by rw [mayN, hM, IK.out V v0, hV]
            obtain ⟨Q, hQ⟩ : ∃ Q, V / 256 = Q := ⟨_, rfl⟩
            have q0 : V.tdiv 256 = Q := by rw [Int.tdiv_eq_ediv_of_nonneg v0, hQ]
            have q1 : 0 ≤ Q ∧ Q < 9223372036854775808 := by omega
            have q2 : IntKind.u64.wrap Q = Q := wrapU _ (by omega) (by omega)
            have q3 : IntKind.i64.wrap Q = Q := wrapI _ (by omega) (by omega)
            have HM := Lib.hid hM
            have HM2 := Lib.hid hM2
            have HQ := Lib.hid hQ
            rw [hM]
            clear hM hM2 hV
            go_wp2_with fail
            go_loopg [19, 20] (l.length + 1) (fun t v19 v20 wr => ∃ k2 : Nat, k2 ≤ l.length ∧ t = l.length + 1 - k2 ∧ v19 = .bool (isK l V k2) ∧ v20 = .int .i64 (k2 : Int) ∧ Own w wr (Star (plA pb b 0 z.L z.s) (Star (rowA 3 1 (.slice o5 l.length c5) l.length (ints l)) emp)))
            case atStart => exact ⟨0, by omega, rfl, rfl, rfl, H.out⟩
            case round =>
              clear H
              obtain ⟨k2, hk3, rfl, rfl, rfl, hq⟩ := hrel
              have H := Lib.hid hq
              clear hq
              have e8 : IntKind.i64.wrap ((k2 : Int) + 1) = (k2 : Int) + 1 := wrapI _ (by omega) (by omega)
              by_cases hkl : k2 < l.length
              · have m2 : (k2 : Int) < (l.length : Int) := by omega
                have m3 : 0 ≤ (k2 : Int) := by omega
                have m4 : (k2 : Int).toNat = k2 := by omega
                have HROW := Lib.hid H.out.right.row
                obtain ⟨g, hg⟩ : ∃ g, o5 = some ⟨g, 0, none⟩ := by
                  rcases Joins.ownsRow_forms HROW.out with ⟨h, h0⟩ | ⟨g, cap, h⟩
                  · omega
                  · injection h with h _; exact ⟨g, h⟩
                subst hg
                obtain ⟨X, hX⟩ : ∃ X, l.getD k2 0 = X := ⟨_, rfl⟩
                have c0 : wr.cell? ⟨g, k2, none⟩ = some (.int .i64 X) := by
                  rw [World.ownsRow.cellAt HROW.out k2 (by omega)]
                  unfold ints
                  rw [List.getElem?_map, List.getElem?_eq_getElem hkl, ← hX, List.getD_eq_getElem?_getD, List.getElem?_eq_getElem hkl]
                  rfl
                have HK1 : RowKit.Hid (isK l V (k2 + 1) = (isK l V k2 || (decide (V < 8388608) && decide (X = Q)))) := Lib.hid (by rw [isK, hX, HQ.out])
                clear HROW hX
                rcases hB : isK l V k2 with _ | _
                · have HB := Lib.hid hB
                  clear hB
                  by_cases hv : V < 8388608
                  · have HKv : RowKit.Hid (isK l V (k2 + 1) = (X == Q)) := Lib.hid (by rw [HK1.out, HB.out, decide_eq_true hv, Bool.false_or, Bool.true_and]; rfl)
                    go_wp2_with fail
                    go_roundg (l.length + 1 - (k2 + 1))
                    case measure => omega
                    case rel => exact ⟨k2 + 1, by omega, rfl, by rw [HKv.out], by go_num, H.out⟩
                  · have HKv : RowKit.Hid (isK l V (k2 + 1) = false) := Lib.hid (by rw [HK1.out, HB.out, decide_eq_false hv]; rfl)
                    go_wp2_with fail
                    go_roundg (l.length + 1 - (k2 + 1))
                    case measure => omega
                    case rel => exact ⟨k2 + 1, by omega, rfl, by rw [HKv.out], by go_num, H.out⟩
                · have HB := Lib.hid hB
                  clear hB
                  go_wp2_with fail
                  go_roundg (l.length + 1 - (k2 + 1))
                  case measure => omega
                  case rel => exact ⟨k2 + 1, by omega, rfl, by rw [HK1.out, HB.out]; rfl, by go_num, H.out⟩
              · have m2 : ¬ (k2 : Int) < (l.length : Int) := by omega
                obtain rfl : k2 = l.length := by omega
                cases M
                all_goals
                  go_wp2_with fail
                  go_roundg (s.size + 1 - (i + 1))
                  case measure => omega
                  case rel => exact ⟨i + 1, by omega, rfl, by rw [HM2.out]; simp, by go_num, H.out⟩
          · have m1 : ¬ (i : Int) < (s.size : Int) := by omega
            obtain rfl : i = s.size := by omega
            obtain ⟨M, hM⟩ : ∃ M, mayN z r a s.size = M := ⟨_, rfl⟩
            rw [hM] at IO ⊢
            by_cases h4 : s.size ≤ 4096
            · have m2 : ¬ (4096 : Int) < (s.size : Int) := by omega
              obtain ⟨eO, hO⟩ : ∃ e, outErr 0 z r a s = e := ⟨_, rfl⟩
              obtain ⟨zO, hZ⟩ : ∃ e, outSt 0 z r a s = e := ⟨_, rfl⟩
              obtain ⟨eI, hI⟩ : ∃ e, inE 0 zO r a s.size = e := ⟨_, rfl⟩
              obtain ⟨vI, hVI⟩ : ∃ e, inV 0 zO r a s.size = e := ⟨_, rfl⟩
              have io := IO.out h4
              rw [hO, hZ, hI, hVI] at io
              have SR := stable_star (stable_row 3 1 (.slice o5 l.length c5) l.length (ints l)) EM.out
              have OUT := Lib.hid (o_out H.out SR r a s HRA.out HAT.out (by omega) eO zO hO hZ)
              have INN : RowKit.Hid (∀ w1, Own w w1 (Star (plA pb b 0 zO.L zO.s) (Star (rowA 3 1 (.slice o5 l.length c5) l.length (ints l)) emp)) → Calls Try.prog 14 #[.pointer (some ⟨pb, 0, none⟩), .int .i64 r, .int .u64 a, .int .i64 s.size] w1 fun x w' => x = .returned (.tuple #[.string vI, .int .i64 eI]) ∧ Own w w' (Star (plA pb b 0 zO.L zO.s) (Star (rowA 3 1 (.slice o5 l.length c5) l.length (ints l)) emp))) := Lib.hid (fun w1 h => o_in h SR r a s.size HRA.out HAT.out vI eI hVI hI)
              clear hO hZ hI hVI SR hM IO IK
              rcases io with ⟨rfl, rfl, rfl, rfl⟩ | ⟨rfl, rfl, rfl⟩
              all_goals
                go_wp2_with (first
                  | (go_at_call 15; refine OUT.out.mono ?_; rintro e w6 ⟨rfl, h6⟩; have H6 := Lib.hid h6; clear h6)
                  | (go_at_call 14; refine (INN.out _ H6.out).mono ?_; rintro e w7 ⟨rfl, h7⟩; have H7 := Lib.hid h7; clear h7))
                go_ret
                exact ⟨rfl, H7.out.sub⟩
            · have m2 : (4096 : Int) < (s.size : Int) := by omega
              clear IO IK hM
              go_wp2_with fail
              go_ret
              exact ⟨rfl, H.out.sub⟩
end Go.Proofs.Ytbcnibnkojnpiaa.P
