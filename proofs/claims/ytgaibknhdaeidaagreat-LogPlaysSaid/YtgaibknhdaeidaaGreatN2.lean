/- Stage 7: the document's Head. No condition. -/
import Derived.Test.YtgaibknhdaeidaaGreatA12
import Derived.Test.YtgaibknhdaeidaaGreatY
import Derived.Test.YtgaibknhdaeidaaGreatE3
import Derived.Deep.RegionLaw
import Derived.Deep.AppendLies
import Derived.Laws.IdiomStrings
import Derived.IntWalk
import Derived.Lib.SlBytesRow
import Derived.Test.YtgaibknhdaeidaaGreatA14
set_option linter.unusedVariables false
set_option linter.unusedSimpArgs false
set_option maxRecDepth 100000
namespace Go.Proofs.YtgaibknhdaeidaaGreat.P
open Go.RowKit
theorem conv_row {w : World} {o : Option Addr} {c : Nat} {l : List UInt8} (h : w.ownsRow 0 5 1 (.slice o l.length c) l.length (Lib.byteCells l)) :
    (convert 106 9 (.slice o l.length c)).run Tryz.prog w = .ok (.string ⟨l.toArray⟩) w := by
  rcases h.2 with ⟨hv, h0⟩ | ⟨g, cap, cur, hv, hb, hg, k⟩
  · have e0 := List.eq_nil_of_length_eq_zero h0
    subst e0
    injection hv with hv1 hv2 hv3
    subst hv1; subst hv3
    exact run_convert_bytes_nil (P := Tryz.prog) w 106 5 Tryz.underlying106 Tryz.underlying5 0 0 9 Tryz.underlying9
  · injection hv with hv1 hv2 hv3
    subst hv1; subst hv3
    have := Go.Lib.run_convert_whole (P := Tryz.prog) w 106 5 9 Tryz.underlying106 Tryz.underlying5 Tryz.underlying9 g 0 ⟨l.toArray⟩ (fun i hi => by
      have hi2 : i < l.length := by
        have e : (⟨l.toArray⟩ : ByteArray).size = l.length := List.size_toArray
        omega
      have h3 := h.cells (g := g) rfl i (.int .u8 (l[i]'hi2).toNat) (by
        rw [Lib.byteCells, List.getElem?_map, List.getElem?_eq_getElem hi2]; rfl)
      rw [show ((⟨l.toArray⟩ : ByteArray)[i]'hi) = l[i]'hi2 from rfl]
      rw [Addr.add_lit] at h3
      exact h3) c
    exact this
abbrev byA (o : Option Addr) (c : Nat) (l : List UInt8) : Asn := rowA 5 1 (.slice o l.length c) l.length (Lib.byteCells l)
theorem numB_cells (i : Int) (h0 : 0 ≤ i) : Lib.byteCells (numB i) = [.int .u8 (i % 256), .int .u8 (i / 256 % 256)] := by
  show [Value.int .u8 ((UInt8.ofNat _).toNat : Int), Value.int .u8 ((UInt8.ofNat _).toNat : Int)] = _
  rw [UInt8.toNat_ofNat', UInt8.toNat_ofNat', Nat.mod_eq_of_lt (by omega), Nat.mod_eq_of_lt (by omega), Int.toNat_of_nonneg (by omega), Int.toNat_of_nonneg (by omega)]
set_option maxHeartbeats 4000000 in
theorem e_head (w : World) (o : Option Addr) (c : Nat) (A : List Int) (hA : RowI w o A) (hl : A.length ≤ 30) (hb : ∀ i ∈ A, 0 ≤ i ∧ i < 65536) :
    Calls Tryz.prog 59 #[.slice o A.length c] w fun e w' => e = .returned (.string (headF A)) ∧ Gr w w' := by
  obtain ⟨i0, hi0, hz0, hz1, hz2⟩ := info_parts u8Info
  have hD : ∀ j, 1 + 2 * A.length + j = 64 → (⟨(headK A A.length ++ List.replicate j (0 : UInt8)).toArray⟩ : ByteArray) = headF A := by
    intro j hj
    have hj2 : 64 - (headL A).length = j := by rw [headL_len]; omega
    unfold headF; rw [headK_all, hj2]
  have HD := Lib.hid hD
  have HA := Lib.hid hA
  have HB := Lib.hid (fun k i (h : A[k]? = some i) => hb i (List.mem_of_getElem? h))
  have HG : Hid (∀ k, k < A.length → ∃ i, A[k]? = some i) := Lib.hid (fun k h => ⟨_, List.getElem?_eq_getElem h⟩)
  have HLEN := Lib.hid (headK_len A)
  have H0 : Hid (Lib.byteCells (headK A 0) = [.int .u8 (A.length : Int)]) := Lib.hid (by
    show [Value.int .u8 ((UInt8.ofNat _).toNat : Int)] = _
    rw [UInt8.toNat_ofNat', Nat.mod_eq_of_lt (by omega)])
  have k0 : IntKind.u8.wrap (A.length : Int) = A.length := by rw [IntKind.wrap_u8]; omega
  generalize hn : A.length = n at *
  clear hA hb hn hD
  go_enter Tryz.func59, Tryz.ntmps59
  go_wp2_with fail
  have S0 : Hid (Own w (w.alloc (.cells #[.int .u8 (n : Int)] 5)) (Star (byA (some ⟨w.heap.size, 0, none⟩) 1 (headK A 0)) emp)) := Lib.hid (((Own.start (Gr.refl w)).alloc stable_emp (.cells #[.int .u8 (n : Int)] 5)).conv (fun F h => by
    have := row_of_blk (e := 5) (size := 1) (n := 1) (xs := [.int .u8 (n : Int)]) rfl (by unfold maxLen; omega) h
    show rowA _ _ _ _ (Lib.byteCells (headK A 0)) _ _
    rw [H0.out]
    exact this))
  clear k0
  go_loopg [3, 4] (n + 1) (fun t v3 v4 wr => ∃ (k : Nat) (o2 : Option Addr) (c2 : Nat), k ≤ n ∧ t = n + 1 - k ∧ v4 = .int .i64 (k : Int) ∧ v3 = .slice o2 (headK A k).length c2 ∧ Own w wr (Star (byA o2 c2 (headK A k)) emp))
  case atStart => exact ⟨0, _, _, Nat.zero_le _, rfl, rfl, rfl, S0.out⟩
  case round =>
    obtain ⟨k, o2, c2, hk, ht, rfl, rfl, ho⟩ := hrel
    have HO := Lib.hid ho
    clear ho S0
    have HLN : Hid ((headK A k).length = 1 + 2 * k) := Lib.hid (HLEN.out k (by omega))
    by_cases hlt : k < n
    · have dl : decide (k < n) = true := decide_eq_true hlt
      obtain ⟨i, hi⟩ := HG.out k hlt
      obtain ⟨b1, o1, rfl, ca1⟩ := (HA.out.gr HO.out.sub) k _ hi
      obtain ⟨q0, q1⟩ := HB.out k i hi
      have HI := Lib.hid hi
      clear hi
      have ca2 : wr.drew.cell? ⟨b1, o1 + k, none⟩ = some (.int .i64 i) := ca1
      have t1 : i.tmod 256 = i % 256 := Int.tmod_eq_emod_of_nonneg q0
      have t2 : i.tdiv 256 = i / 256 := Int.tdiv_eq_ediv_of_nonneg q0
      have w1 : IntKind.i64.wrap (i % 256) = i % 256 := IntWalk.i64_in _ (by omega)
      have w2 : IntKind.i64.wrap (i / 256) = i / 256 := IntWalk.i64_in _ (by omega)
      have w3 : IntKind.u8.wrap (i % 256) = i % 256 := by rw [IntKind.wrap_u8]; omega
      have w4 : IntKind.u8.wrap (i / 256) = i / 256 % 256 := by rw [IntKind.wrap_u8]
      have w5 : IntKind.i64.wrap ((k : Int) + 1) = (k : Int) + 1 := IntWalk.i64_in _ (by omega)
      go_upto_region 5 with fail
      have H5 := Lib.hid ((HO.out.drew (stable_star (stable_row _ _ _ _ _) stable_emp)).gr (stable_star (stable_row _ _ _ _ _) stable_emp) ((Gr.refl _).alloc (Nat.le_refl _) (.cells #[.int .u8 (i % 256), .int .u8 (i / 256 % 256)] 5)))
      have HROW := Lib.hid H5.out.row
      have hbl : (Lib.byteCells (headK A k)).length = (headK A k).length := Lib.byteCells_length _
      go_region_law (refine step_append_lies _ rfl _ _ 106 rfl 0 5 i0 (.int .u8 0) 1 1 Tryz.underlying106 hi0 hz0 hz1 hz2 rfl (by decide) (.slice o2 (headK A k).length c2) (headK A k).length (Lib.byteCells (headK A k)) (by kernel_rfl) HROW.out ⟨_, 0, none⟩ 2 2 [.int .u8 (i % 256), .int .u8 (i / 256 % 256)] (by kernel_rfl) rfl (World.news_of_block (cs := #[.int .u8 (i % 256), .int .u8 (i / 256 % 256)]) (blk_new _ _)) (by simp [Value.oneCell']) (by omega) (by have := HLN.out; unfold maxLen; omega) (by have := HLN.out; omega) (by omega) (wr.heap.size + 1) (by simp) ?_; intro g2 cap2 w8 hown8 hgrow8 hat8 hlt8; have H9 := Lib.hid (H5.out.grown (g := g2) stable_emp hown8 rfl hgrow8 (hat8.elim .inl (fun e => .inr (by simp; omega))) hlt8); clear hown8 hgrow8 hat8 hlt8)
      all_goals
        have e5 : headK A (k + 1) = headK A k ++ numB i := headK_succ A k i HI.out
        have E6 : Hid ((headK A (k + 1)).length = (headK A k).length + 2) := Lib.hid (by rw [e5, List.length_append]; rfl)
        have E5 := Lib.hid e5
        clear e5
        go_wp2_with fail
        go_roundg (n + 1 - (k + 1))
        case measure => omega
        case rel =>
          refine ⟨k + 1, some ⟨g2, 0, none⟩, cap2, by omega, rfl, by go_num, by rw [E6.out], ?_⟩
          show Own w _ (Star (rowA _ _ _ _ _) _)
          rw [E6.out, E5.out, byteCells_app, numB_cells i q0]
          exact H9.out
    · obtain rfl : k = n := by omega
      have dl : decide (k < k) = false := decide_eq_false (by omega)
      go_wp2_with fail
      go_loopg [3] (65 - (1 + 2 * k + 0)) (fun t v3 wr2 => ∃ (l : List UInt8) (j : Nat) (o3 : Option Addr) (c3 : Nat), l = headK A k ++ List.replicate j 0 ∧ l.length = 1 + 2 * k + j ∧ 1 + 2 * k + j ≤ 64 ∧ t = 65 - (1 + 2 * k + j) ∧ v3 = .slice o3 l.length c3 ∧ Own w wr2 (Star (byA o3 c3 l) emp))
      case atStart => exact ⟨headK A k, 0, o2, c2, by simp, by rw [HLN.out]; omega, by omega, by omega, rfl, HO.out⟩
      case round =>
        obtain ⟨l, j, o3, c3, hlj, hll, hj, ht3, rfl, ho⟩ := hrel
        have H3 := Lib.hid ho
        have HLJ := Lib.hid hlj
        have HLL := Lib.hid hll
        clear ho hlj hll HO
        by_cases h64 : 1 + 2 * k + j < 64
        · have l1 : (l.length : Int) < 64 := by have := HLL.out; omega
          have hbl : (Lib.byteCells l).length = l.length := Lib.byteCells_length _
          go_upto_region 7 with fail
          have H5 := Lib.hid (H3.out.gr (stable_star (stable_row _ _ _ _ _) stable_emp) ((Gr.refl _).alloc (Nat.le_refl _) (.cells #[.int .u8 0] 5)))
          have HROW := Lib.hid H5.out.row
          go_wp2_with (at_builtin; go_loud (refine wpList_append_lies _ rfl _ _ _ rfl 0 5 i0 (.int .u8 0) 1 1 Tryz.underlying106 hi0 hz0 hz1 hz2 rfl (by omega) (.slice o3 l.length c3) l.length (Lib.byteCells l) rfl HROW.out ⟨_, 0, none⟩ 1 1 [.int .u8 0] rfl rfl (World.news_of_block (cs := #[.int .u8 0]) (blk_new _ _)) (by simp [Value.oneCell']) (by omega) (by have := HLL.out; unfold maxLen; omega) (by have := HLL.out; omega) (by omega) (wr.heap.size + 1) (by simp) ?_); intro g2 cap2 w8 hown8 hgrow8 hat8 hlt8; have H9 := Lib.hid (H5.out.grown (g := g2) stable_emp hown8 rfl hgrow8 (hat8.elim .inl (fun e => .inr (by simp; omega))) hlt8); clear hown8 hgrow8 hat8 hlt8)
          have e5 : (l ++ [0]).length = l.length + 1 := by simp
          go_roundg (65 - (1 + 2 * k + (j + 1)))
          case measure => omega
          case rel =>
            refine ⟨l ++ [0], j + 1, some ⟨g2, 0, none⟩, cap2, ?_, by rw [e5, HLL.out]; omega, by omega, rfl, by rw [e5], ?_⟩
            · rw [HLJ.out, List.replicate_succ', List.append_assoc]
            · show Own w _ (Star (rowA _ _ _ _ _) _)
              rw [e5, byteCells_app]; exact H9.out
        · have hf : (⟨l.toArray⟩ : ByteArray) = headF A := by rw [HLJ.out]; exact HD.out j (by omega)
          have l1 : ¬ (l.length : Int) < 64 := by have := HLL.out; omega
          have hcv := conv_row H3.out.row
          have HF := Lib.hid hf
          clear hf
          go_wp2_with fail
          go_ret
          exact ⟨by rw [HF.out]; rfl, H3.out.sub⟩
end Go.Proofs.YtgaibknhdaeidaaGreat.P
namespace Go.Proofs.YtgaibknhdaeidaaGreat.P
open Go.RowKit
theorem byte_at (s : ByteArray) (j : Nat) (x : Int) (hx : x = (j : Int)) (h : j < s.size) (w : World) : (Instr.index 9 (.string s) (.int .i64 x)).run Tryz.prog w = .ok (.int .u8 (byteN s j : Int)) w := by
  subst hx
  rw [run_index_string w _ _ _ _ Tryz.underlying9, dif_pos ⟨by omega, by omega⟩]
  have e : ((s[((j : Int)).toNat]'(by simpa using h)).toNat : Int) = (byteN s j : Int) := by
    have := byteN_get s j h
    simpa using this
  rw [e]
theorem rdHomes_last (s : ByteArray) (k : Nat) : (rdHomes s (k + 1))[k]? = some (lastH (-1) (rdHomes s (k + 1))) := by
  rw [rdHomes_succ, lastH_append, List.getElem?_append_right (by rw [rdHomes_len]; exact Nat.le_refl _), rdHomes_len, Nat.sub_self]; rfl
set_option maxHeartbeats 3200000 in
theorem e_homes (w : World) (s : ByteArray) (most : Int) (h64 : s.size = 64) (m0 : 0 ≤ most) (m1 : most ≤ 512) :
    Calls Tryz.prog 32 #[.string s, .int .i64 most] w (FhP w s most) := by
  have hb : byteN s 0 < 256 := UInt8.toNat_lt _
  have I0 : (Instr.index 9 (.string s) (.int .i64 0)).run Tryz.prog w = .ok (.int .u8 (byteN s 0 : Int)) w := byte_at s 0 0 rfl (by omega) w
  by_cases h30 : 30 < byteN s 0
  · have hp : parseH s most = none := by unfold parseH; rw [if_pos h30]
    have HF := Lib.hid (fh_no hp (Gr.refl w))
    clear hp
    generalize hn : byteN s 0 = n at *
    clear hn
    go_enter Tryz.func32, Tryz.ntmps32
    go_wp2_with fail
    refine bodyPost_ret (results_tmp2 rfl _ _ _) rfl ?_
    exact HF.out
  · obtain ⟨i0, hi, hz0, hz1, hz2⟩ := info_parts intInfo
    have HP : Hid (∀ k wr, k < byteN s 0 → goodH most (-1) (rdHomes s (k + 1)) = false → Gr w wr → FhP w s most (.returned (.tuple #[.slice none 0 0, .bool false])) wr) :=
      Lib.hid (fun k wr hk hg g => fh_no (by
        unfold parseH
        rw [if_neg h30, if_neg]
        intro hgood
        rw [good_prefix most s _ (k + 1) (by omega) hgood] at hg
        cases hg) g)
    have HQ : Hid (goodH most (-1) (rdHomes s (byteN s 0)) = true → ((headF (rdHomes s (byteN s 0))).toList == s.toList) = (parseH s most).isSome ∧ ∀ hs, parseH s most = some hs → hs = rdHomes s (byteN s 0)) :=
      Lib.hid (fun hgood => by
        unfold parseH
        rw [if_neg h30, if_pos hgood]
        by_cases e : s = headF (rdHomes s (byteN s 0))
        · rw [if_pos e]
          exact ⟨by rw [← e]; exact beq_self_eq_true _, fun hs k => by injection k with k; exact k.symm⟩
        · rw [if_neg e]
          exact ⟨tl_ne (Ne.symm e), fun hs k => by cases k⟩)
    have BX : Hid (∀ k : Nat, k < 30 → ∀ wr, (Instr.index 9 (.string s) (.int .i64 (1 + 2 * (k : Int)))).run Tryz.prog wr = .ok (.int .u8 (byteN s (1 + 2 * k) : Int)) wr ∧ (Instr.index 9 (.string s) (.int .i64 (2 + 2 * (k : Int)))).run Tryz.prog wr = .ok (.int .u8 (byteN s (2 + 2 * k) : Int)) wr) :=
      Lib.hid (fun (k : Nat) hk wr => ⟨byte_at s _ _ (by omega) (by omega) wr, byte_at s _ _ (by omega) (by omega) wr⟩)
    generalize hn : byteN s 0 = n at *
    clear hn
    have hn30 : n ≤ 30 := by omega
    clear h30
    have HS := Lib.hid h64
    clear h64
    go_enter Tryz.func32, Tryz.ntmps32
    go_wp2_with fail
    go_loopw [7, 8] (fun v7 v18 wr => ∃ (k : Nat) (o : Option Addr) (c : Nat), k ≤ n ∧ v18 = .int .i64 k ∧ v7 = .slice o k c ∧ goodH most (-1) (rdHomes s k) = true ∧ wr.ownsRow w.heap.size 3 1 (.slice o k c) k (encs (rdHomes s k)) ∧ Gr w wr) (fun _ v _ => n - (intOf v).toNat)
    case atStart => exact ⟨0, none, 0, Nat.zero_le _, rfl, rfl, rfl, ⟨rfl, .inl ⟨rfl, rfl⟩⟩, Gr.refl _⟩
    case round =>
      obtain ⟨k, o, c, hk, rfl, rfl, hgd, hown, hg⟩ := hrel
      have HOWN := Lib.hid hown
      have HG := Lib.hid hg
      have HGD := Lib.hid hgd
      clear hown hg hgd I0
      by_cases hlt : k < n
      · have dl : decide (k < n) = true := decide_eq_true hlt
        have J1 := fun w' => (BX.out k (by omega) w').1
        have J2 := fun w' => (BX.out k (by omega) w').2
        have hx1 : byteN s (1 + 2 * k) < 256 := UInt8.toNat_lt _
        have hx2 : byteN s (2 + 2 * k) < 256 := UInt8.toNat_lt _
        have hxn : rdNum s k = (byteN s (1 + 2 * k) : Int) + 256 * (byteN s (2 + 2 * k) : Int) := rfl
        have hap : goodH most (-1) (rdHomes s (k + 1)) = (goodH most (-1) (rdHomes s k) && (decide (lastH (-1) (rdHomes s k) < rdNum s k) && decide (rdNum s k < most))) := by rw [rdHomes_succ, goodH_append]
        rw [HGD.out, Bool.true_and] at hap
        have hen : encs (rdHomes s (k + 1)) = encs (rdHomes s k) ++ [.int .i64 (rdNum s k)] := by rw [rdHomes_succ, encs_append]; rfl
        have HEN := Lib.hid hen
        have HAP := Lib.hid hap
        clear hap hen
        have HNO : Hid (goodH most (-1) (rdHomes s (k + 1)) = false → ∀ q, FhP w s most (.returned (.tuple #[.slice none 0 0, .bool false])) (wr.drewN q)) := Lib.hid (fun hg q => HP.out k _ hlt hg (HG.out.drewN q))
        have HOQ : Hid (∀ q, (wr.drewN q).ownsRow w.heap.size 3 1 (.slice o k c) k (encs (rdHomes s k))) := Lib.hid (fun q => ownsRow_ch HOWN.out (Ch.of_gr (S := fun _ => False) ((Gr.refl _).drewN q)) (fun _ _ h => h))
        have HRI : Hid (∀ q, RowI (wr.drewN q) o (rdHomes s k)) := Lib.hid (fun q => (rowI_own (c := c) (base := w.heap.size) (by rw [rdHomes_len]; exact HOWN.out)).gr ((Gr.refl _).drewN q))
        have HGQ : Hid (∀ q, Gr w (wr.drewN q)) := Lib.hid (fun q => HG.out.drewN q)
        rw [hxn] at *
        generalize byteN s (1 + 2 * k) = x1 at *
        generalize byteN s (2 + 2 * k) = x2 at *
        have HXN := Lib.hid hxn
        clear hxn
        have m1 : IntKind.i64.wrap (2 * (k : Int)) = 2 * (k : Int) := IntWalk.i64_in _ (by omega)
        have m2 : IntKind.i64.wrap (1 + 2 * (k : Int)) = 1 + 2 * (k : Int) := IntWalk.i64_in _ (by omega)
        have m3 : IntKind.i64.wrap (2 + 2 * (k : Int)) = 2 + 2 * (k : Int) := IntWalk.i64_in _ (by omega)
        have m4 : IntKind.i64.wrap (x1 : Int) = x1 := IntWalk.i64_in _ (by omega)
        have m5 : IntKind.i64.wrap (x2 : Int) = x2 := IntWalk.i64_in _ (by omega)
        have m6 : IntKind.i64.wrap (256 * (x2 : Int)) = 256 * x2 := IntWalk.i64_in _ (by omega)
        have m7 : IntKind.i64.wrap ((x1 : Int) + 256 * x2) = x1 + 256 * x2 := IntWalk.i64_in _ (by omega)
        obtain ⟨x, hx⟩ : ∃ x : Int, (x1 : Int) + 256 * x2 = x := ⟨_, rfl⟩
        have hx0 : 0 ≤ x ∧ x < 65536 := by omega
        rw [hx] at HAP HEN m7
        obtain ⟨x0, xx⟩ := hx0
        have n1 : IntKind.i64.wrap ((k : Int) - 1) = (k : Int) - 1 := IntWalk.i64_in _ (by omega)
        have n2 : ((k : Int) - 1).toNat = k - 1 := by omega
        have n5 : IntKind.i64.wrap ((k : Int) + 1) = (k : Int) + 1 := IntWalk.i64_in _ (by omega)
        have hlast : ∀ l, lastH (-1) (rdHomes s k) = l → (k = 0 ∧ l = -1) ∨ (1 ≤ k ∧ ∀ q, ∃ b off, o = some ⟨b, off, none⟩ ∧ (wr.drewN q).cell? ⟨b, off + (k - 1), none⟩ = some (.int .i64 l)) := by
          rintro _ rfl
          rcases Nat.eq_zero_or_pos k with rfl | hk1
          · exact .inl ⟨rfl, rfl⟩
          · obtain ⟨j, rfl⟩ : ∃ j, k = j + 1 := ⟨k - 1, by omega⟩
            exact .inr ⟨hk1, fun q => HRI.out q j _ (rdHomes_last s j)⟩
        obtain ⟨last, hla⟩ : ∃ l, lastH (-1) (rdHomes s k) = l := ⟨_, rfl⟩
        have hl2 := hlast last hla
        rw [hla] at HAP
        clear hlast hla
        have HX := Lib.hid hx
        by_cases c2 : x < most
        · have d2 : decide (most ≤ x) = false := decide_eq_false (by omega)
          have d3 : ¬ most ≤ x := by omega
          rcases hl2 with ⟨hk0, hla0⟩ | ⟨hk1, hcell⟩
          · have HOKB : Hid (goodH most (-1) (rdHomes s (k + 1)) = true) := Lib.hid (by rw [HAP.out, decide_eq_true c2, decide_eq_true (by omega)]; rfl)
            have d4 : decide (0 < (k : Int)) = false := decide_eq_false (by omega)
            have d5 : ¬ 0 < (k : Int) := by omega
            have HK0 := Lib.hid hk0
            clear hk0 hla0 d4
            go_upto_region 8 with fail
            go_quiet (fail)
            go_wp2_with (at_builtin; refine wpList_append_own _ rfl _ _ 62 rfl w.heap.size 3 i0 (.int .i64 0) 1 8 Tryz.underlying62 hi hz0 hz1 hz2 rfl (by decide) (.slice o k c) k (encs (rdHomes s k)) rfl ((HOQ.out _).alloc _) ⟨_, 0, none⟩ 1 1 [.int .i64 x] rfl rfl (World.news_of_block (cs := #[.int .i64 x]) (blk_new _ _)) (by simp [Value.oneCell']) (by unfold maxLen; omega) (by omega) (by have := HG.out.size; simp; omega) ?_; intro v' w3 hown' hgrow hnil; obtain ⟨o', c', rfl⟩ := row_form hown'; have HO1 := Lib.hid hown'; have HG1 := Lib.hid hgrow; clear hown' hgrow hnil)
            go_roundw
            case rel =>
              refine ⟨k + 1, o', c', by omega, by go_num, rfl, HOKB.out, by rw [HEN.out]; exact HO1.out, ?_⟩
              refine Below.grown ?_ HG1.out ?_ (fun q e => ((HOQ.out 0).lt q e).1)
              · exact (HGQ.out _).alloc (HGQ.out _).size _
              · exact ((HGQ.out _).alloc (HGQ.out _).size _).size
            case measure => simp [intOf]; omega
          · obtain ⟨b, off, ho, _⟩ := hcell 0
            subst ho
            have hc : ∀ q, (wr.drewN q).cell? ⟨b, off + (k - 1), none⟩ = some (.int .i64 last) := fun q => by
              obtain ⟨b2, off2, e, h⟩ := hcell q
              cases e; exact h
            have d4 : 0 < (k : Int) := by omega
            have d6 : 0 ≤ (k : Int) - 1 := by omega
            have d7 : (k : Int) - 1 < (k : Int) := by omega
            clear hcell
            by_cases c1 : last < x
            · have HOKB : Hid (goodH most (-1) (rdHomes s (k + 1)) = true) := Lib.hid (by rw [HAP.out, decide_eq_true c2, decide_eq_true c1]; rfl)
              have d8 : ¬ x ≤ last := by omega
              go_upto_region 8 with fail
              go_quiet (fail)
              go_wp2_with (at_builtin; refine wpList_append_own _ rfl _ _ 62 rfl w.heap.size 3 i0 (.int .i64 0) 1 8 Tryz.underlying62 hi hz0 hz1 hz2 rfl (by decide) (.slice (some ⟨b, off, none⟩) k c) k (encs (rdHomes s k)) rfl ((HOQ.out _).alloc _) ⟨_, 0, none⟩ 1 1 [.int .i64 x] rfl rfl (World.news_of_block (cs := #[.int .i64 x]) (blk_new _ _)) (by simp [Value.oneCell']) (by unfold maxLen; omega) (by omega) (by have := HG.out.size; simp; omega) ?_; intro v' w3 hown' hgrow hnil; obtain ⟨o', c', rfl⟩ := row_form hown'; have HO1 := Lib.hid hown'; have HG1 := Lib.hid hgrow; clear hown' hgrow hnil)
              go_roundw
              case rel =>
                refine ⟨k + 1, o', c', by omega, by go_num, rfl, HOKB.out, by rw [HEN.out]; exact HO1.out, ?_⟩
                refine Below.grown ?_ HG1.out ?_ (fun q e => ((HOQ.out 0).lt q e).1)
                · exact (HGQ.out _).alloc (HGQ.out _).size _
                · exact ((HGQ.out _).alloc (HGQ.out _).size _).size
              case measure => simp [intOf]; omega
            · have HN2 := Lib.hid (HNO.out (by rw [HAP.out, decide_eq_false c1, Bool.false_and]))
              have d8 : x ≤ last := by omega
              go_upto_region 8 with fail
              go_quiet (fail)
              go_wp2_with fail
              refine bodyPost_ret (results_tmp2 rfl _ _ _) rfl ?_; exact HN2.out _
        · have d2 : ¬ x < most := c2
          have d3 : most ≤ x := by omega
          have HN2 := Lib.hid (HNO.out (by rw [HAP.out, decide_eq_false c2, Bool.and_false]))
          clear hl2
          go_upto_region 8 with fail
          go_quiet (fail)
          go_wp2_with fail
          refine bodyPost_ret (results_tmp2 rfl _ _ _) rfl ?_; exact HN2.out _
      · obtain rfl : k = n := by omega
        have dl : decide (k < k) = false := decide_eq_false (by omega)
        obtain ⟨hq1, hq2⟩ := HQ.out HGD.out
        have hlen := rdHomes_len s k
        have HR : RowI wr o (rdHomes s k) := rowI_own (c := c) (base := w.heap.size) (by rw [hlen]; exact HOWN.out)
        have CH := e_head wr o c (rdHomes s k) HR (by omega) (fun i hm => by have := good_mem HGD.out i hm; omega)
        rw [hlen] at CH
        have HC := Lib.hid CH
        have HQ2 := Lib.hid hq2
        have HRR := Lib.hid HR
        have HLL := Lib.hid hlen
        clear HR CH hq2 hlen
        generalize headF (rdHomes s k) = q at *
        go_wp2_with (go_at_call 59; refine (HC.out).mono ?_; rintro e w2 ⟨rfl, g2⟩; have G2 := Lib.hid g2; clear g2)
        exact bodyPost_ret (results_tmp2 rfl _ _ _) rfl ⟨o, k, c, rfl, gtrans HG.out G2.out, fun hs hp => by
          rw [HQ2.out hs hp]
          exact ⟨HLL.out.symm, HRR.out.gr G2.out, fun b off e => ⟨(row_from HOWN.out b off e).1, Nat.lt_of_lt_of_le (row_from HOWN.out b off e).2 G2.out.size⟩⟩⟩
end Go.Proofs.YtgaibknhdaeidaaGreat.P
