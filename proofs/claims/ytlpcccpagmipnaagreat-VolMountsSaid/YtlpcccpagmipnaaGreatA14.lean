/- Stage 7: a head read: facts; rows of numbers. No condition. -/
import Derived.Test.YtlpcccpagmipnaaGreatA12
import Derived.Laws.AppendOwn
import Derived.Lib.SmallJoins
set_option linter.unusedVariables false
set_option maxRecDepth 50000
namespace Go.Proofs.YtlpcccpagmipnaaGreat.P
open Go.RowKit
def encs (A : List Int) : List Value := A.map (Value.int .i64)
theorem encs_length (A : List Int) : (encs A).length = A.length := by unfold encs; rw [List.length_map]
theorem encs_append (A B : List Int) : encs (A ++ B) = encs A ++ encs B := by unfold encs; exact List.map_append
theorem row_form {w : World} {base n : Nat} {v : Value} {xs : List Value} (h : w.ownsRow base 3 1 v n xs) : ∃ o c, v = .slice o n c := by
  rcases Joins.ownsRow_forms h with ⟨rfl, rfl⟩ | ⟨g, cap, rfl⟩
  · exact ⟨none, 0, rfl⟩
  · exact ⟨_, cap, rfl⟩
theorem rowI_own {w : World} {base c : Nat} {o : Option Addr} {A : List Int} (h : w.ownsRow base 3 1 (.slice o A.length c) A.length (encs A)) : RowI w o A := fun j i hj => by
  have hl : j < A.length := (List.getElem?_eq_some_iff.1 hj).1
  rcases Joins.ownsRow_forms h with ⟨e, hz⟩ | ⟨g, cap, e⟩
  · omega
  · injection e with e1 e2 e3
    subst e1
    refine ⟨g, 0, rfl, ?_⟩
    rw [Nat.zero_add, World.ownsRow.cellAt h j (by omega)]
    unfold encs; rw [List.getElem?_map, hj]; rfl
theorem row_from {w : World} {base n c : Nat} {o : Option Addr} {xs : List Value} (h : w.ownsRow base 3 1 (.slice o n c) n xs) : ∀ b off, o = some ⟨b, off, none⟩ → base ≤ b ∧ b < w.heap.size := fun b off e => by
  have e2 := Joins.ownsRow_forms h
  rcases e2 with ⟨e3, _⟩ | ⟨g, cap, e3⟩
  · injection e3 with e3; rw [e] at e3; cases e3
  · injection e3 with e3
    rw [e] at e3; injection e3 with e3; injection e3 with e3 e4
    subst e3; subst e4
    exact h.lt b (by rw [e]; rfl)
theorem byteN_get (s : ByteArray) (k : Nat) (h : k < s.size) : ((s[k]'h).toNat : Int) = (byteN s k : Int) := by
  have e : s[k]'h = s.data.toList.getD k 0 := by
    rw [List.getD_eq_getElem?_getD, List.getElem?_eq_getElem (by rw [Array.length_toList]; exact h)]
    exact (Array.getElem_toList (i := k) (xs := s.data) (by exact h)).symm
  unfold byteN; rw [e]
theorem byteN_at (s : ByteArray) (k : Nat) : W.byteAt s k = (byteN s k : Int) := by
  unfold W.byteAt byteN
  rw [Array.getD_eq_getD_getElem?, List.getD_eq_getElem?_getD, Array.getElem?_toList]
theorem extract_at (s : ByteArray) (a b k : Nat) (hb : b ≤ s.size) (hk : a + k < b) : W.byteAt (s.extract a b) k = W.byteAt s (a + k) := by
  unfold W.byteAt
  rw [Array.getD_eq_getD_getElem?, Array.getD_eq_getD_getElem?, ByteArray.data_extract, Array.getElem?_extract, if_pos (by show k < min b s.data.size - a; have : s.data.size = s.size := rfl; omega)]
theorem of_num (s : ByteArray) (k : Nat) (hs : s.size = 64) (hk : k < 30) : W.ofF (s.extract (1 + 2 * k) (3 + 2 * k)) = rdNum s k := by
  have hsz : (s.extract (1 + 2 * k) (3 + 2 * k)).size = 2 := by rw [ByteArray.size_extract]; omega
  unfold W.ofF
  rw [hsz]
  show W.ofN _ 2 = _
  unfold W.ofN W.ofN W.ofN
  rw [extract_at s _ _ _ (by omega) (by omega), extract_at s _ _ _ (by omega) (by omega), byteN_at, byteN_at]
  unfold rdNum
  rw [show 1 + 2 * k + 0 = 1 + 2 * k by omega, show 1 + 2 * k + 1 = 2 + 2 * k by omega]
  show 0 + (byteN s (1 + 2 * k) : Int) * 2 ^ (8 * 0) + (byteN s (2 + 2 * k) : Int) * 2 ^ (8 * 1) = _
  omega
theorem good_mem {most : Int} : ∀ {l : List Int} {last : Int}, goodH most last l = true → ∀ x ∈ l, last < x ∧ x < most
  | [], _, _, x, hx => by cases hx
  | y :: l, last, h, x, hx => by
    have h2 : (decide (last < y) && decide (y < most) && goodH most y l) = true := h
    rw [Bool.and_eq_true, Bool.and_eq_true, decide_eq_true_eq, decide_eq_true_eq] at h2
    rcases List.mem_cons.1 hx with e | e
    · rw [e]; exact h2.1
    · have := good_mem h2.2 x e; omega
end Go.Proofs.YtlpcccpagmipnaaGreat.P
namespace Go.Proofs.YtlpcccpagmipnaaGreat.P
open Go.RowKit
theorem intInfo : (Tryz.prog.info? 3).map (fun i => (i.zero, i.size, i.bytes)) = some (some (.int .i64 0), 1, 8) := by kernel_rfl
def FhP (w : World) (s : ByteArray) (most : Int) (e : Ending) (w' : World) : Prop :=
  ∃ o n c, e = .returned (.tuple #[.slice o n c, .bool (parseH s most).isSome]) ∧ Gr w w' ∧ ∀ hs, parseH s most = some hs → n = hs.length ∧ RowI w' o hs ∧ ∀ b off, o = some ⟨b, off, none⟩ → w.heap.size ≤ b ∧ b < w'.heap.size
theorem fh_no {w w' : World} {s : ByteArray} {most : Int} (h : parseH s most = none) (g : Gr w w') : FhP w s most (.returned (.tuple #[.slice none 0 0, .bool false])) w' :=
  ⟨none, 0, 0, by rw [h]; rfl, g, fun hs e => by rw [h] at e; cases e⟩
set_option maxHeartbeats 3200000 in
theorem o_fromHead {w0 w : World} {d : Nat} {z : DState} {l mb : Nat} {st : List (Int × ByteArray)} {dead : Bool} {R : Asn} (h : Own w0 w (DL d z l mb st dead R)) (hs : Stable R) (s : ByteArray) (h64 : s.size = 64) :
    Calls Tryz.prog 66 #[.pointer (some ⟨l, 0, none⟩), .string s] w (FhP w s ((z.safe.length : Int) - 32)) := by
  have hst : Stable (DL d z l mb st dead R) := stable_dl _ _ _ _ _ _ hs
  have HH : Hid (∀ wr, Gr w wr → Calls Tryz.prog 16 #[.pointer (some ⟨l, 0, none⟩)] wr fun e w' => e = .returned (.int .i64 ((z.safe.length : Int) - 32)) ∧ w' = wr) :=
    Lib.hid (fun wr g => o_home (h.gr hst g))
  have hz := own_wz h
  have m0 : 0 ≤ (z.safe.length : Int) - 32 := by have := hz.1; omega
  have m1 : (z.safe.length : Int) - 32 ≤ 512 := by have := hz.2.1; omega
  clear h hst hz hs
  generalize (z.safe.length : Int) - 32 = most at *
  have hpos : 0 < s.size := by omega
  have e0 : ((s[0]'hpos).toNat : Int) = (byteN s 0 : Int) := byteN_get s 0 hpos
  have hb : byteN s 0 < 256 := UInt8.toNat_lt _
  have hsz : (s.size : Int) = 64 := by omega
  by_cases h30 : 30 < byteN s 0
  · have hp : parseH s most = none := by unfold parseH; rw [if_pos h30]
    have HF := Lib.hid (fh_no hp (Gr.refl w))
    clear hp HH
    generalize hn : byteN s 0 = n at *
    clear hn
    go_enter Tryz.func66, Tryz.ntmps66
    go_wp2_with fail
    refine bodyPost_ret (results_tmp2 rfl _ _ _) rfl ?_
    exact HF.out
  · obtain ⟨i0, hi, hz0, hz1, hz2⟩ := info_parts intInfo
    have CO : Hid (∀ wr k, k < byteN s 0 → Calls Tryz.prog 100 #[.string (s.extract (1 + 2 * k) (3 + 2 * k))] wr fun e w' => e = .returned (.int .u64 (rdNum s k)) ∧ w' = wr) :=
      Lib.hid (fun wr k hk => by rw [← of_num s k h64 (by omega)]; exact W.c_of _ (by rw [ByteArray.size_extract]; unfold maxLen; omega) wr)
    have HP : Hid (∀ k wr, k < byteN s 0 → goodH most (-1) (rdHomes s (k + 1)) = false → Gr w wr → FhP w s most (.returned (.tuple #[.slice none 0 0, .bool false])) wr) :=
      Lib.hid (fun k wr hk hg g => fh_no (by
        unfold parseH
        rw [if_neg h30, if_neg]
        intro hgood
        rw [good_prefix most s _ (k + 1) (by omega) hgood] at hg
        cases hg) g)
    have HQ : Hid (goodH most (-1) (rdHomes s (byteN s 0)) = true → (s.toList == (headF (rdHomes s (byteN s 0))).toList) = (parseH s most).isSome ∧ ∀ hs, parseH s most = some hs → hs = rdHomes s (byteN s 0)) :=
      Lib.hid (fun hgood => by
        unfold parseH
        rw [if_neg h30, if_pos hgood]
        by_cases e : s = headF (rdHomes s (byteN s 0))
        · rw [if_pos e]
          exact ⟨by rw [← e]; exact beq_self_eq_true _, fun hs k => by injection k with k; exact k.symm⟩
        · rw [if_neg e]
          exact ⟨tl_ne e, fun hs k => by cases k⟩)
    generalize hn : byteN s 0 = n at *
    clear hn
    have hn30 : n ≤ 30 := by omega
    clear h30
    have HS := Lib.hid h64
    clear h64
    go_enter Tryz.func66, Tryz.ntmps66
    go_wp2_with fail
    go_loopw [7, 8, 18] (fun v7 v8 v18 wr => ∃ (k : Nat) (o : Option Addr) (c : Nat), k ≤ n ∧ v18 = .int .i64 k ∧ v7 = .slice o k c ∧ v8 = .int .i64 (lastH (-1) (rdHomes s k)) ∧ goodH most (-1) (rdHomes s k) = true ∧ wr.ownsRow w.heap.size 3 1 (.slice o k c) k (encs (rdHomes s k)) ∧ Gr w wr) (fun _ _ v _ => n - (intOf v).toNat)
    case atStart => exact ⟨0, none, 0, Nat.zero_le _, rfl, rfl, rfl, rfl, ⟨rfl, .inl ⟨rfl, rfl⟩⟩, Gr.refl _⟩
    case round =>
      obtain ⟨k, o, c, hk, rfl, rfl, rfl, hgd, hown, hg⟩ := hrel
      have HOWN := Lib.hid hown
      have HG := Lib.hid hg
      have HGD := Lib.hid hgd
      clear hown hg hgd
      by_cases hlt : k < n
      · have dl : decide (k < n) = true := decide_eq_true hlt
        obtain ⟨x0, x1⟩ := rdNum_bd s k
        have CO2 := Lib.hid (CO.out wr k hlt)
        have hlast : -1 ≤ lastH (-1) (rdHomes s k) ∧ lastH (-1) (rdHomes s k) < 65536 := by
          cases k with
          | zero => show -1 ≤ (-1 : Int) ∧ (-1 : Int) < 65536; decide
          | succ k => rw [rdHomes_succ, lastH_append]; have := rdNum_bd s k; omega
        obtain ⟨l0, l1⟩ := hlast
        have hsl : (Instr.slice 9 (.string s) (some (.int .i64 (1 + 2 * (k : Int)))) (some (.int .i64 (1 + 2 * (k : Int) + 2))) none).run Tryz.prog wr = .ok (.string (s.extract (1 + 2 * k) (3 + 2 * k))) wr := by
          have := run_slice_string (P := Tryz.prog) wr 9 s .i64 .i64 (1 + 2 * (k : Int)) (1 + 2 * (k : Int) + 2) Tryz.underlying9 (by omega) (by omega) (by omega)
          rw [this, show (1 + 2 * (k : Int)).toNat = 1 + 2 * k by omega, show (1 + 2 * (k : Int) + 2).toNat = 3 + 2 * k by omega]
        have hap : goodH most (-1) (rdHomes s (k + 1)) = (goodH most (-1) (rdHomes s k) && (decide (lastH (-1) (rdHomes s k) < rdNum s k) && decide (rdNum s k < most))) := by rw [rdHomes_succ, goodH_append]
        rw [HGD.out, Bool.true_and] at hap
        have hen : encs (rdHomes s (k + 1)) = encs (rdHomes s k) ++ [.int .i64 (rdNum s k)] := by rw [rdHomes_succ, encs_append]; rfl
        have hla : lastH (-1) (rdHomes s (k + 1)) = rdNum s k := by rw [rdHomes_succ, lastH_append]
        have HLA := Lib.hid hla
        have HEN := Lib.hid hen
        have HAP := Lib.hid hap
        clear hap hen hla
        have HNO := Lib.hid (HP.out k wr hlt)
        have HHW := Lib.hid (HH.out wr HG.out)
        generalize lastH (-1) (rdHomes s k) = last at *
        generalize rdNum s k = x at *
        by_cases c1 : last < x
        · by_cases c2 : x < most
          · go_wp2_with (first
              | (go_at_call 100; refine (CO2.out).mono ?_; rintro e w2 ⟨rfl, rfl⟩)
              | (go_at_call 16; refine (HHW.out).mono ?_; rintro e w2 ⟨rfl, rfl⟩)
              | (at_builtin; refine wpList_append_own _ rfl _ _ 77 rfl w.heap.size 3 i0 (.int .i64 0) 1 8 Tryz.underlying77 hi hz0 hz1 hz2 rfl (by decide) (.slice o k c) k (encs (rdHomes s k)) rfl (HOWN.out.alloc _) ⟨_, 0, none⟩ 1 1 [.int .i64 x] rfl rfl (World.news_of_block (cs := #[.int .i64 x]) (blk_new _ _)) (by simp [Value.oneCell']) (by unfold maxLen; omega) (by omega) (by have := HG.out.size; simp; omega) ?_; intro v' w3 hown' hgrow hnil; obtain ⟨o', c', rfl⟩ := row_form hown'; have HO1 := Lib.hid hown'; have HG1 := Lib.hid hgrow; clear hown' hgrow hnil))
            go_roundw
            case rel =>
              refine ⟨k + 1, o', c', by omega, by go_num, rfl, by rw [HLA.out], by rw [HAP.out, decide_eq_true c1, decide_eq_true c2]; rfl, by rw [HEN.out]; exact HO1.out, ?_⟩
              have hb := HG.out.alloc HG.out.size (.cells #[.int .i64 x] 3)
              exact Below.grown hb HG1.out hb.size (fun q e => (HOWN.out.lt q e).1)
            case measure => simp [intOf]; omega
          · go_wp2_with (first
              | (go_at_call 100; refine (CO2.out).mono ?_; rintro e w2 ⟨rfl, rfl⟩)
              | (go_at_call 16; refine (HHW.out).mono ?_; rintro e w2 ⟨rfl, rfl⟩))
            refine bodyPost_ret (results_tmp2 rfl _ _ _) rfl ?_; exact (HNO.out (by rw [HAP.out, decide_eq_false (Int.not_lt.2 c2), Bool.and_false]) HG.out)
        · go_wp2_with (first
            | (go_at_call 100; refine (CO2.out).mono ?_; rintro e w2 ⟨rfl, rfl⟩)
            | (go_at_call 16; refine (HHW.out).mono ?_; rintro e w2 ⟨rfl, rfl⟩))
          refine bodyPost_ret (results_tmp2 rfl _ _ _) rfl ?_; exact (HNO.out (by rw [HAP.out, decide_eq_false (Int.not_lt.2 c1), Bool.false_and]) HG.out)
      · obtain rfl : k = n := by omega
        obtain ⟨hq1, hq2⟩ := HQ.out HGD.out
        have hlen := rdHomes_len s k
        have HR : RowI wr o (rdHomes s k) := rowI_own (c := c) (base := w.heap.size) (by rw [hlen]; exact HOWN.out)
        have CH := c_head wr o c (rdHomes s k) HR (by omega) (fun i hm => by have := good_mem HGD.out i hm; omega)
        rw [hlen] at CH
        have HC := Lib.hid CH
        have HQ2 := Lib.hid hq2
        have HRR := Lib.hid HR
        have HLL := Lib.hid hlen
        clear HR CH hq2 hlen
        generalize headF (rdHomes s k) = q at *
        go_wp2_with (go_at_call 101; refine (HC.out).mono ?_; rintro e w2 ⟨rfl, g2⟩; have G2 := Lib.hid g2; clear g2)
        exact bodyPost_ret (results_tmp2 rfl _ _ _) rfl ⟨o, k, c, rfl, gtrans HG.out G2.out, fun hs hp => by
          rw [HQ2.out hs hp]
          exact ⟨HLL.out.symm, HRR.out.gr G2.out, fun b off e => ⟨(row_from HOWN.out b off e).1, Nat.lt_of_lt_of_le (row_from HOWN.out b off e).2 G2.out.size⟩⟩⟩
end Go.Proofs.YtlpcccpagmipnaaGreat.P
