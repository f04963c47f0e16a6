/- Stage 7: a head read. No condition. -/
import Derived.Test.YtgaibknhdaeidaaA13
set_option linter.unusedVariables false
set_option maxRecDepth 50000
namespace Go.Proofs.Ytgaibknhdaeidaa.P
open Go.RowKit
theorem intInfo : (Try.prog.info? 3).map (fun i => (i.zero, i.size, i.bytes)) = some (some (.int .i64 0), 1, 8) := by kernel_rfl
def FhP (w : World) (s : ByteArray) (most : Int) (e : Ending) (w' : World) : Prop :=
  ∃ o n c, e = .returned (.tuple #[.slice o n c, .bool (parseH s most).isSome]) ∧ Gr w w' ∧ ∀ hs, parseH s most = some hs → n = hs.length ∧ RowI w' o hs ∧ ∀ b off, o = some ⟨b, off, none⟩ → w.heap.size ≤ b ∧ b < w'.heap.size
theorem fh_no {w w' : World} {s : ByteArray} {most : Int} (h : parseH s most = none) (g : Gr w w') : FhP w s most (.returned (.tuple #[.slice none 0 0, .bool false])) w' :=
  ⟨none, 0, 0, by rw [h]; rfl, g, fun hs e => by rw [h] at e; cases e⟩
set_option maxHeartbeats 3200000 in
theorem o_fromHead {w0 w : World} {d : Nat} {z : DState} {l mb : Nat} {st : List (Int × ByteArray)} {dead : Bool} {R : Asn} (h : Own w0 w (DL d z l mb st dead R)) (hs : Stable R) (s : ByteArray) (h64 : s.size = 64) :
    Calls Try.prog 31 #[.pointer (some ⟨l, 0, none⟩), .string s] w (FhP w s ((z.safe.length : Int) - 32)) := by
  have hst : Stable (DL d z l mb st dead R) := stable_dl _ _ _ _ _ _ hs
  have HH : Hid (∀ wr, Gr w wr → Calls Try.prog 25 #[.pointer (some ⟨l, 0, none⟩)] wr fun e w' => e = .returned (.int .i64 ((z.safe.length : Int) - 32)) ∧ w' = wr) :=
    Lib.hid (fun wr g => o_home (h.gr hst g))
  have hz := own_wz h
  have m0 : 0 ≤ (z.safe.length : Int) - 32 := by have := hz.1; omega
  have m1 : (z.safe.length : Int) - 32 ≤ 512 := by have := hz.2.1; omega
  clear h hst hz hs
  generalize (z.safe.length : Int) - 32 = most at *
  have hpos : 0 < s.size := by omega
  have e0 : ((s[0]'hpos).toNat : Int) = (byteN s 0 : Int) := byteN_get s 0 hpos
  have hb : byteN s 0 < 256 := UInt8.toNat_lt _
  have hsz : (s.size : Int) = 64 := by omega
  by_cases h30 : 30 < byteN s 0
  · have hp : parseH s most = none := by unfold parseH; rw [if_pos h30]
    have HF := Lib.hid (fh_no hp (Gr.refl w))
    clear hp HH
    generalize hn : byteN s 0 = n at *
    clear hn
    go_enter Try.func31, Try.ntmps31
    go_wp2_with fail
    refine bodyPost_ret (results_tmp2 rfl _ _ _) rfl ?_
    exact HF.out
  · obtain ⟨i0, hi, hz0, hz1, hz2⟩ := info_parts intInfo
    have CO : Hid (∀ wr k, k < byteN s 0 → Calls Try.prog 50 #[.string (s.extract (1 + 2 * k) (3 + 2 * k))] wr fun e w' => e = .returned (.int .u64 (rdNum s k)) ∧ w' = wr) :=
      Lib.hid (fun wr k hk => by rw [← of_num s k h64 (by omega)]; exact W.c_of _ (by rw [ByteArray.size_extract]; unfold maxLen; omega) wr)
    have HP : Hid (∀ k wr, k < byteN s 0 → goodH most (-1) (rdHomes s (k + 1)) = false → Gr w wr → FhP w s most (.returned (.tuple #[.slice none 0 0, .bool false])) wr) :=
      Lib.hid (fun k wr hk hg g => fh_no (by
        unfold parseH
        rw [if_neg h30, if_neg]
        intro hgood
        rw [good_prefix most s _ (k + 1) (by omega) hgood] at hg
        cases hg) g)
    have HQ : Hid (goodH most (-1) (rdHomes s (byteN s 0)) = true → (s.toList == (headF (rdHomes s (byteN s 0))).toList) = (parseH s most).isSome ∧ ∀ hs, parseH s most = some hs → hs = rdHomes s (byteN s 0)) :=
      Lib.hid (fun hgood => by
        unfold parseH
        rw [if_neg h30, if_pos hgood]
        by_cases e : s = headF (rdHomes s (byteN s 0))
        · rw [if_pos e]
          exact ⟨by rw [← e]; exact beq_self_eq_true _, fun hs k => by injection k with k; exact k.symm⟩
        · rw [if_neg e]
          exact ⟨tl_ne e, fun hs k => by cases k⟩)
    generalize hn : byteN s 0 = n at *
    clear hn
    have hn30 : n ≤ 30 := by omega
    clear h30
    have HS := Lib.hid h64
    clear h64
    go_enter Try.func31, Try.ntmps31
    go_wp2_with fail
    go_loopw [7, 8, 18] (fun v7 v8 v18 wr => ∃ (k : Nat) (o : Option Addr) (c : Nat), k ≤ n ∧ v18 = .int .i64 k ∧ v7 = .slice o k c ∧ v8 = .int .i64 (lastH (-1) (rdHomes s k)) ∧ goodH most (-1) (rdHomes s k) = true ∧ wr.ownsRow w.heap.size 3 1 (.slice o k c) k (encs (rdHomes s k)) ∧ Gr w wr) (fun _ _ v _ => n - (intOf v).toNat)
    case atStart => exact ⟨0, none, 0, Nat.zero_le _, rfl, rfl, rfl, rfl, ⟨rfl, .inl ⟨rfl, rfl⟩⟩, Gr.refl _⟩
    case round =>
      obtain ⟨k, o, c, hk, rfl, rfl, rfl, hgd, hown, hg⟩ := hrel
      have HOWN := Lib.hid hown
      have HG := Lib.hid hg
      have HGD := Lib.hid hgd
      clear hown hg hgd
      by_cases hlt : k < n
      · have dl : decide (k < n) = true := decide_eq_true hlt
        obtain ⟨x0, x1⟩ := rdNum_bd s k
        have CO2 := Lib.hid (CO.out wr k hlt)
        have hlast : -1 ≤ lastH (-1) (rdHomes s k) ∧ lastH (-1) (rdHomes s k) < 65536 := by
          cases k with
          | zero => show -1 ≤ (-1 : Int) ∧ (-1 : Int) < 65536; decide
          | succ k => rw [rdHomes_succ, lastH_append]; have := rdNum_bd s k; omega
        obtain ⟨l0, l1⟩ := hlast
        have hsl : (Instr.slice 9 (.string s) (some (.int .i64 (1 + 2 * (k : Int)))) (some (.int .i64 (1 + 2 * (k : Int) + 2))) none).run Try.prog wr = .ok (.string (s.extract (1 + 2 * k) (3 + 2 * k))) wr := by
          have := run_slice_string (P := Try.prog) wr 9 s .i64 .i64 (1 + 2 * (k : Int)) (1 + 2 * (k : Int) + 2) Try.underlying9 (by omega) (by omega) (by omega)
          rw [this, show (1 + 2 * (k : Int)).toNat = 1 + 2 * k by omega, show (1 + 2 * (k : Int) + 2).toNat = 3 + 2 * k by omega]
        have hap : goodH most (-1) (rdHomes s (k + 1)) = (goodH most (-1) (rdHomes s k) && (decide (lastH (-1) (rdHomes s k) < rdNum s k) && decide (rdNum s k < most))) := by rw [rdHomes_succ, goodH_append]
        rw [HGD.out, Bool.true_and] at hap
        have hen : encs (rdHomes s (k + 1)) = encs (rdHomes s k) ++ [.int .i64 (rdNum s k)] := by rw [rdHomes_succ, encs_append]; rfl
        have hla : lastH (-1) (rdHomes s (k + 1)) = rdNum s k := by rw [rdHomes_succ, lastH_append]
        have HLA := Lib.hid hla
        have HEN := Lib.hid hen
        have HAP := Lib.hid hap
        clear hap hen hla
        have HNO := Lib.hid (HP.out k wr hlt)
        have HHW := Lib.hid (HH.out wr HG.out)
        generalize lastH (-1) (rdHomes s k) = last at *
        generalize rdNum s k = x at *
        by_cases c1 : last < x
        · by_cases c2 : x < most
          · go_wp2_with (first
              | (go_at_call 50; refine (CO2.out).mono ?_; rintro e w2 ⟨rfl, rfl⟩)
              | (go_at_call 25; refine (HHW.out).mono ?_; rintro e w2 ⟨rfl, rfl⟩)
              | (at_builtin; refine wpList_append_own _ rfl _ _ 23 rfl w.heap.size 3 i0 (.int .i64 0) 1 8 Try.underlying23 hi hz0 hz1 hz2 rfl (by decide) (.slice o k c) k (encs (rdHomes s k)) rfl (HOWN.out.alloc _) ⟨_, 0, none⟩ 1 1 [.int .i64 x] rfl rfl (World.news_of_block (cs := #[.int .i64 x]) (blk_new _ _)) (by simp [Value.oneCell']) (by unfold maxLen; omega) (by omega) (by have := HG.out.size; simp; omega) ?_; intro v' w3 hown' hgrow hnil; obtain ⟨o', c', rfl⟩ := row_form hown'; have HO1 := Lib.hid hown'; have HG1 := Lib.hid hgrow; clear hown' hgrow hnil))
            go_roundw
            case rel =>
              refine ⟨k + 1, o', c', by omega, by go_num, rfl, by rw [HLA.out], by rw [HAP.out, decide_eq_true c1, decide_eq_true c2]; rfl, by rw [HEN.out]; exact HO1.out, ?_⟩
              have hb := HG.out.alloc HG.out.size (.cells #[.int .i64 x] 3)
              exact Below.grown hb HG1.out hb.size (fun q e => (HOWN.out.lt q e).1)
            case measure => simp [intOf]; omega
          · go_wp2_with (first
              | (go_at_call 50; refine (CO2.out).mono ?_; rintro e w2 ⟨rfl, rfl⟩)
              | (go_at_call 25; refine (HHW.out).mono ?_; rintro e w2 ⟨rfl, rfl⟩))
            refine bodyPost_ret (results_tmp2 rfl _ _ _) rfl ?_; exact (HNO.out (by rw [HAP.out, decide_eq_false (Int.not_lt.2 c2), Bool.and_false]) HG.out)
        · go_wp2_with (first
            | (go_at_call 50; refine (CO2.out).mono ?_; rintro e w2 ⟨rfl, rfl⟩)
            | (go_at_call 25; refine (HHW.out).mono ?_; rintro e w2 ⟨rfl, rfl⟩))
          refine bodyPost_ret (results_tmp2 rfl _ _ _) rfl ?_; exact (HNO.out (by rw [HAP.out, decide_eq_false (Int.not_lt.2 c1), Bool.false_and]) HG.out)
      · obtain rfl : k = n := by omega
        obtain ⟨hq1, hq2⟩ := HQ.out HGD.out
        have hlen := rdHomes_len s k
        have HR : RowI wr o (rdHomes s k) := rowI_own (c := c) (base := w.heap.size) (by rw [hlen]; exact HOWN.out)
        have CH := c_head wr o c (rdHomes s k) HR (by omega) (fun i hm => by have := good_mem HGD.out i hm; omega)
        rw [hlen] at CH
        have HC := Lib.hid CH
        have HQ2 := Lib.hid hq2
        have HRR := Lib.hid HR
        have HLL := Lib.hid hlen
        clear HR CH hq2 hlen
        generalize headF (rdHomes s k) = q at *
        go_wp2_with (go_at_call 51; refine (HC.out).mono ?_; rintro e w2 ⟨rfl, g2⟩; have G2 := Lib.hid g2; clear g2)
        exact bodyPost_ret (results_tmp2 rfl _ _ _) rfl ⟨o, k, c, rfl, gtrans HG.out G2.out, fun hs hp => by
          rw [HQ2.out hs hp]
          exact ⟨HLL.out.symm, HRR.out.gr G2.out, fun b off e => ⟨(row_from HOWN.out b off e).1, Nat.lt_of_lt_of_le (row_from HOWN.out b off e).2 G2.out.size⟩⟩⟩
end Go.Proofs.Ytgaibknhdaeidaa.P
