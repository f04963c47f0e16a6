/- Stage 14: the walk of TableOnce. No condition. -/
import Derived.Test.YtfegnppilhfghaaT22
import Derived.Test.YtfegnppilhfghaaT15
import Derived.Test.YtfegnppilhfghaaS
import Derived.Deep.CutBlock
import Derived.Deep.DeepCutAuto
import Derived.Deep.LoopGhost
set_option linter.unusedVariables false
namespace Go.Proofs.Ytfegnppilhfghaa.P
open Go.RowKit
structure AActV where
  kind : Int
  pid : Int
  n : Int
def AActV.ok (x : AActV) : Prop := i64 x.kind ∧ i64 x.pid ∧ i64 x.n
/-- The acts lie there. -/
def AActs (w : World) (bl off len : Nat) (f : Nat → AActV) : Prop :=
  ∀ i, i < len → (f i).ok ∧ w.cell? ⟨bl, off + i * 3, none⟩ = some (.int .i64 (f i).kind) ∧ w.cell? ⟨bl, off + i * 3 + 1, none⟩ = some (.int .i64 (f i).pid) ∧ w.cell? ⟨bl, off + i * 3 + 2, none⟩ = some (.int .i64 (f i).n)
section
open Go.ChangeShapes Go.WideShapes Go.Deep
variable {H : Type} {enc : TypeId × Value → H} {w : World} {base : Nat} {spare : Nat → Bool} {held : Bool}
set_option maxRecDepth 100000 in
theorem Aopen_acts {v : Value} {d : DataW H} {ps : List MemPlace} (hv : ∃ (o : Option Addr) (l c : Nat), v = .slice o l c) (h : DataW.Trod enc Try.prog w base spare held 28 v d ps) :
    ∃ (o : Option Addr) (len cap bl off : Nat) (f : Nat → AActV), v = .slice o len cap ∧ len ≤ maxLen ∧ (0 < len → o = some ⟨bl, off, none⟩ ∧ bl < w.heap.size) ∧ AActs w bl off len f := by
  rcases open_structs_s Try.underlying28 Try.underlying34 (by kernel_rfl) (by kernel_rfl) (by decide) hv h with ⟨o, cap, rfl⟩ | ⟨bl, off, len, cap, rfl, hl0, hlc, hcap, hbl, hf⟩
  · exact ⟨o, 0, cap, 0, 0, fun _ => ⟨0, 0, 0⟩, rfl, by unfold maxLen; omega, fun h => absurd h (by omega), fun i hi => absurd hi (by omega)⟩
  · have hx : ∀ i, ∃ a : AActV, i < len → a.ok ∧ w.cell? ⟨bl, off + i * 3, none⟩ = some (.int .i64 a.kind) ∧ w.cell? ⟨bl, off + i * 3 + 1, none⟩ = some (.int .i64 a.pid) ∧ w.cell? ⟨bl, off + i * 3 + 2, none⟩ = some (.int .i64 a.n) := by
      intro i
      by_cases hi : i < len
      · obtain ⟨u0, y0, n0, c0, t0⟩ := hf i hi 0 _ rfl
        obtain ⟨u1, y1, n1, c1, t1⟩ := hf i hi 1 _ rfl
        obtain ⟨u2, y2, n2, c2, t2⟩ := hf i hi 2 _ rfl
        obtain ⟨x0, e0, _, k0⟩ := DataW.trod_int Try.underlying3 t0
        obtain ⟨x1, e1, _, k1⟩ := DataW.trod_int Try.underlying3 t1
        obtain ⟨x2, e2, _, k2⟩ := DataW.trod_int Try.underlying3 t2
        rw [List.singleton_inj] at e0 e1 e2
        subst e0; subst e1; subst e2
        exact ⟨⟨x0, x1, x2⟩, fun _ => ⟨⟨wf_i64 k0, wf_i64 k1, wf_i64 k2⟩, c0, c1, c2⟩⟩
      · exact ⟨⟨0, 0, 0⟩, fun h => absurd h hi⟩
    obtain ⟨f, hf'⟩ := Classical.axiomOfChoice hx
    exact ⟨some ⟨bl, off, none⟩, len, cap, bl, off, f, rfl, by omega, fun _ => ⟨rfl, hbl⟩, fun i hi => hf' i hi⟩
theorem Aopen_acts_c {u : Value} {y : DataW H × List MemPlace} {n : Nat} (h : DataW.trod enc Try.prog w base spare held n 28 [u] = some y) :
    ∃ (o : Option Addr) (len cap bl off : Nat) (f : Nat → AActV), u = .slice o len cap ∧ len ≤ maxLen ∧ (0 < len → o = some ⟨bl, off, none⟩ ∧ bl < w.heap.size) ∧ AActs w bl off len f := by
  obtain ⟨o, len, cap, rfl, ht⟩ := open_slice_c Try.underlying28 h
  exact Aopen_acts ⟨o, len, cap, rfl⟩ ht
end
set_option maxRecDepth 100000 in
set_option maxHeartbeats 3200000 in
theorem l_once (w : World) (o : Option Addr) (len cap bl off : Nat) (f : Nat → AActV) (hlen : len ≤ 9223372036854775807) (ho : 0 < len → o = some ⟨bl, off, none⟩ ∧ bl < w.heap.size) (hl : AActs w bl off len f) :
    Calls Try.prog 4 #[.slice o len cap] w fun e w' => e = .returned (.bool true) ∧ Gr w w' := by
  have HA := Lib.hid hl
  have HO := Lib.hid ho
  clear hl ho
  have hz32 : (#[.int .i64 0, .int .i64 0, .int .i64 0, .bool false, .int .i64 0, .int .i64 0, .int .i64 0, .bool false, .int .i64 0, .int .i64 0, .int .i64 0, .bool false, .int .i64 0, .int .i64 0, .int .i64 0, .bool false, .int .i64 0, .int .i64 0, .int .i64 0, .bool false, .int .i64 0, .int .i64 0, .int .i64 0, .bool false, .int .i64 0, .int .i64 0, .int .i64 0, .bool false, .int .i64 0, .int .i64 0, .int .i64 0, .bool false] : Array Value) = tc Z0 := rfl
  go_enter Try.func4, Try.ntmps4
  go_wp2_with fail
  refine (c_shown _).mono ?_; rintro e w1 ⟨rfl, g1⟩
  have G1 := Lib.hid g1
  clear g1
  go_wp2_with fail
  refine (c_first _).mono ?_; rintro e w2 ⟨rfl, g2⟩
  have NA := Lib.hid (blk_new w2 (.cells (tc Z0) 25))
  have GGA := Lib.hid (gtrans G1.out g2)
  go_upto_region 3 with (refine wpList_store_row rfl 25 _ _ rfl _ _ rfl rfl 25 _ NA.out (tc_info _) (tc_szs _ _) (tc_one _) ?_)
  have XA : RowKit.Hid (((w2.alloc (.cells (tc Z0) 25)).setRow w2.heap.size (tc F0)).heap[w2.heap.size]? = some (.cells (tc F0) 25)) := Lib.hid (setRow_heap _ _ _ _ _ _ NA.out)
  have GA : RowKit.Hid (Gr w ((w2.alloc (.cells (tc Z0) 25)).setRow w2.heap.size (tc F0))) := Lib.hid (below_setRow (Below.alloc GGA.out GGA.out.size _) GGA.out.size _)
  clear g2  NA
  generalize hwA : ((w2.alloc (.cells (tc Z0) 25)).setRow w2.heap.size (tc F0)) = wa at *
  clear hwA
  have hTB : RowKit.Hid (w.heap.size ≤ w2.heap.size) := Lib.hid (by have := GGA.out.size; omega)
  clear GGA
  generalize w2.heap.size = tb at *
  go_wp2_with fail
  go_loopg [5, 6, 7] len (fun g ve vt vi wr => ∃ (i E D : Nat) (T : Nat → RowV), i ≤ len ∧ g = len - i ∧ vi = .int .i64 i ∧ ve = .int .i64 E ∧ vt = .int .i64 D ∧ E ≤ i ∧ D + doneN T 8 = E ∧ Good T ∧ Gr w wr ∧ wr.heap[tb]? = some (.cells (tc T) 25))
  case atStart => exact ⟨0, 0, 0, F0, Nat.zero_le _, rfl, rfl, rfl, rfl, Nat.le_refl _, by decide, good_first, GA.out, XA.out⟩
  case round =>
    clear XA GA
    obtain ⟨i, E, D, T, hi, rfl, rfl, rfl, rfl, hE, hD, hg, hgr, ht⟩ := hrel
    have HG := Lib.hid hg
    have HGR := Lib.hid hgr
    have HT := Lib.hid ht
    have HD := Lib.hid hD
    clear hg hgr ht hD
    by_cases hlt : i < len
    · obtain ⟨rfl, hbl⟩ := HO.out (by omega)
      obtain ⟨⟨huk, hup, hun⟩, a0', a1', a2'⟩ := HA.out i hlt
      have c0 := kcell HGR.out a0'
      have c1 := kcell HGR.out a1'
      have c2 := kcell HGR.out a2'
      clear a0' a1' a2' huk hup hun
      go_upto_region 9 with fail
      have A1 := blk_new wr (.cells #[.int .i64 (f i).kind, .int .i64 (f i).pid, .int .i64 (f i).n] 34)
      have T1 := Lib.hid (blk_alloc (.cells #[.int .i64 (f i).kind, .int .i64 (f i).pid, .int .i64 (f i).n] 34) HT.out)
      have G1b := Lib.hid (Below.alloc HGR.out HGR.out.size (.cells #[.int .i64 (f i).kind, .int .i64 (f i).pid, .int .i64 (f i).n] 34) : Gr w (wr.alloc (.cells #[.int .i64 (f i).kind, .int .i64 (f i).pid, .int .i64 (f i).n] 34)))
      have d0 := blk_cell A1 0 rfl
      have d1 := blk_cell A1 1 rfl
      have d2 := blk_cell A1 2 rfl
      clear c0 c1 c2 A1
      generalize wr.alloc (.cells #[.int .i64 (f i).kind, .int .i64 (f i).pid, .int .i64 (f i).n] 34) = wb at *
      generalize wr.heap.size = ab at *
      go_upto_block 2 with fail
      go_cut [5, 6] (fun ve vt wx => ∃ (E' D' : Nat) (T' : Nat → RowV), ve = .int .i64 E' ∧ vt = .int .i64 D' ∧ E' ≤ i + 1 ∧ D' + doneN T' 8 = E' ∧ Good T' ∧ Gr w wx ∧ wx.heap[tb]? = some (.cells (tc T') 25))
      case first =>
        generalize hkd : (f i).kind = kd at *
        clear hkd
        by_cases hk1 : kd = 1
        · subst hk1
          go_wp2_with (first | (refine wpList_load_row rfl 25 _ rfl _ rfl 25 _ (0, 0) _ T1.out Try.underlying25 rfl (by kernel_rfl) ?_))
          refine (c_fork T (f i).pid _).mono ?_; rintro e w5 ⟨rfl, g5⟩
          have T2 := Lib.hid (blk_gr g5 T1.out)
          have G2 := Lib.hid (gtrans G1b.out g5)
          have HS := Lib.hid (fork_step HG.out (f i).pid)
          generalize forkN T (f i).pid = fN at *
          generalize forkE T (f i).pid = fE at *
          generalize forkT T (f i).pid = T' at *
          clear g5
          go_wp2_with (first | (refine wpList_store_row rfl 25 _ _ rfl _ _ rfl rfl 25 _ T2.out (tc_info _) (tc_szs _ _) (tc_one _) ?_))
          go_meet
          exact ⟨E, D, T', rfl, rfl, by omega, by rw [HS.out.2]; exact HD.out, HS.out.1, below_setRow G2.out hTB.out _, setRow_heap _ _ _ _ _ _ T2.out⟩
        · by_cases hk2 : kd = 2
          · subst hk2
            go_wp2_with (first | (refine wpList_load_row rfl 25 _ rfl _ rfl 25 _ (0, 0) _ T1.out Try.underlying25 rfl (by kernel_rfl) ?_))
            refine (c_exit T (f i).pid (f i).n _).mono ?_; rintro e w5 ⟨rfl, g5⟩
            have T2 := Lib.hid (blk_gr g5 T1.out)
            have G2 := Lib.hid (gtrans G1b.out g5)
            obtain ⟨hs, hw⟩ := exit_step HG.out (f i).pid (f i).n
            have HS := Lib.hid hs
            generalize exitT T (f i).pid (f i).n = T' at *
            generalize exitE T (f i).pid = fE at *
            clear g5 hs
            rcases hw with ⟨rfl, hd⟩ | ⟨hb, hn, hd⟩
            · have HDD := Lib.hid hd
              have hE2 : (E : Int) < 9223372036854775807 := by omega
              clear hd
              go_wp2_with (first | (refine wpList_store_row rfl 25 _ _ rfl _ _ rfl rfl 25 _ T2.out (tc_info _) (tc_szs _ _) (tc_one _) ?_))
              go_meet
              exact ⟨E + 1, D, T', by go_num, rfl, by omega, by have := HD.out; have := HDD.out; omega, HS.out, below_setRow G2.out hTB.out _, setRow_heap _ _ _ _ _ _ T2.out⟩
            · have HDD := Lib.hid hd
              have hb2 : decide (fE = 0) = false := decide_eq_false hn
              clear hd
              go_wp2_with (first | (refine wpList_store_row rfl 25 _ _ rfl _ _ rfl rfl 25 _ T2.out (tc_info _) (tc_szs _ _) (tc_one _) ?_))
              go_meet
              exact ⟨E, D, T', rfl, rfl, by omega, by have := HD.out; have := HDD.out; omega, HS.out, below_setRow G2.out hTB.out _, setRow_heap _ _ _ _ _ _ T2.out⟩
          · by_cases hk3 : kd = 3
            · subst hk3
              go_wp2_with (first | (refine wpList_load_row rfl 25 _ rfl _ rfl 25 _ (0, 0) _ T1.out Try.underlying25 rfl (by kernel_rfl) ?_))
              refine (c_wait T (f i).pid _).mono ?_; rintro e w5 ⟨rfl, g5⟩
              have T2 := Lib.hid (blk_gr g5 T1.out)
              have G2 := Lib.hid (gtrans G1b.out g5)
              obtain ⟨hs, hw⟩ := wait_step HG.out (f i).pid
              have HS := Lib.hid hs
              generalize waitT T (f i).pid = T' at *
              generalize waitE T (f i).pid = fE at *
              generalize waitN T (f i).pid = fN at *
              generalize waitS T (f i).pid = fS at *
              clear g5 hs
              rcases hw with ⟨rfl, hd⟩ | ⟨hb, hn, hd⟩
              · have HDD := Lib.hid hd
                have hE2 : (D : Int) < 9223372036854775807 := by have := HD.out; omega
                clear hd
                go_wp2_with (first | (refine wpList_store_row rfl 25 _ _ rfl _ _ rfl rfl 25 _ T2.out (tc_info _) (tc_szs _ _) (tc_one _) ?_))
                go_meet
                exact ⟨E, D + 1, T', rfl, by go_num, by omega, by have := HD.out; have := HDD.out; omega, HS.out, below_setRow G2.out hTB.out _, setRow_heap _ _ _ _ _ _ T2.out⟩
              · have HDD := Lib.hid hd
                have hb2 : decide (fE = 0) = false := decide_eq_false hn
                clear hd
                go_wp2_with (first | (refine wpList_store_row rfl 25 _ _ rfl _ _ rfl rfl 25 _ T2.out (tc_info _) (tc_szs _ _) (tc_one _) ?_))
                go_meet
                exact ⟨E, D, T', rfl, rfl, by omega, by have := HD.out; have := HDD.out; omega, HS.out, below_setRow G2.out hTB.out _, setRow_heap _ _ _ _ _ _ T2.out⟩
            · have q1 : (kd == 1) = false := by simpa using hk1
              have q2 : (kd == 2) = false := by simpa using hk2
              have q3 : (kd == 3) = false := by simpa using hk3
              clear hk1 hk2 hk3
              go_wp2_with fail
              go_meet
              exact ⟨E, D, T, rfl, rfl, by omega, HD.out, HG.out, G1b.out, T1.out⟩
      case rest =>
        obtain ⟨E', D', T', rfl, rfl, hE', hD', hg', hgr', ht'⟩ := hcut
        have HG3 := Lib.hid hg'
        have HGR3 := Lib.hid hgr'
        have HT3 := Lib.hid ht'
        have HD3 := Lib.hid hD'
        clear hg' hgr' ht' hD' d0 d1 d2
        go_wp2_with fail
        go_loopg [10, 11] 8 (fun g vd vk wl => ∃ k : Nat, k ≤ 8 ∧ g = 8 - k ∧ vk = .int .i64 k ∧ vd = .int .i64 (doneN T' k : Nat) ∧ wl = wc)
        case atStart => exact ⟨0, by omega, rfl, rfl, rfl, rfl⟩
        case round =>
          obtain ⟨k, hk, rfl, rfl, rfl, rfl⟩ := hrel
          by_cases hk8 : k < 8
          · have HK8 := Lib.hid hk8
            have hk0 : (0 : Int) ≤ k := by omega
            have hk7 : (k : Int) < 8 := by omega
            have c0 := blk_cell HT3.out (k * 4) (tc_st T' k hk8)
            have c1 := blk_cell HT3.out (k * 4 + 1) (tc_pa T' k hk8)
            obtain ⟨hs, hp⟩ := HG3.out k hk8
            rcases hs with hs | hs | hs
            · have HST : RowKit.Hid (doneN T' (k + 1) = doneN T' k + (if (0 : Int) = 2 then 1 else 0)) := Lib.hid (by rw [doneN, hs])
              rw [hs] at c0
              have d0 : doneN T' k ≤ 8 := by have := done_le T' k; omega
              clear hp hs
              generalize doneN T' k = dk at *
              go_wp2_with fail
              go_roundg (8 - (k + 1))
              case measure => omega
              case rel => exact ⟨k + 1, by omega, rfl, by go_num, by rw [HST.out, if_neg (by decide)]; rfl, by first | rfl | trivial⟩
            · obtain ⟨p1, p2, p3⟩ := hp (by omega)
              rcases p3 with p3 | ⟨p3, p4⟩
              · have HST : RowKit.Hid (doneN T' (k + 1) = doneN T' k + (if (1 : Int) = 2 then 1 else 0)) := Lib.hid (by rw [doneN, hs])
                rw [hs] at c0
                have d0 : doneN T' k ≤ 8 := by have := done_le T' k; omega
                rw [p3] at c1
                clear p1 p2 p3 hs
                generalize doneN T' k = dk at *
                go_wp2_with fail
                go_roundg (8 - (k + 1))
                case measure => omega
                case rel => exact ⟨k + 1, by omega, rfl, by go_num, by rw [HST.out, if_neg (by decide)]; rfl, by first | rfl | trivial⟩
              · have HST : RowKit.Hid (doneN T' (k + 1) = doneN T' k + (if (1 : Int) = 2 then 1 else 0)) := Lib.hid (by rw [doneN, hs])
                rw [hs] at c0
                have d0 : doneN T' k ≤ 8 := by have := done_le T' k; omega
                obtain ⟨q, hq⟩ : ∃ q : Nat, (T' k).pa = (q : Int) := ⟨(T' k).pa.toNat, by omega⟩
                rw [hq] at c1 p1 p2 p3 p4
                rw [Int.toNat_natCast] at p3
                have hq8 : q < 8 := by omega
                have cq := blk_cell HT3.out (q * 4) (tc_st T' q hq8)
                rw [p3] at cq
                have hq7 : (q : Int) ≤ 7 := by omega
                by_cases hq0 : q = 0
                · subst hq0
                  clear p1 p2 p3 p4 hq hs
                  generalize doneN T' k = dk at *
                  go_wp2_with fail
                  go_roundg (8 - (k + 1))
                  case measure => omega
                  case rel => exact ⟨k + 1, by omega, rfl, by go_num, by rw [HST.out, if_neg (by decide)]; rfl, by first | rfl | trivial⟩
                · have hq1 : ¬ (q : Int) = 0 := by omega
                  have hq2 : decide ((q : Int) = 0) = false := decide_eq_false hq1
                  clear p1 p2 p3 p4 hq hs
                  generalize doneN T' k = dk at *
                  go_wp2_with fail
                  go_roundg (8 - (k + 1))
                  case measure => omega
                  case rel => exact ⟨k + 1, by omega, rfl, by go_num, by rw [HST.out, if_neg (by decide)]; rfl, by first | rfl | trivial⟩
            · obtain ⟨p1, p2, p3⟩ := hp (by omega)
              rcases p3 with p3 | ⟨p3, p4⟩
              · have HST : RowKit.Hid (doneN T' (k + 1) = doneN T' k + (if (2 : Int) = 2 then 1 else 0)) := Lib.hid (by rw [doneN, hs])
                rw [hs] at c0
                have d0 : doneN T' k ≤ 8 := by have := done_le T' k; omega
                rw [p3] at c1
                clear p1 p2 p3 hs
                generalize doneN T' k = dk at *
                go_wp2_with fail
                go_roundg (8 - (k + 1))
                case measure => omega
                case rel => exact ⟨k + 1, by omega, rfl, by go_num, by rw [HST.out]; (first | rw [if_pos rfl] | rw [if_pos trivial]); go_num, by first | rfl | trivial⟩
              · have HST : RowKit.Hid (doneN T' (k + 1) = doneN T' k + (if (2 : Int) = 2 then 1 else 0)) := Lib.hid (by rw [doneN, hs])
                rw [hs] at c0
                have d0 : doneN T' k ≤ 8 := by have := done_le T' k; omega
                obtain ⟨q, hq⟩ : ∃ q : Nat, (T' k).pa = (q : Int) := ⟨(T' k).pa.toNat, by omega⟩
                rw [hq] at c1 p1 p2 p3 p4
                rw [Int.toNat_natCast] at p3
                have hq8 : q < 8 := by omega
                have cq := blk_cell HT3.out (q * 4) (tc_st T' q hq8)
                rw [p3] at cq
                have hq7 : (q : Int) ≤ 7 := by omega
                by_cases hq0 : q = 0
                · subst hq0
                  clear p1 p2 p3 p4 hq hs
                  generalize doneN T' k = dk at *
                  go_wp2_with fail
                  go_roundg (8 - (k + 1))
                  case measure => omega
                  case rel => exact ⟨k + 1, by omega, rfl, by go_num, by rw [HST.out]; (first | rw [if_pos rfl] | rw [if_pos trivial]); go_num, by first | rfl | trivial⟩
                · have hq1 : ¬ (q : Int) = 0 := by omega
                  have hq2 : decide ((q : Int) = 0) = false := decide_eq_false hq1
                  clear p1 p2 p3 p4 hq hs
                  generalize doneN T' k = dk at *
                  go_wp2_with fail
                  go_roundg (8 - (k + 1))
                  case measure => omega
                  case rel => exact ⟨k + 1, by omega, rfl, by go_num, by rw [HST.out]; (first | rw [if_pos rfl] | rw [if_pos trivial]); go_num, by first | rfl | trivial⟩
          · obtain rfl : k = 8 := by omega
            have hsum : (D' : Int) + (doneN T' 8 : Nat) = (E' : Int) := by have := HD3.out; omega
            have d8 : doneN T' 8 ≤ 8 := done_le T' 8
            obtain ⟨d8', hd8⟩ : ∃ d, d = doneN T' 8 := ⟨_, rfl⟩
            rw [← hd8] at hsum d8 ⊢
            clear hd8
            have hD2 : (D' : Int) ≤ 9223372036854775807 := by omega
            go_wp2_with fail
            go_roundg (len - (i + 1))
            case measure => omega
            case rel => exact ⟨i + 1, E', D', T', by omega, rfl, by go_num, rfl, rfl, hE', HD3.out, HG3.out, HGR3.out, HT3.out⟩
    · have hil : i = len := by omega
      subst hil
      go_wp2_with fail
      go_ret
      exact ⟨rfl, HGR.out⟩
end Go.Proofs.Ytfegnppilhfghaa.P
