/- Stage 6: rows of texts held against each other; Of. No condition. -/
import Derived.Test.YtgaibknhdaeidaaGreatA0
import Derived.Deep.QuietTactic
import Derived.BigQuiet
import Derived.Test.YtgaibknhdaeidaaGreatE1
set_option linter.unusedVariables false
set_option maxRecDepth 50000
namespace Go.Proofs.YtgaibknhdaeidaaGreat.P
open Go.RowKit
/-- A slice whose elements are such texts. -/
def RowS (w : World) (o : Option Addr) (A : List ByteArray) : Prop := ∀ j s, A[j]? = some s → ∃ b off, o = some ⟨b, off, none⟩ ∧ w.cell? ⟨b, off + j, none⟩ = some (.string s)
theorem RowS.gr {w w' : World} {o : Option Addr} {A : List ByteArray} (h : RowS w o A) (g : Gr w w') : RowS w' o A := fun j s hj => by
  obtain ⟨b, off, e, hc⟩ := h j s hj
  exact ⟨b, off, e, kcell g hc⟩
theorem rowS_own {w : World} {g c : Nat} {A : List ByteArray} (h : w.ownsRow 0 9 1 (.slice (some ⟨g, 0, none⟩) A.length c) A.length (strs A)) : RowS w (some ⟨g, 0, none⟩) A := fun j s hj => by
  refine ⟨g, 0, rfl, ?_⟩
  have hl : j < A.length := (List.getElem?_eq_some_iff.1 hj).1
  rw [Nat.zero_add, World.ownsRow.cellAt h j (by omega)]
  unfold strs; rw [List.getElem?_map, hj]; rfl
theorem beq_of {x s : ByteArray} (h : x = s) : (x.toList == s.toList) = true := by rw [h]; exact beq_self_eq_true _
def sameB (A B : List ByteArray) : Bool := decide (A = B)
theorem same_step (A B : List ByteArray) (hl : A.length = B.length) (h : ∀ j, j < A.length → A[j]? = B[j]?) : sameB A B = true := by
  unfold sameB
  refine decide_eq_true (List.ext_getElem? fun j => ?_)
  rcases Nat.lt_or_ge j A.length with hj | hj
  · exact h j hj
  · rw [List.getElem?_eq_none hj, List.getElem?_eq_none (by omega)]
set_option maxHeartbeats 1600000 in
theorem e_same (w : World) (oa ob : Option Addr) (ca cb : Nat) (A B : List ByteArray) (hA : RowS w oa A) (hB : RowS w ob B) (hla : A.length ≤ 4000000000000000) :
    Calls Tryz.prog 13 #[.slice oa A.length ca, .slice ob B.length cb] w fun e w' => e = .returned (.bool (sameB A B)) ∧ Gr w w' := by
  by_cases hl : A.length = B.length
  · have HA := Lib.hid hA
    have HB := Lib.hid hB
    have HL := Lib.hid hl
    obtain ⟨n, hn⟩ : ∃ n, n = A.length := ⟨_, rfl⟩
    have HN := Lib.hid hn
    rw [← hl, ← hn]
    rw [← hn] at hla
    clear hA hB hl hn
    go_enter Tryz.func13, Tryz.ntmps13
    go_wp2_with fail
    go_loopw [5] (fun v wr => ∃ k : Nat, k ≤ n ∧ v = .int .i64 k ∧ (∀ j, j < k → A[j]? = B[j]?) ∧ Gr w wr) (fun v _ => n - (intOf v).toNat)
    case atStart => exact ⟨0, Nat.zero_le _, rfl, fun j h => absurd h (by omega), Gr.refl _⟩
    case round =>
      obtain ⟨k, hk, rfl, hj, hg⟩ := hrel
      have HJ := Lib.hid hj
      have HG := Lib.hid hg
      clear hj hg
      by_cases hlt : k < n
      · have dl : decide (k < n) = true := decide_eq_true hlt
        have ha : A[k]? = some (A[k]'(by have := HN.out; omega)) := List.getElem?_eq_getElem _
        have hb : B[k]? = some (B[k]'(by have := HN.out; have := HL.out; omega)) := List.getElem?_eq_getElem _
        obtain ⟨b1, o1, rfl, ca1⟩ := (HA.out.gr HG.out) k _ ha
        obtain ⟨b2, o2, rfl, ca2⟩ := (HB.out.gr HG.out) k _ hb
        generalize A[k]'_ = x at *
        generalize B[k]'_ = y at *
        have H1 := Lib.hid ha
        have H2 := Lib.hid hb
        clear ha hb
        by_cases hxy : x = y
        · subst hxy
          go_upto_region 6 with fail
          go_quiet (fail)
          go_wp2_with fail
          go_roundw
          case rel => exact ⟨k + 1, by omega, by go_num, fun j hj => by
            rcases Nat.lt_or_ge j k with h | h
            · exact HJ.out j h
            · have : j = k := by omega
              subst this; rw [H1.out, H2.out], HG.out.drewN _⟩
          case measure => simp [intOf]; omega
        · have hne := tl_ne hxy
          have HXY : RowKit.Hid (sameB A B = false) := Lib.hid (by
            unfold sameB; refine decide_eq_false (fun e => hxy ?_)
            have := H1.out; rw [e, H2.out] at this; injection this with this; exact this.symm)
          clear hxy
          go_upto_region 6 with fail
          go_quiet (fail)
          go_wp2_with fail
          go_ret
          exact ⟨by rw [HXY.out]; rfl, HG.out.drewN _⟩
      · obtain rfl : k = n := by omega
        have dl : decide (k < k) = false := decide_eq_false (by omega)
        go_wp2_with fail
        go_ret
        exact ⟨by rw [same_step A B HL.out (fun j h => HJ.out j (by have := HN.out; omega))]; rfl, HG.out⟩
  · have HXY : RowKit.Hid (sameB A B = false) := Lib.hid (decide_eq_false (fun e => hl (by rw [e])))
    have hl2 : ((A.length : Int) == (B.length : Int)) = false := beq_eq_false_iff_ne.2 (by omega)
    have hl3 : ((A.length : Int) != (B.length : Int)) = true := bne_iff_ne.2 (by omega)
    have hl4 : ¬ (A.length : Int) = (B.length : Int) := by omega
    go_enter Tryz.func13, Tryz.ntmps13
    go_wp2_with fail
    go_ret
    exact ⟨by rw [HXY.out]; rfl, Gr.refl _⟩
end Go.Proofs.YtgaibknhdaeidaaGreat.P
namespace Go.Proofs.YtgaibknhdaeidaaGreat.P
open Go.RowKit
def CloneR (l : List ByteArray) (w : World) (e : Ending) (w' : World) : Prop := ∃ g cap, e = .returned (.slice (some ⟨g, 0, none⟩) l.length cap) ∧ w'.ownsRow 0 9 1 (.slice (some ⟨g, 0, none⟩) l.length cap) l.length (strs l) ∧ w.heap.size ≤ g ∧ Gr w w'
set_option maxHeartbeats 1600000 in
theorem c_clone2 (w : World) (o : Option Addr) (c : Nat) (l : List ByteArray) (hn : 1 ≤ l.length) (hn2 : l.length ≤ 1000000) (hc : RowS w o l) :
    Calls Tryz.prog 41 #[.slice o l.length c] w (CloneR l w) := by
  obtain ⟨i0, hi, hz0, hz1, hz2⟩ := info_parts strInfo
  obtain ⟨sb, off, ho, _⟩ := hc 0 _ (List.getElem?_eq_getElem hn)
  have hcs : ∀ j u, (strs l)[j]? = some u → w.cell? ⟨sb, off + j, none⟩ = some u := fun j u hu => by
    unfold strs at hu
    rw [List.getElem?_map] at hu
    cases hs : l[j]? with
    | none => rw [hs] at hu; cases hu
    | some s =>
      rw [hs] at hu
      injection hu with hu
      obtain ⟨b2, o2, e2, h2⟩ := hc j s hs
      rw [ho] at e2
      injection e2 with e2
      injection e2 with e2 e3
      subst e2; subst e3; rw [h2, ← hu]
  subst ho
  have HC := Lib.hid hcs
  have HLS := Lib.hid (strs_length l)
  clear hcs hc
  obtain ⟨n, hln⟩ : ∃ n, n = l.length := ⟨_, rfl⟩
  have HL := Lib.hid hln
  rw [← hln] at hn hn2
  rw [show l.length = n from hln.symm]
  clear hln
  have hq : ∀ (w : World) (a : Addr) (n c : Nat), (binOp .eql 22 (.slice (some a) n c) (.slice none 0 0)).run Tryz.prog w = .ok (.bool false) w := fun w a n c => Go.Lib.run_eql_slice_nil w _ _ (some a) n c 0 0 Tryz.underlying22
  go_enter Tryz.func41, Tryz.ntmps41
  go_wp2_with (at_builtin; refine wpList_append_grows _ rfl _ _ 22 rfl 9 i0 (.string ⟨#[]⟩) 1 16 Tryz.underlying22 hi hz0 hz1 hz2 rfl (by decide) (some ⟨w.heap.size, 0, none⟩) 0 0 [] rfl (by simp) rfl (by intro b _ j u h; simp at h) ⟨sb, off, none⟩ n c (strs l) rfl (by rw [HLS.out, HL.out]; omega) (fun j u h => by rw [Addr.add_lit]; exact calloc _ (HC.out j u h)) (strs_one l) (by omega) (by unfold maxLen; omega) (by omega) ?_; intro v' w1 hown hgrow)
  go_ret
  have hg0 : Gr w (w.alloc (.cells #[] 9)) := Below.alloc (Below.refl _ _) (Nat.le_refl _) _
  have hg1 : Gr (w.alloc (.cells #[] 9)) w1 := ⟨hgrow.os, hgrow.tape, hgrow.output, hgrow.size, fun k hk => hgrow.block k hk (fun e => by cases e)⟩
  obtain ⟨h1, ⟨rfl, h2⟩ | ⟨g, cap, cur, rfl, hb, hr⟩⟩ := hown
  · omega
  · rw [Nat.zero_add] at *
    have hHL := HL.out
    subst hHL
    exact ⟨g, cap, rfl, ⟨h1, .inr ⟨g, cap, cur, rfl, Nat.zero_le _, hr⟩⟩, by have := hg0.size; omega, gtrans hg0 hg1⟩
set_option maxHeartbeats 1600000 in
theorem c_of (w : World) (o : Option Addr) (c : Nat) (A : List ByteArray) (h1 : 48 ≤ A.length) (h2 : A.length ≤ 544) (hA : RowS w o A) (h64 : ∀ s ∈ A, s.size = 64) :
    Calls Tryz.prog 27 #[.slice o A.length c] w (MadeD A w) := by
  have CC := Lib.hid (fun w' (g : Gr w w') => c_clone2 w' o c A (by omega) (by omega) (hA.gr g))
  have HA := Lib.hid hA
  have H64 := Lib.hid h64
  have HZ := Lib.hid (newZ_wz A h1 h2)
  clear hA h64
  have hb : (decide (48 ≤ (A.length : Int)) && decide ((A.length : Int) ≤ 544)) = true := by
    rw [Bool.and_eq_true, decide_eq_true_eq, decide_eq_true_eq]; omega
  have CM := c_may (A.length : Int) w
  rw [hb] at CM
  have HM := Lib.hid CM
  clear hb CM
  obtain ⟨n, hn⟩ : ∃ n, n = A.length := ⟨_, rfl⟩
  have HN := Lib.hid hn
  rw [← hn] at h1 h2 HM CC
  rw [show A.length = n from hn.symm]
  clear hn
  go_enter Tryz.func27, Tryz.ntmps27
  go_wp2_with fail
  refine HM.out.mono ?_
  rintro e w' ⟨rfl, h9⟩
  subst h9
  go_wp2_with fail
  go_loop [12] (fun v => ∃ k : Nat, k ≤ n ∧ v = .int .i64 k) (fun v => n - (intOf v).toNat)
  case atStart => exact ⟨0, Nat.zero_le _, rfl⟩
  case round =>
    obtain ⟨k, hk, rfl⟩ := hrel
    by_cases hlt : k < n
    · have dl : decide (k < n) = true := decide_eq_true hlt
      have hx : A[k]? = some (A[k]'(by have := HN.out; omega)) := List.getElem?_eq_getElem _
      have hs : (A[k]'(by have := HN.out; omega)).size = 64 := H64.out _ (List.getElem_mem _)
      obtain ⟨b, off, rfl, hc⟩ := HA.out k _ hx
      generalize A[k]'_ = x at *
      have hs2 : ((x.size : Int) == 64) = true := by rw [beq_iff_eq]; omega
      have hs3 : ((x.size : Int) != 64) = false := by rw [bne_eq_false_iff_eq]; omega
      have hs4 : (x.size : Int) = 64 := by omega
      clear hs hx hs2 hs3
      go_wp2_with fail
      go_round
      case rel => exact ⟨k + 1, by omega, by go_num⟩
      case measure => simp [intOf]; omega
    · obtain rfl : k = n := by omega
      have dl : decide (k < k) = false := decide_eq_false (by omega)
      go_wp2_with fail
      refine (CC.out _ (Gr.refl _)).mono ?_
      rintro e w2 ⟨g, cap, rfl, hown, hge, hgr⟩
      have HOWN := Lib.hid hown
      have HGE := Lib.hid hge
      have HGR := Lib.hid hgr
      clear hown hge hgr
      rw [← HN.out]
      go_wp2_with fail
      go_ret2
      have hrow : (w2.alloc (.cells #[.slice (some ⟨g, 0, none⟩) k cap, .slice none 0 0, .bool false, .bool false, .int .i64 0] 75)).ownsRow 0 9 1 (.slice (some ⟨g, 0, none⟩) A.length cap) A.length (strs A) := HOWN.out.alloc _
      have hl := ownsRow_lt HOWN.out
      refine ⟨w2.heap.size, fun x => x = w2.heap.size ∨ x = g, rfl, ⟨HZ.out, g, none, ⟨cap, none, 0, ?_, hrow, ⟨rfl, .inl ⟨rfl, rfl⟩⟩, rfl, by omega, by simp, by simp⟩, fun x hx => ?_⟩, fun x hx => ?_, HGR.out.alloc HGR.out.size _⟩
      · have := blk_new w2 (.cells #[.slice (some ⟨g, 0, none⟩) k cap, .slice none 0 0, .bool false, .bool false, .int .i64 0] 75)
        rw [this, HN.out]; rfl
      · rcases hx with hx | hx | hx
        · exact .inl hx
        · exact .inr hx
        · cases hx
      · have := HGR.out.size
        have := HGE.out
        rcases hx with hx | hx
        · simp [hx]; omega
        · simp [hx]; omega
end Go.Proofs.YtgaibknhdaeidaaGreat.P
namespace Go.Proofs.YtgaibknhdaeidaaGreat.P
open Go.RowKit
theorem wpList_append_run {P : Program} {w : World} {ops : Array Oper} {rest : List Oper} {o : Oper} {a : Act} {Q : Exit → Act → World → Prop} (hg : o.guard = none) (s x : Operand) (t : TypeId)
    (hop : o.op = Op.call { callee := Callee.builtin Builtin.append, args := #[s, x], argTypes := #[t, t] }) (v1 v2 r : Value) (w' : World) (hs : a.eval s = v1) (hx : a.eval x = v2)
    (hrun : (Builtin.append_ #[t, t] o.type #[v1, v2]).run P w = .ok r w') (h : wpList P ops Q rest (a.put o.dst r) w') : wpList P ops Q (o :: rest) a w := by
  refine wpList_plain hg fun K hK => ?_
  unfold Oper.wp
  simp [execOp, hop, resolve, invoke, builtin, hs, hx, hrun, Result.andThen]
  exact hK _ _ h
theorem run_append_empty {P : Program} (w : World) (t ty e : TypeId) (i : TypeInfo) (ht : P.underlying t = some (.slice e)) (hi : P.info? e = some i) (a : Addr) (n cap : Nat) (h : n ≤ cap) (o : Option Addr) (c : Nat) :
    (Builtin.append_ #[t, t] ty #[.slice (some a) n cap, .slice o 0 c]).run P w = .ok (.slice (some a) n cap) w := by
  cases o <;> simp [Builtin.append_, run_underlying ht, sizeOf, typeInfo, hi, Builtin.lenOf, Builtin.firstCells, h, storeCells, loadCells, loadCellsFrom]
/-- May it be a disk's sectors? -/
def okRow (A : List ByteArray) : Bool := decide (48 ≤ A.length) && decide (A.length ≤ 544) && A.all (fun s => decide (s.size = 64))
theorem all_take (A : List ByteArray) (k : Nat) (x : ByteArray) (hx : A[k]? = some x) : (A.take (k + 1)).all (fun s => decide (s.size = 64)) = ((A.take k).all (fun s => decide (s.size = 64)) && decide (x.size = 64)) := by
  obtain ⟨hk, e⟩ := List.getElem?_eq_some_iff.1 hx
  rw [List.take_succ_eq_append_getElem hk, List.all_append, e]
  simp
set_option maxHeartbeats 1600000 in
theorem c_of_no (w : World) (o : Option Addr) (c : Nat) (A : List ByteArray) (hl : A.length ≤ 4000000000000000) (hA : RowS w o A) (hn : okRow A = false) :
    Calls Tryz.prog 27 #[.slice o A.length c] w fun e w' => e = .returned (.tuple #[.pointer none, .int .i64 1]) ∧ Gr w w' := by
  have CM := Lib.hid (c_may (A.length : Int) w)
  cases hm : (decide (48 ≤ (A.length : Int)) && decide ((A.length : Int) ≤ 544)) with
  | false =>
    rw [hm] at CM
    clear hm hn hA
    go_enter Tryz.func27, Tryz.ntmps27
    go_wp2_with fail
    refine CM.out.mono ?_
    rintro e w' ⟨rfl, h9⟩
    subst h9
    go_wp2_with fail
    go_ret2
    exact ⟨rfl, Gr.refl _⟩
  | true =>
    rw [hm] at CM
    have hb : A.all (fun s => decide (s.size = 64)) = false := by
      unfold okRow at hn
      rw [Bool.and_eq_true, decide_eq_true_eq, decide_eq_true_eq] at hm
      rw [decide_eq_true (by omega), decide_eq_true (by omega)] at hn
      simpa using hn
    have HA := Lib.hid hA
    have HB := Lib.hid hb
    obtain ⟨n, hn⟩ : ∃ n, n = A.length := ⟨_, rfl⟩
    have HN := Lib.hid hn
    rw [← hn] at CM hl
    rw [show A.length = n from hn.symm]
    clear hn hm hb hA
    go_enter Tryz.func27, Tryz.ntmps27
    go_wp2_with fail
    refine CM.out.mono ?_
    rintro e w' ⟨rfl, h9⟩
    subst h9
    go_wp2_with fail
    go_loop [12] (fun v => ∃ k : Nat, k ≤ n ∧ v = .int .i64 k ∧ (A.take k).all (fun s => decide (s.size = 64)) = true) (fun v => n - (intOf v).toNat)
    case atStart => exact ⟨0, Nat.zero_le _, rfl, by rw [List.take_zero]; rfl⟩
    case round =>
      obtain ⟨k, hk, rfl, hall⟩ := hrel
      have HALL := Lib.hid hall
      clear hall
      by_cases hlt : k < n
      · have dl : decide (k < n) = true := decide_eq_true hlt
        have hx : A[k]? = some (A[k]'(by have := HN.out; omega)) := List.getElem?_eq_getElem _
        obtain ⟨b, off, rfl, hc⟩ := HA.out k _ hx
        have hat := all_take A k _ hx
        generalize A[k]'_ = x at *
        have HAT := Lib.hid hat
        clear hx hat
        by_cases hs : x.size = 64
        · have hs4 : (x.size : Int) = 64 := by omega
          have hd : decide (x.size = 64) = true := decide_eq_true hs
          rw [hd, HALL.out] at HAT
          clear hs hd
          go_wp2_with fail
          go_round
          case rel => exact ⟨k + 1, by omega, by go_num, HAT.out⟩
          case measure => simp [intOf]; omega
        · have hs4 : ¬ (x.size : Int) = 64 := by omega
          have hs3 : ((x.size : Int) != 64) = true := bne_iff_ne.2 hs4
          clear hs
          go_wp2_with fail
          go_ret2
          exact ⟨rfl, Gr.refl _⟩
      · obtain rfl : k = n := by omega
        exfalso
        have h1 := HALL.out
        rw [HN.out, List.take_of_length_le (Nat.le_refl _), HB.out] at h1
        cases h1
set_option maxHeartbeats 1600000 in
theorem e_of_no (w : World) (o : Option Addr) (c : Nat) (A : List ByteArray) (hl : A.length ≤ 4000000000000000) (hA : RowS w o A) (hn : okRow A = false) :
    Calls Tryz.prog 25 #[.slice o A.length c] w fun e w' => e = .returned (.pointer none) ∧ Gr w w' := by
  have CM := Lib.hid (e_takes (A.length : Int) w)
  obtain ⟨b0, hb0⟩ : ∃ b0, b0 = (decide (48 ≤ (A.length : Int)) && decide ((A.length : Int) ≤ 544)) := ⟨_, rfl⟩
  rw [← hb0] at CM
  have hb : (b0 && A.all (fun s => decide (s.size = 64))) = false := by
    rw [hb0]
    have e1 : decide (48 ≤ (A.length : Int)) = decide (48 ≤ A.length) := by rw [decide_eq_decide]; omega
    have e2 : decide ((A.length : Int) ≤ 544) = decide (A.length ≤ 544) := by rw [decide_eq_decide]; omega
    rw [e1, e2]; exact hn
  have HA := Lib.hid hA
  have HB := Lib.hid hb
  obtain ⟨n, hnn⟩ : ∃ n, n = A.length := ⟨_, rfl⟩
  have HN := Lib.hid hnn
  rw [← hnn] at CM hl
  rw [show A.length = n from hnn.symm]
  clear hnn hb hA hb0 hn
  go_enter Tryz.func25, Tryz.ntmps25
  go_wp2_with fail
  refine CM.out.mono ?_
  rintro e w' ⟨rfl, h9⟩
  subst h9
  go_wp2_with fail
  go_loop [3, 4] (fun v3 v4 => ∃ (k : Nat) (b : Bool), k ≤ n ∧ v4 = .int .i64 k ∧ v3 = .bool b ∧ b = (b0 && (A.take k).all (fun s => decide (s.size = 64)))) (fun _ v4 => n - (intOf v4).toNat)
  case atStart => exact ⟨0, b0, Nat.zero_le _, rfl, rfl, by rw [List.take_zero]; simp⟩
  case round =>
    obtain ⟨k, b, hk, rfl, rfl, hall⟩ := hrel
    have HALL := Lib.hid hall
    clear hall
    by_cases hlt : k < n
    · have dl : decide (k < n) = true := decide_eq_true hlt
      have hx : A[k]? = some (A[k]'(by have := HN.out; omega)) := List.getElem?_eq_getElem _
      obtain ⟨b, off, rfl, hc⟩ := HA.out k _ hx
      have hat := all_take A k _ hx
      generalize A[k]'_ = x at *
      have HAT := Lib.hid hat
      clear hx hat
      rename_i bb
      cases bb with
      | false =>
        go_wp2_with fail
        go_round
        case rel => exact ⟨k + 1, false, by omega, by go_num, rfl, by rw [HAT.out, ← Bool.and_assoc, ← HALL.out]; rfl⟩
        case measure => simp [intOf]; omega
      | true =>
        by_cases hs : x.size = 64
        · have hs4 : (x.size : Int) = 64 := by omega
          have hd : decide (x.size = 64) = true := decide_eq_true hs
          rw [hd] at HAT
          clear hs hd
          go_wp2_with fail
          go_round
          case rel => exact ⟨k + 1, true, by omega, by go_num, rfl, by rw [HAT.out, ← Bool.and_assoc, ← HALL.out]; rfl⟩
          case measure => simp [intOf]; omega
        · have hs4 : ¬ (x.size : Int) = 64 := by omega
          have hd : decide (x.size = 64) = false := decide_eq_false hs
          rw [hd] at HAT
          have hs3 : ((x.size : Int) == 64) = false := beq_eq_false_iff_ne.2 hs4
          clear hs hd
          go_wp2_with fail
          go_round
          case rel => exact ⟨k + 1, false, by omega, by go_num, rfl, by rw [HAT.out, ← Bool.and_assoc, ← HALL.out]; rfl⟩
          case measure => simp [intOf]; omega
    · obtain rfl : k = n := by omega
      have dl : decide (k < k) = false := decide_eq_false (by omega)
      obtain rfl : b = false := by
        have h1 := HALL.out
        rw [HN.out, List.take_of_length_le (Nat.le_refl _), HB.out] at h1
        exact h1
      go_wp2_with fail
      go_ret
      exact ⟨rfl, Gr.refl _⟩
end Go.Proofs.YtgaibknhdaeidaaGreat.P
