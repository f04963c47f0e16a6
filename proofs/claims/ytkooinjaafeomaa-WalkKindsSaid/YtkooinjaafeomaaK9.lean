/- Stage 4: WalkKinds. No condition. -/
import Derived.Test.YtkooinjaafeomaaK8
set_option linter.unusedVariables false
namespace Go.Proofs.Ytkooinjaafeomaa.P
open Go.RowKit Go.MuLone Go.Proofs.Ytkooinjaafeomaa.W
theorem storeS_len (s : List UInt8) (a n v : Int) (ha : 0 ≤ a) : (storeS s a n v).length = s.length := by
  unfold storeS; split
  · split
    · rename_i h1 h2
      have h3 : a + n ≤ s.length := of_decide_eq_true h2
      have h4 := sized_nat h1
      obtain ⟨m, rfl⟩ : ∃ m : Nat, n = (m : Int) := ⟨n.toNat, by omega⟩
      refine putL_len _ _ _ ?_
      rw [Array.length_toList, show (bytesF v m).data.size = m by rw [show (bytesF v m).data.size = (bytesF v m).size from rfl, bytes_size, clamp_sized h1]]
      omega
    · rfl
  · rfl
set_option maxRecDepth 100000 in
theorem sub_put_same (s : List UInt8) (a : Nat) (x : List UInt8) (h : a + x.length ≤ s.length) : ((putL s a x).drop a).take x.length = x := by
  unfold putL
  have e : (s.take a).length = a := by simp; omega
  rw [List.drop_append, List.drop_eq_nil_of_le (by omega), List.nil_append, e, Nat.sub_self, List.drop_zero, List.take_left']
  rfl
theorem sub_put_other (s : List UInt8) (a : Nat) (x : List UInt8) (h : a + x.length ≤ s.length) (p n : Nat) (hp : p + n ≤ a ∨ a + x.length ≤ p) : ((putL s a x).drop p).take n = (s.drop p).take n := by
  apply List.ext_getElem?
  intro i
  by_cases hi : i < n
  · rw [List.getElem?_take_of_lt hi, List.getElem?_take_of_lt hi, List.getElem?_drop, List.getElem?_drop]
    unfold putL
    have e : (s.take a).length = a := by simp; omega
    rcases hp with hp | hp
    · rw [List.getElem?_append_left (by omega), List.getElem?_take_of_lt (by omega)]
    · rw [List.getElem?_append_right (by omega), List.getElem?_append_right (by omega), e, List.getElem?_drop]
      congr 1; omega
  · rw [List.getElem?_eq_none (by simp; omega), List.getElem?_eq_none (by simp; omega)]
set_option maxRecDepth 100000 in
theorem store_put (s : List UInt8) (a : Nat) (v : Int) (h : a + 8 ≤ s.length) : storeS s a 8 v = putL s a (bytesF v 8).data.toList ∧ (bytesF v 8).data.toList.length = 8 := by
  have hl : (bytesF v 8).data.toList.length = 8 := by
    have := bytes_size v 8
    rw [show clampN 8 = 8 by decide] at this
    rw [Array.length_toList]; exact this
  refine ⟨?_, hl⟩
  unfold storeS inB
  rw [if_pos (show sizedB 8 = true from rfl), if_pos (decide_eq_true (by omega)), Int.toNat_natCast]
theorem ent_sub (s : List UInt8) (a : Nat) (h : a + 8 ≤ s.length) : entS s a = ofF (subB s a 8) := by
  unfold entS loadV inB
  rw [if_pos (show sizedB 8 = true from rfl), if_pos (decide_eq_true (by omega)), Int.toNat_natCast]; rfl
theorem ent_same (s : List UInt8) (a : Nat) (v : Int) (h : a + 8 ≤ s.length) (hv : W.word v) : entS (storeS s a 8 v) a = v := by
  have hlen := storeS_len s a 8 v (by omega)
  rw [ent_sub _ _ (by omega), (store_put s a v h).1]
  have hl := (store_put s a v h).2
  have e : subB (putL s a (bytesF v 8).data.toList) a 8 = bytesF v 8 := by
    unfold subB
    have := sub_put_same s a (bytesF v 8).data.toList (by omega)
    rw [hl] at this
    rw [this]
  rw [e, of_bytes v 8 hv]
  rw [show clampN 8 = 8 by decide]
  unfold lowF
  rw [if_neg (by decide), if_pos (by decide)]
theorem ent_other (s : List UInt8) (a p : Nat) (v : Int) (h : a + 8 ≤ s.length) (hp : p + 8 ≤ s.length) (hd : p + 8 ≤ a ∨ a + 8 ≤ p) : entS (storeS s a 8 v) p = entS s p := by
  have hlen := storeS_len s a 8 v (by omega)
  have hl := (store_put s a v h).2
  rw [ent_sub _ _ (by omega), ent_sub _ _ hp, (store_put s a v h).1]
  unfold subB
  rw [sub_put_other s a _ (by omega) p 8 (by omega)]
theorem low_may (n v : Int) (hn : n = 2 ∨ n = 4 ∨ n = 8) : mayB n (3072 + v % 1024) = mayB n v := by
  unfold mayB
  rw [show (3072 + v % 1024) % 2 = v % 2 by omega, show (3072 + v % 1024) / 16 % 2 = v / 16 % 2 by omega]
  congr 2
  apply decide_eq_decide.2
  rcases hn with rfl | rfl | rfl <;> omega
def sKinds (v : Int) : List UInt8 := stW (fun i => match i with | 0 => ⟨0, 1025⟩ | 1 => ⟨256, 2049⟩ | _ => ⟨512, 3072 + v % 1024⟩) 3
set_option maxRecDepth 100000 in
theorem kinds_ent (v : Int) (hv : 0 ≤ v) : entS (sKinds v) 0 = 1025 ∧ entS (sKinds v) 256 = 2049 ∧ entS (sKinds v) 512 = 3072 + v % 1024 := by
  have l0 : (List.replicate (8 * 256) (0 : UInt8)).length = 2048 := List.length_replicate
  have l1 := (storeS_len (List.replicate (8 * 256) 0) 0 8 1025 (by decide)).trans l0
  have l2 := (storeS_len _ 256 8 2049 (by decide)).trans l1
  have e : sKinds v = storeS (storeS (storeS (List.replicate (8 * 256) 0) 0 8 1025) 256 8 2049) 512 8 (3072 + v % 1024) := rfl
  rw [e]
  generalize List.replicate (8 * 256) (0 : UInt8) = z at *
  refine ⟨?_, ?_, ?_⟩
  · have a1 := ent_other (storeS (storeS z 0 8 1025) 256 8 2049) 512 0 (3072 + v % 1024) (by omega) (by omega) (by omega)
    have a2 := ent_other (storeS z 0 8 1025) 256 0 2049 (by omega) (by omega) (by omega)
    have a3 := ent_same z 0 1025 (by omega) ⟨by decide, by decide⟩
    exact a1.trans (a2.trans a3)
  · have a1 := ent_other (storeS (storeS z 0 8 1025) 256 8 2049) 512 256 (3072 + v % 1024) (by omega) (by omega) (by omega)
    have a2 := ent_same (storeS z 0 8 1025) 256 2049 (by omega) ⟨by decide, by decide⟩
    exact a1.trans a2
  · exact ent_same (storeS (storeS z 0 8 1025) 256 8 2049) 512 (3072 + v % 1024) (by omega) ⟨by omega, by omega⟩
set_option maxRecDepth 100000 in
theorem kinds_leaf (v : Int) (hv : 0 ≤ v) : leafR 8 (sKinds v) 0 5 = 0 ∧ leafV 8 (sKinds v) 0 5 = 512 := by
  obtain ⟨h0, h1, h2⟩ := kinds_ent v hv
  have ea : leafA (sKinds v) 0 5 = 1025 := h0
  have ec : leafC (sKinds v) 0 5 = 2049 := by
    unfold leafC; rw [ea]; exact h1
  have er : leafR 8 (sKinds v) 0 5 = 0 := by unfold leafR; rw [ea, ec]; rfl
  exact ⟨er, by unfold leafV; rw [er, ec]; rfl⟩
set_option maxRecDepth 100000 in
theorem kinds_walk (v acc : Int) (hv : 0 ≤ v) : walkR 8 (sKinds v) 0 5 acc = (bif decide (neededI acc = 0) then 1 else bif mayB (neededI acc) v then 0 else 3) ∧ walkV 8 (sKinds v) 0 5 acc = (bif decide (walkR 8 (sKinds v) 0 5 acc = 0) then 773 else 0) := by
  have hE : walkE 8 (sKinds v) 0 5 = 3072 + v % 1024 := by unfold walkE; rw [(kinds_leaf v hv).2]; exact (kinds_ent v hv).2.2
  have hq : (3072 + v % 1024) / 1024 = 3 := by omega
  have hr : walkR 8 (sKinds v) 0 5 acc = (bif decide (neededI acc = 0) then 1 else bif mayB (neededI acc) v then 0 else 3) := by
    rcases needed_in acc with hn | hn
    · unfold walkR; rw [hn]; simp only [decide_true, cond_true]
    · unfold walkR
      rw [(kinds_leaf v hv).1, hE, low_may _ v hn, hq]
      rw [show decide ((3 : Int) < ((8 : Nat) : Int)) = true from rfl, Bool.and_true]; rfl
  exact ⟨hr, by unfold walkV; rw [hE, hq]; rfl⟩
theorem entry3 (v : Int) (hv : 0 ≤ v) : entryI 3 v = 3072 + v % 1024 := by unfold entryI; rw [if_neg (by decide)]; rfl
theorem sKinds_eq (v : Int) : stW (fun i => match i with | 0 => ⟨0, 1025⟩ | 1 => ⟨256, 2049⟩ | _ => ⟨512, 3072 + v % 1024⟩) 3 = sKinds v := rfl
set_option maxRecDepth 100000 in
set_option maxHeartbeats 1600000 in
theorem l_kkinds (v acc : Int) (hv : u64 v) (w : World) : Calls Try.prog 7 #[.int .u64 v, .int .i64 acc] w fun e w' => e = .returned (.bool true) ∧ Gr w w' := by
  have HU := Lib.hid hv
  obtain ⟨v0, v1⟩ := hv
  have CE : ∀ w : World, Calls Try.prog 10 #[.int .i64 3, .int .u64 v] w fun e w' => e = .returned (.int .u64 (3072 + v % 1024)) ∧ w' = w := fun w => by rw [← entry3 v v0]; exact c_kentry 3 v ⟨by decide, by decide⟩ HU.out w
  go_enter Try.func7, Try.ntmps7
  go_wp2_with fail
  refine (c_kshown _).mono ?_; rintro e w1 ⟨rfl, g⟩
  have G := Lib.hid g; clear g
  go_wp2_with (go_at_call 10; refine (CE _).mono ?_; rintro e w' ⟨rfl, rfl⟩)
  have hu : (w'.alloc (.cells #[.int .u64 0, .int .u64 1025, .int .u64 256, .int .u64 2049, .int .u64 512, .int .u64 (3072 + v % 1024)] 53)).heap[w'.heap.size]? = some (.cells #[.int .u64 0, .int .u64 1025, .int .u64 256, .int .u64 2049, .int .u64 512, .int .u64 (3072 + v % 1024)] 53) := blk_new w' _
  have hg : Gr w (w'.alloc (.cells #[.int .u64 0, .int .u64 1025, .int .u64 256, .int .u64 2049, .int .u64 512, .int .u64 (3072 + v % 1024)] 53)) := gtrans G.out (Below.alloc (Below.refl _ _) (Nat.le_refl _) _)
  refine (c_memory _ _ 3 3 w'.heap.size 0 (fun i => match i with | 0 => ⟨0, 1025⟩ | 1 => ⟨256, 2049⟩ | _ => ⟨512, 3072 + v % 1024⟩) (by decide) (fun _ => ⟨rfl, blk_lt hu⟩) (words3 hu ⟨⟨by decide, by decide⟩, ⟨by decide, by decide⟩⟩ ⟨⟨by decide, by decide⟩, ⟨by decide, by decide⟩⟩ ⟨⟨by decide, by decide⟩, ⟨by omega, by omega⟩⟩)).mono ?_; rintro e w2 ⟨b, rb, vb, rfl, h⟩
  rw [sKinds_eq] at h
  have H2 := Lib.hid (PW.up hg h)
  clear h hu hg
  have HK := Lib.hid (kinds_walk v acc v0)
  go_wp2_with fail
  have hc : (acc < 1 ∨ 3 < acc) ∨ (acc = 1 ∨ acc = 2 ∨ acc = 3) := by omega
  rcases hc with hc | hc
  · have hn : neededI acc = 0 := by unfold neededI; rw [if_neg (by omega), if_neg (by omega), if_neg (by omega)]
    have HX : RowKit.Hid (walkR 8 (sKinds v) 0 5 acc = 1) := Lib.hid (by rw [HK.out.1, hn]; simp only [decide_true, cond_true])
    have HV : RowKit.Hid (walkV 8 (sKinds v) 0 5 acc = 0) := Lib.hid (by rw [HK.out.2, HX.out]; rfl)
    clear hn
    refine (pw_walk H2.out 0 5 acc 0 1 ⟨by decide, by decide⟩ ⟨by decide, by decide⟩ HV.out HX.out).mono ?_; rintro e w3 ⟨rfl, h⟩
    have H3 := Lib.hid h; clear h
    rcases hc with hc | hc
    · have d1 : decide (acc < 1) = true := decide_eq_true hc
      go_wp2_with fail
      go_ret
      exact ⟨rfl, gtrans H3.out.1 (Below.alloc (Below.refl _ _) (Nat.le_refl _) _)⟩
    · have d1 : decide (acc < 1) = false := decide_eq_false (by omega)
      have d2 : decide (3 < acc) = true := decide_eq_true hc
      go_wp2_with fail
      go_ret
      exact ⟨rfl, gtrans H3.out.1 (Below.alloc (Below.refl _ _) (Nat.le_refl _) _)⟩
  · rcases hc with hc | hc | hc
    · subst hc
      have hor : bits .or .u64 17 2 = 19 := rfl
      have hmb := may_bits 2 v (by omega) ⟨v0, by omega⟩
      have hX0 : walkR 8 (sKinds v) 0 5 1 = bif mayB 2 v then 0 else 3 := HK.out.1
      obtain ⟨q, hq⟩ : ∃ q, q = bits .and .u64 v 19 := ⟨_, rfl⟩
      have hand : bits .and .u64 v 19 = q := hq.symm
      change decide (bits .and .u64 v 19 = 19) = mayB 2 v at hmb
      rw [hand] at hmb
      clear hq
      cases hm : mayB 2 v with
      | true =>
        rw [hm] at hmb hX0
        have hq2 : q = 19 := of_decide_eq_true hmb
        subst hq2
        have HX : RowKit.Hid (walkR 8 (sKinds v) 0 5 1 = 0) := Lib.hid hX0
        have HV : RowKit.Hid (walkV 8 (sKinds v) 0 5 1 = 773) := Lib.hid (by rw [HK.out.2, HX.out]; rfl)
        clear hm hmb hX0
        refine (pw_walk H2.out 0 5 1 773 0 ⟨by decide, by decide⟩ ⟨by decide, by decide⟩ HV.out HX.out).mono ?_; rintro e w3 ⟨rfl, h⟩
        have H3 := Lib.hid h; clear h
        go_wp2_with fail
        go_ret
        exact ⟨rfl, gtrans H3.out.1 (Below.alloc (Below.refl _ _) (Nat.le_refl _) _)⟩
      | false =>
        rw [hm] at hmb hX0
        have hq2 : ¬ q = 19 := of_decide_eq_false hmb
        have hq3 : (q == 19) = false := by simpa using hq2
        have HX : RowKit.Hid (walkR 8 (sKinds v) 0 5 1 = 3) := Lib.hid hX0
        have HV : RowKit.Hid (walkV 8 (sKinds v) 0 5 1 = 0) := Lib.hid (by rw [HK.out.2, HX.out]; rfl)
        clear hm hmb hX0
        refine (pw_walk H2.out 0 5 1 0 3 ⟨by decide, by decide⟩ ⟨by decide, by decide⟩ HV.out HX.out).mono ?_; rintro e w3 ⟨rfl, h⟩
        have H3 := Lib.hid h; clear h
        go_wp2_with fail
        go_ret
        exact ⟨ret_b (by simp), gtrans H3.out.1 (Below.alloc (Below.refl _ _) (Nat.le_refl _) _)⟩
    · subst hc
      have hor : bits .or .u64 17 4 = 21 := rfl
      have hmb := may_bits 4 v (by omega) ⟨v0, by omega⟩
      have hX0 : walkR 8 (sKinds v) 0 5 2 = bif mayB 4 v then 0 else 3 := HK.out.1
      obtain ⟨q, hq⟩ : ∃ q, q = bits .and .u64 v 21 := ⟨_, rfl⟩
      have hand : bits .and .u64 v 21 = q := hq.symm
      change decide (bits .and .u64 v 21 = 21) = mayB 4 v at hmb
      rw [hand] at hmb
      clear hq
      cases hm : mayB 4 v with
      | true =>
        rw [hm] at hmb hX0
        have hq2 : q = 21 := of_decide_eq_true hmb
        subst hq2
        have HX : RowKit.Hid (walkR 8 (sKinds v) 0 5 2 = 0) := Lib.hid hX0
        have HV : RowKit.Hid (walkV 8 (sKinds v) 0 5 2 = 773) := Lib.hid (by rw [HK.out.2, HX.out]; rfl)
        clear hm hmb hX0
        refine (pw_walk H2.out 0 5 2 773 0 ⟨by decide, by decide⟩ ⟨by decide, by decide⟩ HV.out HX.out).mono ?_; rintro e w3 ⟨rfl, h⟩
        have H3 := Lib.hid h; clear h
        go_wp2_with fail
        go_ret
        exact ⟨rfl, gtrans H3.out.1 (Below.alloc (Below.refl _ _) (Nat.le_refl _) _)⟩
      | false =>
        rw [hm] at hmb hX0
        have hq2 : ¬ q = 21 := of_decide_eq_false hmb
        have hq3 : (q == 21) = false := by simpa using hq2
        have HX : RowKit.Hid (walkR 8 (sKinds v) 0 5 2 = 3) := Lib.hid hX0
        have HV : RowKit.Hid (walkV 8 (sKinds v) 0 5 2 = 0) := Lib.hid (by rw [HK.out.2, HX.out]; rfl)
        clear hm hmb hX0
        refine (pw_walk H2.out 0 5 2 0 3 ⟨by decide, by decide⟩ ⟨by decide, by decide⟩ HV.out HX.out).mono ?_; rintro e w3 ⟨rfl, h⟩
        have H3 := Lib.hid h; clear h
        go_wp2_with fail
        go_ret
        exact ⟨ret_b (by simp), gtrans H3.out.1 (Below.alloc (Below.refl _ _) (Nat.le_refl _) _)⟩
    · subst hc
      have hor : bits .or .u64 17 8 = 25 := rfl
      have hmb := may_bits 8 v (by omega) ⟨v0, by omega⟩
      have hX0 : walkR 8 (sKinds v) 0 5 3 = bif mayB 8 v then 0 else 3 := HK.out.1
      obtain ⟨q, hq⟩ : ∃ q, q = bits .and .u64 v 25 := ⟨_, rfl⟩
      have hand : bits .and .u64 v 25 = q := hq.symm
      change decide (bits .and .u64 v 25 = 25) = mayB 8 v at hmb
      rw [hand] at hmb
      clear hq
      cases hm : mayB 8 v with
      | true =>
        rw [hm] at hmb hX0
        have hq2 : q = 25 := of_decide_eq_true hmb
        subst hq2
        have HX : RowKit.Hid (walkR 8 (sKinds v) 0 5 3 = 0) := Lib.hid hX0
        have HV : RowKit.Hid (walkV 8 (sKinds v) 0 5 3 = 773) := Lib.hid (by rw [HK.out.2, HX.out]; rfl)
        clear hm hmb hX0
        refine (pw_walk H2.out 0 5 3 773 0 ⟨by decide, by decide⟩ ⟨by decide, by decide⟩ HV.out HX.out).mono ?_; rintro e w3 ⟨rfl, h⟩
        have H3 := Lib.hid h; clear h
        go_wp2_with fail
        go_ret
        exact ⟨rfl, gtrans H3.out.1 (Below.alloc (Below.refl _ _) (Nat.le_refl _) _)⟩
      | false =>
        rw [hm] at hmb hX0
        have hq2 : ¬ q = 25 := of_decide_eq_false hmb
        have hq3 : (q == 25) = false := by simpa using hq2
        have HX : RowKit.Hid (walkR 8 (sKinds v) 0 5 3 = 3) := Lib.hid hX0
        have HV : RowKit.Hid (walkV 8 (sKinds v) 0 5 3 = 0) := Lib.hid (by rw [HK.out.2, HX.out]; rfl)
        clear hm hmb hX0
        refine (pw_walk H2.out 0 5 3 0 3 ⟨by decide, by decide⟩ ⟨by decide, by decide⟩ HV.out HX.out).mono ?_; rintro e w3 ⟨rfl, h⟩
        have H3 := Lib.hid h; clear h
        go_wp2_with fail
        go_ret
        exact ⟨ret_b (by simp), gtrans H3.out.1 (Below.alloc (Below.refl _ _) (Nat.le_refl _) _)⟩
end Go.Proofs.Ytkooinjaafeomaa.P
