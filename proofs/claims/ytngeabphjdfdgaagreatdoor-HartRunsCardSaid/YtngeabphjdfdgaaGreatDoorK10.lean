/- Stage 4: the document's Leaf and Walk. No condition. -/
import Derived.Test.YtngeabphjdfdgaaGreatDoorON
set_option linter.unusedVariables false
namespace Go.Proofs.YtngeabphjdfdgaaGreatDoor.P
open Go.RowKit Go.MuLone Go.Proofs.YtngeabphjdfdgaaGreatDoor.W
theorem r_root (rb vb : Nat) (s : List UInt8) (t : Int) (w : World) (h : RMemO w rb vb s t) (n : Int) (fr : Nat) (hs : s.length = fr * 256) :
    Calls Tryz.prog 70 #[.pointer (some ⟨rb, 0, none⟩), .int .i64 n] w fun e w' => e = .returned (.bool (decide (0 ≤ n) && decide (n < fr))) ∧ w' = w := by
  have c0 := blk_cell h.1 0 (v := .slice (some ⟨vb, 0, none⟩) s.length s.length) rfl
  have hl := h.2.2.2
  clear h
  by_cases h0 : 0 ≤ n
  · have hd : ((s.length : Nat) : Int) / 256 = (fr : Int) := by omega
    have e : decide (0 ≤ n) = true := decide_eq_true h0
    rw [e, Bool.true_and]
    generalize s.length = N at *
    clear hs
    go_enter Tryz.func70, Tryz.ntmps70
    go_wp2_with fail
    go_ret
    exact ⟨rfl, rfl⟩
  · have e : decide (0 ≤ n) = false := decide_eq_false h0
    rw [e, Bool.false_and]
    generalize s.length = N at *
    go_enter Tryz.func70, Tryz.ntmps70
    go_wp2_with fail
    go_ret
    exact ⟨rfl, rfl⟩
def KeptR (rb vb : Nat) (s : List UInt8) (w w' : World) : Prop := (∃ t, RMemO w' rb vb s t) ∧ Ch (· = rb) w w'
theorem RMemO.touched {w : World} {rb vb : Nat} {s : List UInt8} {t : Int} (h : RMemO w rb vb s t) (x : Int) : RMemO (w.setCell ⟨rb, 1, none⟩ (.int .u64 x)) rb vb s x :=
  ⟨by rw [blk_set h.1 1 _]; rfl, h.2.1, blk_other h.2.2.1 _ _ h.2.1, h.2.2.2⟩
/-- An entry of the document's memory. -/
theorem r_word (rb vb : Nat) (s : List UInt8) (t : Int) (w : World) (h : RMemO w rb vb s t) (tb k : Nat) (htb : tb < 256) (hk : k < 32) (hin : tb * 256 + k * 8 + 8 ≤ s.length) (v : Int) (hv : entS s ((tb : Int) * 256 + (k : Int) * 8) = v) :
    Calls Tryz.prog 72 #[.pointer (some ⟨rb, 0, none⟩), .int .u64 (tb : Int), .int .i64 (k : Int)] w fun e w' => e = .returned (.int .u64 v) ∧ KeptR rb vb s w w' := by
  have L := r_load rb vb s t w h ((tb : Int) * 256 + (k : Int) * 8) 8 (by omega) (by omega)
  have e1 : loadR s ((tb : Int) * 256 + (k : Int) * 8) 8 = 0 := by unfold loadR inB; rw [if_pos (show sizedB 8 = true from rfl), if_pos (decide_eq_true (by omega))]
  have e2 : loadV s ((tb : Int) * 256 + (k : Int) * 8) 8 = v := hv
  rw [e1, e2] at L
  have t0 : (0 : Int) ≤ tb := by omega
  have t1 : (tb : Int) < 256 := by omega
  have k0 : (0 : Int) ≤ k := by omega
  have k1 : (k : Int) < 32 := by omega
  have e8 : 8 * (k : Int) = (k : Int) * 8 := by omega
  generalize loadT s ((tb : Int) * 256 + (k : Int) * 8) 8 t = T at *
  clear hv e1 e2 h
  go_enter Tryz.func72, Tryz.ntmps72
  go_wp2_with fail
  refine L.mono ?_; rintro e w1 ⟨rfl, hR, hc⟩
  have HR := Lib.hid hR
  have HC := Lib.hid hc
  have c1 := blk_cell hR.1 1 (v := .int .u64 T) rfl
  have z1 := blk_frozen hR.1 1
  clear hR hc L
  go_wp2_with fail
  go_ret
  exact ⟨rfl, ⟨_, HR.out.touched _⟩, HC.out.setCell (.inl rfl) _⟩
def RLeafP (rb vb : Nat) (s : List UInt8) (v r : Int) (w : World) (e : Ending) (w' : World) : Prop := e = .returned (.tuple #[.int .u64 v, .int .i64 r]) ∧ KeptR rb vb s w w'
theorem KeptR.refl {rb vb : Nat} {s : List UInt8} {t : Int} {w : World} (h : RMemO w rb vb s t) : KeptR rb vb s w w := ⟨⟨t, h⟩, Ch.refl _ _⟩
theorem KeptR.trans {rb vb : Nat} {s : List UInt8} {w w' w'' : World} (h : KeptR rb vb s w w') (k : KeptR rb vb s w' w'') : KeptR rb vb s w w'' := ⟨k.1, h.2.trans k.2⟩
theorem pt_no {fr : Nat} {e : Int} (h : ptB fr e = false) : e % 2 = 0 ∨ (e % 2 = 1 ∧ ¬ e / 2 % 8 = 0) ∨ (e % 2 = 1 ∧ e / 2 % 8 = 0 ∧ ¬ e / 1024 < fr) := by
  unfold ptB at h
  by_cases h1 : e % 16 = 1
  · rw [decide_eq_true h1, Bool.true_and] at h
    exact .inr (.inr ⟨by omega, by omega, of_decide_eq_false h⟩)
  · omega
theorem pt_yes {fr : Nat} {e : Int} (h : ptB fr e = true) : e % 2 = 1 ∧ e / 2 % 8 = 0 ∧ e / 1024 < fr := by
  unfold ptB at h
  simp only [Bool.and_eq_true, decide_eq_true_eq] at h
  omega
set_option maxRecDepth 100000 in
theorem r_leaf_no (rb vb : Nat) (fr : Nat) (s : List UInt8) (t : Int) (w : World) (h : RMemO w rb vb s t) (hs : s.length = fr * 256) (r a v x : Int) (ha : u64 a) (hr : i64 r) (hv : leafV fr s r a = v) (hx : leafR fr s r a = x) (hn : (r < 0 ∨ (fr : Int) ≤ r) ∨ 8388608 ≤ a) :
    Calls Tryz.prog 71 #[.pointer (some ⟨rb, 0, none⟩), .int .i64 r, .int .u64 a] w (RLeafP rb vb s v x w) := by
  have C := r_root rb vb s t w h r fr hs
  have H := Lib.hid h
  clear h
  cases hb : (decide (0 ≤ r) && decide (r < (fr : Int))) with
  | false =>
    have hx1 : x = 1 := by rw [← hx]; unfold leafR; rw [hb]; rfl
    have hv1 : v = 0 := by rw [← hv]; unfold leafV; rw [hx, hx1]; rfl
    rw [hb] at C
    subst hx1; subst hv1
    clear hx hv hn hb
    go_enter Tryz.func71, Tryz.ntmps71
    go_wp2_with (go_at_call 70; refine C.mono ?_; rintro e w' ⟨rfl, rfl⟩)
    go_ret2
    exact ⟨rfl, KeptR.refl H.out⟩
  | true =>
    have h3 : 8388608 ≤ a := by simp only [Bool.and_eq_true, decide_eq_true_eq] at hb; omega
    have hx1 : x = 3 := by rw [← hx]; unfold leafR; rw [hb, decide_eq_false (show ¬ a < 8388608 by omega)]; rfl
    have hv1 : v = 0 := by rw [← hv]; unfold leafV; rw [hx, hx1]; rfl
    rw [hb] at C
    subst hx1; subst hv1
    clear hx hv hn hb
    go_enter Tryz.func71, Tryz.ntmps71
    go_wp2_with (go_at_call 70; refine C.mono ?_; rintro e w' ⟨rfl, rfl⟩)
    go_ret2
    exact ⟨rfl, KeptR.refl H.out⟩
set_option maxRecDepth 100000 in
set_option maxHeartbeats 1600000 in
theorem r_leaf_yes (rb vb : Nat) (fr : Nat) (s : List UInt8) (t : Int) (w : World) (h : RMemO w rb vb s t) (hs : s.length = fr * 256) (r : Nat) (a : Int) (ha : u64 a) (hr : r < fr) (h3 : a < 8388608) :
    Calls Tryz.prog 71 #[.pointer (some ⟨rb, 0, none⟩), .int .i64 (r : Int), .int .u64 a] w (RLeafP rb vb s (leafV fr s r a) (leafR fr s r a) w) := by
  have H := Lib.hid h
  have hl : s.length ≤ 65536 := h.2.2.2
  have hf0 : fr ≤ 256 := by omega
  have HL2 := Lib.hid hs
  have CR := r_root rb vb s t w h (r : Int) fr hs
  rw [decide_eq_true (show (0 : Int) ≤ (r : Int) by omega), decide_eq_true (show (r : Int) < fr by omega)] at CR
  have c0 := blk_cell h.1 0 (v := .slice (some ⟨vb, 0, none⟩) s.length s.length) rfl
  have hd : ((s.length : Nat) : Int) / 256 = (fr : Int) := by omega
  clear h hs
  obtain ⟨a0, a1⟩ := ha
  have HP0 := part_bd a 0
  have HP1 := part_bd a 1
  have HP2 := part_bd a 2
  obtain ⟨p0, hp0⟩ : ∃ q : Nat, (q : Int) = partI a 0 := ⟨(partI a 0).toNat, by omega⟩
  obtain ⟨p1, hp1⟩ : ∃ q : Nat, (q : Int) = partI a 1 := ⟨(partI a 1).toNat, by omega⟩
  obtain ⟨p2, hp2⟩ : ∃ q : Nat, (q : Int) = partI a 2 := ⟨(partI a 2).toNat, by omega⟩
  have C0 : ∀ w : World, Calls Tryz.prog 92 #[.int .u64 a, .int .i64 0] w fun e w' => e = .returned (.int .i64 (p0 : Int)) ∧ w' = w := fun w => by rw [hp0]; exact r_kpart a 0 ⟨a0, a1⟩ w
  have C1 : ∀ w : World, Calls Tryz.prog 92 #[.int .u64 a, .int .i64 1] w fun e w' => e = .returned (.int .i64 (p1 : Int)) ∧ w' = w := fun w => by rw [hp1]; exact r_kpart a 1 ⟨a0, a1⟩ w
  have C2 : ∀ w : World, Calls Tryz.prog 92 #[.int .u64 a, .int .i64 2] w fun e w' => e = .returned (.int .i64 (p2 : Int)) ∧ w' = w := fun w => by rw [hp2]; exact r_kpart a 2 ⟨a0, a1⟩ w
  have EA : RowKit.Hid (entS s ((r : Int) * 256 + (p2 : Int) * 8) = leafA s r a) := Lib.hid (by rw [hp2]; rfl)
  have EC : RowKit.Hid (entS s (leafA s r a / 1024 * 256 + (p1 : Int) * 8) = leafC s r a) := Lib.hid (by rw [hp1]; rfl)
  rw [← hp0] at HP0
  rw [← hp1] at HP1
  rw [← hp2] at HP2
  have WA : W.word (leafA s r a) := ent_word s _
  have WC : W.word (leafC s r a) := ent_word s _
  have hR : leafR fr s r a = bif ptB fr (leafA s r a) && ptB fr (leafC s r a) then 0 else 3 := by unfold leafR; rw [decide_eq_true (show (0 : Int) ≤ r by omega), decide_eq_true (show (r : Int) < fr by omega), decide_eq_true h3]; rfl
  have hV : leafV fr s r a = bif decide (leafR fr s r a = 0) then leafC s r a / 1024 * 256 + (p0 : Int) * 8 else 0 := by rw [hp0]; rfl
  clear hp0 hp1 hp2
  generalize leafV fr s r a = V at *
  generalize leafR fr s r a = R at *
  generalize leafC s r a = EC' at *
  generalize leafA s r a = EA' at *
  have d2 : decide (8388608 ≤ a) = false := decide_eq_false (by omega)
  have r0 : (0 : Int) ≤ r := by omega
  have r1 : (r : Int) < 256 := by omega
  have HR := Lib.hid hR
  have HV := Lib.hid hV
  have HWA := Lib.hid WA
  have HWC := Lib.hid WC
  obtain ⟨T, hT⟩ : ∃ T : Nat, EA' / 1024 = (T : Int) := ⟨(EA' / 1024).toNat, by have := WA.1; omega⟩
  have CFA : ∀ w : World, Calls Tryz.prog 73 #[.int .u64 EA'] w fun e w' => e = .returned (.int .u64 (T : Int)) ∧ w' = w := fun w => by rw [← hT]; exact r_kframe EA' ⟨HWA.out.1, by have := HWA.out.2; omega⟩ w
  obtain ⟨U, hU⟩ : ∃ U : Nat, EC' / 1024 = (U : Int) := ⟨(EC' / 1024).toNat, by have := WC.1; omega⟩
  have CFC : ∀ w : World, Calls Tryz.prog 73 #[.int .u64 EC'] w fun e w' => e = .returned (.int .u64 (U : Int)) ∧ w' = w := fun w => by rw [← hU]; exact r_kframe EC' ⟨HWC.out.1, by have := HWC.out.2; omega⟩ w
  rw [hT] at EC
  rw [hU] at HV
  have HT := Lib.hid hT
  have HU := Lib.hid hU
  obtain ⟨ea0, ea1⟩ := WA
  obtain ⟨ec0, ec1⟩ := WC
  clear hR hV hT hU
  go_enter Tryz.func71, Tryz.ntmps71
  go_wp2_with (first
    | (go_at_call 70; refine CR.mono ?_; rintro e w' ⟨rfl, rfl⟩)
    | (go_at_call 92; refine (C2 _).mono ?_; rintro e w' ⟨rfl, rfl⟩))
  refine (r_word rb vb s t _ H.out r p2 (by omega) (by omega) (by have := HL2.out; omega) EA' EA.out).mono ?_
  rintro e w1 ⟨rfl, ⟨t1, hR1⟩, hC1⟩
  have HR1 := Lib.hid hR1
  have HC1 := Lib.hid hC1
  clear hR1 hC1 c0
  cases hpa : ptB fr EA' with
  | false =>
    have hR0 : R = 3 := by have := HR.out; rw [hpa] at this; exact this
    have hV0 : V = 0 := by rw [HV.out, hR0]; rfl
    subst hR0; subst hV0
    rcases pt_no hpa with q | ⟨q, q8⟩ | ⟨q, q8, ql⟩
    · go_wp2_with fail
      go_ret2
      exact ⟨rfl, ⟨t1, HR1.out⟩, HC1.out⟩
    · have q9 : decide (EA' / 2 % 8 = 0) = false := decide_eq_false q8
      go_wp2_with fail
      go_ret2
      exact ⟨rfl, ⟨t1, HR1.out⟩, HC1.out⟩
    · rw [HT.out] at ql
      have ql2 : decide (fr ≤ T) = true := decide_eq_true (by omega)
      go_wp2_with (go_at_call 73; refine (CFA _).mono ?_; rintro e w' ⟨rfl, rfl⟩)
      go_ret2
      exact ⟨rfl, ⟨t1, HR1.out⟩, HC1.out⟩
  | true =>
    obtain ⟨q, q8, ql⟩ := pt_yes hpa
    have HPA := Lib.hid hpa
    clear hpa
    rw [HT.out] at ql
    have ql2 : decide (fr ≤ T) = false := decide_eq_false (by omega)
    have T0 : (0 : Int) ≤ T := by omega
    have T1 : (T : Int) < 256 := by omega
    go_wp2_with (first
      | (go_at_call 73; refine (CFA _).mono ?_; rintro e w' ⟨rfl, rfl⟩)
      | (go_at_call 92; refine (C1 _).mono ?_; rintro e w' ⟨rfl, rfl⟩))
    refine (r_word rb vb s t1 _ HR1.out T p1 (by omega) (by omega) (by have := HL2.out; omega) EC' EC.out).mono ?_
    rintro e w2 ⟨rfl, ⟨t2, hR2⟩, hC2⟩
    have HR2 := Lib.hid hR2
    have HC2 := Lib.hid (HC1.out.trans hC2)
    clear hR2 hC2 HR1 HC1
    cases hpa : ptB fr EC' with
    | false =>
      have hR0 : R = 3 := by have := HR.out; rw [HPA.out, hpa] at this; exact this
      have hV0 : V = 0 := by rw [HV.out, hR0]; rfl
      subst hR0; subst hV0
      rcases pt_no hpa with q | ⟨q, q8⟩ | ⟨q, q8, ql⟩
      · go_wp2_with fail
        go_ret2
        exact ⟨rfl, ⟨t2, HR2.out⟩, HC2.out⟩
      · have q9 : decide (EC' / 2 % 8 = 0) = false := decide_eq_false q8
        go_wp2_with fail
        go_ret2
        exact ⟨rfl, ⟨t2, HR2.out⟩, HC2.out⟩
      · rw [HU.out] at ql
        have ql2 : decide (fr ≤ U) = true := decide_eq_true (by omega)
        go_wp2_with (go_at_call 73; refine (CFC _).mono ?_; rintro e w' ⟨rfl, rfl⟩)
        go_ret2
        exact ⟨rfl, ⟨t2, HR2.out⟩, HC2.out⟩
    | true =>
      obtain ⟨qc, qc8, qcl⟩ := pt_yes hpa
      have hR0 : R = 0 := by have := HR.out; rw [HPA.out, hpa] at this; exact this
      have hV0 : V = (U : Int) * 256 + (p0 : Int) * 8 := by rw [HV.out, hR0]; rfl
      subst hR0; subst hV0
      rw [HU.out] at qcl
      have qcl2 : decide (fr ≤ U) = false := decide_eq_false (by omega)
      have U0 : (0 : Int) ≤ U := by omega
      have U1 : (U : Int) < 256 := by omega
      have e8 : 8 * (p0 : Int) = (p0 : Int) * 8 := by omega
      clear hpa
      go_wp2_with (first
        | (go_at_call 73; refine (CFC _).mono ?_; rintro e w' ⟨rfl, rfl⟩)
        | (go_at_call 92; refine (C0 _).mono ?_; rintro e w' ⟨rfl, rfl⟩))
      go_ret2
      exact ⟨rfl, ⟨t2, HR2.out⟩, HC2.out⟩
end Go.Proofs.YtngeabphjdfdgaaGreatDoor.P
