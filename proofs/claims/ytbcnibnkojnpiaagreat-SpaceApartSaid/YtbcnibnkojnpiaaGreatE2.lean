/- Stage 5: the document's memory among the objects side by side. No condition. -/
import Derived.Test.YtbcnibnkojnpiaaGreatOM
import Derived.Test.YtbcnibnkojnpiaaGreatR3
import Derived.Test.YtbcnibnkojnpiaaGreatK3
import Derived.Deep.QuietTactic
import Derived.Test.YtbcnibnkojnpiaaGreatE3
import Derived.Test.YtbcnibnkojnpiaaGreatF12
set_option linter.unusedVariables false
namespace Go.Proofs.YtbcnibnkojnpiaaGreat.P
open Go.RowKit Go.MuLone Go.Proofs.YtbcnibnkojnpiaaGreat.W
/-- The document's memory, its blocks one's own. -/
def rmA (rb fr : Nat) (s : List UInt8) : Asn := fun w F => ∃ vb t, RMemO w rb vb s t ∧ s.length = fr * 256 ∧ F rb ∧ F vb
theorem stable_rm (rb fr : Nat) (s : List UInt8) : Stable (rmA rb fr s) := by
  rintro w w' F G ⟨vb, t, h, hl, hb, hv⟩ hc hg
  exact ⟨vb, t, h.keep hc (hg rb hb) (hg vb hv), hl, hb, hv⟩
theorem rm_out {w w' : World} {rb vb fr : Nat} {s' : List UInt8} {t' : Int} {F : Nat → Prop} (hM : RMemO w' rb vb s' t') (hl : s'.length = fr * 256) (hk : Ch (fun x => x = rb ∨ x = vb) w w') (hb : F rb) (hv : F vb) : Out (rmA rb fr s') w w' F := by
  refine ⟨fun x => x = rb ∨ x = vb, ⟨vb, t', hM, hl, .inl rfl, .inr rfl⟩, fun x hx => ⟨.inl ?_, ?_⟩, hk.mono (fun x hx => hx.elim (fun e => e ▸ hb) (fun e => e ▸ hv))⟩
  · rcases hx with rfl | rfl <;> assumption
  · rcases hx with rfl | rfl
    · exact blk_lt hM.1
    · exact blk_lt hM.2.2.1
theorem storS_len2 (s : List UInt8) (a n v : Int) (ha : 0 ≤ a) : (storeS s a n v).length = s.length := by
  unfold storeS; split
  · split
    · rename_i h1 h2
      have h3 : a + n ≤ s.length := of_decide_eq_true h2
      have h4 := sized_nat h1
      obtain ⟨m, rfl⟩ : ∃ m : Nat, n = (m : Int) := ⟨n.toNat, by omega⟩
      refine putL_len _ _ _ ?_
      rw [Array.length_toList, show (bytesF v m).data.size = m by rw [show (bytesF v m).data.size = (bytesF v m).size from rfl, bytes_size, clamp_sized h1]]
      omega
    · rfl
  · rfl
theorem o_rstore {w0 w : World} {b fr : Nat} {s : List UInt8} {R : Asn} (h : Own w0 w (Star (rmA b fr s) R)) (hR : Stable R) (a n v r : Int) (ha : u64 a) (hv : W.word v) (s' : List UInt8) (hs : storeS s a n v = s') (hr : loadR s a n = r) :
    Calls Tryz.prog 90 #[.pointer (some ⟨b, 0, none⟩), .int .u64 a, .int .i64 n, .int .u64 v] w fun e w' => e = .returned (.int .i64 r) ∧ Own w0 w' (Star (rmA b fr s') R) := by
  subst hs; subst hr
  refine h.call hR (fun F hF => ?_)
  obtain ⟨vb, t, hM, hl, hb, hvb⟩ := hF
  refine (r_store b vb s t w hM a n v ha.1 ha.2 hv).mono ?_
  rintro e w' ⟨rfl, hM', hk⟩
  exact ⟨rfl, rm_out hM' (by rw [storS_len2 _ _ _ _ ha.1]; exact hl) (hk.mono (fun x hx => hx.elim .inl (fun e => .inr (by injection e with e; exact e.symm)))) hb hvb⟩
theorem o_rlen {w0 w : World} {b fr : Nat} {s : List UInt8} {R : Asn} (h : Own w0 w (Star (rmA b fr s) R)) : s.length = fr * 256 := by
  obtain ⟨F, vb, t, hM, hl, _⟩ := h.left.get
  exact hl
theorem o_rnew {w0 w : World} {R : Asn} (h : Own w0 w R) (hR : Stable R) (fr : Nat) (h2 : fr ≤ 256) :
    Calls Tryz.prog 26 #[.int .i64 fr] w fun e w' => ∃ b, e = .returned (.pointer (some ⟨b, 0, none⟩)) ∧ Own w0 w' (Star (rmA b fr (List.replicate (fr * 256) 0)) R) := by
  refine (r_new fr h2 w).mono ?_
  rintro e w' ⟨rfl, hM, g⟩
  refine ⟨_, rfl, h.add hR g ⟨fun x => x = w.heap.size + 1 ∨ x = w.heap.size, ⟨w.heap.size, 0, hM, by simp, .inl rfl, .inr rfl⟩, fun x hx => ?_⟩⟩
  have l1 := blk_lt hM.1
  have l2 := blk_lt hM.2.2.1
  rcases hx with rfl | rfl <;> omega
end Go.Proofs.YtbcnibnkojnpiaaGreat.P
namespace Go.Proofs.YtbcnibnkojnpiaaGreat.P
open Go.RowKit Go.MuLone Go.Proofs.YtbcnibnkojnpiaaGreat.W
theorem r_root (rb vb : Nat) (s : List UInt8) (t : Int) (w : World) (h : RMemO w rb vb s t) (n : Int) (fr : Nat) (hs : s.length = fr * 256) :
    Calls Tryz.prog 92 #[.pointer (some ⟨rb, 0, none⟩), .int .i64 n] w fun e w' => e = .returned (.bool (decide (0 ≤ n) && decide (n < fr))) ∧ w' = w := by
  have c0 := blk_cell h.1 0 (v := .slice (some ⟨vb, 0, none⟩) s.length s.length) rfl
  have hl := h.2.2.2
  clear h
  by_cases h0 : 0 ≤ n
  · have hd : ((s.length : Nat) : Int) / 256 = (fr : Int) := by omega
    have e : decide (0 ≤ n) = true := decide_eq_true h0
    rw [e, Bool.true_and]
    generalize s.length = N at *
    clear hs
    go_enter Tryz.func92, Tryz.ntmps92
    go_wp2_with fail
    go_ret
    exact ⟨rfl, rfl⟩
  · have e : decide (0 ≤ n) = false := decide_eq_false h0
    rw [e, Bool.false_and]
    generalize s.length = N at *
    go_enter Tryz.func92, Tryz.ntmps92
    go_wp2_with fail
    go_ret
    exact ⟨rfl, rfl⟩
def KeptR (rb vb : Nat) (s : List UInt8) (w w' : World) : Prop := (∃ t, RMemO w' rb vb s t) ∧ Ch (· = rb) w w'
theorem RMemO.touched {w : World} {rb vb : Nat} {s : List UInt8} {t : Int} (h : RMemO w rb vb s t) (x : Int) : RMemO (w.setCell ⟨rb, 1, none⟩ (.int .u64 x)) rb vb s x :=
  ⟨by rw [blk_set h.1 1 _]; rfl, h.2.1, blk_other h.2.2.1 _ _ h.2.1, h.2.2.2⟩
/-- An entry of the document's memory. -/
theorem r_word (rb vb : Nat) (s : List UInt8) (t : Int) (w : World) (h : RMemO w rb vb s t) (tb k : Nat) (htb : tb < 256) (hk : k < 32) (hin : tb * 256 + k * 8 + 8 ≤ s.length) (v : Int) (hv : entS s ((tb : Int) * 256 + (k : Int) * 8) = v) :
    Calls Tryz.prog 93 #[.pointer (some ⟨rb, 0, none⟩), .int .u64 (tb : Int), .int .i64 (k : Int)] w fun e w' => e = .returned (.int .u64 v) ∧ KeptR rb vb s w w' := by
  have L := r_load rb vb s t w h ((tb : Int) * 256 + (k : Int) * 8) 8 (by omega) (by omega)
  have e1 : loadR s ((tb : Int) * 256 + (k : Int) * 8) 8 = 0 := by unfold loadR inB; rw [if_pos (show sizedB 8 = true from rfl), if_pos (decide_eq_true (by omega))]
  have e2 : loadV s ((tb : Int) * 256 + (k : Int) * 8) 8 = v := hv
  rw [e1, e2] at L
  have t0 : (0 : Int) ≤ tb := by omega
  have t1 : (tb : Int) < 256 := by omega
  have k0 : (0 : Int) ≤ k := by omega
  have k1 : (k : Int) < 32 := by omega
  have e8 : 8 * (k : Int) = (k : Int) * 8 := by omega
  generalize loadT s ((tb : Int) * 256 + (k : Int) * 8) 8 t = T at *
  clear hv e1 e2 h
  go_enter Tryz.func93, Tryz.ntmps93
  go_wp2_with fail
  refine L.mono ?_; rintro e w1 ⟨rfl, hR, hc⟩
  have HR := Lib.hid hR
  have HC := Lib.hid hc
  have c1 := blk_cell hR.1 1 (v := .int .u64 T) rfl
  have z1 := blk_frozen hR.1 1
  clear hR hc L
  go_wp2_with fail
  go_ret
  exact ⟨rfl, ⟨_, HR.out.touched _⟩, HC.out.setCell (.inl rfl) _⟩
def RLeafP (rb vb : Nat) (s : List UInt8) (v r : Int) (w : World) (e : Ending) (w' : World) : Prop := e = .returned (.tuple #[.int .u64 v, .int .i64 r]) ∧ KeptR rb vb s w w'
theorem KeptR.refl {rb vb : Nat} {s : List UInt8} {t : Int} {w : World} (h : RMemO w rb vb s t) : KeptR rb vb s w w := ⟨⟨t, h⟩, Ch.refl _ _⟩
theorem KeptR.trans {rb vb : Nat} {s : List UInt8} {w w' w'' : World} (h : KeptR rb vb s w w') (k : KeptR rb vb s w' w'') : KeptR rb vb s w w'' := ⟨k.1, h.2.trans k.2⟩
theorem pt_no {fr : Nat} {e : Int} (h : ptB fr e = false) : e % 2 = 0 ∨ (e % 2 = 1 ∧ ¬ e / 2 % 8 = 0) ∨ (e % 2 = 1 ∧ e / 2 % 8 = 0 ∧ ¬ e / 1024 < fr) := by
  unfold ptB at h
  by_cases h1 : e % 16 = 1
  · rw [decide_eq_true h1, Bool.true_and] at h
    exact .inr (.inr ⟨by omega, by omega, of_decide_eq_false h⟩)
  · omega
theorem kpt_yes {fr : Nat} {e : Int} (h : ptB fr e = true) : e % 2 = 1 ∧ e / 2 % 8 = 0 ∧ e / 1024 < fr := by
  unfold ptB at h
  simp only [Bool.and_eq_true, decide_eq_true_eq] at h
  omega
set_option maxRecDepth 100000 in
theorem r_leaf_no (rb vb : Nat) (fr : Nat) (s : List UInt8) (t : Int) (w : World) (h : RMemO w rb vb s t) (hs : s.length = fr * 256) (r a v x : Int) (ha : u64 a) (hr : i64 r) (hv : leafV fr s r a = v) (hx : leafR fr s r a = x) (hn : (r < 0 ∨ (fr : Int) ≤ r) ∨ 8388608 ≤ a) :
    Calls Tryz.prog 69 #[.pointer (some ⟨rb, 0, none⟩), .int .i64 r, .int .u64 a] w (RLeafP rb vb s v x w) := by
  have C := r_root rb vb s t w h r fr hs
  have H := Lib.hid h
  clear h
  cases hb : (decide (0 ≤ r) && decide (r < (fr : Int))) with
  | false =>
    have hx1 : x = 1 := by rw [← hx]; unfold leafR; rw [hb]; rfl
    have hv1 : v = 0 := by rw [← hv]; unfold leafV; rw [hx, hx1]; rfl
    rw [hb] at C
    subst hx1; subst hv1
    clear hx hv hn hb
    go_enter Tryz.func69, Tryz.ntmps69
    go_wp2_with (go_at_call 92; refine C.mono ?_; rintro e w' ⟨rfl, rfl⟩)
    go_ret2
    exact ⟨rfl, KeptR.refl H.out⟩
  | true =>
    have h3 : 8388608 ≤ a := by simp only [Bool.and_eq_true, decide_eq_true_eq] at hb; omega
    have hx1 : x = 3 := by rw [← hx]; unfold leafR; rw [hb, decide_eq_false (show ¬ a < 8388608 by omega)]; rfl
    have hv1 : v = 0 := by rw [← hv]; unfold leafV; rw [hx, hx1]; rfl
    rw [hb] at C
    subst hx1; subst hv1
    clear hx hv hn hb
    go_enter Tryz.func69, Tryz.ntmps69
    go_wp2_with (go_at_call 92; refine C.mono ?_; rintro e w' ⟨rfl, rfl⟩)
    go_ret2
    exact ⟨rfl, KeptR.refl H.out⟩
set_option maxRecDepth 100000 in
set_option maxHeartbeats 1600000 in
theorem r_leaf_yes (rb vb : Nat) (fr : Nat) (s : List UInt8) (t : Int) (w : World) (h : RMemO w rb vb s t) (hs : s.length = fr * 256) (r : Nat) (a : Int) (ha : u64 a) (hr : r < fr) (h3 : a < 8388608) :
    Calls Tryz.prog 69 #[.pointer (some ⟨rb, 0, none⟩), .int .i64 (r : Int), .int .u64 a] w (RLeafP rb vb s (leafV fr s r a) (leafR fr s r a) w) := by
  have H := Lib.hid h
  have hl : s.length ≤ 65536 := h.2.2.2
  have hf0 : fr ≤ 256 := by omega
  have HL2 := Lib.hid hs
  have CR := r_root rb vb s t w h (r : Int) fr hs
  rw [decide_eq_true (show (0 : Int) ≤ (r : Int) by omega), decide_eq_true (show (r : Int) < fr by omega)] at CR
  have c0 := blk_cell h.1 0 (v := .slice (some ⟨vb, 0, none⟩) s.length s.length) rfl
  have hd : ((s.length : Nat) : Int) / 256 = (fr : Int) := by omega
  clear h hs
  obtain ⟨a0, a1⟩ := ha
  have HP0 := part_bd a 0
  have HP1 := part_bd a 1
  have HP2 := part_bd a 2
  obtain ⟨p0, hp0⟩ : ∃ q : Nat, (q : Int) = partI a 0 := ⟨(partI a 0).toNat, by omega⟩
  obtain ⟨p1, hp1⟩ : ∃ q : Nat, (q : Int) = partI a 1 := ⟨(partI a 1).toNat, by omega⟩
  obtain ⟨p2, hp2⟩ : ∃ q : Nat, (q : Int) = partI a 2 := ⟨(partI a 2).toNat, by omega⟩
  have C0 : ∀ w : World, Calls Tryz.prog 94 #[.int .u64 a, .int .i64 0] w fun e w' => e = .returned (.int .i64 (p0 : Int)) ∧ w' = w := fun w => by rw [hp0]; exact r_kpart a 0 ⟨a0, a1⟩ w
  have C1 : ∀ w : World, Calls Tryz.prog 94 #[.int .u64 a, .int .i64 1] w fun e w' => e = .returned (.int .i64 (p1 : Int)) ∧ w' = w := fun w => by rw [hp1]; exact r_kpart a 1 ⟨a0, a1⟩ w
  have C2 : ∀ w : World, Calls Tryz.prog 94 #[.int .u64 a, .int .i64 2] w fun e w' => e = .returned (.int .i64 (p2 : Int)) ∧ w' = w := fun w => by rw [hp2]; exact r_kpart a 2 ⟨a0, a1⟩ w
  have EA : RowKit.Hid (entS s ((r : Int) * 256 + (p2 : Int) * 8) = leafA s r a) := Lib.hid (by rw [hp2]; rfl)
  have EC : RowKit.Hid (entS s (leafA s r a / 1024 * 256 + (p1 : Int) * 8) = leafC s r a) := Lib.hid (by rw [hp1]; rfl)
  rw [← hp0] at HP0
  rw [← hp1] at HP1
  rw [← hp2] at HP2
  have WA : W.word (leafA s r a) := ent_word s _
  have WC : W.word (leafC s r a) := ent_word s _
  have hR : leafR fr s r a = bif ptB fr (leafA s r a) && ptB fr (leafC s r a) then 0 else 3 := by unfold leafR; rw [decide_eq_true (show (0 : Int) ≤ r by omega), decide_eq_true (show (r : Int) < fr by omega), decide_eq_true h3]; rfl
  have hV : leafV fr s r a = bif decide (leafR fr s r a = 0) then leafC s r a / 1024 * 256 + (p0 : Int) * 8 else 0 := by rw [hp0]; rfl
  clear hp0 hp1 hp2
  generalize leafV fr s r a = V at *
  generalize leafR fr s r a = R at *
  generalize leafC s r a = EC' at *
  generalize leafA s r a = EA' at *
  have d2 : decide (8388608 ≤ a) = false := decide_eq_false (by omega)
  have r0 : (0 : Int) ≤ r := by omega
  have r1 : (r : Int) < 256 := by omega
  have HR := Lib.hid hR
  have HV := Lib.hid hV
  have HWA := Lib.hid WA
  have HWC := Lib.hid WC
  obtain ⟨T, hT⟩ : ∃ T : Nat, EA' / 1024 = (T : Int) := ⟨(EA' / 1024).toNat, by have := WA.1; omega⟩
  have CFA : ∀ w : World, Calls Tryz.prog 71 #[.int .u64 EA'] w fun e w' => e = .returned (.int .u64 (T : Int)) ∧ w' = w := fun w => by rw [← hT]; exact r_kframe EA' ⟨HWA.out.1, by have := HWA.out.2; omega⟩ w
  obtain ⟨U, hU⟩ : ∃ U : Nat, EC' / 1024 = (U : Int) := ⟨(EC' / 1024).toNat, by have := WC.1; omega⟩
  have CFC : ∀ w : World, Calls Tryz.prog 71 #[.int .u64 EC'] w fun e w' => e = .returned (.int .u64 (U : Int)) ∧ w' = w := fun w => by rw [← hU]; exact r_kframe EC' ⟨HWC.out.1, by have := HWC.out.2; omega⟩ w
  rw [hT] at EC
  rw [hU] at HV
  have HT := Lib.hid hT
  have HU := Lib.hid hU
  obtain ⟨ea0, ea1⟩ := WA
  obtain ⟨ec0, ec1⟩ := WC
  clear hR hV hT hU
  go_enter Tryz.func69, Tryz.ntmps69
  go_wp2_with (first
    | (go_at_call 92; refine CR.mono ?_; rintro e w' ⟨rfl, rfl⟩)
    | (go_at_call 94; refine (C2 _).mono ?_; rintro e w' ⟨rfl, rfl⟩))
  refine (r_word rb vb s t _ H.out r p2 (by omega) (by omega) (by have := HL2.out; omega) EA' EA.out).mono ?_
  rintro e w1 ⟨rfl, ⟨t1, hR1⟩, hC1⟩
  have HR1 := Lib.hid hR1
  have HC1 := Lib.hid hC1
  clear hR1 hC1 c0
  cases hpa : ptB fr EA' with
  | false =>
    have hR0 : R = 3 := by have := HR.out; rw [hpa] at this; exact this
    have hV0 : V = 0 := by rw [HV.out, hR0]; rfl
    subst hR0; subst hV0
    rcases pt_no hpa with q | ⟨q, q8⟩ | ⟨q, q8, ql⟩
    · go_wp2_with fail
      go_ret2
      exact ⟨rfl, ⟨t1, HR1.out⟩, HC1.out⟩
    · have q9 : decide (EA' / 2 % 8 = 0) = false := decide_eq_false q8
      go_wp2_with fail
      go_ret2
      exact ⟨rfl, ⟨t1, HR1.out⟩, HC1.out⟩
    · rw [HT.out] at ql
      have ql2 : decide (fr ≤ T) = true := decide_eq_true (by omega)
      go_wp2_with (go_at_call 71; refine (CFA _).mono ?_; rintro e w' ⟨rfl, rfl⟩)
      go_ret2
      exact ⟨rfl, ⟨t1, HR1.out⟩, HC1.out⟩
  | true =>
    obtain ⟨q, q8, ql⟩ := kpt_yes hpa
    have HPA := Lib.hid hpa
    clear hpa
    rw [HT.out] at ql
    have ql2 : decide (fr ≤ T) = false := decide_eq_false (by omega)
    have T0 : (0 : Int) ≤ T := by omega
    have T1 : (T : Int) < 256 := by omega
    go_wp2_with (first
      | (go_at_call 71; refine (CFA _).mono ?_; rintro e w' ⟨rfl, rfl⟩)
      | (go_at_call 94; refine (C1 _).mono ?_; rintro e w' ⟨rfl, rfl⟩))
    refine (r_word rb vb s t1 _ HR1.out T p1 (by omega) (by omega) (by have := HL2.out; omega) EC' EC.out).mono ?_
    rintro e w2 ⟨rfl, ⟨t2, hR2⟩, hC2⟩
    have HR2 := Lib.hid hR2
    have HC2 := Lib.hid (HC1.out.trans hC2)
    clear hR2 hC2 HR1 HC1
    cases hpa : ptB fr EC' with
    | false =>
      have hR0 : R = 3 := by have := HR.out; rw [HPA.out, hpa] at this; exact this
      have hV0 : V = 0 := by rw [HV.out, hR0]; rfl
      subst hR0; subst hV0
      rcases pt_no hpa with q | ⟨q, q8⟩ | ⟨q, q8, ql⟩
      · go_wp2_with fail
        go_ret2
        exact ⟨rfl, ⟨t2, HR2.out⟩, HC2.out⟩
      · have q9 : decide (EC' / 2 % 8 = 0) = false := decide_eq_false q8
        go_wp2_with fail
        go_ret2
        exact ⟨rfl, ⟨t2, HR2.out⟩, HC2.out⟩
      · rw [HU.out] at ql
        have ql2 : decide (fr ≤ U) = true := decide_eq_true (by omega)
        go_wp2_with (go_at_call 71; refine (CFC _).mono ?_; rintro e w' ⟨rfl, rfl⟩)
        go_ret2
        exact ⟨rfl, ⟨t2, HR2.out⟩, HC2.out⟩
    | true =>
      obtain ⟨qc, qc8, qcl⟩ := kpt_yes hpa
      have hR0 : R = 0 := by have := HR.out; rw [HPA.out, hpa] at this; exact this
      have hV0 : V = (U : Int) * 256 + (p0 : Int) * 8 := by rw [HV.out, hR0]; rfl
      subst hR0; subst hV0
      rw [HU.out] at qcl
      have qcl2 : decide (fr ≤ U) = false := decide_eq_false (by omega)
      have U0 : (0 : Int) ≤ U := by omega
      have U1 : (U : Int) < 256 := by omega
      have e8 : 8 * (p0 : Int) = (p0 : Int) * 8 := by omega
      clear hpa
      go_wp2_with (first
        | (go_at_call 71; refine (CFC _).mono ?_; rintro e w' ⟨rfl, rfl⟩)
        | (go_at_call 94; refine (C0 _).mono ?_; rintro e w' ⟨rfl, rfl⟩))
      go_ret2
      exact ⟨rfl, ⟨t2, HR2.out⟩, HC2.out⟩
end Go.Proofs.YtbcnibnkojnpiaaGreat.P
namespace Go.Proofs.YtbcnibnkojnpiaaGreat.P
open Go.RowKit Go.MuLone Go.Proofs.YtbcnibnkojnpiaaGreat.W
theorem r_leaf (rb vb : Nat) (fr : Nat) (s : List UInt8) (t : Int) (w : World) (h : RMemO w rb vb s t) (hs : s.length = fr * 256) (r a v x : Int) (ha : u64 a) (hr : i64 r) (hv : leafV fr s r a = v) (hx : leafR fr s r a = x) :
    Calls Tryz.prog 69 #[.pointer (some ⟨rb, 0, none⟩), .int .i64 r, .int .u64 a] w (RLeafP rb vb s v x w) := by
  by_cases hn : (r < 0 ∨ (fr : Int) ≤ r) ∨ 8388608 ≤ a
  · exact r_leaf_no rb vb fr s t w h hs r a v x ha hr hv hx hn
  · obtain ⟨n, rfl⟩ : ∃ n : Nat, r = (n : Int) := ⟨r.toNat, by omega⟩
    subst hv; subst hx
    exact r_leaf_yes rb vb fr s t w h hs n a ha (by omega) (by omega)
theorem leaf_even (fr : Nat) (s : List UInt8) (r a : Int) : leafV fr s r a % 8 = 0 := by
  unfold leafV
  cases decide (leafR fr s r a = 0)
  · rfl
  · have h : ∀ x y : Int, (x * 256 + y * 8) % 8 = 0 := fun x y => by omega
    exact h _ _
set_option maxRecDepth 100000 in
theorem r_walk_acc (rb vb : Nat) (fr : Nat) (s : List UInt8) (t : Int) (w : World) (h : RMemO w rb vb s t) (hs : s.length = fr * 256) (r a acc : Int) (hn : (decide (0 ≤ r) && decide (r < (fr : Int))) = false ∨ acc < 1 ∨ 3 < acc) :
    Calls Tryz.prog 98 #[.pointer (some ⟨rb, 0, none⟩), .int .i64 r, .int .u64 a, .int .i64 acc] w (RLeafP rb vb s 0 1 w) := by
  have C := r_root rb vb s t w h r fr hs
  have H := Lib.hid h
  clear h
  cases hb : (decide (0 ≤ r) && decide (r < (fr : Int))) with
  | false =>
    rw [hb] at C
    clear hb hn
    go_enter Tryz.func98, Tryz.ntmps98
    go_wp2_with (go_at_call 92; refine C.mono ?_; rintro e w' ⟨rfl, rfl⟩)
    go_ret2
    exact ⟨rfl, KeptR.refl H.out⟩
  | true =>
    rw [hb] at C hn
    clear hb
    have hn2 : acc < 1 ∨ (1 ≤ acc ∧ 3 < acc) := by
      rcases hn with q | q
      · cases q
      · omega
    clear hn
    rcases hn2 with q | ⟨q1, q2⟩
    · go_enter Tryz.func98, Tryz.ntmps98
      go_wp2_with (go_at_call 92; refine C.mono ?_; rintro e w' ⟨rfl, rfl⟩)
      go_ret2
      exact ⟨rfl, KeptR.refl H.out⟩
    · go_enter Tryz.func98, Tryz.ntmps98
      go_wp2_with (go_at_call 92; refine C.mono ?_; rintro e w' ⟨rfl, rfl⟩)
      go_ret2
      exact ⟨rfl, KeptR.refl H.out⟩
set_option maxRecDepth 100000 in
theorem r_walk_bad (rb vb : Nat) (fr : Nat) (s : List UInt8) (t : Int) (w : World) (h : RMemO w rb vb s t) (hs : s.length = fr * 256) (r a acc x : Int) (ha : u64 a) (hi : i64 r) (hb : (decide (0 ≤ r) && decide (r < (fr : Int))) = true) (hacc : 1 ≤ acc ∧ acc ≤ 3) (hx : leafR fr s r a = x) (hx0 : x ≠ 0) :
    Calls Tryz.prog 98 #[.pointer (some ⟨rb, 0, none⟩), .int .i64 r, .int .u64 a, .int .i64 acc] w (RLeafP rb vb s 0 x w) := by
  have C := r_root rb vb s t w h r fr hs
  have hv : leafV fr s r a = 0 := by unfold leafV; rw [hx, decide_eq_false hx0]; rfl
  have L := r_leaf rb vb fr s t w h hs r a 0 x ha hi hv hx
  rw [hb] at C
  have d1 : (x == 0) = false := by simpa using hx0
  have d2 : decide (x = 0) = false := decide_eq_false hx0
  clear h hs hb hx hx0 hv
  obtain ⟨q1, q2⟩ := hacc
  go_enter Tryz.func98, Tryz.ntmps98
  go_wp2_with (go_at_call 92; refine C.mono ?_; rintro e w' ⟨rfl, rfl⟩)
  refine L.mono ?_; rintro e w1 ⟨rfl, hk⟩
  have HK := Lib.hid hk
  clear hk
  go_wp2_with fail
  go_ret2
  exact ⟨rfl, HK.out⟩
set_option maxRecDepth 100000 in
set_option maxHeartbeats 6400000 in
theorem r_walk_ok (rb vb : Nat) (fr : Nat) (s : List UInt8) (t : Int) (w : World) (h : RMemO w rb vb s t) (hs : s.length = fr * 256) (r a acc n : Int) (ha : u64 a) (hi : i64 r) (hb : (decide (0 ≤ r) && decide (r < (fr : Int))) = true) (hacc : (acc = 1 ∧ n = 2) ∨ (acc = 2 ∧ n = 4) ∨ (acc = 3 ∧ n = 8)) (hx : leafR fr s r a = 0) (v z : Int)
    (hz : (bif mayB n (walkE fr s r a) && decide (walkE fr s r a / 1024 < fr) then 0 else 3) = z) (hv : (bif decide (z = 0) then walkE fr s r a / 1024 * 256 + a % 256 else 0) = v) :
    Calls Tryz.prog 98 #[.pointer (some ⟨rb, 0, none⟩), .int .i64 r, .int .u64 a, .int .i64 acc] w (RLeafP rb vb s v z w) := by
  have C := r_root rb vb s t w h r fr hs
  have L := r_leaf rb vb fr s t w h hs r a (leafV fr s r a) 0 ha hi rfl hx
  rw [hb] at C
  have hin := leaf_in hs hx
  have hev := leaf_even fr s r a
  have hlen : s.length ≤ 65536 := h.2.2.2
  have EE : RowKit.Hid (entS s (leafV fr s r a) = walkE fr s r a) := Lib.hid rfl
  have HW := Lib.hid (ent_word s (leafV fr s r a))
  change RowKit.Hid (W.word (walkE fr s r a)) at HW
  clear h hb hx
  generalize leafV fr s r a = P at *
  generalize walkE fr s r a = E at *
  obtain ⟨U, hU⟩ : ∃ U : Nat, P / 256 = (U : Int) := ⟨(P / 256).toNat, by omega⟩
  obtain ⟨k, hk⟩ : ∃ k : Nat, P % 256 / 8 = (k : Int) := ⟨(P % 256 / 8).toNat, by omega⟩
  have hP : (U : Int) * 256 + (k : Int) * 8 = P := by omega
  have hin2 : U * 256 + k * 8 + 8 ≤ s.length := by omega
  have hU2 : U < 256 := by omega
  have hk2 : k < 32 := by omega
  have CW : ∀ (w : World) (t : Int) (h : RMemO w rb vb s t), Calls Tryz.prog 93 #[.pointer (some ⟨rb, 0, none⟩), .int .u64 (U : Int), .int .i64 (k : Int)] w fun e w' => e = .returned (.int .u64 E) ∧ KeptR rb vb s w w' := fun w t h => r_word rb vb s t w h U k hU2 hk2 hin2 E (by rw [hP]; exact EE.out)
  have HZ := Lib.hid hz
  have HV := Lib.hid hv
  have HS := Lib.hid hs
  obtain ⟨P0, P1⟩ := hin
  obtain ⟨a0, a1⟩ := ha
  clear hz hv hP hin2 hs hev
  rcases hacc with ⟨rfl, rfl⟩ | ⟨rfl, rfl⟩ | ⟨rfl, rfl⟩
  · go_enter Tryz.func98, Tryz.ntmps98
    go_wp2_with (go_at_call 92; refine C.mono ?_; rintro e w' ⟨rfl, rfl⟩)
    refine L.mono ?_; rintro e w1 ⟨rfl, ⟨t1, hM1⟩, hK1⟩
    have HM1 := Lib.hid hM1
    have HK1 := Lib.hid hK1
    clear hM1 hK1 L
    go_wp2_with fail
    refine (CW _ _ HM1.out).mono ?_
    rintro e w2 ⟨rfl, ⟨t2, hM2⟩, hK2⟩
    have HM2 := Lib.hid hM2
    have HK2 := Lib.hid (HK1.out.trans hK2)
    clear hM2 hK2 HM1 HK1
    go_wp2_with fail
    have B0 := blk_new w2 (.cells #[.int .u64 2, .int .u64 4, .int .u64 8] 39)
    have hM3 : RMemO (w2.alloc (.cells #[.int .u64 2, .int .u64 4, .int .u64 8] 39)) rb vb s t2 := HM2.out.keep (S := fun _ => False) ((Ch.refl _ _).alloc _) (fun h => h) (fun h => h)
    have bn : (w2.alloc (.cells #[.int .u64 2, .int .u64 4, .int .u64 8] 39)).cell? ⟨w2.heap.size, 0, none⟩ = some (.int .u64 2) := blk_cell B0 0 rfl
    have m0 := blk_cell hM3.1 0 (v := .slice (some ⟨vb, 0, none⟩) s.length s.length) rfl
    have HM3 := Lib.hid hM3
    have HK3 := Lib.hid (HK2.out.alloc (.cells #[.int .u64 2, .int .u64 4, .int .u64 8] 39))
    clear hM3 B0 HM2 HK2 CW
    generalize w2.alloc (.cells #[.int .u64 2, .int .u64 4, .int .u64 8] 39) = w3 at *
    generalize w2.heap.size = B at *
    generalize s.length = N at *
    obtain ⟨T, hT⟩ : ∃ T : Nat, E / 1024 = (T : Int) := ⟨(E / 1024).toNat, by have := HW.out.1; omega⟩
    have e0 : 0 ≤ E := HW.out.1
    have e1 : E < 18446744073709551616 := HW.out.2
    have CF : ∀ w : World, Calls Tryz.prog 71 #[.int .u64 E] w fun e w' => e = .returned (.int .u64 (T : Int)) ∧ w' = w := fun w => by rw [← hT]; exact r_kframe E ⟨HW.out.1, by have := HW.out.2; omega⟩ w
    cases hm : mayB 2 E with
    | true =>
      obtain ⟨q1, q2, q3⟩ : E % 2 = 1 ∧ E / 16 % 2 = 1 ∧ E / 2 % 2 = 1 := by unfold mayB at hm; simp only [Bool.and_eq_true, decide_eq_true_eq] at hm; exact hm
      have hd : (N : Int) / 256 = (fr : Int) := by have := HS.out; omega
      have hfr : fr ≤ 256 := by have := HS.out; omega
      by_cases ql : T < fr
      · have qd : decide (fr ≤ T) = false := decide_eq_false (by omega)
        have hz : z = 0 := by rw [← HZ.out, hm, hT, decide_eq_true (show (T : Int) < fr by omega)]; rfl
        have hv : v = (T : Int) * 256 + a % 256 := by rw [← HV.out, hz, hT]; rfl
        have T0 : (0 : Int) ≤ T := by omega
        have T1 : (T : Int) < 256 := by omega
        subst hz; subst hv
        clear hm HZ HV
        go_quiet ((go_at_call 71; exact Calls.quiet_of_same (CF _)))
        go_wp2_with (go_at_call 71; refine (CF _).mono ?_; rintro e w' ⟨rfl, rfl⟩)
        go_ret2
        exact ⟨rfl, ⟨t2, HM3.out.keep (S := fun _ => False) ((Ch.refl _ _).drewN _) (fun h => h) (fun h => h)⟩, HK3.out.drewN _⟩
      · have qd : decide (fr ≤ T) = true := decide_eq_true (by omega)
        have hz : z = 3 := by rw [← HZ.out, hm, hT, decide_eq_false (show ¬ (T : Int) < fr by omega)]; rfl
        have hv : v = 0 := by rw [← HV.out, hz]; rfl
        subst hz; subst hv
        clear hm HZ HV
        go_quiet ((go_at_call 71; exact Calls.quiet_of_same (CF _)))
        go_wp2_with (go_at_call 71; refine (CF _).mono ?_; rintro e w' ⟨rfl, rfl⟩)
        go_ret2
        exact ⟨rfl, ⟨t2, HM3.out.keep (S := fun _ => False) ((Ch.refl _ _).drewN _) (fun h => h) (fun h => h)⟩, HK3.out.drewN _⟩
    | false =>
      have q : E % 2 = 0 ∨ (E % 2 = 1 ∧ E / 16 % 2 = 0) ∨ (E % 2 = 1 ∧ E / 16 % 2 = 1 ∧ E / 2 % 2 = 0) := by
        by_cases q1 : E % 2 = 1
        · by_cases q2 : E / 16 % 2 = 1
          · unfold mayB at hm
            rw [decide_eq_true q1, decide_eq_true q2, Bool.true_and, Bool.true_and] at hm
            have := of_decide_eq_false hm
            omega
          · omega
        · omega
      have hz : z = 3 := by rw [← HZ.out, hm]; rfl
      have hv : v = 0 := by rw [← HV.out, hz]; rfl
      subst hz; subst hv
      clear hm HZ HV
      rcases q with q1 | ⟨q1, q2⟩ | ⟨q1, q2, q3⟩
      · go_quiet ((go_at_call 71; exact Calls.quiet_of_same (CF _)))
        go_wp2_with (go_at_call 71; refine (CF _).mono ?_; rintro e w' ⟨rfl, rfl⟩)
        go_ret2
        exact ⟨rfl, ⟨t2, HM3.out.keep (S := fun _ => False) ((Ch.refl _ _).drewN _) (fun h => h) (fun h => h)⟩, HK3.out.drewN _⟩
      · go_quiet ((go_at_call 71; exact Calls.quiet_of_same (CF _)))
        go_wp2_with (go_at_call 71; refine (CF _).mono ?_; rintro e w' ⟨rfl, rfl⟩)
        go_ret2
        exact ⟨rfl, ⟨t2, HM3.out.keep (S := fun _ => False) ((Ch.refl _ _).drewN _) (fun h => h) (fun h => h)⟩, HK3.out.drewN _⟩
      · go_quiet ((go_at_call 71; exact Calls.quiet_of_same (CF _)))
        go_wp2_with (go_at_call 71; refine (CF _).mono ?_; rintro e w' ⟨rfl, rfl⟩)
        go_ret2
        exact ⟨rfl, ⟨t2, HM3.out.keep (S := fun _ => False) ((Ch.refl _ _).drewN _) (fun h => h) (fun h => h)⟩, HK3.out.drewN _⟩
  · go_enter Tryz.func98, Tryz.ntmps98
    go_wp2_with (go_at_call 92; refine C.mono ?_; rintro e w' ⟨rfl, rfl⟩)
    refine L.mono ?_; rintro e w1 ⟨rfl, ⟨t1, hM1⟩, hK1⟩
    have HM1 := Lib.hid hM1
    have HK1 := Lib.hid hK1
    clear hM1 hK1 L
    go_wp2_with fail
    refine (CW _ _ HM1.out).mono ?_
    rintro e w2 ⟨rfl, ⟨t2, hM2⟩, hK2⟩
    have HM2 := Lib.hid hM2
    have HK2 := Lib.hid (HK1.out.trans hK2)
    clear hM2 hK2 HM1 HK1
    go_wp2_with fail
    have B0 := blk_new w2 (.cells #[.int .u64 2, .int .u64 4, .int .u64 8] 39)
    have hM3 : RMemO (w2.alloc (.cells #[.int .u64 2, .int .u64 4, .int .u64 8] 39)) rb vb s t2 := HM2.out.keep (S := fun _ => False) ((Ch.refl _ _).alloc _) (fun h => h) (fun h => h)
    have bn : (w2.alloc (.cells #[.int .u64 2, .int .u64 4, .int .u64 8] 39)).cell? ⟨w2.heap.size, 1, none⟩ = some (.int .u64 4) := blk_cell B0 1 rfl
    have m0 := blk_cell hM3.1 0 (v := .slice (some ⟨vb, 0, none⟩) s.length s.length) rfl
    have HM3 := Lib.hid hM3
    have HK3 := Lib.hid (HK2.out.alloc (.cells #[.int .u64 2, .int .u64 4, .int .u64 8] 39))
    clear hM3 B0 HM2 HK2 CW
    generalize w2.alloc (.cells #[.int .u64 2, .int .u64 4, .int .u64 8] 39) = w3 at *
    generalize w2.heap.size = B at *
    generalize s.length = N at *
    obtain ⟨T, hT⟩ : ∃ T : Nat, E / 1024 = (T : Int) := ⟨(E / 1024).toNat, by have := HW.out.1; omega⟩
    have e0 : 0 ≤ E := HW.out.1
    have e1 : E < 18446744073709551616 := HW.out.2
    have CF : ∀ w : World, Calls Tryz.prog 71 #[.int .u64 E] w fun e w' => e = .returned (.int .u64 (T : Int)) ∧ w' = w := fun w => by rw [← hT]; exact r_kframe E ⟨HW.out.1, by have := HW.out.2; omega⟩ w
    cases hm : mayB 4 E with
    | true =>
      obtain ⟨q1, q2, q3⟩ : E % 2 = 1 ∧ E / 16 % 2 = 1 ∧ E / 4 % 2 = 1 := by unfold mayB at hm; simp only [Bool.and_eq_true, decide_eq_true_eq] at hm; exact hm
      have hd : (N : Int) / 256 = (fr : Int) := by have := HS.out; omega
      have hfr : fr ≤ 256 := by have := HS.out; omega
      by_cases ql : T < fr
      · have qd : decide (fr ≤ T) = false := decide_eq_false (by omega)
        have hz : z = 0 := by rw [← HZ.out, hm, hT, decide_eq_true (show (T : Int) < fr by omega)]; rfl
        have hv : v = (T : Int) * 256 + a % 256 := by rw [← HV.out, hz, hT]; rfl
        have T0 : (0 : Int) ≤ T := by omega
        have T1 : (T : Int) < 256 := by omega
        subst hz; subst hv
        clear hm HZ HV
        go_quiet ((go_at_call 71; exact Calls.quiet_of_same (CF _)))
        go_wp2_with (go_at_call 71; refine (CF _).mono ?_; rintro e w' ⟨rfl, rfl⟩)
        go_ret2
        exact ⟨rfl, ⟨t2, HM3.out.keep (S := fun _ => False) ((Ch.refl _ _).drewN _) (fun h => h) (fun h => h)⟩, HK3.out.drewN _⟩
      · have qd : decide (fr ≤ T) = true := decide_eq_true (by omega)
        have hz : z = 3 := by rw [← HZ.out, hm, hT, decide_eq_false (show ¬ (T : Int) < fr by omega)]; rfl
        have hv : v = 0 := by rw [← HV.out, hz]; rfl
        subst hz; subst hv
        clear hm HZ HV
        go_quiet ((go_at_call 71; exact Calls.quiet_of_same (CF _)))
        go_wp2_with (go_at_call 71; refine (CF _).mono ?_; rintro e w' ⟨rfl, rfl⟩)
        go_ret2
        exact ⟨rfl, ⟨t2, HM3.out.keep (S := fun _ => False) ((Ch.refl _ _).drewN _) (fun h => h) (fun h => h)⟩, HK3.out.drewN _⟩
    | false =>
      have q : E % 2 = 0 ∨ (E % 2 = 1 ∧ E / 16 % 2 = 0) ∨ (E % 2 = 1 ∧ E / 16 % 2 = 1 ∧ E / 4 % 2 = 0) := by
        by_cases q1 : E % 2 = 1
        · by_cases q2 : E / 16 % 2 = 1
          · unfold mayB at hm
            rw [decide_eq_true q1, decide_eq_true q2, Bool.true_and, Bool.true_and] at hm
            have := of_decide_eq_false hm
            omega
          · omega
        · omega
      have hz : z = 3 := by rw [← HZ.out, hm]; rfl
      have hv : v = 0 := by rw [← HV.out, hz]; rfl
      subst hz; subst hv
      clear hm HZ HV
      rcases q with q1 | ⟨q1, q2⟩ | ⟨q1, q2, q3⟩
      · go_quiet ((go_at_call 71; exact Calls.quiet_of_same (CF _)))
        go_wp2_with (go_at_call 71; refine (CF _).mono ?_; rintro e w' ⟨rfl, rfl⟩)
        go_ret2
        exact ⟨rfl, ⟨t2, HM3.out.keep (S := fun _ => False) ((Ch.refl _ _).drewN _) (fun h => h) (fun h => h)⟩, HK3.out.drewN _⟩
      · go_quiet ((go_at_call 71; exact Calls.quiet_of_same (CF _)))
        go_wp2_with (go_at_call 71; refine (CF _).mono ?_; rintro e w' ⟨rfl, rfl⟩)
        go_ret2
        exact ⟨rfl, ⟨t2, HM3.out.keep (S := fun _ => False) ((Ch.refl _ _).drewN _) (fun h => h) (fun h => h)⟩, HK3.out.drewN _⟩
      · go_quiet ((go_at_call 71; exact Calls.quiet_of_same (CF _)))
        go_wp2_with (go_at_call 71; refine (CF _).mono ?_; rintro e w' ⟨rfl, rfl⟩)
        go_ret2
        exact ⟨rfl, ⟨t2, HM3.out.keep (S := fun _ => False) ((Ch.refl _ _).drewN _) (fun h => h) (fun h => h)⟩, HK3.out.drewN _⟩
  · go_enter Tryz.func98, Tryz.ntmps98
    go_wp2_with (go_at_call 92; refine C.mono ?_; rintro e w' ⟨rfl, rfl⟩)
    refine L.mono ?_; rintro e w1 ⟨rfl, ⟨t1, hM1⟩, hK1⟩
    have HM1 := Lib.hid hM1
    have HK1 := Lib.hid hK1
    clear hM1 hK1 L
    go_wp2_with fail
    refine (CW _ _ HM1.out).mono ?_
    rintro e w2 ⟨rfl, ⟨t2, hM2⟩, hK2⟩
    have HM2 := Lib.hid hM2
    have HK2 := Lib.hid (HK1.out.trans hK2)
    clear hM2 hK2 HM1 HK1
    go_wp2_with fail
    have B0 := blk_new w2 (.cells #[.int .u64 2, .int .u64 4, .int .u64 8] 39)
    have hM3 : RMemO (w2.alloc (.cells #[.int .u64 2, .int .u64 4, .int .u64 8] 39)) rb vb s t2 := HM2.out.keep (S := fun _ => False) ((Ch.refl _ _).alloc _) (fun h => h) (fun h => h)
    have bn : (w2.alloc (.cells #[.int .u64 2, .int .u64 4, .int .u64 8] 39)).cell? ⟨w2.heap.size, 2, none⟩ = some (.int .u64 8) := blk_cell B0 2 rfl
    have m0 := blk_cell hM3.1 0 (v := .slice (some ⟨vb, 0, none⟩) s.length s.length) rfl
    have HM3 := Lib.hid hM3
    have HK3 := Lib.hid (HK2.out.alloc (.cells #[.int .u64 2, .int .u64 4, .int .u64 8] 39))
    clear hM3 B0 HM2 HK2 CW
    generalize w2.alloc (.cells #[.int .u64 2, .int .u64 4, .int .u64 8] 39) = w3 at *
    generalize w2.heap.size = B at *
    generalize s.length = N at *
    obtain ⟨T, hT⟩ : ∃ T : Nat, E / 1024 = (T : Int) := ⟨(E / 1024).toNat, by have := HW.out.1; omega⟩
    have e0 : 0 ≤ E := HW.out.1
    have e1 : E < 18446744073709551616 := HW.out.2
    have CF : ∀ w : World, Calls Tryz.prog 71 #[.int .u64 E] w fun e w' => e = .returned (.int .u64 (T : Int)) ∧ w' = w := fun w => by rw [← hT]; exact r_kframe E ⟨HW.out.1, by have := HW.out.2; omega⟩ w
    cases hm : mayB 8 E with
    | true =>
      obtain ⟨q1, q2, q3⟩ : E % 2 = 1 ∧ E / 16 % 2 = 1 ∧ E / 8 % 2 = 1 := by unfold mayB at hm; simp only [Bool.and_eq_true, decide_eq_true_eq] at hm; exact hm
      have hd : (N : Int) / 256 = (fr : Int) := by have := HS.out; omega
      have hfr : fr ≤ 256 := by have := HS.out; omega
      by_cases ql : T < fr
      · have qd : decide (fr ≤ T) = false := decide_eq_false (by omega)
        have hz : z = 0 := by rw [← HZ.out, hm, hT, decide_eq_true (show (T : Int) < fr by omega)]; rfl
        have hv : v = (T : Int) * 256 + a % 256 := by rw [← HV.out, hz, hT]; rfl
        have T0 : (0 : Int) ≤ T := by omega
        have T1 : (T : Int) < 256 := by omega
        subst hz; subst hv
        clear hm HZ HV
        go_quiet ((go_at_call 71; exact Calls.quiet_of_same (CF _)))
        go_wp2_with (go_at_call 71; refine (CF _).mono ?_; rintro e w' ⟨rfl, rfl⟩)
        go_ret2
        exact ⟨rfl, ⟨t2, HM3.out.keep (S := fun _ => False) ((Ch.refl _ _).drewN _) (fun h => h) (fun h => h)⟩, HK3.out.drewN _⟩
      · have qd : decide (fr ≤ T) = true := decide_eq_true (by omega)
        have hz : z = 3 := by rw [← HZ.out, hm, hT, decide_eq_false (show ¬ (T : Int) < fr by omega)]; rfl
        have hv : v = 0 := by rw [← HV.out, hz]; rfl
        subst hz; subst hv
        clear hm HZ HV
        go_quiet ((go_at_call 71; exact Calls.quiet_of_same (CF _)))
        go_wp2_with (go_at_call 71; refine (CF _).mono ?_; rintro e w' ⟨rfl, rfl⟩)
        go_ret2
        exact ⟨rfl, ⟨t2, HM3.out.keep (S := fun _ => False) ((Ch.refl _ _).drewN _) (fun h => h) (fun h => h)⟩, HK3.out.drewN _⟩
    | false =>
      have q : E % 2 = 0 ∨ (E % 2 = 1 ∧ E / 16 % 2 = 0) ∨ (E % 2 = 1 ∧ E / 16 % 2 = 1 ∧ E / 8 % 2 = 0) := by
        by_cases q1 : E % 2 = 1
        · by_cases q2 : E / 16 % 2 = 1
          · unfold mayB at hm
            rw [decide_eq_true q1, decide_eq_true q2, Bool.true_and, Bool.true_and] at hm
            have := of_decide_eq_false hm
            omega
          · omega
        · omega
      have hz : z = 3 := by rw [← HZ.out, hm]; rfl
      have hv : v = 0 := by rw [← HV.out, hz]; rfl
      subst hz; subst hv
      clear hm HZ HV
      rcases q with q1 | ⟨q1, q2⟩ | ⟨q1, q2, q3⟩
      · go_quiet ((go_at_call 71; exact Calls.quiet_of_same (CF _)))
        go_wp2_with (go_at_call 71; refine (CF _).mono ?_; rintro e w' ⟨rfl, rfl⟩)
        go_ret2
        exact ⟨rfl, ⟨t2, HM3.out.keep (S := fun _ => False) ((Ch.refl _ _).drewN _) (fun h => h) (fun h => h)⟩, HK3.out.drewN _⟩
      · go_quiet ((go_at_call 71; exact Calls.quiet_of_same (CF _)))
        go_wp2_with (go_at_call 71; refine (CF _).mono ?_; rintro e w' ⟨rfl, rfl⟩)
        go_ret2
        exact ⟨rfl, ⟨t2, HM3.out.keep (S := fun _ => False) ((Ch.refl _ _).drewN _) (fun h => h) (fun h => h)⟩, HK3.out.drewN _⟩
      · go_quiet ((go_at_call 71; exact Calls.quiet_of_same (CF _)))
        go_wp2_with (go_at_call 71; refine (CF _).mono ?_; rintro e w' ⟨rfl, rfl⟩)
        go_ret2
        exact ⟨rfl, ⟨t2, HM3.out.keep (S := fun _ => False) ((Ch.refl _ _).drewN _) (fun h => h) (fun h => h)⟩, HK3.out.drewN _⟩
theorem r_walk (rb vb : Nat) (fr : Nat) (s : List UInt8) (t : Int) (w : World) (h : RMemO w rb vb s t) (hs : s.length = fr * 256) (r a acc v x : Int) (ha : u64 a) (hr : i64 r) (hv : walkV fr s r a acc = v) (hx : walkR fr s r a acc = x) :
    Calls Tryz.prog 98 #[.pointer (some ⟨rb, 0, none⟩), .int .i64 r, .int .u64 a, .int .i64 acc] w (RLeafP rb vb s v x w) := by
  have hw0 : (decide (0 ≤ r) && decide (r < (fr : Int))) = false → leafR fr s r a = 1 := fun q => by unfold leafR; rw [q]; rfl
  by_cases hn : (decide (0 ≤ r) && decide (r < (fr : Int))) = false ∨ acc < 1 ∨ 3 < acc
  · have hx1 : x = 1 := by
      rw [← hx]
      unfold walkR
      rcases hn with q | q
      · rw [hw0 q]
        rcases needed_in acc with h | h | h | h <;> rw [h] <;> rfl
      · have hn : neededI acc = 0 := by unfold neededI; rw [if_neg (by omega), if_neg (by omega), if_neg (by omega)]
        rw [hn]; rfl
    have hv1 : v = 0 := by rw [← hv]; unfold walkV; rw [hx, hx1]; rfl
    subst hx1; subst hv1
    exact r_walk_acc rb vb fr s t w h hs r a acc hn
  · have hb : (decide (0 ≤ r) && decide (r < (fr : Int))) = true := by
      cases hc : (decide (0 ≤ r) && decide (r < (fr : Int))) with
      | true => rfl
      | false => exact absurd (.inl hc) hn
    have ha3 : 1 ≤ acc ∧ acc ≤ 3 := ⟨by have := fun q => hn (.inr (.inl q)); omega, by have := fun q => hn (.inr (.inr q)); omega⟩
    have hn2 : (acc = 1 ∧ neededI acc = 2) ∨ (acc = 2 ∧ neededI acc = 4) ∨ (acc = 3 ∧ neededI acc = 8) := by
      have : acc = 1 ∨ acc = 2 ∨ acc = 3 := by omega
      rcases this with rfl | rfl | rfl
      · exact .inl ⟨rfl, rfl⟩
      · exact .inr (.inl ⟨rfl, rfl⟩)
      · exact .inr (.inr ⟨rfl, rfl⟩)
    have hn0 : neededI acc ≠ 0 := by omega
    by_cases hl : leafR fr s r a = 0
    · refine r_walk_ok rb vb fr s t w h hs r a acc (neededI acc) ha hr hb hn2 hl v x ?_ ?_
      · rw [← hx]; unfold walkR; rw [decide_eq_false hn0, decide_eq_true hl]; rfl
      · rw [← hv]; unfold walkV; rw [hx]
    · have hx1 : leafR fr s r a = x := by rw [← hx]; unfold walkR; rw [decide_eq_false hn0, decide_eq_false hl]; rfl
      have hv1 : v = 0 := by rw [← hv]; unfold walkV; rw [hx, decide_eq_false (by rw [← hx1]; exact hl)]; rfl
      subst hv1
      exact r_walk_bad rb vb fr s t w h hs r a acc x ha hr hb ha3 hx1 (by rw [← hx1]; exact hl)
end Go.Proofs.YtbcnibnkojnpiaaGreat.P
namespace Go.Proofs.YtbcnibnkojnpiaaGreat.P
open Go.RowKit Go.MuLone
theorem o_rload {w0 w : World} {b fr : Nat} {s : List UInt8} {R : Asn} (h : Own w0 w (Star (rmA b fr s) R)) (hR : Stable R) (a n v r : Int) (ha : u64 a) (hv : loadV s a n = v) (hr : loadR s a n = r) :
    Calls Tryz.prog 70 #[.pointer (some ⟨b, 0, none⟩), .int .u64 a, .int .i64 n] w fun e w' => e = .returned (.tuple #[.int .u64 v, .int .i64 r]) ∧ Own w0 w' (Star (rmA b fr s) R) := by
  subst hv; subst hr
  refine h.call hR (fun F hF => ?_)
  obtain ⟨vb, t, hM, hl, hb, hv⟩ := hF
  refine (r_load b vb s t w hM a n ha.1 ha.2).mono ?_
  rintro e w' ⟨rfl, hM', hk⟩
  exact ⟨rfl, rm_out hM' hl (hk.mono (fun x hx => .inl hx)) hb hv⟩
theorem o_rwalk {w0 w : World} {b fr : Nat} {s : List UInt8} {R : Asn} (h : Own w0 w (Star (rmA b fr s) R)) (hR : Stable R) (r a acc v x : Int) (ha : u64 a) (hr : i64 r) (hv : walkV fr s r a acc = v) (hx : walkR fr s r a acc = x) :
    Calls Tryz.prog 98 #[.pointer (some ⟨b, 0, none⟩), .int .i64 r, .int .u64 a, .int .i64 acc] w fun e w' => e = .returned (.tuple #[.int .u64 v, .int .i64 x]) ∧ Own w0 w' (Star (rmA b fr s) R) := by
  refine h.call hR (fun F hF => ?_)
  obtain ⟨vb, t, hM, hl, hb, hvb⟩ := hF
  refine (r_walk b vb fr s t w hM hl r a acc v x ha hr hv hx).mono ?_
  rintro e w' ⟨rfl, ⟨t', hM'⟩, hk⟩
  exact ⟨rfl, rm_out hM' hl (hk.mono (fun x hx => .inl hx)) hb hvb⟩
end Go.Proofs.YtbcnibnkojnpiaaGreat.P
namespace Go.Proofs.YtbcnibnkojnpiaaGreat.P
open Go.RowKit Go.MuLone Go.Maps Go.Proofs.YtbcnibnkojnpiaaGreat.W
/-- The document's pool, its memory, their blocks one's own; L: which are free. -/
def rpA (rp rb first : Nat) (L : List Bool) (s : List UInt8) : Asn := fun w F => ∃ ib vb H t, RPO w rp ib rb vb first H s t ∧ Rel first L H ∧ F rp ∧ F ib ∧ F rb ∧ F vb
theorem stable_rp (rp rb first : Nat) (L : List Bool) (s : List UInt8) : Stable (rpA rp rb first L s) := by
  rintro w w' F G ⟨ib, vb, H, t, h, hr, h1, h2, h3, h4⟩ hc hg
  exact ⟨ib, vb, H, t, h.keep hc (hg _ h1) (hg _ h2) (hg _ h3) (hg _ h4), hr, h1, h2, h3, h4⟩
variable {w0 w : World} {rp rb first : Nat} {L : List Bool} {s : List UInt8} {R : Asn}
theorem rp_out {w w' : World} {F : Nat → Prop} {rp ib rb vb first : Nat} {L H : List Bool} {s : List UInt8} {t : Int} (h : RPO w' rp ib rb vb first H s t) (hr : Rel first L H) (hc : Ch (fun x => x = ib ∨ x = rb ∨ x = vb) w w') (h1 : F rp) (h2 : F ib) (h3 : F rb) (h4 : F vb) : Out (rpA rp rb first L s) w w' F := by
  refine ⟨fun x => x = rp ∨ x = ib ∨ x = rb ∨ x = vb, ⟨ib, vb, H, t, h, hr, .inl rfl, .inr (.inl rfl), .inr (.inr (.inl rfl)), .inr (.inr (.inr rfl))⟩, fun x hx => ?_, hc.mono (fun x hx => ?_)⟩
  · rcases hx with rfl | rfl | rfl | rfl
    · exact ⟨.inl h1, blk_lt h.1⟩
    · exact ⟨.inl h2, blk_lt h.2.1⟩
    · exact ⟨.inl h3, blk_lt h.2.2.1.1⟩
    · exact ⟨.inl h4, blk_lt h.2.2.1.2.2.1⟩
  · rcases hx with rfl | rfl | rfl
    · exact h2
    · exact h3
    · exact h4
theorem o_qlen (h : Own w0 w (Star (rpA rp rb first L s) R)) : s.length = L.length * 256 ∧ L.length ≤ 256 ∧ first ≤ L.length := by
  obtain ⟨F, ib, vb, H, t, a, hr, _⟩ := h.left.get
  rw [hr.1]; exact ⟨a.2.2.2.2.1, a.2.2.2.2.2.1, a.2.2.2.2.2.2⟩
theorem o_qtaken (h : Own w0 w (Star (rpA rp rb first L s) R)) (k : Int) (v : Bool) (hv : tknB L first k = v) :
    Calls Tryz.prog 89 #[.pointer (some ⟨rp, 0, none⟩), .int .i64 k] w fun e w' => e = .returned (.bool v) ∧ w' = w := by
  subst hv
  obtain ⟨F, ib, vb, H, t, a, hr, _⟩ := h.left.get
  exact q_taken rp ib rb vb first L H s t w a hr k
theorem o_qleft (h : Own w0 w (Star (rpA rp rb first L s) R)) (n : Int) (hn : (cntL L first (L.length - first) : Int) = n) :
    Calls Tryz.prog 10 #[.pointer (some ⟨rp, 0, none⟩)] w fun e w' => e = .returned (.int .i64 n) ∧ w' = w := by
  subst hn
  obtain ⟨F, ib, vb, H, t, a, hr, _⟩ := h.left.get
  exact q_left rp ib rb vb first L H s t w a hr
theorem take_rel {L H : List Bool} (hr : Rel first L H) : Rel first (takeL L first) (takeH L H first) := by
  unfold takeL takeH
  have hge := nextL_ge L (L.length - first) first
  by_cases q : takeB L first = true
  · rw [q]
    exact hr.set _ _ hge (of_decide_eq_true q)
  · rw [Bool.not_eq_true] at q; rw [q]; exact hr
theorem give_rel {L H : List Bool} (hr : Rel first L H) (k : Int) : Rel first (giveL L first k) (giveH L H first k) := by
  unfold giveL giveH
  by_cases q : tknB L first k = true
  · rw [q]
    unfold tknB at q
    simp only [Bool.and_eq_true, decide_eq_true_eq] at q
    exact hr.set _ _ (by omega) (by omega)
  · rw [Bool.not_eq_true] at q; rw [q]; exact hr
theorem o_qtake (h : Own w0 w (Star (rpA rp rb first L s) R)) (hR : Stable R) (n e : Int) (L' : List Bool) (s' : List UInt8) (hn : takeN L first = n) (he : takeE L first = e) (hL : takeL L first = L') (hs : takeS L first s = s') :
    Calls Tryz.prog 28 #[.pointer (some ⟨rp, 0, none⟩)] w fun x w' => x = .returned (.tuple #[.int .i64 n, .int .i64 e]) ∧ Own w0 w' (Star (rpA rp rb first L' s') R) := by
  subst hn; subst he; subst hL; subst hs
  refine h.call hR (fun F hF => ?_)
  obtain ⟨ib, vb, H, t, a, hr, h1, h2, h3, h4⟩ := hF
  refine (q_take rp ib rb vb first L H s t w a hr).mono ?_
  rintro e w' ⟨rfl, h', hc⟩
  exact ⟨rfl, rp_out h' (take_rel hr) hc h1 h2 h3 h4⟩
theorem o_qgive (h : Own w0 w (Star (rpA rp rb first L s) R)) (hR : Stable R) (k : Int) (e : Int) (L' : List Bool) (s' : List UInt8) (he : giveE L first k = e) (hL : giveL L first k = L') (hs : giveS L first k s = s') :
    Calls Tryz.prog 67 #[.pointer (some ⟨rp, 0, none⟩), .int .i64 k] w fun x w' => x = .returned (.int .i64 e) ∧ Own w0 w' (Star (rpA rp rb first L' s') R) := by
  subst he; subst hL; subst hs
  refine h.call hR (fun F hF => ?_)
  obtain ⟨ib, vb, H, t, a, hr, h1, h2, h3, h4⟩ := hF
  refine (q_give rp ib rb vb first L H s t w a hr k).mono ?_
  rintro e w' ⟨rfl, h', hc⟩
  exact ⟨rfl, rp_out h' (give_rel hr k) hc h1 h2 h3 h4⟩
theorem RPO.turn {w w' : World} {rp ib rb vb first : Nat} {H : List Bool} {s s' : List UInt8} {t t' : Int} (h : RPO w rp ib rb vb first H s t) (hR : RMemO w' rb vb s' t') (hl : s'.length = s.length) (hc : Ch (fun x => x = rb ∨ x = vb) w w') : RPO w' rp ib rb vb first H s' t' := by
  obtain ⟨a1, a2, a3, ⟨n1, n2, n3, n4, n5⟩, a5, a6, a7⟩ := h
  refine ⟨hc.blk a1 (fun e => ?_), hc.blk a2 (fun e => ?_), hR, ⟨n1, n2, n3, n4, n5⟩, by rw [hl]; exact a5, a6, a7⟩
  · rcases e with e | e
    · exact n2 e.symm
    · exact n3 e.symm
  · rcases e with e | e
    · exact n4 e.symm
    · exact n5 e.symm
/-- A call on its memory. -/
theorem o_qon {f : FuncId} {args : Array Value} {v : Value} {s' : List UInt8} (h : Own w0 w (Star (rpA rp rb first L s) R)) (hR : Stable R) (hl : s'.length = s.length)
    (hc : ∀ vb t, RMemO w rb vb s t → s.length = L.length * 256 → Calls Tryz.prog f args w fun e w' => e = .returned v ∧ (∃ t', RMemO w' rb vb s' t') ∧ Ch (fun x => x = rb ∨ x = vb) w w') :
    Calls Tryz.prog f args w fun e w' => e = .returned v ∧ Own w0 w' (Star (rpA rp rb first L s') R) := by
  refine h.call hR (fun F hF => ?_)
  obtain ⟨ib, vb, H, t, a, hr, h1, h2, h3, h4⟩ := hF
  refine (hc vb t a.2.2.1 (by rw [hr.1]; exact a.2.2.2.2.1)).mono ?_
  rintro e w' ⟨rfl, ⟨t', hM⟩, hk⟩
  exact ⟨rfl, rp_out (a.turn hM hl hk) hr (hk.mono (fun x hx => hx.elim (fun e => .inr (.inl e)) (fun e => .inr (.inr e)))) h1 h2 h3 h4⟩
theorem o_qload (h : Own w0 w (Star (rpA rp rb first L s) R)) (hR : Stable R) (a n v r : Int) (ha : u64 a) (hv : loadV s a n = v) (hr : loadR s a n = r) :
    Calls Tryz.prog 70 #[.pointer (some ⟨rb, 0, none⟩), .int .u64 a, .int .i64 n] w fun e w' => e = .returned (.tuple #[.int .u64 v, .int .i64 r]) ∧ Own w0 w' (Star (rpA rp rb first L s) R) := by
  subst hv; subst hr
  refine o_qon h hR rfl (fun vb t hM _ => (r_load rb vb s t w hM a n ha.1 ha.2).mono ?_)
  rintro e w' ⟨rfl, hM', hk⟩
  exact ⟨rfl, ⟨_, hM'⟩, hk.mono (fun x hx => .inl hx)⟩
theorem o_qstore (h : Own w0 w (Star (rpA rp rb first L s) R)) (hR : Stable R) (a n v r : Int) (ha : u64 a) (hv : W.word v) (s' : List UInt8) (hs : storeS s a n v = s') (hr : loadR s a n = r) :
    Calls Tryz.prog 90 #[.pointer (some ⟨rb, 0, none⟩), .int .u64 a, .int .i64 n, .int .u64 v] w fun e w' => e = .returned (.int .i64 r) ∧ Own w0 w' (Star (rpA rp rb first L s') R) := by
  subst hs; subst hr
  refine o_qon h hR (storS_len2 _ _ _ _ ha.1) (fun vb t hM _ => (r_store rb vb s t w hM a n v ha.1 ha.2 hv).mono ?_)
  rintro e w' ⟨rfl, hM', hk⟩
  exact ⟨rfl, ⟨_, hM'⟩, hk.mono (fun x hx => hx.elim .inl (fun e => .inr (by injection e with e; exact e.symm)))⟩
theorem o_qleaf (h : Own w0 w (Star (rpA rp rb first L s) R)) (hR : Stable R) (r a v x : Int) (ha : u64 a) (hr : i64 r) (hv : leafV L.length s r a = v) (hx : leafR L.length s r a = x) :
    Calls Tryz.prog 69 #[.pointer (some ⟨rb, 0, none⟩), .int .i64 r, .int .u64 a] w fun e w' => e = .returned (.tuple #[.int .u64 v, .int .i64 x]) ∧ Own w0 w' (Star (rpA rp rb first L s) R) := by
  refine o_qon h hR rfl (fun vb t hM hl => (r_leaf rb vb L.length s t w hM hl r a v x ha hr hv hx).mono ?_)
  rintro e w' ⟨rfl, ⟨t', hM'⟩, hk⟩
  exact ⟨rfl, ⟨t', hM'⟩, hk.mono (fun x hx => .inl hx)⟩
theorem o_qwalk (h : Own w0 w (Star (rpA rp rb first L s) R)) (hR : Stable R) (r a acc v x : Int) (ha : u64 a) (hr : i64 r) (hv : walkV L.length s r a acc = v) (hx : walkR L.length s r a acc = x) :
    Calls Tryz.prog 98 #[.pointer (some ⟨rb, 0, none⟩), .int .i64 r, .int .u64 a, .int .i64 acc] w fun e w' => e = .returned (.tuple #[.int .u64 v, .int .i64 x]) ∧ Own w0 w' (Star (rpA rp rb first L s) R) := by
  refine o_qon h hR rfl (fun vb t hM hl => (r_walk rb vb L.length s t w hM hl r a acc v x ha hr hv hx).mono ?_)
  rintro e w' ⟨rfl, ⟨t', hM'⟩, hk⟩
  exact ⟨rfl, ⟨t', hM'⟩, hk.mono (fun x hx => .inl hx)⟩
theorem copyS_len (fr : Nat) (s : List UInt8) (n k : Int) (hs : s.length = fr * 256) : (copyS fr s n k).length = s.length := by
  unfold copyS
  split
  · split
    · rename_i h1 h2
      have h1 := of_decide_eq_true h1
      have h2 := of_decide_eq_true h2
      refine putL_len _ _ _ ?_
      rw [List.length_take, List.length_drop]; omega
    · rfl
  · rfl
theorem o_qcopy (h : Own w0 w (Star (rpA rp rb first L s) R)) (hR : Stable R) (n k : Int) (hk : 0 ≤ k) (r : Int) (s' : List UInt8) (hs : copyS L.length s n k = s') (hr : copyR L.length n k = r) :
    Calls Tryz.prog 66 #[.pointer (some ⟨rb, 0, none⟩), .int .i64 n, .int .i64 k] w fun e w' => e = .returned (.int .i64 r) ∧ Own w0 w' (Star (rpA rp rb first L s') R) := by
  subst hs; subst hr
  have hl := o_qlen h
  have e1 : rcopyS L.length s n k = copyS L.length s n k := by unfold rcopyS; rw [if_neg (by omega)]
  have e2 : rcopyR L.length n k = copyR L.length n k := by
    unfold rcopyR copyR
    by_cases q : frB L.length n = true
    · rw [if_pos q, if_pos q]
      by_cases q2 : k < (L.length : Int)
      · rw [if_pos q2, if_pos (frB_t ⟨hk, q2⟩)]
      · rw [if_neg q2, frB_f (fun h => q2 h.2), if_neg (by decide)]
    · rw [if_neg q, if_neg q]
  rw [← e1, ← e2]
  refine o_qon h hR (by rw [e1]; exact copyS_len _ _ _ _ hl.1) (fun vb t hM hl2 => (r_copy rb vb L.length s t w hM hl2 hl.2.1 n k).mono ?_)
  rintro e w' ⟨rfl, hM', hk⟩
  exact ⟨rfl, ⟨_, hM'⟩, hk.mono (fun x hx => hx.elim .inl (fun e => .inr (by injection e with e; exact e.symm)))⟩
/-- The document's pool is made of a memory. -/
theorem o_qnew {fr : Nat} (h : Own w0 w (Star (rmA rb fr s) R)) (hR : Stable R) (hf : first ≤ fr) (h256 : fr ≤ 256) :
    Calls Tryz.prog 25 #[.pointer (some ⟨rb, 0, none⟩), .int .i64 first] w fun e w' => ∃ rp, e = .returned (.pointer (some ⟨rp, 0, none⟩)) ∧ Own w0 w' (Star (rpA rp rb first (freshL fr first) s) R) := by
  refine (h.step_call (X := Nat) (A' := fun rp => rpA rp rb first (freshL fr first) s) (Q := fun rp e => e = .returned (.pointer (some ⟨rp, 0, none⟩))) hR (fun F hF => ?_))
  obtain ⟨vb, t, hM, hl, hb, hv⟩ := hF
  refine (q_new rb vb fr first s t w hM hl hf hM.2.1).mono ?_
  rintro e w' ⟨rp, ib, rfl, h', l1, l2, g⟩
  refine ⟨rp, rfl, fun x => x = rp ∨ x = ib ∨ x = rb ∨ x = vb, ⟨ib, vb, _, t, h', fresh_rel fr first, .inl rfl, .inr (.inl rfl), .inr (.inr (.inl rfl)), .inr (.inr (.inr rfl))⟩, fun x hx => ?_, Ch.of_gr g⟩
  rcases hx with rfl | rfl | rfl | rfl
  · exact ⟨.inr l1, blk_lt h'.1⟩
  · exact ⟨.inr l2, blk_lt h'.2.1⟩
  · exact ⟨.inl hb, blk_lt h'.2.2.1.1⟩
  · exact ⟨.inl hv, blk_lt h'.2.2.1.2.2.1⟩
end Go.Proofs.YtbcnibnkojnpiaaGreat.P
