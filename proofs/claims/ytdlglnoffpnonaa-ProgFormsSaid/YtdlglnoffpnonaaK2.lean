/- Stage 4: where the last entry of an address stands. No condition. -/
import Derived.Test.YtdlglnoffpnonaaK1
import Derived.Handy
set_option linter.unusedVariables false
namespace Go.Proofs.Ytdlglnoffpnonaa.P
open Go.RowKit Go.MuLone
/-- The entry that stands there. -/
def entS (s : List UInt8) (p : Int) : Int := loadV s p 8
theorem ent_word (s : List UInt8) (p : Int) : W.word (entS s p) := by
  unfold entS loadV
  split
  · split
    · exact W.ofF_word _
    · exact ⟨by decide, by decide⟩
  · exact ⟨by decide, by decide⟩
def KeptE (b : Nat) (y : Option Nat) (fr : Nat) (s : List UInt8) (w w' : World) : Prop := ∃ y' t', MemO w' b y' fr s t' ∧ KeptM b y w w' y'
theorem c_ent (b : Nat) (y : Option Nat) (fr : Nat) (s : List UInt8) (t : Int) (w : World) (h : MemO w b y fr s t) (p : Int) (h0 : 0 ≤ p) (h1 : p + 8 ≤ s.length) (v : Int) (hv : entS s p = v) :
    Calls Try.prog 62 #[.pointer (some ⟨b, 0, none⟩), .int .u64 p, .int .i64 8] w fun e w' => e = .returned (.tuple #[.int .u64 v, .int .i64 0]) ∧ KeptE b y fr s w w' := by
  subst hv
  have hl : s.length ≤ 65536 := by have := h.1; have := h.2.2.1; omega
  refine (c_load b y fr s t w h p 8 h0 (by omega)).mono ?_
  rintro e w' ⟨rfl, y', hM, hK⟩
  have e1 : loadR s p 8 = 0 := by unfold loadR inB; rw [if_pos (show sizedB 8 = true from rfl), if_pos (decide_eq_true h1)]
  rw [e1]
  exact ⟨rfl, y', _, hM, hK⟩
def ptB (fr : Nat) (e : Int) : Bool := decide (e % 16 = 1) && decide (e / 1024 < fr)
theorem c_there (b : Nat) (y : Option Nat) (fr : Nat) (s : List UInt8) (t : Int) (w : World) (h : MemO w b y fr s t) (e : Int) (he : W.word e) :
    Calls Try.prog 69 #[.pointer (some ⟨b, 0, none⟩), .int .u64 e] w fun x w' => x = .returned (.bool (decide (e / 1024 < fr))) ∧ w' = w := by
  have H := Lib.hid h
  have hf0 := h.2.2.1
  clear h
  obtain ⟨e0, e1⟩ := he
  go_enter Try.func69, Try.ntmps69
  go_wp2_with (first
    | (go_at_call 70; refine (c_kframe e ⟨e0, by omega⟩ _).mono ?_; rintro e w' ⟨rfl, rfl⟩)
    | (go_at_call 30; refine (c_frames b y fr s t _ H.out).mono ?_; rintro e w' ⟨rfl, rfl⟩))
  go_ret
  exact ⟨rfl, rfl⟩
theorem c_points (b : Nat) (y : Option Nat) (fr : Nat) (s : List UInt8) (t : Int) (w : World) (h : MemO w b y fr s t) (e : Int) (he : W.word e) :
    Calls Try.prog 76 #[.pointer (some ⟨b, 0, none⟩), .int .u64 e] w fun x w' => x = .returned (.bool (ptB fr e)) ∧ w' = w := by
  have H := Lib.hid h
  clear h
  have HE := Lib.hid he
  have ha : bits .and .u64 e 15 = e % 16 := W.and_mask e 4 (by decide) he
  clear he
  by_cases h1 : e % 16 = 1
  · rw [h1] at ha
    have hp : ptB fr e = decide (e / 1024 < fr) := by unfold ptB; rw [decide_eq_true h1]; rfl
    rw [hp]
    clear h1 hp
    go_enter Try.func76, Try.ntmps76
    go_wp2_with (go_at_call 69; refine (c_there b y fr s t _ H.out e HE.out).mono ?_; rintro e w' ⟨rfl, rfl⟩)
    go_ret
    exact ⟨rfl, rfl⟩
  · have hp : ptB fr e = false := by unfold ptB; rw [decide_eq_false h1]; rfl
    have d : (e % 16 == 1) = false := by simpa using h1
    rw [hp]
    generalize e % 16 = q at *
    clear h1 hp
    go_enter Try.func76, Try.ntmps76
    go_wp2_with fail
    go_ret
    exact ⟨rfl, rfl⟩
def leafA (s : List UInt8) (root a : Int) : Int := entS s (root * 256 + partI a 2 * 8)
def leafC (s : List UInt8) (root a : Int) : Int := entS s (leafA s root a / 1024 * 256 + partI a 1 * 8)
def leafR (fr : Nat) (s : List UInt8) (root a : Int) : Int :=
  bif decide (0 ≤ root) && decide (root < fr) then (bif decide (a < 8388608) then (bif ptB fr (leafA s root a) && ptB fr (leafC s root a) then 0 else 3) else 3) else 1
def leafV (fr : Nat) (s : List UInt8) (root a : Int) : Int := bif decide (leafR fr s root a = 0) then leafC s root a / 1024 * 256 + partI a 0 * 8 else 0
theorem part_bd (a l : Int) : 0 ≤ partI a l ∧ partI a l < 32 := by
  unfold partI; split
  · have h : ∀ x : Int, 0 ≤ x % 32 ∧ x % 32 < 32 := fun x => by omega
    exact h _
  · omega
theorem pt_lt {fr : Nat} {e : Int} (h : ptB fr e = true) : e / 1024 < fr := by
  unfold ptB at h; simp only [Bool.and_eq_true, decide_eq_true_eq] at h; exact h.2
def LeafP (b : Nat) (y : Option Nat) (fr : Nat) (s : List UInt8) (v r : Int) (w : World) (e : Ending) (w' : World) : Prop :=
  e = .returned (.tuple #[.int .u64 v, .int .i64 r]) ∧ KeptE b y fr s w w'
theorem KeptE.refl {b : Nat} {y : Option Nat} {fr : Nat} {s : List UInt8} {t : Int} {w : World} (h : MemO w b y fr s t) : KeptE b y fr s w w := ⟨y, t, h, KeptM.of_gr (Gr.refl w)⟩
set_option maxRecDepth 100000 in
theorem c_leaf_no (b : Nat) (y : Option Nat) (fr : Nat) (s : List UInt8) (t : Int) (w : World) (h : MemO w b y fr s t) (r a v x : Int) (ha : u64 a) (hr : i64 r) (hv : leafV fr s r a = v) (hx : leafR fr s r a = x) (hn : (r < 0 ∨ (fr : Int) ≤ r) ∨ 8388608 ≤ a) :
    Calls Try.prog 61 #[.pointer (some ⟨b, 0, none⟩), .int .i64 r, .int .u64 a] w (LeafP b y fr s v x w) := by
  have H := Lib.hid h
  clear h
  by_cases h1 : r < 0
  · have hx1 : x = 1 := by rw [← hx]; unfold leafR; rw [decide_eq_false (show ¬ 0 ≤ r by omega)]; rfl
    have hv1 : v = 0 := by rw [← hv]; unfold leafV; rw [hx, hx1]; rfl
    subst hx1; subst hv1
    clear hx hv hn
    go_enter Try.func61, Try.ntmps61
    go_wp2
    go_step3
    go_wp2_with (go_at_call 30; refine (c_frames b y fr s t _ H.out).mono ?_; rintro e w' ⟨rfl, rfl⟩)
    try rw [Exit.noGoto_ret]
    go_ret2
    exact ⟨rfl, KeptE.refl H.out⟩
  · have r0 : 0 ≤ r := by omega
    by_cases h2 : (fr : Int) ≤ r
    · have hx1 : x = 1 := by rw [← hx]; unfold leafR; rw [decide_eq_false (show ¬ r < fr by omega), Bool.and_false]; rfl
      have hv1 : v = 0 := by rw [← hv]; unfold leafV; rw [hx, hx1]; rfl
      subst hx1; subst hv1
      clear hx hv hn h1
      go_enter Try.func61, Try.ntmps61
      go_wp2
      go_step3
      go_wp2_with (go_at_call 30; refine (c_frames b y fr s t _ H.out).mono ?_; rintro e w' ⟨rfl, rfl⟩)
      try rw [Exit.noGoto_ret]
      go_ret2
      exact ⟨rfl, KeptE.refl H.out⟩
    · have h3 : 8388608 ≤ a := by omega
      have hx1 : x = 3 := by rw [← hx]; unfold leafR; rw [decide_eq_true r0, decide_eq_true (show r < fr by omega), decide_eq_false (show ¬ a < 8388608 by omega)]; rfl
      have hv1 : v = 0 := by rw [← hv]; unfold leafV; rw [hx, hx1]; rfl
      subst hx1; subst hv1
      have d2 : decide ((fr : Int) ≤ r) = false := decide_eq_false h2
      clear hx hv hn h1 h2
      go_enter Try.func61, Try.ntmps61
      go_wp2
      go_step3
      go_wp2_with (go_at_call 30; refine (c_frames b y fr s t _ H.out).mono ?_; rintro e w' ⟨rfl, rfl⟩)
      try rw [Exit.noGoto_ret]
      go_ret2
      exact ⟨rfl, KeptE.refl H.out⟩
set_option maxRecDepth 100000 in
set_option maxHeartbeats 1600000 in
theorem c_leaf_yes (b : Nat) (y : Option Nat) (fr : Nat) (s : List UInt8) (t : Int) (w : World) (h : MemO w b y fr s t) (r : Nat) (a : Int) (ha : u64 a) (hr : r < fr) (h3 : a < 8388608) :
    Calls Try.prog 61 #[.pointer (some ⟨b, 0, none⟩), .int .i64 (r : Int), .int .u64 a] w (LeafP b y fr s (leafV fr s r a) (leafR fr s r a) w) := by
  have H := Lib.hid h
  have hlen : s.length ≤ 65536 ∧ (s.length : Int) = (fr : Int) * 256 ∧ fr ≤ 256 := by have := h.1; have := h.2.2.1; omega
  clear h
  obtain ⟨hl, hl2, hf0⟩ := hlen
  have HL2 := Lib.hid hl2
  obtain ⟨a0, a1⟩ := ha
  have HP0 := part_bd a 0
  have HP1 := part_bd a 1
  have HP2 := part_bd a 2
  obtain ⟨p0, hp0⟩ : ∃ q, q = partI a 0 := ⟨_, rfl⟩
  obtain ⟨p1, hp1⟩ : ∃ q, q = partI a 1 := ⟨_, rfl⟩
  obtain ⟨p2, hp2⟩ : ∃ q, q = partI a 2 := ⟨_, rfl⟩
  have C0 : ∀ w : World, Calls Try.prog 75 #[.int .u64 a, .int .i64 0] w fun e w' => e = .returned (.int .i64 p0) ∧ w' = w := fun w => by rw [hp0]; exact c_kpart a 0 ⟨a0, a1⟩ w
  have C1 : ∀ w : World, Calls Try.prog 75 #[.int .u64 a, .int .i64 1] w fun e w' => e = .returned (.int .i64 p1) ∧ w' = w := fun w => by rw [hp1]; exact c_kpart a 1 ⟨a0, a1⟩ w
  have C2 : ∀ w : World, Calls Try.prog 75 #[.int .u64 a, .int .i64 2] w fun e w' => e = .returned (.int .i64 p2) ∧ w' = w := fun w => by rw [hp2]; exact c_kpart a 2 ⟨a0, a1⟩ w
  have EA : RowKit.Hid (entS s ((r : Int) * 256 + p2 * 8) = leafA s r a) := Lib.hid (by rw [hp2]; rfl)
  have EC : RowKit.Hid (entS s (leafA s r a / 1024 * 256 + p1 * 8) = leafC s r a) := Lib.hid (by rw [hp1]; rfl)
  rw [← hp0] at HP0
  rw [← hp1] at HP1
  rw [← hp2] at HP2
  have WA : W.word (leafA s r a) := ent_word s _
  have WC : W.word (leafC s r a) := ent_word s _
  have hR : leafR fr s r a = bif ptB fr (leafA s r a) && ptB fr (leafC s r a) then 0 else 3 := by unfold leafR; rw [decide_eq_true (show (0 : Int) ≤ r by omega), decide_eq_true (show (r : Int) < fr by omega), decide_eq_true h3]; rfl
  have hV : leafV fr s r a = bif decide (leafR fr s r a = 0) then leafC s r a / 1024 * 256 + p0 * 8 else 0 := by rw [hp0]; rfl
  clear hp0 hp1 hp2
  generalize leafV fr s r a = V at *
  generalize leafR fr s r a = R at *
  generalize leafC s r a = EC' at *
  generalize leafA s r a = EA' at *
  have d1 : decide (fr ≤ r) = false := decide_eq_false (by omega)
  have d2 : decide (8388608 ≤ a) = false := decide_eq_false (by omega)
  have r0 : (0 : Int) ≤ r := by omega
  have r1 : (r : Int) < 256 := by omega
  have HR := Lib.hid hR
  have HV := Lib.hid hV
  have HWA := Lib.hid WA
  have HWC := Lib.hid WC
  clear hR hV hl2
  go_enter Try.func61, Try.ntmps61
  go_wp2
  go_step3
  go_wp2_with (go_at_call 30; refine (c_frames b y fr s t _ H.out).mono ?_; rintro e w' ⟨rfl, rfl⟩)
  go_step3
  go_wp2
  refine wp_loop_rounds 3 ?_
  rw [rounds_succ]
  go_wp2_with (go_at_call 75; refine (C2 _).mono ?_; rintro e w' ⟨rfl, rfl⟩)
  refine (c_ent b y fr s t _ H.out ((r : Int) * 256 + p2 * 8) (by omega) (by have := HL2.out; omega) EA' EA.out).mono ?_
  rintro e w1 ⟨rfl, y1, t1, hM1, hK1⟩
  have HM1 := Lib.hid hM1
  have HK1 := Lib.hid hK1
  clear hM1 hK1
  cases hpa : ptB fr EA' with
  | false =>
    have hR0 : R = 3 := by have := HR.out; rw [hpa] at this; exact this
    have hV0 : V = 0 := by rw [HV.out, hR0]; rfl
    subst hR0; subst hV0
    have HPA := Lib.hid hpa
    clear hpa
    go_wp2_with (go_at_call 76; refine (c_points b y1 fr s t1 _ HM1.out EA' HWA.out).mono ?_; rintro e w' ⟨rfl, rfl⟩; rw [HPA.out])
    try rw [Exit.noGoto_ret]
    go_ret2
    exact ⟨rfl, y1, t1, HM1.out, HK1.out⟩
  | true =>
    have hlt := pt_lt hpa
    have HPA := Lib.hid hpa
    clear hpa
    obtain ⟨T, hT⟩ : ∃ T : Nat, EA' / 1024 = (T : Int) := ⟨(EA' / 1024).toNat, by have := HWA.out.1; omega⟩
    have CF : ∀ w : World, Calls Try.prog 70 #[.int .u64 EA'] w fun e w' => e = .returned (.int .u64 (T : Int)) ∧ w' = w := fun w => by rw [← hT]; exact c_kframe EA' ⟨HWA.out.1, by have := HWA.out.2; omega⟩ w
    rw [hT] at EC hlt
    clear hT
    have t0 : (0 : Int) ≤ T := by omega
    have t1' : (T : Int) < 256 := by omega
    go_wp2_with (first
      | (go_at_call 76; refine (c_points b y1 fr s t1 _ HM1.out EA' HWA.out).mono ?_; rintro e w' ⟨rfl, rfl⟩; rw [HPA.out])
      | (go_at_call 70; refine (CF _).mono ?_; rintro e w' ⟨rfl, rfl⟩))
    rw [rounds_succ]
    go_wp2_with (go_at_call 75; refine (C1 _).mono ?_; rintro e w' ⟨rfl, rfl⟩)
    refine (c_ent b y1 fr s t1 _ HM1.out ((T : Int) * 256 + p1 * 8) (by omega) (by have := HL2.out; omega) EC' EC.out).mono ?_
    rintro e w2 ⟨rfl, y2, t2, hM2, hK2⟩
    have HM2 := Lib.hid hM2
    have HK2 := Lib.hid (HK1.out.trans hK2)
    clear hM2 hK2 HM1 HK1
    cases hpc : ptB fr EC' with
    | false =>
      have hR0 : R = 3 := by have := HR.out; rw [HPA.out, hpc] at this; exact this
      have hV0 : V = 0 := by rw [HV.out, hR0]; rfl
      subst hR0; subst hV0
      have HPC := Lib.hid hpc
      clear hpc
      go_wp2_with (go_at_call 76; refine (c_points b y2 fr s t2 _ HM2.out EC' HWC.out).mono ?_; rintro e w' ⟨rfl, rfl⟩; rw [HPC.out])
      try rw [Exit.noGoto_ret]
      go_ret2
      exact ⟨rfl, y2, t2, HM2.out, HK2.out⟩
    | true =>
      have hlt2 := pt_lt hpc
      have HPC := Lib.hid hpc
      have hR0 : R = 0 := by have := HR.out; rw [HPA.out, hpc] at this; exact this
      clear hpc
      obtain ⟨U, hU⟩ : ∃ U : Nat, EC' / 1024 = (U : Int) := ⟨(EC' / 1024).toNat, by have := HWC.out.1; omega⟩
      have CG : ∀ w : World, Calls Try.prog 70 #[.int .u64 EC'] w fun e w' => e = .returned (.int .u64 (U : Int)) ∧ w' = w := fun w => by rw [← hU]; exact c_kframe EC' ⟨HWC.out.1, by have := HWC.out.2; omega⟩ w
      have hV0 : V = (U : Int) * 256 + p0 * 8 := by rw [HV.out, hR0, hU]; rfl
      rw [hU] at hlt2
      clear hU
      subst hR0; subst hV0
      have u0 : (0 : Int) ≤ U := by omega
      have u1 : (U : Int) < 256 := by omega
      go_wp2_with (first
        | (go_at_call 76; refine (c_points b y2 fr s t2 _ HM2.out EC' HWC.out).mono ?_; rintro e w' ⟨rfl, rfl⟩; rw [HPC.out])
        | (go_at_call 70; refine (CG _).mono ?_; rintro e w' ⟨rfl, rfl⟩))
      rw [rounds_succ]
      go_wp2_with (go_at_call 75; refine (C0 _).mono ?_; rintro e w' ⟨rfl, rfl⟩)
      try rw [Exit.noGoto_ret]
      go_ret2
      exact ⟨rfl, y2, t2, HM2.out, HK2.out⟩
end Go.Proofs.Ytdlglnoffpnonaa.P
