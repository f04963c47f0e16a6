/- Stage 4: where the last entry of an address stands. No condition. -/
import Derived.Test.YtbcnibnkojnpiaaGreatK1
import Derived.Handy
set_option linter.unusedVariables false
namespace Go.Proofs.YtbcnibnkojnpiaaGreat.P
open Go.RowKit Go.MuLone
/-- The entry that stands there. -/
def entS (s : List UInt8) (p : Int) : Int := loadV s p 8
theorem ent_word (s : List UInt8) (p : Int) : W.word (entS s p) := by
  unfold entS loadV
  split
  · split
    · exact W.ofF_word _
    · exact ⟨by decide, by decide⟩
  · exact ⟨by decide, by decide⟩
def KeptE (b : Nat) (y : Option Nat) (fr : Nat) (s : List UInt8) (w w' : World) : Prop := ∃ y' t', MemO w' b y' fr s t' ∧ KeptM b y w w' y'
theorem c_ent (b : Nat) (y : Option Nat) (fr : Nat) (s : List UInt8) (t : Int) (w : World) (h : MemO w b y fr s t) (p : Int) (h0 : 0 ≤ p) (h1 : p + 8 ≤ s.length) (v : Int) (hv : entS s p = v) :
    Calls Tryz.prog 45 #[.pointer (some ⟨b, 0, none⟩), .int .u64 p, .int .i64 8] w fun e w' => e = .returned (.tuple #[.int .u64 v, .int .i64 0]) ∧ KeptE b y fr s w w' := by
  subst hv
  have hl : s.length ≤ 65536 := by have := h.1; have := h.2.2.1; omega
  refine (c_load b y fr s t w h p 8 h0 (by omega)).mono ?_
  rintro e w' ⟨rfl, y', hM, hK⟩
  have e1 : loadR s p 8 = 0 := by unfold loadR inB; rw [if_pos (show sizedB 8 = true from rfl), if_pos (decide_eq_true h1)]
  rw [e1]
  exact ⟨rfl, y', _, hM, hK⟩
def ptB (fr : Nat) (e : Int) : Bool := decide (e % 16 = 1) && decide (e / 1024 < fr)
theorem c_there (b : Nat) (y : Option Nat) (fr : Nat) (s : List UInt8) (t : Int) (w : World) (h : MemO w b y fr s t) (e : Int) (he : W.word e) :
    Calls Tryz.prog 78 #[.pointer (some ⟨b, 0, none⟩), .int .u64 e] w fun x w' => x = .returned (.bool (decide (e / 1024 < fr))) ∧ w' = w := by
  have H := Lib.hid h
  have hf0 := h.2.2.1
  clear h
  obtain ⟨e0, e1⟩ := he
  go_enter Tryz.func78, Tryz.ntmps78
  go_wp2_with (first
    | (go_at_call 79; refine (c_kframe e ⟨e0, by omega⟩ _).mono ?_; rintro e w' ⟨rfl, rfl⟩)
    | (go_at_call 49; refine (c_frames b y fr s t _ H.out).mono ?_; rintro e w' ⟨rfl, rfl⟩))
  go_ret
  exact ⟨rfl, rfl⟩
theorem c_points (b : Nat) (y : Option Nat) (fr : Nat) (s : List UInt8) (t : Int) (w : World) (h : MemO w b y fr s t) (e : Int) (he : W.word e) :
    Calls Tryz.prog 86 #[.pointer (some ⟨b, 0, none⟩), .int .u64 e] w fun x w' => x = .returned (.bool (ptB fr e)) ∧ w' = w := by
  have H := Lib.hid h
  clear h
  have HE := Lib.hid he
  have ha : bits .and .u64 e 15 = e % 16 := W.and_mask e 4 (by decide) he
  clear he
  by_cases h1 : e % 16 = 1
  · rw [h1] at ha
    have hp : ptB fr e = decide (e / 1024 < fr) := by unfold ptB; rw [decide_eq_true h1]; rfl
    rw [hp]
    clear h1 hp
    go_enter Tryz.func86, Tryz.ntmps86
    go_wp2_with (go_at_call 78; refine (c_there b y fr s t _ H.out e HE.out).mono ?_; rintro e w' ⟨rfl, rfl⟩)
    go_ret
    exact ⟨rfl, rfl⟩
  · have hp : ptB fr e = false := by unfold ptB; rw [decide_eq_false h1]; rfl
    have d : (e % 16 == 1) = false := by simpa using h1
    rw [hp]
    generalize e % 16 = q at *
    clear h1 hp
    go_enter Tryz.func86, Tryz.ntmps86
    go_wp2_with fail
    go_ret
    exact ⟨rfl, rfl⟩
def leafA (s : List UInt8) (root a : Int) : Int := entS s (root * 256 + partI a 2 * 8)
def leafC (s : List UInt8) (root a : Int) : Int := entS s (leafA s root a / 1024 * 256 + partI a 1 * 8)
def leafR (fr : Nat) (s : List UInt8) (root a : Int) : Int :=
  bif decide (0 ≤ root) && decide (root < fr) then (bif decide (a < 8388608) then (bif ptB fr (leafA s root a) && ptB fr (leafC s root a) then 0 else 3) else 3) else 1
def leafV (fr : Nat) (s : List UInt8) (root a : Int) : Int := bif decide (leafR fr s root a = 0) then leafC s root a / 1024 * 256 + partI a 0 * 8 else 0
theorem part_bd (a l : Int) : 0 ≤ partI a l ∧ partI a l < 32 := by
  unfold partI; split
  · have h : ∀ x : Int, 0 ≤ x % 32 ∧ x % 32 < 32 := fun x => by omega
    exact h _
  · omega
theorem pt_lt {fr : Nat} {e : Int} (h : ptB fr e = true) : e / 1024 < fr := by
  unfold ptB at h; simp only [Bool.and_eq_true, decide_eq_true_eq] at h; exact h.2
def LeafP (b : Nat) (y : Option Nat) (fr : Nat) (s : List UInt8) (v r : Int) (w : World) (e : Ending) (w' : World) : Prop :=
  e = .returned (.tuple #[.int .u64 v, .int .i64 r]) ∧ KeptE b y fr s w w'
theorem KeptE.refl {b : Nat} {y : Option Nat} {fr : Nat} {s : List UInt8} {t : Int} {w : World} (h : MemO w b y fr s t) : KeptE b y fr s w w := ⟨y, t, h, KeptM.of_gr (Gr.refl w)⟩
set_option maxRecDepth 100000 in
theorem c_leaf_no (b : Nat) (y : Option Nat) (fr : Nat) (s : List UInt8) (t : Int) (w : World) (h : MemO w b y fr s t) (r a v x : Int) (ha : u64 a) (hr : i64 r) (hv : leafV fr s r a = v) (hx : leafR fr s r a = x) (hn : (r < 0 ∨ (fr : Int) ≤ r) ∨ 8388608 ≤ a) :
    Calls Tryz.prog 51 #[.pointer (some ⟨b, 0, none⟩), .int .i64 r, .int .u64 a] w (LeafP b y fr s v x w) := by
  have H := Lib.hid h
  clear h
  by_cases h1 : r < 0
  · have hx1 : x = 1 := by rw [← hx]; unfold leafR; rw [decide_eq_false (show ¬ 0 ≤ r by omega)]; rfl
    have hv1 : v = 0 := by rw [← hv]; unfold leafV; rw [hx, hx1]; rfl
    subst hx1; subst hv1
    clear hx hv hn
    go_enter Tryz.func51, Tryz.ntmps51
    go_wp2
    go_step3
    go_wp2_with (go_at_call 49; refine (c_frames b y fr s t _ H.out).mono ?_; rintro e w' ⟨rfl, rfl⟩)
    try rw [Exit.noGoto_ret]
    go_ret2
    exact ⟨rfl, KeptE.refl H.out⟩
  · have r0 : 0 ≤ r := by omega
    by_cases h2 : (fr : Int) ≤ r
    · have hx1 : x = 1 := by rw [← hx]; unfold leafR; rw [decide_eq_false (show ¬ r < fr by omega), Bool.and_false]; rfl
      have hv1 : v = 0 := by rw [← hv]; unfold leafV; rw [hx, hx1]; rfl
      subst hx1; subst hv1
      clear hx hv hn h1
      go_enter Tryz.func51, Tryz.ntmps51
      go_wp2
      go_step3
      go_wp2_with (go_at_call 49; refine (c_frames b y fr s t _ H.out).mono ?_; rintro e w' ⟨rfl, rfl⟩)
      try rw [Exit.noGoto_ret]
      go_ret2
      exact ⟨rfl, KeptE.refl H.out⟩
    · have h3 : 8388608 ≤ a := by omega
      have hx1 : x = 3 := by rw [← hx]; unfold leafR; rw [decide_eq_true r0, decide_eq_true (show r < fr by omega), decide_eq_false (show ¬ a < 8388608 by omega)]; rfl
      have hv1 : v = 0 := by rw [← hv]; unfold leafV; rw [hx, hx1]; rfl
      subst hx1; subst hv1
      have d2 : decide ((fr : Int) ≤ r) = false := decide_eq_false h2
      clear hx hv hn h1 h2
      go_enter Tryz.func51, Tryz.ntmps51
      go_wp2
      go_step3
      go_wp2_with (go_at_call 49; refine (c_frames b y fr s t _ H.out).mono ?_; rintro e w' ⟨rfl, rfl⟩)
      try rw [Exit.noGoto_ret]
      go_ret2
      exact ⟨rfl, KeptE.refl H.out⟩
set_option maxRecDepth 100000 in
set_option maxHeartbeats 1600000 in
theorem c_leaf_yes (b : Nat) (y : Option Nat) (fr : Nat) (s : List UInt8) (t : Int) (w : World) (h : MemO w b y fr s t) (r : Nat) (a : Int) (ha : u64 a) (hr : r < fr) (h3 : a < 8388608) :
    Calls Tryz.prog 51 #[.pointer (some ⟨b, 0, none⟩), .int .i64 (r : Int), .int .u64 a] w (LeafP b y fr s (leafV fr s r a) (leafR fr s r a) w) := by
  have H := Lib.hid h
  have hlen : s.length ≤ 65536 ∧ (s.length : Int) = (fr : Int) * 256 ∧ fr ≤ 256 := by have := h.1; have := h.2.2.1; omega
  clear h
  obtain ⟨hl, hl2, hf0⟩ := hlen
  have HL2 := Lib.hid hl2
  obtain ⟨a0, a1⟩ := ha
  have HP0 := part_bd a 0
  have HP1 := part_bd a 1
  have HP2 := part_bd a 2
  obtain ⟨p0, hp0⟩ : ∃ q, q = partI a 0 := ⟨_, rfl⟩
  obtain ⟨p1, hp1⟩ : ∃ q, q = partI a 1 := ⟨_, rfl⟩
  obtain ⟨p2, hp2⟩ : ∃ q, q = partI a 2 := ⟨_, rfl⟩
  have C0 : ∀ w : World, Calls Tryz.prog 85 #[.int .u64 a, .int .i64 0] w fun e w' => e = .returned (.int .i64 p0) ∧ w' = w := fun w => by rw [hp0]; exact c_kpart a 0 ⟨a0, a1⟩ w
  have C1 : ∀ w : World, Calls Tryz.prog 85 #[.int .u64 a, .int .i64 1] w fun e w' => e = .returned (.int .i64 p1) ∧ w' = w := fun w => by rw [hp1]; exact c_kpart a 1 ⟨a0, a1⟩ w
  have C2 : ∀ w : World, Calls Tryz.prog 85 #[.int .u64 a, .int .i64 2] w fun e w' => e = .returned (.int .i64 p2) ∧ w' = w := fun w => by rw [hp2]; exact c_kpart a 2 ⟨a0, a1⟩ w
  have EA : RowKit.Hid (entS s ((r : Int) * 256 + p2 * 8) = leafA s r a) := Lib.hid (by rw [hp2]; rfl)
  have EC : RowKit.Hid (entS s (leafA s r a / 1024 * 256 + p1 * 8) = leafC s r a) := Lib.hid (by rw [hp1]; rfl)
  rw [← hp0] at HP0
  rw [← hp1] at HP1
  rw [← hp2] at HP2
  have WA : W.word (leafA s r a) := ent_word s _
  have WC : W.word (leafC s r a) := ent_word s _
  have hR : leafR fr s r a = bif ptB fr (leafA s r a) && ptB fr (leafC s r a) then 0 else 3 := by unfold leafR; rw [decide_eq_true (show (0 : Int) ≤ r by omega), decide_eq_true (show (r : Int) < fr by omega), decide_eq_true h3]; rfl
  have hV : leafV fr s r a = bif decide (leafR fr s r a = 0) then leafC s r a / 1024 * 256 + p0 * 8 else 0 := by rw [hp0]; rfl
  clear hp0 hp1 hp2
  generalize leafV fr s r a = V at *
  generalize leafR fr s r a = R at *
  generalize leafC s r a = EC' at *
  generalize leafA s r a = EA' at *
  have d1 : decide (fr ≤ r) = false := decide_eq_false (by omega)
  have d2 : decide (8388608 ≤ a) = false := decide_eq_false (by omega)
  have r0 : (0 : Int) ≤ r := by omega
  have r1 : (r : Int) < 256 := by omega
  have HR := Lib.hid hR
  have HV := Lib.hid hV
  have HWA := Lib.hid WA
  have HWC := Lib.hid WC
  clear hR hV hl2
  go_enter Tryz.func51, Tryz.ntmps51
  go_wp2
  go_step3
  go_wp2_with (go_at_call 49; refine (c_frames b y fr s t _ H.out).mono ?_; rintro e w' ⟨rfl, rfl⟩)
  go_step3
  go_wp2
  refine wp_loop_rounds 3 ?_
  rw [rounds_succ]
  go_wp2_with (go_at_call 85; refine (C2 _).mono ?_; rintro e w' ⟨rfl, rfl⟩)
  refine (c_ent b y fr s t _ H.out ((r : Int) * 256 + p2 * 8) (by omega) (by have := HL2.out; omega) EA' EA.out).mono ?_
  rintro e w1 ⟨rfl, y1, t1, hM1, hK1⟩
  have HM1 := Lib.hid hM1
  have HK1 := Lib.hid hK1
  clear hM1 hK1
  cases hpa : ptB fr EA' with
  | false =>
    have hR0 : R = 3 := by have := HR.out; rw [hpa] at this; exact this
    have hV0 : V = 0 := by rw [HV.out, hR0]; rfl
    subst hR0; subst hV0
    have HPA := Lib.hid hpa
    clear hpa
    go_wp2_with (go_at_call 86; refine (c_points b y1 fr s t1 _ HM1.out EA' HWA.out).mono ?_; rintro e w' ⟨rfl, rfl⟩; rw [HPA.out])
    try rw [Exit.noGoto_ret]
    go_ret2
    exact ⟨rfl, y1, t1, HM1.out, HK1.out⟩
  | true =>
    have hlt := pt_lt hpa
    have HPA := Lib.hid hpa
    clear hpa
    obtain ⟨T, hT⟩ : ∃ T : Nat, EA' / 1024 = (T : Int) := ⟨(EA' / 1024).toNat, by have := HWA.out.1; omega⟩
    have CF : ∀ w : World, Calls Tryz.prog 79 #[.int .u64 EA'] w fun e w' => e = .returned (.int .u64 (T : Int)) ∧ w' = w := fun w => by rw [← hT]; exact c_kframe EA' ⟨HWA.out.1, by have := HWA.out.2; omega⟩ w
    rw [hT] at EC hlt
    clear hT
    have t0 : (0 : Int) ≤ T := by omega
    have t1' : (T : Int) < 256 := by omega
    go_wp2_with (first
      | (go_at_call 86; refine (c_points b y1 fr s t1 _ HM1.out EA' HWA.out).mono ?_; rintro e w' ⟨rfl, rfl⟩; rw [HPA.out])
      | (go_at_call 79; refine (CF _).mono ?_; rintro e w' ⟨rfl, rfl⟩))
    rw [rounds_succ]
    go_wp2_with (go_at_call 85; refine (C1 _).mono ?_; rintro e w' ⟨rfl, rfl⟩)
    refine (c_ent b y1 fr s t1 _ HM1.out ((T : Int) * 256 + p1 * 8) (by omega) (by have := HL2.out; omega) EC' EC.out).mono ?_
    rintro e w2 ⟨rfl, y2, t2, hM2, hK2⟩
    have HM2 := Lib.hid hM2
    have HK2 := Lib.hid (HK1.out.trans hK2)
    clear hM2 hK2 HM1 HK1
    cases hpc : ptB fr EC' with
    | false =>
      have hR0 : R = 3 := by have := HR.out; rw [HPA.out, hpc] at this; exact this
      have hV0 : V = 0 := by rw [HV.out, hR0]; rfl
      subst hR0; subst hV0
      have HPC := Lib.hid hpc
      clear hpc
      go_wp2_with (go_at_call 86; refine (c_points b y2 fr s t2 _ HM2.out EC' HWC.out).mono ?_; rintro e w' ⟨rfl, rfl⟩; rw [HPC.out])
      try rw [Exit.noGoto_ret]
      go_ret2
      exact ⟨rfl, y2, t2, HM2.out, HK2.out⟩
    | true =>
      have hlt2 := pt_lt hpc
      have HPC := Lib.hid hpc
      have hR0 : R = 0 := by have := HR.out; rw [HPA.out, hpc] at this; exact this
      clear hpc
      obtain ⟨U, hU⟩ : ∃ U : Nat, EC' / 1024 = (U : Int) := ⟨(EC' / 1024).toNat, by have := HWC.out.1; omega⟩
      have CG : ∀ w : World, Calls Tryz.prog 79 #[.int .u64 EC'] w fun e w' => e = .returned (.int .u64 (U : Int)) ∧ w' = w := fun w => by rw [← hU]; exact c_kframe EC' ⟨HWC.out.1, by have := HWC.out.2; omega⟩ w
      have hV0 : V = (U : Int) * 256 + p0 * 8 := by rw [HV.out, hR0, hU]; rfl
      rw [hU] at hlt2
      clear hU
      subst hR0; subst hV0
      have u0 : (0 : Int) ≤ U := by omega
      have u1 : (U : Int) < 256 := by omega
      go_wp2_with (first
        | (go_at_call 86; refine (c_points b y2 fr s t2 _ HM2.out EC' HWC.out).mono ?_; rintro e w' ⟨rfl, rfl⟩; rw [HPC.out])
        | (go_at_call 79; refine (CG _).mono ?_; rintro e w' ⟨rfl, rfl⟩))
      rw [rounds_succ]
      go_wp2_with (go_at_call 85; refine (C0 _).mono ?_; rintro e w' ⟨rfl, rfl⟩)
      try rw [Exit.noGoto_ret]
      go_ret2
      exact ⟨rfl, y2, t2, HM2.out, HK2.out⟩
end Go.Proofs.YtbcnibnkojnpiaaGreat.P
namespace Go.Proofs.YtbcnibnkojnpiaaGreat.P
open Go.RowKit Go.MuLone
theorem c_leaf (b : Nat) (y : Option Nat) (fr : Nat) (s : List UInt8) (t : Int) (w : World) (h : MemO w b y fr s t) (r a v x : Int) (ha : u64 a) (hr : i64 r) (hv : leafV fr s r a = v) (hx : leafR fr s r a = x) :
    Calls Tryz.prog 51 #[.pointer (some ⟨b, 0, none⟩), .int .i64 r, .int .u64 a] w (LeafP b y fr s v x w) := by
  by_cases hn : (r < 0 ∨ (fr : Int) ≤ r) ∨ 8388608 ≤ a
  · exact c_leaf_no b y fr s t w h r a v x ha hr hv hx hn
  · obtain ⟨n, rfl⟩ : ∃ n : Nat, r = (n : Int) := ⟨r.toNat, by omega⟩
    subst hv; subst hx
    exact c_leaf_yes b y fr s t w h n a ha (by omega) (by omega)
theorem leaf_in {fr : Nat} {s : List UInt8} {r a : Int} (hs : s.length = fr * 256) (h : leafR fr s r a = 0) : 0 ≤ leafV fr s r a ∧ leafV fr s r a + 8 ≤ s.length := by
  have hw := ent_word s (leafA s r a / 1024 * 256 + partI a 1 * 8)
  have hp := part_bd a 0
  have e : leafV fr s r a = leafC s r a / 1024 * 256 + partI a 0 * 8 := by unfold leafV; rw [h]; rfl
  have hc : ptB fr (leafC s r a) = true := by
    unfold leafR at h
    cases h1 : (decide (0 ≤ r) && decide (r < (fr : Int))) <;> cases h2 : decide (a < 8388608) <;> cases h3 : ptB fr (leafA s r a) <;> cases h4 : ptB fr (leafC s r a) <;> simp_all
  have := pt_lt hc
  change W.word (leafC s r a) at hw
  have := hw.1
  rw [e]
  omega
def mayB (n e : Int) : Bool := decide (e % 2 = 1) && (decide (e / 16 % 2 = 1) && decide (e / n % 2 = 1))
def walkE (fr : Nat) (s : List UInt8) (r a : Int) : Int := entS s (leafV fr s r a)
def walkR (fr : Nat) (s : List UInt8) (r a acc : Int) : Int :=
  bif decide (neededI acc = 0) then 1 else bif decide (leafR fr s r a = 0) then (bif mayB (neededI acc) (walkE fr s r a) && decide (walkE fr s r a / 1024 < fr) then 0 else 3) else leafR fr s r a
def walkV (fr : Nat) (s : List UInt8) (r a acc : Int) : Int := bif decide (walkR fr s r a acc = 0) then walkE fr s r a / 1024 * 256 + a % 256 else 0
theorem mask_low (e : Int) (m : Nat) (hm : m < 32) (he : W.word e) : bits .and .u64 e (m : Int) = (((e % 32).toNat &&& m : Nat) : Int) := by
  obtain ⟨x, rfl⟩ := Int.eq_ofNat_of_zero_le he.1
  have h1 := he.2
  rw [u64_and_nat x m (by omega) (by omega)]
  congr 1
  rw [show ((x : Int) % 32).toNat = x % 2 ^ 5 by omega, ← Nat.and_two_pow_sub_one_eq_mod, Nat.and_assoc]
  congr 1
  rw [Nat.and_comm, Nat.and_two_pow_sub_one_eq_mod]
  omega
theorem may19 : ∀ x : Fin 32, ((x.val &&& 19 = 19) ↔ (x.val % 2 = 1 ∧ x.val / 16 % 2 = 1 ∧ x.val / 2 % 2 = 1)) := by decide
theorem may21 : ∀ x : Fin 32, ((x.val &&& 21 = 21) ↔ (x.val % 2 = 1 ∧ x.val / 16 % 2 = 1 ∧ x.val / 4 % 2 = 1)) := by decide
theorem may25 : ∀ x : Fin 32, ((x.val &&& 25 = 25) ↔ (x.val % 2 = 1 ∧ x.val / 16 % 2 = 1 ∧ x.val / 8 % 2 = 1)) := by decide
/-- The bits that must be set for a kind of access. -/
theorem may_bits (n e : Int) (hn : n = 2 ∨ n = 4 ∨ n = 8) (he : W.word e) : decide (bits .and .u64 e (n + 17) = n + 17) = mayB n e := by
  obtain ⟨x, hx⟩ : ∃ x : Nat, e % 32 = (x : Int) := ⟨(e % 32).toNat, by omega⟩
  have hx2 : x < 32 := by omega
  have q19 := may19 ⟨x, hx2⟩
  have q21 := may21 ⟨x, hx2⟩
  have q25 := may25 ⟨x, hx2⟩
  dsimp only at q19 q21 q25
  unfold mayB
  have e1 : (e % 2 = 1) ↔ x % 2 = 1 := by omega
  have e2 : (e / 16 % 2 = 1) ↔ x / 16 % 2 = 1 := by omega
  rcases hn with rfl | rfl | rfl
  · have e3 : (e / 2 % 2 = 1) ↔ x / 2 % 2 = 1 := by omega
    rw [show (2 : Int) + 17 = ((19 : Nat) : Int) from rfl, mask_low e 19 (by decide) he, hx, Int.toNat_natCast, ← Bool.decide_and, ← Bool.decide_and]
    apply decide_eq_decide.2
    rw [e1, e2, e3, ← q19]; omega
  · have e3 : (e / 4 % 2 = 1) ↔ x / 4 % 2 = 1 := by omega
    rw [show (4 : Int) + 17 = ((21 : Nat) : Int) from rfl, mask_low e 21 (by decide) he, hx, Int.toNat_natCast, ← Bool.decide_and, ← Bool.decide_and]
    apply decide_eq_decide.2
    rw [e1, e2, e3, ← q21]; omega
  · have e3 : (e / 8 % 2 = 1) ↔ x / 8 % 2 = 1 := by omega
    rw [show (8 : Int) + 17 = ((25 : Nat) : Int) from rfl, mask_low e 25 (by decide) he, hx, Int.toNat_natCast, ← Bool.decide_and, ← Bool.decide_and]
    apply decide_eq_decide.2
    rw [e1, e2, e3, ← q25]; omega
set_option maxRecDepth 100000 in
theorem c_walk_acc (p : Value) (r a acc : Int) (h : neededI acc = 0) (w : World) : Calls Tryz.prog 44 #[p, .int .i64 r, .int .u64 a, .int .i64 acc] w fun e w' => e = .returned (.tuple #[.int .u64 0, .int .i64 1]) ∧ w' = w := by
  have C : ∀ w : World, Calls Tryz.prog 77 #[.int .i64 acc] w fun e w' => e = .returned (.int .u64 0) ∧ w' = w := fun w => by rw [← h]; exact c_needed acc w
  clear h
  go_enter Tryz.func44, Tryz.ntmps44
  go_wp2_with (go_at_call 77; refine (C _).mono ?_; rintro e w' ⟨rfl, rfl⟩)
  go_ret2
  exact ⟨rfl, rfl⟩
set_option maxRecDepth 100000 in
theorem c_walk_bad (b : Nat) (y : Option Nat) (fr : Nat) (s : List UInt8) (t : Int) (w : World) (h : MemO w b y fr s t) (r a acc n x : Int) (ha : u64 a) (hr : i64 r) (hn : n = 2 ∨ n = 4 ∨ n = 8) (hacc : neededI acc = n) (hx : leafR fr s r a = x) (hx0 : x ≠ 0) :
    Calls Tryz.prog 44 #[.pointer (some ⟨b, 0, none⟩), .int .i64 r, .int .u64 a, .int .i64 acc] w (LeafP b y fr s 0 x w) := by
  have C : ∀ w : World, Calls Tryz.prog 77 #[.int .i64 acc] w fun e w' => e = .returned (.int .u64 n) ∧ w' = w := fun w => by rw [← hacc]; exact c_needed acc w
  have d0 : (n == 0) = false := by rcases hn with rfl | rfl | rfl <;> rfl
  have d1 : (x == 0) = false := by simpa using hx0
  have hv : leafV fr s r a = 0 := by unfold leafV; rw [hx, decide_eq_false hx0]; rfl
  have L := c_leaf b y fr s t w h r a 0 x ha hr hv hx
  clear h hacc hx hx0 hv hn
  go_enter Tryz.func44, Tryz.ntmps44
  go_wp2_with (go_at_call 77; refine (C _).mono ?_; rintro e w' ⟨rfl, rfl⟩)
  refine L.mono ?_; rintro e w1 ⟨rfl, hk⟩
  have HK := Lib.hid hk
  clear hk
  go_wp2_with fail
  go_ret2
  exact ⟨rfl, HK.out⟩
set_option maxRecDepth 100000 in
set_option maxHeartbeats 1600000 in
theorem c_walk_ok (b : Nat) (y : Option Nat) (fr : Nat) (s : List UInt8) (t : Int) (w : World) (h : MemO w b y fr s t) (r a acc n : Int) (ha : u64 a) (hr : i64 r) (hn : n = 2 ∨ n = 4 ∨ n = 8) (hacc : neededI acc = n) (hx : leafR fr s r a = 0) (v z : Int)
    (hz : (bif mayB n (walkE fr s r a) && decide (walkE fr s r a / 1024 < fr) then 0 else 3) = z) (hv : (bif decide (z = 0) then walkE fr s r a / 1024 * 256 + a % 256 else 0) = v) :
    Calls Tryz.prog 44 #[.pointer (some ⟨b, 0, none⟩), .int .i64 r, .int .u64 a, .int .i64 acc] w (LeafP b y fr s v z w) := by
  have C : ∀ w : World, Calls Tryz.prog 77 #[.int .i64 acc] w fun e w' => e = .returned (.int .u64 n) ∧ w' = w := fun w => by rw [← hacc]; exact c_needed acc w
  have d0 : (n == 0) = false := by rcases hn with rfl | rfl | rfl <;> rfl
  have L := c_leaf b y fr s t w h r a (leafV fr s r a) 0 ha hr rfl hx
  have hin := leaf_in h.1 hx
  have hlen : s.length ≤ 65536 ∧ fr ≤ 256 := by have := h.1; have := h.2.2.1; omega
  have EE : RowKit.Hid (entS s (leafV fr s r a) = walkE fr s r a) := Lib.hid rfl
  have HW := Lib.hid (ent_word s (leafV fr s r a))
  change RowKit.Hid (W.word (walkE fr s r a)) at HW
  have hor : bits .or .u64 n 17 = n + 17 := by rcases hn with rfl | rfl | rfl <;> rfl
  have hmay := may_bits n (walkE fr s r a) hn HW.out
  have n0 : 2 ≤ n ∧ n ≤ 8 := by omega
  clear h hacc hx hn
  generalize leafV fr s r a = P at *
  generalize walkE fr s r a = E at *
  obtain ⟨n0, n1⟩ := n0
  obtain ⟨q, hq⟩ : ∃ q, q = bits .and .u64 E (n + 17) := ⟨_, rfl⟩
  have hand : bits .and .u64 E (n + 17) = q := hq.symm
  rw [← hq] at hmay
  clear hq
  have HIN := Lib.hid hin
  have HZ := Lib.hid hz
  have HV := Lib.hid hv
  have HMAY := Lib.hid hmay
  obtain ⟨p0, p1⟩ := hin
  obtain ⟨l0, l1⟩ := hlen
  obtain ⟨a0, a1⟩ := ha
  clear hz hv hmay
  go_enter Tryz.func44, Tryz.ntmps44
  go_wp2_with (go_at_call 77; refine (C _).mono ?_; rintro e w' ⟨rfl, rfl⟩)
  refine L.mono ?_; rintro e w1 ⟨rfl, y1, t1, hM1, hK1⟩
  have HM1 := Lib.hid hM1
  have HK1 := Lib.hid hK1
  clear hM1 hK1 L
  go_wp2_with fail
  refine (c_ent b y1 fr s t1 _ HM1.out P HIN.out.1 HIN.out.2 E EE.out).mono ?_
  rintro e w2 ⟨rfl, y2, t2, hM2, hK2⟩
  have HM2 := Lib.hid hM2
  have HK2 := Lib.hid (HK1.out.trans hK2)
  clear hM2 hK2 HM1 HK1
  cases hm : mayB n E with
  | false =>
    have hz : z = 3 := by rw [← HZ.out, hm]; rfl
    have hv : v = 0 := by rw [← HV.out, hz]; rfl
    have dq : decide (q = n + 17) = false := by have := HMAY.out; rw [hm] at this; exact this
    have dq2 : ¬ q = n + 17 := of_decide_eq_false dq
    subst hz; subst hv
    clear hm
    go_wp2_with fail
    go_ret2
    exact ⟨rfl, y2, t2, HM2.out, HK2.out⟩
  | true =>
    have dq : q = n + 17 := by have := HMAY.out; rw [hm] at this; exact of_decide_eq_true this
    subst dq
    have HZ2 : RowKit.Hid (z = bif decide (E / 1024 < fr) then 0 else 3) := Lib.hid (by rw [← HZ.out, hm]; rfl)
    clear hm
    by_cases hf : E / 1024 < fr
    · have hz : z = 0 := by rw [HZ2.out, decide_eq_true hf]; rfl
      have HF := Lib.hid (decide_eq_true hf)
      subst hz
      obtain ⟨T, hT⟩ : ∃ T : Nat, E / 1024 = (T : Int) := ⟨(E / 1024).toNat, by have := HW.out.1; omega⟩
      have CF : ∀ w : World, Calls Tryz.prog 79 #[.int .u64 E] w fun e w' => e = .returned (.int .u64 (T : Int)) ∧ w' = w := fun w => by rw [← hT]; exact c_kframe E ⟨HW.out.1, by have := HW.out.2; omega⟩ w
      have hv : v = (T : Int) * 256 + a % 256 := by rw [← HV.out, hT]; rfl
      rw [hT] at hf
      clear hT
      subst hv
      have t0 : (0 : Int) ≤ T := by omega
      have t1' : (T : Int) < 256 := by omega
      go_wp2_with (first
        | (go_at_call 78; refine (c_there b y2 fr s t2 _ HM2.out E HW.out).mono ?_; rintro e w' ⟨rfl, rfl⟩; rw [HF.out])
        | (go_at_call 79; refine (CF _).mono ?_; rintro e w' ⟨rfl, rfl⟩))
      go_ret2
      exact ⟨rfl, y2, t2, HM2.out, HK2.out⟩
    · have hz : z = 3 := by rw [HZ2.out, decide_eq_false hf]; rfl
      have HF := Lib.hid (decide_eq_false hf)
      have hv : v = 0 := by rw [← HV.out, hz]; rfl
      subst hz; subst hv
      clear hf
      go_wp2_with (go_at_call 78; refine (c_there b y2 fr s t2 _ HM2.out E HW.out).mono ?_; rintro e w' ⟨rfl, rfl⟩; rw [HF.out])
      go_ret2
      exact ⟨rfl, y2, t2, HM2.out, HK2.out⟩
theorem needed_in (acc : Int) : neededI acc = 0 ∨ neededI acc = 2 ∨ neededI acc = 4 ∨ neededI acc = 8 := by unfold neededI; split; exact .inr (.inl rfl); split; exact .inr (.inr (.inl rfl)); split; exact .inr (.inr (.inr rfl)); exact .inl rfl
theorem c_walk (b : Nat) (y : Option Nat) (fr : Nat) (s : List UInt8) (t : Int) (w : World) (h : MemO w b y fr s t) (r a acc v x : Int) (ha : u64 a) (hr : i64 r) (hv : walkV fr s r a acc = v) (hx : walkR fr s r a acc = x) :
    Calls Tryz.prog 44 #[.pointer (some ⟨b, 0, none⟩), .int .i64 r, .int .u64 a, .int .i64 acc] w (LeafP b y fr s v x w) := by
  rcases needed_in acc with hn | hn
  · have hx1 : x = 1 := by rw [← hx]; unfold walkR; rw [hn]; rfl
    have hv1 : v = 0 := by rw [← hv]; unfold walkV; rw [hx, hx1]; rfl
    subst hx1; subst hv1
    refine (c_walk_acc _ r a acc hn w).mono ?_
    rintro e w' ⟨rfl, rfl⟩
    exact ⟨rfl, KeptE.refl h⟩
  · have hn0 : neededI acc ≠ 0 := by omega
    by_cases hl : leafR fr s r a = 0
    · refine c_walk_ok b y fr s t w h r a acc (neededI acc) ha hr hn rfl hl v x ?_ ?_
      · rw [← hx]; unfold walkR; rw [decide_eq_false hn0, decide_eq_true hl]; rfl
      · rw [← hv]; unfold walkV; rw [hx]
    · have hx1 : leafR fr s r a = x := by rw [← hx]; unfold walkR; rw [decide_eq_false hn0, decide_eq_false hl]; rfl
      have hv1 : v = 0 := by rw [← hv]; unfold walkV; rw [hx, decide_eq_false (by rw [← hx1]; exact hl)]; rfl
      subst hv1
      exact c_walk_bad b y fr s t w h r a acc _ x ha hr hn rfl hx1 (by rw [← hx1]; exact hl)
end Go.Proofs.YtbcnibnkojnpiaaGreat.P
