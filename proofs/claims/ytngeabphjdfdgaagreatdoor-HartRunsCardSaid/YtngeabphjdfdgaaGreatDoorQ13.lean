/- Stage 3: Load, Store, Clone; all calls of a memory that is nil. No condition. -/
import Derived.Test.YtngeabphjdfdgaaGreatDoorQ5
import Derived.Test.YtngeabphjdfdgaaGreatDoorBB
set_option linter.unusedVariables false
namespace Go.Proofs.YtngeabphjdfdgaaGreatDoor.P
open Go.RowKit Go.MuLone Go.Proofs.YtngeabphjdfdgaaGreatDoor.W
theorem n_load (w : World) (a : Int) (n : Int) : Calls Tryz.prog 17 #[.pointer none, .int .u64 a, .int .i64 n] w fun e w' => e = .returned (.tuple #[.int .u64 0, .int .i64 1]) ∧ w' = w := by
  go_enter Tryz.func17, Tryz.ntmps17
  go_wp2
  go_ret2
  exact ⟨rfl, rfl⟩
theorem n_store (w : World) (a : Int) (n : Int) (v : Int) : Calls Tryz.prog 13 #[.pointer none, .int .u64 a, .int .i64 n, .int .u64 v] w fun e w' => e = .returned (.int .i64 1) ∧ w' = w := by
  go_enter Tryz.func13, Tryz.ntmps13
  go_wp2
  go_ret
  exact ⟨rfl, rfl⟩
theorem n_get (w : World) (a : Int) (n : Int) : Calls Tryz.prog 10 #[.pointer none, .int .u64 a, .int .i64 n] w fun e w' => e = .returned (.tuple #[.string ⟨#[]⟩, .int .i64 1]) ∧ w' = w := by
  go_enter Tryz.func10, Tryz.ntmps10
  go_wp2
  go_ret2
  exact ⟨rfl, rfl⟩
theorem n_frames (w : World) : Calls Tryz.prog 15 #[.pointer none] w fun e w' => e = .returned (.int .i64 0) ∧ w' = w := by
  go_enter Tryz.func15, Tryz.ntmps15
  go_wp2
  go_ret
  exact ⟨rfl, rfl⟩
def sizedB (n : Int) : Bool := n == 1 || n == 2 || n == 4 || n == 8
theorem sized_nat {n : Int} (h : sizedB n = true) : n = 1 ∨ n = 2 ∨ n = 4 ∨ n = 8 := by
  unfold sizedB at h; simp at h; omega
theorem sized_t {n : Int} (h : n = 1 ∨ n = 2 ∨ n = 4 ∨ n = 8) : sizedB n = true := by
  unfold sizedB; rcases h with rfl | rfl | rfl | rfl <;> rfl
theorem sized_no {n : Int} (h : sizedB n = false) : (n == 1) = false ∧ (n == 2) = false ∧ (n == 4) = false ∧ (n == 8) = false := by
  unfold sizedB at h; simp at h; simp; omega
theorem c_issize (n : Int) (w : World) : Calls Tryz.prog 27 #[.int .i64 n] w fun e w' => e = .returned (.bool (sizedB n)) ∧ w' = w := by
  have hx : sizedB n = true ∨ sizedB n = false := by cases sizedB n <;> simp
  rcases hx with hx | hx
  · rcases sized_nat hx with rfl | rfl | rfl | rfl
    all_goals
      go_enter Tryz.func27, Tryz.ntmps27
      go_wp2
      go_ret
      exact ⟨ret_b hx.symm, rfl⟩
  · obtain ⟨h1, h2, h3, h4⟩ := sized_no hx
    have HX := Lib.hid hx
    clear hx
    go_enter Tryz.func27, Tryz.ntmps27
    go_wp2
    go_ret
    exact ⟨ret_b HX.out.symm, rfl⟩
theorem mm_t (fr d t x : Int) (v : Value) : (mm fr d v t).setIfInBounds 5 (.int .u64 x) = mm fr d v x := rfl
def tick (t : Int) : Int := IntKind.u64.wrap (t + 1)
def LoadP (b : Nat) (y : Option Nat) (fr : Nat) (s : List UInt8) (t : Int) (v r : Int) (w : World) (e : Ending) (w' : World) : Prop :=
  e = .returned (.tuple #[.int .u64 v, .int .i64 r]) ∧ ∃ y', MemO w' b y' fr s t ∧ KeptM b y w w' y'
theorem sub_size (s : List UInt8) (a n : Nat) (h : a + n ≤ s.length) : (subB s a n).size = n := by
  simp [subB, ByteArray.size]; omega
theorem MemO.ticked {w : World} {b : Nat} {y : Option Nat} {fr : Nat} {s : List UInt8} {t : Int} (h : MemO w b y fr s t) : MemO (w.setCell ⟨b, 5, none⟩ (.int .u64 (tick t))) b y fr s (tick t) :=
  h.touch (Ch.setCell (S := (· = b)) (Ch.refl _ w) (p := ⟨b, 5, none⟩) (.inl rfl) _) (by rw [blk_set h.blk 5 _, mm_t])
theorem KeptM.ticked {w w' : World} {b : Nat} {y y' : Option Nat} (h : KeptM b y w w' y') (v : Value) : KeptM b y w (w'.setCell ⟨b, 5, none⟩ v) y' :=
  h.then (Ch.setCell (S := fun x => x = b ∨ y' = some x) (Ch.refl _ w') (p := ⟨b, 5, none⟩) (.inl (.inl rfl)) _)
set_option maxRecDepth 100000 in
theorem c_load_bad (b : Nat) (a n : Int) (hn : sizedB n = false) (w : World) : Calls Tryz.prog 17 #[.pointer (some ⟨b, 0, none⟩), .int .u64 a, .int .i64 n] w fun e w' => e = .returned (.tuple #[.int .u64 0, .int .i64 1]) ∧ w' = w := by
  go_enter Tryz.func17, Tryz.ntmps17
  go_wp2_with (go_at_call 27; refine (c_issize _ _).mono ?_; rintro e w' ⟨rfl, rfl⟩)
  go_ret2
  exact ⟨rfl, rfl⟩
set_option maxRecDepth 100000 in
theorem c_store_bad (b : Nat) (a n v : Int) (hn : sizedB n = false) (w : World) : Calls Tryz.prog 13 #[.pointer (some ⟨b, 0, none⟩), .int .u64 a, .int .i64 n, .int .u64 v] w fun e w' => e = .returned (.int .i64 1) ∧ w' = w := by
  go_enter Tryz.func13, Tryz.ntmps13
  go_wp2_with (go_at_call 27; refine (c_issize _ _).mono ?_; rintro e w' ⟨rfl, rfl⟩)
  go_ret
  exact ⟨rfl, rfl⟩
set_option maxRecDepth 100000 in
theorem c_load_yes (b : Nat) (y : Option Nat) (fr : Nat) (s : List UInt8) (t : Int) (w : World) (h : MemO w b y fr s t) (at_ n : Nat) (hs : sizedB n = true) (hn : at_ + n ≤ s.length) :
    Calls Tryz.prog 17 #[.pointer (some ⟨b, 0, none⟩), .int .u64 at_, .int .i64 n] w (LoadP b y fr s (tick t) (ofF (subB s at_ n)) 0 w) := by
  have H := Lib.hid h
  have HN := Lib.hid hn
  clear h hn
  go_enter Tryz.func17, Tryz.ntmps17
  go_wp2_with (go_at_call 27; refine (c_issize _ _).mono ?_; rintro e w' ⟨rfl, rfl⟩)
  refine (c_part_yes b y fr s t _ H.out at_ n HN.out).mono ?_
  rintro e w1 ⟨g, rfl, hM, hK⟩
  have HM := Lib.hid hM
  have HK := Lib.hid hK
  clear hM hK
  go_wp2_with fail
  refine (a_add ⟨b, 5, none⟩ t 1 _ (blk_cell HM.out.blk 5 rfl) (blk_frozen HM.out.blk 5)).mono ?_
  rintro e w2 ⟨rfl, rfl⟩
  have hm2 := HM.out.ticked
  have HM2 := Lib.hid hm2
  have hcv := conv_part g s at_ n HN.out _ hm2.2.2.2.2.2
  clear hm2
  unfold tick at hcv
  go_wp2_with (go_at_call 35; refine (c_of (subB s at_ n) (by rw [sub_size _ _ _ HN.out]; have := sized_nat hs; unfold maxLen; omega) _).mono ?_; rintro e w' ⟨rfl, rfl⟩)
  go_ret2
  exact ⟨rfl, some g, HM2.out, HK.out.ticked _⟩
set_option maxRecDepth 100000 in
theorem c_load_no (b : Nat) (y : Option Nat) (fr : Nat) (s : List UInt8) (t : Int) (w : World) (h : MemO w b y fr s t) (a : Int) (n : Nat) (ha0 : 0 ≤ a) (ha1 : a ≤ 18446744073709551615) (hs : sizedB n = true) (hn : ¬ a + n ≤ s.length) :
    Calls Tryz.prog 17 #[.pointer (some ⟨b, 0, none⟩), .int .u64 a, .int .i64 n] w (LoadP b y fr s t 0 3 w) := by
  have H := Lib.hid h
  have HN := Lib.hid hn
  clear h hn
  go_enter Tryz.func17, Tryz.ntmps17
  go_wp2_with (go_at_call 27; refine (c_issize _ _).mono ?_; rintro e w' ⟨rfl, rfl⟩)
  refine (c_part_no b y fr s t _ H.out a n ha0 ha1 (by have := sized_nat hs; unfold maxLen; omega) (by have := HN.out; omega)).mono ?_
  rintro e w1 ⟨rfl, y', hM, hK⟩
  have HM := Lib.hid hM
  have HK := Lib.hid hK
  clear hM hK
  go_wp2_with fail
  go_ret2
  exact ⟨rfl, y', HM.out, HK.out⟩
set_option maxRecDepth 100000 in
theorem c_store_no (b : Nat) (y : Option Nat) (fr : Nat) (s : List UInt8) (t : Int) (w : World) (h : MemO w b y fr s t) (a : Int) (n : Nat) (v : Int) (ha0 : 0 ≤ a) (ha1 : a ≤ 18446744073709551615) (hs : sizedB n = true) (hn : ¬ a + n ≤ s.length) :
    Calls Tryz.prog 13 #[.pointer (some ⟨b, 0, none⟩), .int .u64 a, .int .i64 n, .int .u64 v] w (PutP b y fr s t 3 w) := by
  have H := Lib.hid h
  have HN := Lib.hid hn
  clear h hn
  go_enter Tryz.func13, Tryz.ntmps13
  go_wp2_with (go_at_call 27; refine (c_issize _ _).mono ?_; rintro e w' ⟨rfl, rfl⟩)
  refine (c_part_no b y fr s t _ H.out a n ha0 ha1 (by have := sized_nat hs; unfold maxLen; omega) (by have := HN.out; omega)).mono ?_
  rintro e w1 ⟨rfl, y', hM, hK⟩
  have HM := Lib.hid hM
  have HK := Lib.hid hK
  clear hM hK
  go_wp2_with fail
  go_ret
  exact ⟨rfl, y', HM.out, HK.out⟩
theorem clamp_sized {n : Nat} (h : sizedB n = true) : clampN n = n := by
  have := sized_nat h; unfold clampN; omega
set_option maxRecDepth 100000 in
theorem c_store_yes (b : Nat) (y : Option Nat) (fr : Nat) (s : List UInt8) (t : Int) (w : World) (h : MemO w b y fr s t) (at_ n : Nat) (v : Int) (hv : W.word v) (hs : sizedB n = true) (hn : at_ + n ≤ s.length) :
    Calls Tryz.prog 13 #[.pointer (some ⟨b, 0, none⟩), .int .u64 at_, .int .i64 n, .int .u64 v] w (PutP b y fr (putL s at_ (bytesF v n).data.toList) (tick t) 0 w) := by
  have hbs : (bytesF v n).size = n := by rw [bytes_size, clamp_sized hs]
  have H := Lib.hid h
  have HN := Lib.hid hn
  have HV := Lib.hid hv
  have HBS := Lib.hid hbs
  have HLEN := Lib.hid (putL_len s at_ (bytesF v n).data.toList (by rw [Array.length_toList]; exact (by rw [show (bytesF v n).data.size = n from hbs]; exact hn)))
  clear h hn hv hbs
  go_enter Tryz.func13, Tryz.ntmps13
  go_wp2_with (go_at_call 27; refine (c_issize _ _).mono ?_; rintro e w' ⟨rfl, rfl⟩)
  refine (c_part_yes b y fr s t _ H.out at_ n HN.out).mono ?_
  rintro e w1 ⟨g, rfl, hM, hK⟩
  have HM := Lib.hid hM
  have HK := Lib.hid hK
  clear hM hK
  go_wp2_with fail
  refine (a_add ⟨b, 5, none⟩ t 1 _ (blk_cell HM.out.blk 5 rfl) (blk_frozen HM.out.blk 5)).mono ?_
  rintro e w2 ⟨rfl, rfl⟩
  have HM2 := Lib.hid HM.out.ticked
  have HK2 := Lib.hid (HK.out.ticked (.int .u64 (tick t)))
  go_wp2_with fail
  refine (c_bytes v n HV.out _).mono ?_
  rintro e w3 ⟨rfl, g3⟩
  have g3' : Gr (w1.setCell ⟨b, 5, none⟩ (.int .u64 (tick t))) w3 := g3
  have HM3 := Lib.hid (HM2.out.keep (S := fun _ => False) (Ch.of_gr g3') (fun h => h) (fun _ _ h => h))
  have HK3 := Lib.hid (HK2.out.trans (KeptM.of_gr g3'))
  clear g3 g3'
  obtain ⟨w4, hr, hb, hc⟩ := copy_str g s at_ (bytesF v n) (by rw [HBS.out]; exact HN.out) 3 w3 HM3.out.2.2.2.2.2
  rw [HBS.out] at hr
  have HB := Lib.hid hb
  have HC := Lib.hid hc
  have HR := Lib.hid hr
  clear hb hc hr
  go_wp2_with (refine Go.Lib.wpList_copy_run _ rfl _ _ 45 9 rfl _ _ rfl rfl HR.out ?_)
  go_ret
  exact ⟨rfl, some g, HM3.out.stored HC.out HLEN.out HB.out, HK3.out.then (HC.out.mono (fun x hx => .inr (by rw [hx])))⟩
end Go.Proofs.YtngeabphjdfdgaaGreatDoor.P
namespace Go.Proofs.YtngeabphjdfdgaaGreatDoor.P
open Go.RowKit Go.MuLone Go.Proofs.YtngeabphjdfdgaaGreatDoor.W
def inB (s : List UInt8) (a n : Int) : Bool := decide (a + n ≤ s.length)
def loadR (s : List UInt8) (a n : Int) : Int := if sizedB n = true then (if inB s a n = true then 0 else 3) else 1
def loadV (s : List UInt8) (a n : Int) : Int := if sizedB n = true then (if inB s a n = true then ofF (subB s a.toNat n.toNat) else 0) else 0
def loadT (s : List UInt8) (a n t : Int) : Int := if sizedB n = true then (if inB s a n = true then tick t else t) else t
def storeS (s : List UInt8) (a n v : Int) : List UInt8 := if sizedB n = true then (if inB s a n = true then putL s a.toNat (bytesF v n).data.toList else s) else s
def getR (s : List UInt8) (a n : Int) : Int := if n < 0 then 1 else if inB s a n = true then 0 else 3
def getV (s : List UInt8) (a n : Int) : ByteArray := if n < 0 then ⟨#[]⟩ else if inB s a n = true then subB s a.toNat n.toNat else ⟨#[]⟩
def putR (s : List UInt8) (a : Int) (x : ByteArray) : Int := if inB s a x.size = true then 0 else 3
def putS (s : List UInt8) (a : Int) (x : ByteArray) : List UInt8 := if inB s a x.size = true then putL s a.toNat x.data.toList else s
def frB (fr : Nat) (n : Int) : Bool := decide (0 ≤ n ∧ n < fr)
def clearR (fr : Nat) (n : Int) : Int := if frB fr n = true then 0 else 3
def clearS (fr : Nat) (s : List UInt8) (n : Int) : List UInt8 := if frB fr n = true then putL s (n.toNat * 256) (List.replicate 256 0) else s
def copyR (fr : Nat) (n k : Int) : Int := if frB fr n = true then (if frB fr k = true then 0 else 3) else 3
def copyS (fr : Nat) (s : List UInt8) (n k : Int) : List UInt8 := if frB fr n = true then (if frB fr k = true then putL s (n.toNat * 256) ((s.drop (k.toNat * 256)).take 256) else s) else s
theorem inB_t {s : List UInt8} {a n : Int} (h : a + n ≤ s.length) : inB s a n = true := decide_eq_true h
theorem inB_f {s : List UInt8} {a n : Int} (h : ¬ a + n ≤ s.length) : inB s a n = false := decide_eq_false h
theorem frB_t {fr : Nat} {n : Int} (h : 0 ≤ n ∧ n < fr) : frB fr n = true := decide_eq_true h
theorem frB_f {fr : Nat} {n : Int} (h : ¬ (0 ≤ n ∧ n < fr)) : frB fr n = false := decide_eq_false h
theorem c_load (b : Nat) (y : Option Nat) (fr : Nat) (s : List UInt8) (t : Int) (w : World) (h : MemO w b y fr s t) (a n : Int) (ha0 : 0 ≤ a) (ha1 : a ≤ 18446744073709551615) :
    Calls Tryz.prog 17 #[.pointer (some ⟨b, 0, none⟩), .int .u64 a, .int .i64 n] w (LoadP b y fr s (loadT s a n t) (loadV s a n) (loadR s a n) w) := by
  have hx : sizedB n = true ∨ sizedB n = false := by cases sizedB n <;> simp
  rcases hx with hx | hx
  · have hn := sized_nat hx
    obtain ⟨m, rfl⟩ : ∃ m : Nat, n = (m : Int) := ⟨n.toNat, by omega⟩
    by_cases hi : a + (m : Int) ≤ s.length
    · obtain ⟨k, rfl⟩ : ∃ k : Nat, a = (k : Int) := ⟨a.toNat, by omega⟩
      have e1 : loadT s k m t = tick t := by unfold loadT; rw [if_pos hx, if_pos (inB_t hi)]
      have e2 : loadV s k m = ofF (subB s k m) := by unfold loadV; rw [if_pos hx, if_pos (inB_t hi)]; simp
      have e3 : loadR s k m = 0 := by unfold loadR; rw [if_pos hx, if_pos (inB_t hi)]
      rw [e1, e2, e3]
      exact c_load_yes b y fr s t w h k m hx (by omega)
    · have e1 : loadT s a m t = t := by unfold loadT; rw [if_pos hx, if_neg (by rw [inB_f hi]; simp)]
      have e2 : loadV s a m = 0 := by unfold loadV; rw [if_pos hx, if_neg (by rw [inB_f hi]; simp)]
      have e3 : loadR s a m = 3 := by unfold loadR; rw [if_pos hx, if_neg (by rw [inB_f hi]; simp)]
      rw [e1, e2, e3]
      exact c_load_no b y fr s t w h a m ha0 ha1 hx hi
  · have e1 : loadT s a n t = t := by unfold loadT; rw [if_neg (by rw [hx]; simp)]
    have e2 : loadV s a n = 0 := by unfold loadV; rw [if_neg (by rw [hx]; simp)]
    have e3 : loadR s a n = 1 := by unfold loadR; rw [if_neg (by rw [hx]; simp)]
    rw [e1, e2, e3]
    refine (c_load_bad b a n hx w).mono ?_
    rintro e w' ⟨rfl, rfl⟩
    exact ⟨rfl, y, h, KeptM.refl _ _ _⟩
theorem c_store (b : Nat) (y : Option Nat) (fr : Nat) (s : List UInt8) (t : Int) (w : World) (h : MemO w b y fr s t) (a n v : Int) (ha0 : 0 ≤ a) (ha1 : a ≤ 18446744073709551615) (hv : W.word v) :
    Calls Tryz.prog 13 #[.pointer (some ⟨b, 0, none⟩), .int .u64 a, .int .i64 n, .int .u64 v] w (PutP b y fr (storeS s a n v) (loadT s a n t) (loadR s a n) w) := by
  have hx : sizedB n = true ∨ sizedB n = false := by cases sizedB n <;> simp
  rcases hx with hx | hx
  · have hn := sized_nat hx
    obtain ⟨m, rfl⟩ : ∃ m : Nat, n = (m : Int) := ⟨n.toNat, by omega⟩
    by_cases hi : a + (m : Int) ≤ s.length
    · obtain ⟨k, rfl⟩ : ∃ k : Nat, a = (k : Int) := ⟨a.toNat, by omega⟩
      have e1 : loadT s k m t = tick t := by unfold loadT; rw [if_pos hx, if_pos (inB_t hi)]
      have e2 : storeS s k m v = putL s k (bytesF v m).data.toList := by unfold storeS; rw [if_pos hx, if_pos (inB_t hi)]; simp
      have e3 : loadR s k m = 0 := by unfold loadR; rw [if_pos hx, if_pos (inB_t hi)]
      rw [e1, e2, e3]
      exact c_store_yes b y fr s t w h k m v hv hx (by omega)
    · have e1 : loadT s a m t = t := by unfold loadT; rw [if_pos hx, if_neg (by rw [inB_f hi]; simp)]
      have e2 : storeS s a m v = s := by unfold storeS; rw [if_pos hx, if_neg (by rw [inB_f hi]; simp)]
      have e3 : loadR s a m = 3 := by unfold loadR; rw [if_pos hx, if_neg (by rw [inB_f hi]; simp)]
      rw [e1, e2, e3]
      exact c_store_no b y fr s t w h a m v ha0 ha1 hx hi
  · have e1 : loadT s a n t = t := by unfold loadT; rw [if_neg (by rw [hx]; simp)]
    have e2 : storeS s a n v = s := by unfold storeS; rw [if_neg (by rw [hx]; simp)]
    have e3 : loadR s a n = 1 := by unfold loadR; rw [if_neg (by rw [hx]; simp)]
    rw [e1, e2, e3]
    refine (c_store_bad b a n v hx w).mono ?_
    rintro e w' ⟨rfl, rfl⟩
    exact ⟨rfl, y, h, KeptM.refl _ _ _⟩
theorem c_get (b : Nat) (y : Option Nat) (fr : Nat) (s : List UInt8) (t : Int) (w : World) (h : MemO w b y fr s t) (a n : Int) (ha0 : 0 ≤ a) (ha1 : a ≤ 18446744073709551615) (hn1 : n ≤ 9223372036854775807) :
    Calls Tryz.prog 10 #[.pointer (some ⟨b, 0, none⟩), .int .u64 a, .int .i64 n] w (GetP b y fr s t (.string (getV s a n)) (getR s a n) w) := by
  by_cases h0 : n < 0
  · have e1 : getV s a n = ⟨#[]⟩ := by unfold getV; rw [if_pos h0]
    have e2 : getR s a n = 1 := by unfold getR; rw [if_pos h0]
    rw [e1, e2]
    refine (c_get_neg (.int .i64 0) a n h0 b w).mono ?_
    rintro e w' ⟨rfl, rfl⟩
    exact ⟨rfl, y, h, KeptM.refl _ _ _⟩
  · obtain ⟨m, rfl⟩ : ∃ m : Nat, n = (m : Int) := ⟨n.toNat, by omega⟩
    by_cases hi : a + (m : Int) ≤ s.length
    · obtain ⟨k, rfl⟩ : ∃ k : Nat, a = (k : Int) := ⟨a.toNat, by omega⟩
      have e1 : getV s k m = subB s k m := by unfold getV; rw [if_neg h0, if_pos (inB_t hi)]; simp
      have e2 : getR s k m = 0 := by unfold getR; rw [if_neg h0, if_pos (inB_t hi)]
      rw [e1, e2]
      exact c_get_yes b y fr s t w h k m (by omega)
    · have e1 : getV s a m = ⟨#[]⟩ := by unfold getV; rw [if_neg h0, if_neg (by rw [inB_f hi]; simp)]
      have e2 : getR s a m = 3 := by unfold getR; rw [if_neg h0, if_neg (by rw [inB_f hi]; simp)]
      rw [e1, e2]
      exact c_get_no b y fr s t w h a m ha0 ha1 (by unfold maxLen; omega) hi
/-- From w0 to w only new memory turned, and block b of it is a memory. -/
def MG (w0 w : World) (b fr : Nat) (s : List UInt8) (t : Int) : Prop := Gr w0 w ∧ w0.heap.size ≤ b ∧ ∃ y, (∀ x, y = some x → w0.heap.size ≤ x) ∧ MemO w b y fr s t
theorem MG.step {w0 w w' : World} {b : Nat} {y y' : Option Nat} (g : Gr w0 w) (hb : w0.heap.size ≤ b) (hm : ∀ x, y = some x → w0.heap.size ≤ x) (k : KeptM b y w w' y') : Gr w0 w' ∧ ∀ x, y' = some x → w0.heap.size ≤ x := by
  refine ⟨gr_ch g k.1 (fun x hx => ?_), fun x hx => ?_⟩
  · rcases hx with rfl | hx
    · exact hb
    · exact hm x hx
  · rcases k.2 with e | ⟨e, bm, e2, e3⟩
    · exact hm x (by rw [← e, hx])
    · rw [e2] at hx; injection hx with hx; have := g.size; omega
theorem MG.keep {w0 w w' : World} {b fr : Nat} {s : List UInt8} {t : Int} (h : MG w0 w b fr s t) (k : Gr w w') : MG w0 w' b fr s t := by
  obtain ⟨g0, hb, y, hy, hM⟩ := h
  exact ⟨gtrans g0 k, hb, y, hy, hM.keep (S := fun _ => False) (Ch.of_gr k) (fun h => h) (fun _ _ h => h)⟩
theorem MG.len {w0 w : World} {b fr : Nat} {s : List UInt8} {t : Int} (h : MG w0 w b fr s t) : s.length = fr * 256 ∧ fr ≤ 256 := by
  obtain ⟨g0, hb, y, hy, hM⟩ := h; exact ⟨hM.1, hM.2.2.1⟩
theorem mg_new (w0 : World) (fr : Nat) (h1 : 1 ≤ fr) (h2 : fr ≤ 256) (w : World) (g0 : Gr w0 w) : Calls Tryz.prog 11 #[.int .i64 fr] w fun e w' => ∃ b, e = .returned (.tuple #[.pointer (some ⟨b, 0, none⟩), .int .i64 0]) ∧ MG w0 w' b fr (List.replicate (fr * 256) 0) 0 := by
  refine (c_new fr h1 h2 w).mono ?_
  rintro e w' ⟨b, rfl, hM, hb, hg⟩
  exact ⟨b, rfl, gtrans g0 hg, by have := g0.size; omega, none, fun _ h => (by cases h), hM⟩
theorem mg_load {w0 w : World} {b fr : Nat} {s : List UInt8} {t : Int} (h : MG w0 w b fr s t) (a n : Int) (ha0 : 0 ≤ a) (ha1 : a ≤ 18446744073709551615) (v r t' : Int) (hv : loadV s a n = v) (hr : loadR s a n = r) (ht : loadT s a n t = t') :
    Calls Tryz.prog 17 #[.pointer (some ⟨b, 0, none⟩), .int .u64 a, .int .i64 n] w fun e w' => e = .returned (.tuple #[.int .u64 v, .int .i64 r]) ∧ MG w0 w' b fr s t' := by
  obtain ⟨g0, hb, y, hy, hM⟩ := h
  refine (c_load b y fr s t w hM a n ha0 ha1).mono ?_
  rintro e w' ⟨rfl, y', hM', hK⟩
  obtain ⟨k1, k2⟩ := MG.step g0 hb hy hK
  exact ⟨by rw [hv, hr], k1, hb, y', k2, by rw [← ht]; exact hM'⟩
theorem mg_store {w0 w : World} {b fr : Nat} {s : List UInt8} {t : Int} (h : MG w0 w b fr s t) (a n v : Int) (ha0 : 0 ≤ a) (ha1 : a ≤ 18446744073709551615) (hv : W.word v) (s' : List UInt8) (r t' : Int) (hs : storeS s a n v = s') (hr : loadR s a n = r) (ht : loadT s a n t = t') :
    Calls Tryz.prog 13 #[.pointer (some ⟨b, 0, none⟩), .int .u64 a, .int .i64 n, .int .u64 v] w fun e w' => e = .returned (.int .i64 r) ∧ MG w0 w' b fr s' t' := by
  obtain ⟨g0, hb, y, hy, hM⟩ := h
  refine (c_store b y fr s t w hM a n v ha0 ha1 hv).mono ?_
  rintro e w' ⟨rfl, y', hM', hK⟩
  obtain ⟨k1, k2⟩ := MG.step g0 hb hy hK
  exact ⟨by rw [hr], k1, hb, y', k2, by rw [← hs, ← ht]; exact hM'⟩
theorem mg_get {w0 w : World} {b fr : Nat} {s : List UInt8} {t : Int} (h : MG w0 w b fr s t) (a n : Int) (ha0 : 0 ≤ a) (ha1 : a ≤ 18446744073709551615) (hn1 : n ≤ 9223372036854775807) (v : ByteArray) (r : Int) (hv : getV s a n = v) (hr : getR s a n = r) :
    Calls Tryz.prog 10 #[.pointer (some ⟨b, 0, none⟩), .int .u64 a, .int .i64 n] w fun e w' => e = .returned (.tuple #[.string v, .int .i64 r]) ∧ MG w0 w' b fr s t := by
  obtain ⟨g0, hb, y, hy, hM⟩ := h
  refine (c_get b y fr s t w hM a n ha0 ha1 hn1).mono ?_
  rintro e w' ⟨rfl, y', hM', hK⟩
  obtain ⟨k1, k2⟩ := MG.step g0 hb hy hK
  exact ⟨by rw [hv, hr], k1, hb, y', k2, hM'⟩
def s0 : List UInt8 := List.replicate (2 * 256) 0
def s1 : List UInt8 := storeS s0 255 4 67305985
def s2 : List UInt8 := copyS 2 s1 1 0
theorem v1 : loadR s0 255 4 = 0 ∧ loadT s0 255 4 0 = 1 ∧ loadV s1 256 2 = 770 ∧ loadR s1 256 2 = 0 ∧ loadT s1 256 2 1 = 2 ∧ getV s1 255 4 = ⟨#[1, 2, 3, 4]⟩ ∧ getR s1 255 4 = 0 ∧ loadV s1 511 2 = 0 ∧ loadR s1 511 2 = 3 ∧ loadT s1 511 2 2 = 2 ∧ loadV s1 0 3 = 0 ∧ loadR s1 0 3 = 1 ∧ loadT s1 0 3 2 = 2 ∧ copyR 2 1 0 = 0 ∧ loadV s2 511 1 = 1 ∧ loadR s2 511 1 = 0 ∧ loadT s2 511 1 2 = 3 := by
  decide +kernel
end Go.Proofs.YtngeabphjdfdgaaGreatDoor.P
namespace Go.Proofs.YtngeabphjdfdgaaGreatDoor.P
open Go.RowKit Go.MuLone
/-- Two objects have no block in common. -/
def Sep (b : Nat) (y : Option Nat) (c : Nat) (z : Option Nat) : Prop := b ≠ c ∧ y ≠ some c ∧ z ≠ some b ∧ ∀ x, y = some x → z ≠ some x
theorem Sep.symm {b c : Nat} {y z : Option Nat} (h : Sep b y c z) : Sep c z b y := ⟨fun e => h.1 e.symm, h.2.2.1, h.2.1, fun x hx hy => h.2.2.2 x hy hx⟩
theorem Sep.out {b c : Nat} {y z : Option Nat} (h : Sep b y c z) : ¬ (c = b ∨ y = some c) ∧ (∀ x, z = some x → ¬ (x = b ∨ y = some x)) := by
  refine ⟨fun e => ?_, fun x hx e => ?_⟩
  · rcases e with e | e
    · exact h.1 e.symm
    · exact h.2.1 e
  · rcases e with e | e
    · exact h.2.2.1 (by rw [hx, e])
    · exact h.2.2.2 x e hx
theorem Sep.step {b c : Nat} {y y' z : Option Nat} {w w' : World} (h : Sep b y c z) (hk : KeptM b y w w' y') (hc : c < w.heap.size) (hz : ∀ x, z = some x → x < w.heap.size) : Sep b y' c z := by
  rcases hk.2 with e | ⟨e, g, e2, e3⟩
  · rw [e]; exact h
  · refine ⟨h.1, ?_, h.2.2.1, ?_⟩
    · rw [e2]; intro f; injection f with f; omega
    · intro x hx hzx
      rw [e2] at hx; injection hx with hx
      have := hz x hzx; omega
theorem MemO.lt {w : World} {b : Nat} {y : Option Nat} {fr : Nat} {s : List UInt8} {t : Int} (h : MemO w b y fr s t) : b < w.heap.size ∧ ∀ x, y = some x → x < w.heap.size := by
  refine ⟨blk_lt h.blk, ?_⟩
  rintro x rfl; exact blk_lt h.2.2.2.2.2
theorem MemO.apart {w w' : World} {b c : Nat} {y y' z : Option Nat} {fr : Nat} {s : List UInt8} {t : Int} (h : MemO w c z fr s t) (hs : Sep b y c z) (hk : KeptM b y w w' y') : MemO w' c z fr s t :=
  h.keep hk.1 hs.out.1 hs.out.2
theorem partV_all (g N : Nat) : partV g N 0 N = .slice (some ⟨g, 0, none⟩) N N := by unfold partV; simp
theorem putL_all (s z : List UInt8) (h : s.length = z.length) : putL s 0 ((z.drop 0).take z.length) = z := by
  unfold putL
  rw [List.drop_zero, List.take_of_length_le (Nat.le_refl _), List.take_zero, List.drop_eq_nil_of_le (by omega)]
  simp
def CloneP (b : Nat) (y : Option Nat) (fr : Nat) (s : List UInt8) (t : Int) (w : World) (e : Ending) (w' : World) : Prop :=
  ∃ c g y', e = .returned (.pointer (some ⟨c, 0, none⟩)) ∧ MemO w' b y' fr s t ∧ MemO w' c (some g) fr s 0 ∧ KeptM b y w w' y' ∧ w.heap.size ≤ c ∧ w.heap.size ≤ g ∧ Sep b y' c (some g)
end Go.Proofs.YtngeabphjdfdgaaGreatDoor.P
