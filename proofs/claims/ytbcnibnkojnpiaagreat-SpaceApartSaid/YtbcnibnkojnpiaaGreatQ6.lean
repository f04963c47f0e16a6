/- Stage 3: Load, Store, Clone; all calls of a memory that is nil. No condition. -/
import Derived.Test.YtbcnibnkojnpiaaGreatQ5
import Derived.Test.YtbcnibnkojnpiaaGreatBB
set_option linter.unusedVariables false
namespace Go.Proofs.YtbcnibnkojnpiaaGreat.P
open Go.RowKit Go.MuLone Go.Proofs.YtbcnibnkojnpiaaGreat.W
theorem n_load (w : World) (a : Int) (n : Int) : Calls Tryz.prog 45 #[.pointer none, .int .u64 a, .int .i64 n] w fun e w' => e = .returned (.tuple #[.int .u64 0, .int .i64 1]) ∧ w' = w := by
  go_enter Tryz.func45, Tryz.ntmps45
  go_wp2
  go_ret2
  exact ⟨rfl, rfl⟩
theorem n_store (w : World) (a : Int) (n : Int) (v : Int) : Calls Tryz.prog 54 #[.pointer none, .int .u64 a, .int .i64 n, .int .u64 v] w fun e w' => e = .returned (.int .i64 1) ∧ w' = w := by
  go_enter Tryz.func54, Tryz.ntmps54
  go_wp2
  go_ret
  exact ⟨rfl, rfl⟩
theorem n_get (w : World) (a : Int) (n : Int) : Calls Tryz.prog 13 #[.pointer none, .int .u64 a, .int .i64 n] w fun e w' => e = .returned (.tuple #[.string ⟨#[]⟩, .int .i64 1]) ∧ w' = w := by
  go_enter Tryz.func13, Tryz.ntmps13
  go_wp2
  go_ret2
  exact ⟨rfl, rfl⟩
theorem n_put (w : World) (a : Int) (x : ByteArray) : Calls Tryz.prog 43 #[.pointer none, .int .u64 a, .string x] w fun e w' => e = .returned (.int .i64 1) ∧ w' = w := by
  go_enter Tryz.func43, Tryz.ntmps43
  go_wp2
  go_ret
  exact ⟨rfl, rfl⟩
theorem n_clear (w : World) (n : Int) : Calls Tryz.prog 84 #[.pointer none, .int .i64 n] w fun e w' => e = .returned (.int .i64 1) ∧ w' = w := by
  go_enter Tryz.func84, Tryz.ntmps84
  go_wp2
  go_ret
  exact ⟨rfl, rfl⟩
theorem n_copy (w : World) (n : Int) (k : Int) : Calls Tryz.prog 61 #[.pointer none, .int .i64 n, .int .i64 k] w fun e w' => e = .returned (.int .i64 1) ∧ w' = w := by
  go_enter Tryz.func61, Tryz.ntmps61
  go_wp2
  go_ret
  exact ⟨rfl, rfl⟩
theorem n_frames (w : World) : Calls Tryz.prog 49 #[.pointer none] w fun e w' => e = .returned (.int .i64 0) ∧ w' = w := by
  go_enter Tryz.func49, Tryz.ntmps49
  go_wp2
  go_ret
  exact ⟨rfl, rfl⟩
def sizedB (n : Int) : Bool := n == 1 || n == 2 || n == 4 || n == 8
theorem sized_nat {n : Int} (h : sizedB n = true) : n = 1 ∨ n = 2 ∨ n = 4 ∨ n = 8 := by
  unfold sizedB at h; simp at h; omega
theorem sized_t {n : Int} (h : n = 1 ∨ n = 2 ∨ n = 4 ∨ n = 8) : sizedB n = true := by
  unfold sizedB; rcases h with rfl | rfl | rfl | rfl <;> rfl
theorem sized_no {n : Int} (h : sizedB n = false) : (n == 1) = false ∧ (n == 2) = false ∧ (n == 4) = false ∧ (n == 8) = false := by
  unfold sizedB at h; simp at h; simp; omega
theorem c_issize (n : Int) (w : World) : Calls Tryz.prog 80 #[.int .i64 n] w fun e w' => e = .returned (.bool (sizedB n)) ∧ w' = w := by
  have hx : sizedB n = true ∨ sizedB n = false := by cases sizedB n <;> simp
  rcases hx with hx | hx
  · rcases sized_nat hx with rfl | rfl | rfl | rfl
    all_goals
      go_enter Tryz.func80, Tryz.ntmps80
      go_wp2
      go_ret
      exact ⟨ret_b hx.symm, rfl⟩
  · obtain ⟨h1, h2, h3, h4⟩ := sized_no hx
    have HX := Lib.hid hx
    clear hx
    go_enter Tryz.func80, Tryz.ntmps80
    go_wp2
    go_ret
    exact ⟨ret_b HX.out.symm, rfl⟩
theorem mm_t (fr d t x : Int) (v : Value) : (mm fr d v t).setIfInBounds 5 (.int .u64 x) = mm fr d v x := rfl
def tick (t : Int) : Int := IntKind.u64.wrap (t + 1)
def LoadP (b : Nat) (y : Option Nat) (fr : Nat) (s : List UInt8) (t : Int) (v r : Int) (w : World) (e : Ending) (w' : World) : Prop :=
  e = .returned (.tuple #[.int .u64 v, .int .i64 r]) ∧ ∃ y', MemO w' b y' fr s t ∧ KeptM b y w w' y'
theorem sub_size (s : List UInt8) (a n : Nat) (h : a + n ≤ s.length) : (subB s a n).size = n := by
  simp [subB, ByteArray.size]; omega
theorem MemO.ticked {w : World} {b : Nat} {y : Option Nat} {fr : Nat} {s : List UInt8} {t : Int} (h : MemO w b y fr s t) : MemO (w.setCell ⟨b, 5, none⟩ (.int .u64 (tick t))) b y fr s (tick t) :=
  h.touch (Ch.setCell (S := (· = b)) (Ch.refl _ w) (p := ⟨b, 5, none⟩) (.inl rfl) _) (by rw [blk_set h.blk 5 _, mm_t])
theorem KeptM.ticked {w w' : World} {b : Nat} {y y' : Option Nat} (h : KeptM b y w w' y') (v : Value) : KeptM b y w (w'.setCell ⟨b, 5, none⟩ v) y' :=
  h.then (Ch.setCell (S := fun x => x = b ∨ y' = some x) (Ch.refl _ w') (p := ⟨b, 5, none⟩) (.inl (.inl rfl)) _)
set_option maxRecDepth 100000 in
theorem c_load_bad (b : Nat) (a n : Int) (hn : sizedB n = false) (w : World) : Calls Tryz.prog 45 #[.pointer (some ⟨b, 0, none⟩), .int .u64 a, .int .i64 n] w fun e w' => e = .returned (.tuple #[.int .u64 0, .int .i64 1]) ∧ w' = w := by
  go_enter Tryz.func45, Tryz.ntmps45
  go_wp2_with (go_at_call 80; refine (c_issize _ _).mono ?_; rintro e w' ⟨rfl, rfl⟩)
  go_ret2
  exact ⟨rfl, rfl⟩
set_option maxRecDepth 100000 in
theorem c_store_bad (b : Nat) (a n v : Int) (hn : sizedB n = false) (w : World) : Calls Tryz.prog 54 #[.pointer (some ⟨b, 0, none⟩), .int .u64 a, .int .i64 n, .int .u64 v] w fun e w' => e = .returned (.int .i64 1) ∧ w' = w := by
  go_enter Tryz.func54, Tryz.ntmps54
  go_wp2_with (go_at_call 80; refine (c_issize _ _).mono ?_; rintro e w' ⟨rfl, rfl⟩)
  go_ret
  exact ⟨rfl, rfl⟩
set_option maxRecDepth 100000 in
theorem c_load_yes (b : Nat) (y : Option Nat) (fr : Nat) (s : List UInt8) (t : Int) (w : World) (h : MemO w b y fr s t) (at_ n : Nat) (hs : sizedB n = true) (hn : at_ + n ≤ s.length) :
    Calls Tryz.prog 45 #[.pointer (some ⟨b, 0, none⟩), .int .u64 at_, .int .i64 n] w (LoadP b y fr s (tick t) (ofF (subB s at_ n)) 0 w) := by
  have H := Lib.hid h
  have HN := Lib.hid hn
  clear h hn
  go_enter Tryz.func45, Tryz.ntmps45
  go_wp2_with (go_at_call 80; refine (c_issize _ _).mono ?_; rintro e w' ⟨rfl, rfl⟩)
  refine (c_part_yes b y fr s t _ H.out at_ n HN.out).mono ?_
  rintro e w1 ⟨g, rfl, hM, hK⟩
  have HM := Lib.hid hM
  have HK := Lib.hid hK
  clear hM hK
  go_wp2_with fail
  refine (a_add ⟨b, 5, none⟩ t 1 _ (blk_cell HM.out.blk 5 rfl) (blk_frozen HM.out.blk 5)).mono ?_
  rintro e w2 ⟨rfl, rfl⟩
  have hm2 := HM.out.ticked
  have HM2 := Lib.hid hm2
  have hcv := conv_part g s at_ n HN.out _ hm2.2.2.2.2.2
  clear hm2
  unfold tick at hcv
  go_wp2_with (go_at_call 82; refine (c_of (subB s at_ n) (by rw [sub_size _ _ _ HN.out]; have := sized_nat hs; unfold maxLen; omega) _).mono ?_; rintro e w' ⟨rfl, rfl⟩)
  go_ret2
  exact ⟨rfl, some g, HM2.out, HK.out.ticked _⟩
set_option maxRecDepth 100000 in
theorem c_load_no (b : Nat) (y : Option Nat) (fr : Nat) (s : List UInt8) (t : Int) (w : World) (h : MemO w b y fr s t) (a : Int) (n : Nat) (ha0 : 0 ≤ a) (ha1 : a ≤ 18446744073709551615) (hs : sizedB n = true) (hn : ¬ a + n ≤ s.length) :
    Calls Tryz.prog 45 #[.pointer (some ⟨b, 0, none⟩), .int .u64 a, .int .i64 n] w (LoadP b y fr s t 0 3 w) := by
  have H := Lib.hid h
  have HN := Lib.hid hn
  clear h hn
  go_enter Tryz.func45, Tryz.ntmps45
  go_wp2_with (go_at_call 80; refine (c_issize _ _).mono ?_; rintro e w' ⟨rfl, rfl⟩)
  refine (c_part_no b y fr s t _ H.out a n ha0 ha1 (by have := sized_nat hs; unfold maxLen; omega) (by have := HN.out; omega)).mono ?_
  rintro e w1 ⟨rfl, y', hM, hK⟩
  have HM := Lib.hid hM
  have HK := Lib.hid hK
  clear hM hK
  go_wp2_with fail
  go_ret2
  exact ⟨rfl, y', HM.out, HK.out⟩
set_option maxRecDepth 100000 in
theorem c_store_no (b : Nat) (y : Option Nat) (fr : Nat) (s : List UInt8) (t : Int) (w : World) (h : MemO w b y fr s t) (a : Int) (n : Nat) (v : Int) (ha0 : 0 ≤ a) (ha1 : a ≤ 18446744073709551615) (hs : sizedB n = true) (hn : ¬ a + n ≤ s.length) :
    Calls Tryz.prog 54 #[.pointer (some ⟨b, 0, none⟩), .int .u64 a, .int .i64 n, .int .u64 v] w (PutP b y fr s t 3 w) := by
  have H := Lib.hid h
  have HN := Lib.hid hn
  clear h hn
  go_enter Tryz.func54, Tryz.ntmps54
  go_wp2_with (go_at_call 80; refine (c_issize _ _).mono ?_; rintro e w' ⟨rfl, rfl⟩)
  refine (c_part_no b y fr s t _ H.out a n ha0 ha1 (by have := sized_nat hs; unfold maxLen; omega) (by have := HN.out; omega)).mono ?_
  rintro e w1 ⟨rfl, y', hM, hK⟩
  have HM := Lib.hid hM
  have HK := Lib.hid hK
  clear hM hK
  go_wp2_with fail
  go_ret
  exact ⟨rfl, y', HM.out, HK.out⟩
theorem clamp_sized {n : Nat} (h : sizedB n = true) : clampN n = n := by
  have := sized_nat h; unfold clampN; omega
set_option maxRecDepth 100000 in
theorem c_store_yes (b : Nat) (y : Option Nat) (fr : Nat) (s : List UInt8) (t : Int) (w : World) (h : MemO w b y fr s t) (at_ n : Nat) (v : Int) (hv : W.word v) (hs : sizedB n = true) (hn : at_ + n ≤ s.length) :
    Calls Tryz.prog 54 #[.pointer (some ⟨b, 0, none⟩), .int .u64 at_, .int .i64 n, .int .u64 v] w (PutP b y fr (putL s at_ (bytesF v n).data.toList) (tick t) 0 w) := by
  have hbs : (bytesF v n).size = n := by rw [bytes_size, clamp_sized hs]
  have H := Lib.hid h
  have HN := Lib.hid hn
  have HV := Lib.hid hv
  have HBS := Lib.hid hbs
  have HLEN := Lib.hid (putL_len s at_ (bytesF v n).data.toList (by rw [Array.length_toList]; exact (by rw [show (bytesF v n).data.size = n from hbs]; exact hn)))
  clear h hn hv hbs
  go_enter Tryz.func54, Tryz.ntmps54
  go_wp2_with (go_at_call 80; refine (c_issize _ _).mono ?_; rintro e w' ⟨rfl, rfl⟩)
  refine (c_part_yes b y fr s t _ H.out at_ n HN.out).mono ?_
  rintro e w1 ⟨g, rfl, hM, hK⟩
  have HM := Lib.hid hM
  have HK := Lib.hid hK
  clear hM hK
  go_wp2_with fail
  refine (a_add ⟨b, 5, none⟩ t 1 _ (blk_cell HM.out.blk 5 rfl) (blk_frozen HM.out.blk 5)).mono ?_
  rintro e w2 ⟨rfl, rfl⟩
  have HM2 := Lib.hid HM.out.ticked
  have HK2 := Lib.hid (HK.out.ticked (.int .u64 (tick t)))
  go_wp2_with fail
  refine (c_bytes v n HV.out _).mono ?_
  rintro e w3 ⟨rfl, g3⟩
  have g3' : Gr (w1.setCell ⟨b, 5, none⟩ (.int .u64 (tick t))) w3 := g3
  have HM3 := Lib.hid (HM2.out.keep (S := fun _ => False) (Ch.of_gr g3') (fun h => h) (fun _ _ h => h))
  have HK3 := Lib.hid (HK2.out.trans (KeptM.of_gr g3'))
  clear g3 g3'
  obtain ⟨w4, hr, hb, hc⟩ := copy_str g s at_ (bytesF v n) (by rw [HBS.out]; exact HN.out) 3 w3 HM3.out.2.2.2.2.2
  rw [HBS.out] at hr
  have HB := Lib.hid hb
  have HC := Lib.hid hc
  have HR := Lib.hid hr
  clear hb hc hr
  go_wp2_with (refine Go.Lib.wpList_copy_run _ rfl _ _ 44 9 rfl _ _ rfl rfl HR.out ?_)
  go_ret
  exact ⟨rfl, some g, HM3.out.stored HC.out HLEN.out HB.out, HK3.out.then (HC.out.mono (fun x hx => .inr (by rw [hx])))⟩
end Go.Proofs.YtbcnibnkojnpiaaGreat.P
