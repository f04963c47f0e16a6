/- Stage 3: PhysClones. No condition. -/
import Derived.Test.YtofpkghjiecjdaaQ13
import Derived.Test.YtofpkghjiecjdaaQ9
import Derived.Test.YtofpkghjiecjdaaS
import Derived.Deep.DeepCutAuto
import Derived.StillTailTactics
set_option linter.unusedVariables false
namespace Go.Proofs.Ytofpkghjiecjdaa.P
open Go.RowKit Go.MuLone Go.Proofs.Ytofpkghjiecjdaa.W
/-- Two memories of new memory, apart. -/
def PP (wE w : World) (b c fr : Nat) (s : List UInt8) (t : Int) (s' : List UInt8) (t' : Int) : Prop :=
  Gr wE w ∧ wE.heap.size ≤ b ∧ wE.heap.size ≤ c ∧ ∃ y z, (∀ x, y = some x → wE.heap.size ≤ x) ∧ (∀ x, z = some x → wE.heap.size ≤ x) ∧ Sep b y c z ∧ MemO w b y fr s t ∧ MemO w c z fr s' t'
theorem PP.symm {wE w : World} {b c fr : Nat} {s : List UInt8} {t : Int} {s' : List UInt8} {t' : Int} (h : PP wE w b c fr s t s' t') : PP wE w c b fr s' t' s t := by
  obtain ⟨g, hb, hc, y, z, hy, hz, hs, hM, hN⟩ := h
  exact ⟨g, hc, hb, z, y, hz, hy, hs.symm, hN, hM⟩
theorem pp_left {wE w w' : World} {b c fr : Nat} {s1 : List UInt8} {t1 : Int} {s' : List UInt8} {t' : Int} {y y' z : Option Nat} (g : Gr wE w) (hb : wE.heap.size ≤ b) (hc : wE.heap.size ≤ c)
    (hy : ∀ x, y = some x → wE.heap.size ≤ x) (hz : ∀ x, z = some x → wE.heap.size ≤ x) (hs : Sep b y c z) (hN : MemO w c z fr s' t') (hM : MemO w' b y' fr s1 t1) (hk : KeptM b y w w' y') : PP wE w' b c fr s1 t1 s' t' := by
  obtain ⟨k1, k2⟩ := MG.step g hb hy hk
  exact ⟨k1, hb, hc, y', z, k2, hz, hs.step hk hN.lt.1 hN.lt.2, hM, hN.apart hs hk⟩
theorem pp_get {wE w : World} {b c fr : Nat} {s : List UInt8} {t : Int} {s' : List UInt8} {t' : Int} (h : PP wE w b c fr s t s' t') (a n : Int) (ha0 : 0 ≤ a) (ha1 : a ≤ 18446744073709551615) (hn1 : n ≤ 9223372036854775807) (v : ByteArray) (r : Int) (hv : getV s a n = v) (hr : getR s a n = r) :
    Calls Try.prog 16 #[.pointer (some ⟨b, 0, none⟩), .int .u64 a, .int .i64 n] w fun e w' => e = .returned (.tuple #[.string v, .int .i64 r]) ∧ PP wE w' b c fr s t s' t' := by
  obtain ⟨g, hb, hc, y, z, hy, hz, hs, hM, hN⟩ := h
  refine (c_get b y fr s t w hM a n ha0 ha1 hn1).mono ?_
  rintro e w' ⟨rfl, y', hM', hK⟩
  exact ⟨by rw [hv, hr], pp_left g hb hc hy hz hs hN hM' hK⟩
theorem pp_put {wE w : World} {b c fr : Nat} {s : List UInt8} {t : Int} {s' : List UInt8} {t' : Int} (h : PP wE w b c fr s t s' t') (a : Int) (x : ByteArray) (ha0 : 0 ≤ a) (ha1 : a ≤ 18446744073709551615) (hx : x.size ≤ maxLen) (s1 : List UInt8) (r : Int) (hs1 : putS s a x = s1) (hr : putR s a x = r) :
    Calls Try.prog 18 #[.pointer (some ⟨b, 0, none⟩), .int .u64 a, .string x] w fun e w' => e = .returned (.int .i64 r) ∧ PP wE w' b c fr s1 t s' t' := by
  obtain ⟨g, hb, hc, y, z, hy, hz, hs, hM, hN⟩ := h
  refine (c_put b y fr s t w hM a x ha0 ha1 hx).mono ?_
  rintro e w' ⟨rfl, y', hM', hK⟩
  rw [hs1] at hM'
  exact ⟨by rw [hr], pp_left g hb hc hy hz hs hN hM' hK⟩
theorem pp_clear {wE w : World} {b c fr : Nat} {s : List UInt8} {t : Int} {s' : List UInt8} {t' : Int} (h : PP wE w b c fr s t s' t') (n : Int) :
    Calls Try.prog 22 #[.pointer (some ⟨b, 0, none⟩), .int .i64 n] w fun e w' => e = .returned (.int .i64 (clearR fr n)) ∧ PP wE w' b c fr (clearS fr s n) t s' t' := by
  obtain ⟨g, hb, hc, y, z, hy, hz, hs, hM, hN⟩ := h
  refine (c_clear b y fr s t w hM n).mono ?_
  rintro e w' ⟨rfl, y', hM', hK⟩
  exact ⟨rfl, pp_left g hb hc hy hz hs hN hM' hK⟩
theorem pp_touched {wE w : World} {b c fr : Nat} {s : List UInt8} {t : Int} {s' : List UInt8} {t' : Int} (h : PP wE w b c fr s t s' t') :
    Calls Try.prog 15 #[.pointer (some ⟨b, 0, none⟩)] w fun e w' => e = .returned (.int .u64 t) ∧ w' = w := by
  obtain ⟨g, hb, hc, y, z, hy, hz, hs, hM, hN⟩ := h
  exact c_touched b y fr s t w hM
theorem mg_clone {w0 w : World} {b fr : Nat} {s : List UInt8} {t : Int} (h : MG w0 w b fr s t) :
    Calls Try.prog 21 #[.pointer (some ⟨b, 0, none⟩)] w fun e w' => ∃ c, e = .returned (.pointer (some ⟨c, 0, none⟩)) ∧ PP w0 w' b c fr s t s 0 := by
  obtain ⟨g0, hb, y, hy, hM⟩ := h
  refine (c_clone b y fr s t w hM).mono ?_
  rintro e w' ⟨c, g, y', rfl, hM', hN, hK, hc, hg, hs⟩
  obtain ⟨k1, k2⟩ := MG.step g0 hb hy hK
  have := g0.size
  exact ⟨c, rfl, k1, hb, by omega, y', some g, k2, fun x hx => by injection hx with hx; omega, hs, hM', hN⟩
theorem put_get (s : List UInt8) (A : Nat) (x : ByteArray) (h : A + x.size ≤ s.length) : getV (putL s A x.data.toList) (A : Int) (x.size : Int) = x := by
  have hxl : x.data.toList.length = x.size := by simp
  have hl : (putL s A x.data.toList).length = s.length := putL_len s A _ (by omega)
  have hi : (A : Int) + (x.size : Int) ≤ (putL s A x.data.toList).length := by rw [hl]; omega
  unfold getV
  rw [if_neg (by omega), if_pos (inB_t hi), Int.toNat_natCast, Int.toNat_natCast]
  unfold subB
  have := sub_put_same s A x.data.toList (by omega)
  rw [hxl] at this
  rw [this]
theorem t_takes (n : Int) (w : World) : Calls Try.prog 12 #[.int .i64 n] w fun e w' => e = .returned (.bool (decide (1 ≤ n ∧ n ≤ 256))) ∧ w' = w := by
  by_cases h1 : 1 ≤ n
  · by_cases h2 : n ≤ 256
    · go_enter Try.func12, Try.ntmps12
      go_wp2
      go_ret
      exact ⟨ret_b (by simp; omega), rfl⟩
    · go_enter Try.func12, Try.ntmps12
      go_wp2
      go_ret
      exact ⟨ret_b (by simp; omega), rfl⟩
  · go_enter Try.func12, Try.ntmps12
    go_wp2
    go_ret
    exact ⟨ret_b (by simp; omega), rfl⟩
set_option maxRecDepth 100000 in
set_option maxHeartbeats 3200000 in
theorem l_clones_no (fr : Int) (lv : Value) (kd n nn A v : Int) (x : ByteArray) (w : World) (h : ¬ (1 ≤ fr ∧ fr ≤ 256)) :
    Calls Try.prog 5 #[.int .i64 fr, lv, .agg #[.int .i64 kd, .int .i64 n, .int .i64 nn, .int .u64 A, .int .u64 v, .string x]] w fun e w' => e = .returned (.bool true) ∧ Gr w w' := by
  go_enter Try.func5, Try.ntmps5
  go_wp2_with fail
  refine (c_shown _).mono ?_; rintro e w1 ⟨rfl, g⟩
  have G := Lib.hid (galloc _ g); clear g
  go_wp2_with fail
  refine (c_new_no fr h _).mono ?_; rintro e w2 ⟨rfl, rfl⟩
  go_wp2_with fail
  refine (t_takes fr _).mono ?_; rintro e w2 ⟨rfl, rfl⟩
  rw [decide_eq_false h]
  clear h
  go_wp2_with fail
  go_ret
  exact ⟨rfl, G.out⟩
set_option maxRecDepth 100000 in
set_option maxHeartbeats 3200000 in
theorem l_clones (fr : Nat) (hf1 : 1 ≤ fr) (hf2 : fr ≤ 256) (kd n nn A v : Int) (x : ByteArray) (hA : u64 A) (hx : x.size ≤ maxLen) (w : World) (o : Option Addr) (len cap bl off : Nat) (f : Nat → ActV) (hlen : len ≤ 9223372036854775807) (ho : 0 < len → o = some ⟨bl, off, none⟩ ∧ bl < w.heap.size) (hl : Acts w bl off len f) :
    Calls Try.prog 5 #[.int .i64 fr, .slice o len cap, .agg #[.int .i64 kd, .int .i64 n, .int .i64 nn, .int .u64 A, .int .u64 v, .string x]] w fun e w' => e = .returned (.bool true) ∧ Gr w w' := by
  have HA := Lib.hid hl
  have HO := Lib.hid ho
  clear hl ho
  have HU := Lib.hid hA
  have HX := Lib.hid hx
  have B0 := Lib.hid (blk_new w (.cells #[.int .i64 kd, .int .i64 n, .int .i64 nn, .int .u64 A, .int .u64 v, .string x] 34))
  have HC : RowKit.Hid (∀ w', Gr (w.alloc (.cells #[.int .i64 kd, .int .i64 n, .int .i64 nn, .int .u64 A, .int .u64 v, .string x] 34)) w' → ∀ (j : Nat) (u : Value), (#[Value.int .i64 kd, .int .i64 n, .int .i64 nn, .int .u64 A, .int .u64 v, .string x] : Array Value)[j]? = some u → w'.cell? ⟨w.heap.size, j, none⟩ = some u) :=
    Lib.hid (fun w' hg j u hu => blk_cell (blk_gr hg B0.out) j hu)
  clear hA hx
  go_enter Try.func5, Try.ntmps5
  go_wp2_with fail
  refine (c_shown _).mono ?_; rintro e w1 ⟨rfl, g⟩
  have G := Lib.hid g; clear g
  go_wp2_with fail
  refine (mg_new (w.alloc (.cells #[.int .i64 kd, .int .i64 n, .int .i64 nn, .int .u64 A, .int .u64 v, .string x] 34)) fr hf1 hf2 _ G.out).mono ?_; rintro e w2 ⟨b, rfl, h⟩
  have H1 := Lib.hid h
  clear h
  go_wp2_with fail
  go_loopw [11] (fun vi wr => ∃ (i : Nat) (s : List UInt8), i ≤ len ∧ vi = .int .i64 i ∧ MG (w.alloc (.cells #[.int .i64 kd, .int .i64 n, .int .i64 nn, .int .u64 A, .int .u64 v, .string x] 34)) wr b fr s 0) (fun vi _ => len - (intOf vi).toNat)
  case atStart => exact ⟨0, _, Nat.zero_le _, rfl, H1.out⟩
  case round =>
    obtain ⟨i, s, hi, rfl, hg⟩ := hrel
    have HG := Lib.hid hg
    clear hg
    by_cases hlt : i < len
    · obtain ⟨rfl, hbl⟩ := HO.out (by omega)
      obtain ⟨⟨_, _, _, hu, _, hsz⟩, a0, a1, a2, a3, a4, a5⟩ := HA.out i hlt
      have c0 := kcell HG.out.1 (calloc _ a0)
      have c3 := kcell HG.out.1 (calloc _ a3)
      have c5 := kcell HG.out.1 (calloc _ a5)
      obtain ⟨u1, u2⟩ := hu
      have U1 := Lib.hid u1
      have U2 := Lib.hid u2
      have HSZ := Lib.hid hsz
      clear a0 a1 a2 a3 a4 a5 u1 u2 hsz
      by_cases hk : (f i).kind = 4
      · rw [hk] at c0
        clear hk
        go_wp2_with fail
        go_still_tail 11, (by kernel_rfl)
        go_wp2_with fail
        refine (mg_put (HG.out.keep (Below.drew (Below.refl _ _))) (f i).at_ (f i).s U1.out U2.out HSZ.out).mono ?_; rintro e w9 ⟨rfl, h⟩
        have H9 := Lib.hid h; clear h
        clear c0 c3 c5
        go_wp2_with fail
        go_roundw
        case rel => exact ⟨i + 1, _, by omega, by go_num, H9.out⟩
        case measure => simp [intOf]; omega
      · have hk' : ((f i).kind == 4) = false := by simpa using hk
        generalize (f i).kind = kd at *
        clear hk
        go_wp2_with fail
        go_roundw
        case rel => exact ⟨i + 1, s, by omega, by go_num, HG.out⟩
        case measure => simp [intOf]; omega
    · obtain rfl : i = len := by omega
      clear hlt
      have hs := HG.out.len
      have HSL := Lib.hid hs.1
      clear hs
      have a0 : 0 ≤ A := HU.out.1
      have a1 : A ≤ 18446744073709551615 := HU.out.2
      have f0 : (0 : Int) ≤ fr := by omega
      have f1 : (fr : Int) ≤ 256 := by omega
      have hi0 : (0 : Int) + ((fr : Int) * 256) ≤ s.length := by rw [HSL.out]; omega
      have g2 : getR s 0 ((fr : Int) * 256) = 0 := by unfold getR; rw [if_neg (by omega), if_pos (inB_t hi0)]
      generalize hV : getV s 0 ((fr : Int) * 256) = V at *
      have GV := Lib.hid hV
      have G2 := Lib.hid g2
      clear hV g2 hi0
      go_wp2_with fail
      refine (mg_clone HG.out).mono ?_; rintro e w3 ⟨c, rfl, h⟩
      have H3 := Lib.hid h; clear h
      go_wp2_with fail
      refine (pp_get H3.out 0 ((fr : Int) * 256) (by decide) (by decide) (by omega) V 0 GV.out G2.out).mono ?_; rintro e w4 ⟨rfl, h⟩
      have H4 := Lib.hid h.symm; clear h
      go_wp2_with fail
      refine (pp_get H4.out 0 ((fr : Int) * 256) (by decide) (by decide) (by omega) V 0 GV.out G2.out).mono ?_; rintro e w5 ⟨rfl, h⟩
      have H5 := Lib.hid h; clear h
      have d3 := HC.out w5 H5.out.1 3 _ rfl
      have d5 := HC.out w5 H5.out.1 5 _ rfl
      have hlen1 : (putS s A x).length = s.length := by
        unfold putS; split
        · rename_i hh
          have hh2 : A + (x.size : Int) ≤ s.length := of_decide_eq_true hh
          refine putL_len _ _ _ ?_
          rw [show x.data.toList.length = x.size by simp]; omega
        · rfl
      have hput : putR (putS s A x) A x = putR s A x := by unfold putR inB; rw [hlen1]
      have hget : putR s A x = 0 → getV (putS s A x) A x.size = x := by
        intro hz
        unfold putR at hz
        by_cases hh : inB s A x.size = true
        · have hh2 : A + (x.size : Int) ≤ s.length := of_decide_eq_true hh
          obtain ⟨K, rfl⟩ : ∃ p : Nat, A = (p : Int) := ⟨A.toNat, by omega⟩
          unfold putS; rw [if_pos hh, Int.toNat_natCast]
          exact put_get s K x (by omega)
        · rw [if_neg hh] at hz; omega
      have hr : putR s A x = 0 ∨ putR s A x = 3 := by unfold putR; split; exact .inl rfl; exact .inr rfl
      obtain ⟨r, hr1, hr2⟩ : ∃ r, putR s A x = r ∧ (r = 0 ∨ r = 3) := ⟨_, rfl, hr⟩
      rw [hr1] at hput hget
      have hxs : (x.size : Int) ≤ 9223372036854775807 := by have := HX.out; unfold maxLen at this; omega
      have PUT := Lib.hid hput; have GET := Lib.hid hget; have R1 := Lib.hid hr1
      clear hr hlen1 hput hget hr1
      go_wp2_with fail
      refine (pp_put H5.out A x a0 a1 HX.out _ r rfl R1.out).mono ?_; rintro e w6 ⟨rfl, h⟩
      have H6 := Lib.hid h.symm; clear h d3 d5
      go_wp2_with fail
      refine (pp_get H6.out 0 ((fr : Int) * 256) (by decide) (by decide) (by omega) V 0 GV.out G2.out).mono ?_; rintro e w7 ⟨rfl, h⟩
      have H7 := Lib.hid h; clear h
      go_wp2_with fail
      refine (pp_clear H7.out 0).mono ?_; rintro e w8 ⟨rfl, h⟩
      have H8 := Lib.hid h.symm; clear h
      have d3 := HC.out w8 H8.out.1 3 _ rfl
      have d5 := HC.out w8 H8.out.1 5 _ rfl
      go_wp2_with fail
      refine (pp_get H8.out A x.size a0 a1 hxs _ _ rfl rfl).mono ?_; rintro e w9 ⟨rfl, h⟩
      have H9 := Lib.hid h; clear h d3 d5
      have d3 := HC.out w9 H9.out.1 3 _ rfl
      have d5 := HC.out w9 H9.out.1 5 _ rfl
      go_wp2_with fail
      refine (pp_put H9.out A x a0 a1 HX.out _ r rfl PUT.out).mono ?_; rintro e w10 ⟨rfl, h⟩
      have H10 := Lib.hid h; clear h d3 d5
      have d5 := HC.out w10 H10.out.1 5 _ rfl
      go_wp2_with fail
      refine (pp_touched H10.out).mono ?_; rintro e w11 ⟨rfl, rfl⟩
      rcases hr2 with rfl | rfl
      · rw [GET.out rfl]
        go_wp2_with fail
        go_ret
        exact ⟨rfl, galloc _ H10.out.1⟩
      · generalize getV (putS s A x) A x.size = Q at *
        go_wp2_with fail
        go_ret
        exact ⟨rfl, galloc _ H10.out.1⟩
end Go.Proofs.Ytofpkghjiecjdaa.P
