/- Stage 11: the pieces of a row of bytes in a space. No condition. -/
import Derived.Test.YtbcnibnkojnpiaaEG
import Derived.Deep.LoopGhost
set_option linter.unusedVariables false
set_option linter.unusedSimpArgs false
set_option maxRecDepth 100000
namespace Go.Proofs.Ytbcnibnkojnpiaa.P
open Go.RowKit Go.MuLone Go.Maps
/-- What the closure does with a piece. -/
structure Cbd {X : Type} (rd : X → Sp) (B : X → Asn) (Ok : Int → X → Prop) (pb b fi : Nat) (n : Int) (f : Int → Int → Int → X → X) (gd : FuncId) (cd : Array Value) (w0 : World) : Prop where
  stB : ∀ x, Stable (B x)
  okd : ∀ x p a c, Ok a x → 0 ≤ a → a < c → c ≤ n → c ≤ a + 256 → Ok c (f p a c x)
  calld : ∀ (p a c : Int) (w : World), (callFunc gd (#[.int .u64 p, .int .i64 a, .int .i64 c] ++ cd)).run Try.prog w = .ok (.enter gd (#[.int .u64 p, .int .i64 a, .int .i64 c] ++ cd)) w
  doit : ∀ x p a c w R, Stable R → Ok a x → u64 p → 0 ≤ a → a < c → c ≤ n → c ≤ a + 256 → Own w0 w (Star (plA pb b fi (rd x).L (rd x).s) (Star (B x) R)) →
    Calls Try.prog gd (#[.int .u64 p, .int .i64 a, .int .i64 c] ++ cd) w fun e w' => e = .returned (.tuple #[]) ∧ Own w0 w' (Star (plA pb b fi (rd (f p a c x)).L (rd (f p a c x)).s) (Star (B (f p a c x)) R))
theorem walkV_u64 (fr : Nat) (s : List UInt8) (r a acc : Int) (ha : 0 ≤ a) : u64 (walkV fr s r a acc) := by
  have he := ent_word s (leafV fr s r a)
  have h0 := he.1
  have h1 := he.2
  unfold walkV walkE
  cases decide (walkR fr s r a acc = 0)
  · rw [cond_false]; exact ⟨by omega, by omega⟩
  · rw [cond_true]; exact ⟨by omega, by omega⟩
set_option maxHeartbeats 1600000 in
theorem o_chunks {X : Type} {rd : X → Sp} {B : X → Asn} {Ok : Int → X → Prop} {pb b fi : Nat} {n : Int} {f : Int → Int → Int → X → X} {gd : FuncId} {cd : Array Value} {w0 : World} (C : Cbd rd B Ok pb b fi n f gd cd w0)
    (x : X) (r a acc : Int) (w : World) (R : Asn) (hR : Stable R) (hk : Ok 0 x) (hn : 0 ≤ n ∧ n ≤ 4096) (hr : i64 r) (ha : u64 a) (h : Own w0 w (Star (plA pb b fi (rd x).L (rd x).s) (Star (B x) R))) :
    Calls Try.prog 44 #[.pointer (some ⟨pb, 0, none⟩), .int .i64 r, .int .u64 a, .int .i64 n, .int .i64 acc, .func (.func gd) #[] cd] w fun e w' =>
      e = .returned (.int .i64 (chunkX rd r a n acc f (n.toNat + 1) 0 x).2) ∧ Own w0 w' (Star (plA pb b fi (rd (chunkX rd r a n acc f (n.toNat + 1) 0 x).1).L (rd (chunkX rd r a n acc f (n.toNat + 1) 0 x).1).s) (Star (B (chunkX rd r a n acc f (n.toNat + 1) 0 x).1) R)) := by
  have H := Lib.hid h
  have HK := Lib.hid hk
  have HC := Lib.hid C
  have HR := Lib.hid hR
  have HRI := Lib.hid hr
  obtain ⟨n0, n1⟩ := hn
  obtain ⟨a0, a1⟩ := ha
  have CD := C.calld
  obtain ⟨res, hres⟩ : ∃ res, chunkX rd r a n acc f (n.toNat + 1) 0 x = res := ⟨_, rfl⟩
  rw [hres]
  have HRES := Lib.hid hres
  clear h hk C hR hres hr
  go_enter Try.func44, Try.ntmps44
  go_wp2_with fail
  go_loopg [13] (n.toNat + 1) (fun t v13 wr => ∃ (from_ : Int) (y : X) (F : Nat), 0 ≤ from_ ∧ from_ ≤ n ∧ t = F ∧ n - from_ < (F : Int) ∧ v13 = .int .i64 from_ ∧ chunkX rd r a n acc f F from_ y = res ∧ Ok from_ y ∧ Own w0 wr (Star (plA pb b fi (rd y).L (rd y).s) (Star (B y) R)))
  case atStart => exact ⟨0, x, n.toNat + 1, by omega, by omega, rfl, by omega, rfl, HRES.out, HK.out, H.out⟩
  case round =>
    clear H HK HRES
    obtain ⟨from_, y, F, g0, g1, ht, g2, rfl, hy, hok, ho⟩ := hrel
    have HOKY := Lib.hid hok
    have HO := Lib.hid ho
    obtain ⟨F', rfl⟩ : ∃ F', F = F' + 1 := ⟨F - 1, by omega⟩
    rw [chunkX] at hy
    clear hok ho
    by_cases hlt : n ≤ from_
    · have d1 : ¬ from_ < n := by omega
      rw [decide_eq_true hlt, cond_true] at hy
      subst hy
      go_wp2_with fail
      go_ret
      exact ⟨rfl, HO.out⟩
    · have d1 : from_ < n := by omega
      rw [decide_eq_false hlt, cond_false] at hy
      obtain ⟨V, hV⟩ : ∃ V, IntKind.u64.wrap (a + from_) = V := ⟨_, rfl⟩
      have hVb : 0 ≤ V ∧ V < 18446744073709551616 := by rw [← hV, IntKind.wrap_u64]; omega
      obtain ⟨v0, v1⟩ := hVb
      obtain ⟨to_, hto⟩ : ∃ to_, pieceI a n from_ = to_ := ⟨_, rfl⟩
      have hto2 : to_ = min n (from_ + 256 - V % 256) := by rw [← hto, ← hV]; rfl
      rw [hV, hto] at hy
      have b1 : from_ < to_ ∧ to_ ≤ n ∧ to_ ≤ from_ + 256 := by omega
      obtain ⟨b1, b2, b3⟩ := b1
      have k1 : IntKind.u64.wrap from_ = from_ := wrapU _ (by omega) (by omega)
      have k2 : IntKind.i64.wrap (from_ + 256) = from_ + 256 := wrapI _ (by omega) (by omega)
      have m0 : 0 ≤ V % 256 ∧ V % 256 < 256 := by omega
      obtain ⟨M, hM⟩ : ∃ M, V % 256 = M := ⟨_, rfl⟩
      rw [hM] at hto2 m0
      have k3 : IntKind.i64.wrap M = M := wrapI _ (by omega) (by omega)
      have k3' : IntKind.i64.wrap (V % 256) = M := by rw [hM, k3]
      have k4 : IntKind.i64.wrap (from_ + 256 - M) = from_ + 256 - M := wrapI _ (by omega) (by omega)
      have htm : V.tmod 256 = M := by rw [Int.tmod_eq_emod_of_nonneg v0, hM]
      obtain ⟨wr_, hwr⟩ : ∃ x, walkR (rd y).L.length (rd y).s r V acc = x := ⟨_, rfl⟩
      obtain ⟨wv_, hwv⟩ : ∃ x, walkV (rd y).L.length (rd y).s r V acc = x := ⟨_, rfl⟩
      have hwu := walkV_u64 (rd y).L.length (rd y).s r V acc v0
      rw [hwr, hwv] at hy
      rw [hwv] at hwu
      have SB := Lib.hid (stable_star (HC.out.stB y) HR.out)
      have WK : RowKit.Hid (∀ w, Own w0 w (Star (plA pb b fi (rd y).L (rd y).s) (Star (B y) R)) → Calls Try.prog 52 #[.pointer (some ⟨b, 0, none⟩), .int .i64 r, .int .u64 V, .int .i64 acc] w fun e w' => e = .returned (.tuple #[.int .u64 wv_, .int .i64 wr_]) ∧ Own w0 w' (Star (plA pb b fi (rd y).L (rd y).s) (Star (B y) R))) := Lib.hid (fun w h => o_pwalk h SB.out r V acc wv_ wr_ ⟨v0, by omega⟩ HRI.out hwv hwr)
      have hto3 : min n (from_ + 256 - M) = to_ := hto2.symm
      clear hto hwr hwv hto2
      by_cases hw0 : wr_ = 0
      · subst hw0
        rw [decide_eq_true rfl, cond_true] at hy
        have hcall := CD wv_ from_ to_
        have DO : RowKit.Hid (∀ w, Own w0 w (Star (plA pb b fi (rd y).L (rd y).s) (Star (B y) R)) → _) := Lib.hid (fun w h => HC.out.doit y wv_ from_ to_ w R HR.out HOKY.out hwu g0 b1 b2 b3 h)
        have HOK2 := Lib.hid (HC.out.okd y wv_ from_ to_ HOKY.out g0 b1 b2 b3)
        have HY := Lib.hid hy
        clear hy hwu
        go_wp2_with (first
          | (go_at_call 25; refine (o_pmem HO.out).mono ?_; rintro e wm ⟨rfl, rfl⟩)
          | (go_at_call 52; refine (WK.out _ HO.out).mono ?_; rintro e w2 ⟨rfl, h2⟩; have H2 := Lib.hid h2; clear h2))
        refine (DO.out _ H2.out).mono ?_
        rintro e w3 ⟨rfl, h3⟩
        have H3 := Lib.hid h3
        clear h3
        go_wp2_with fail
        go_roundg F'
        case measure => omega
        case rel => exact ⟨to_, _, F', by omega, b2, rfl, by omega, by go_num, HY.out, HOK2.out, H3.out⟩
      · have hwb : (wr_ == 0) = false := by simpa using hw0
        have hwb2 : (wr_ != 0) = true := by simpa using hw0
        rw [decide_eq_false hw0, cond_false] at hy
        subst hy
        clear hwu
        go_wp2_with (first
          | (go_at_call 25; refine (o_pmem HO.out).mono ?_; rintro e wm ⟨rfl, rfl⟩)
          | (go_at_call 52; refine (WK.out _ HO.out).mono ?_; rintro e w2 ⟨rfl, h2⟩; have H2 := Lib.hid h2; clear h2))
        go_ret
        exact ⟨rfl, H2.out⟩
end Go.Proofs.Ytbcnibnkojnpiaa.P
