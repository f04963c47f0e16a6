/- Stage 8: the reference's volume, read. No condition. -/
import Derived.Test.YtlpcccpagmipnaaGreatYA
set_option linter.unusedVariables false
set_option linter.unusedSimpArgs false
set_option maxRecDepth 100000
namespace Go.Proofs.YtlpcccpagmipnaaGreat.P
open Go.RowKit Go.ChangeMaps Go.MapKept
/-- A reference's volume lies there. -/
structure RefAt (w : World) (r g c n : Nat) (N : Nat → NodeA) : Prop where
  home : w.cell? ⟨r, 0, none⟩ = some (.int .i64 (n : Int))
  row : w.cell? ⟨r, 1, none⟩ = some (.slice (some ⟨g, 0, none⟩) 32 c)
  node : ∀ q, q < 32 → w.cell? ⟨g, q * 3, none⟩ = some (.int .i64 ((N q).kind : Int)) ∧ w.cell? ⟨g, q * 3 + 1, none⟩ = some (.int .i64 ((N q).links : Int)) ∧ w.cell? ⟨g, q * 3 + 2, none⟩ = some (.string ⟨(N q).data.toArray⟩)
theorem RefAt.gr {w w' : World} {r g c n : Nat} {N : Nat → NodeA} (h : RefAt w r g c n N) (gr : Gr w w') : RefAt w' r g c n N :=
  ⟨kcell gr h.home, kcell gr h.row, fun q hq => ⟨kcell gr (h.node q hq).1, kcell gr (h.node q hq).2.1, kcell gr (h.node q hq).2.2⟩⟩
theorem find8_bad {N : Nat → NodeA} {k : Int} (h : k < 0 ∨ 31 < k) : findN N k = 1 := find_bad h
theorem c_find8 {w : World} {r g c n : Nat} {N : Nat → NodeA} (h : RefAt w r g c n N) (k : Int) : Calls Tryz.prog 69 #[.pointer (some ⟨r, 0, none⟩), .int .i64 k] w fun e w' => e = .returned (.int .i64 (findN N k)) ∧ w' = w := by
  by_cases hb : k < 0 ∨ 31 < k
  · rw [find_bad hb]
    go_enter Tryz.func69, Tryz.ntmps69
    by_cases h0 : k < 0
    · have d1 : decide (k < 0) = true := decide_eq_true h0
      go_wp2_with fail
      go_ret
      exact ⟨rfl, rfl⟩
    · have d1 : decide (k < 0) = false := decide_eq_false h0
      have h1 : 31 < k := by omega
      have d2 : decide (31 < k) = true := decide_eq_true h1
      clear hb
      go_wp2_with fail
      go_ret
      exact ⟨rfl, rfl⟩
  · obtain ⟨q, rfl, hq⟩ := nat_of hb
    have c1 := h.row
    obtain ⟨c2, _, _⟩ := h.node q hq
    have d1 : decide ((q : Int) < 0) = false := decide_eq_false (by omega)
    have d2 : decide (31 < (q : Int)) = false := decide_eq_false (by omega)
    have d3 : decide (31 < q) = false := decide_eq_false (by omega)
    have hq1 : (q : Int) < 32 := by omega
    by_cases hkd : (N q).kind = 0
    · rw [find_free hq hkd]
      rw [hkd] at c2
      clear h hb
      go_enter Tryz.func69, Tryz.ntmps69
      go_wp2_with fail
      go_ret
      exact ⟨rfl, rfl⟩
    · rw [find_ok hq hkd]
      have b1 : (((N q).kind : Int) == 0) = false := beq_eq_false_iff_ne.2 (by omega)
      generalize (N q).kind = kd at *
      clear h hb
      go_enter Tryz.func69, Tryz.ntmps69
      go_wp2_with fail
      go_ret
      exact ⟨rfl, rfl⟩
set_option maxHeartbeats 1600000 in
theorem c_room8 {w : World} {r g c n : Nat} {N : Nat → NodeA} (h : RefAt w r g c n N) (hn : n ≤ 100000) (hd : ∀ q, q < 32 → (N q).data.length ≤ 2368) : Calls Tryz.prog 26 #[.pointer (some ⟨r, 0, none⟩)] w fun e w' => e = .returned (.int .i64 (roomN N n)) ∧ w' = w := by
  have HR := Lib.hid h
  have HD := Lib.hid hd
  have c0 := h.home
  clear h hd
  go_enter Tryz.func26, Tryz.ntmps26
  go_wp2_with fail
  clear c0
  go_loopw [3, 4] (fun v3 v4 wl => ∃ j : Nat, j ≤ 32 ∧ v4 = .int .i64 (j : Int) ∧ v3 = .int .i64 ((n : Int) - 9 - (sumT N j : Int)) ∧ sumT N j ≤ 38 * j ∧ wl = w) (fun _ v _ => 32 - (intOf v).toNat)
  case atStart => exact ⟨0, Nat.zero_le _, rfl, by show _ = Value.int .i64 ((n : Int) - 9 - ((0 : Nat) : Int)); go_num, Nat.zero_le _, rfl⟩
  case round =>
    obtain ⟨j, hj, rfl, rfl, hs, rfl⟩ := hrel
    by_cases hj2 : j < 32
    · have dj : decide (j < 32) = true := decide_eq_true hj2
      have dj2 : decide ((j : Int) < 32) = true := decide_eq_true (by omega)
      have c1 := HR.out.row
      obtain ⟨_, _, c2⟩ := HR.out.node j hj2
      have hl := HD.out j hj2
      have hz := sumT_succ N j
      have hb := takes_bound hl
      have hq1 : (j : Int) < 32 := by omega
      have hsz : (⟨(N j).data.toArray⟩ : ByteArray).size = (N j).data.length := List.size_toArray
      have CTK := Lib.hid (c_takes8 (N j).data.length (by omega) wr)
      generalize (⟨(N j).data.toArray⟩ : ByteArray) = D at *
      generalize (N j).data.length = L at *
      subst hsz
      generalize takesN D.size = tk at *
      go_wp2_with (go_at_call 40; refine CTK.out.mono ?_; rintro e w' ⟨rfl, hw'⟩; rw [hw']; clear hw' w')
      go_roundw
      case rel => exact ⟨j + 1, by omega, by go_num, by rw [hz]; go_num, by omega, trivial⟩
      case measure => simp [intOf]; omega
    · obtain rfl : j = 32 := by omega
      go_wp2_with fail
      go_ret
      exact ⟨rfl, rfl⟩
set_option maxHeartbeats 3200000 in
theorem c_read8 {w : World} {r g c n : Nat} {N : Nat → NodeA} (h : RefAt w r g c n N) (hd : ∀ q, q < 32 → (N q).data.length ≤ 2368) (k off many : Int) (ho : off ≤ 9223372036854775807) (hm : many ≤ 9223372036854775807) : Calls Tryz.prog 34 #[.pointer (some ⟨r, 0, none⟩), .int .i64 k, .int .i64 off, .int .i64 many] w fun e w' => e = .returned (.tuple #[.string ⟨(readN N k off many).1.toArray⟩, .int .i64 (readN N k off many).2]) ∧ w' = w := by
  have CF := Lib.hid (c_find8 h k)
  by_cases hf : findN N k = 0
  · rw [hf] at CF
    have c1 := h.row
    obtain ⟨q, rfl, hq, hkd⟩ := find_zero hf
    obtain ⟨_, _, c2⟩ := h.node q hq
    have hl := hd q hq
    have hsz : (⟨(N q).data.toArray⟩ : ByteArray).size = (N q).data.length := List.size_toArray
    have hq1 : (q : Int) < 32 := by omega
    have hr : readN N (q : Int) off many = if off < 0 ∨ many < 0 then ([], 1) else (((N q).data.drop off.toNat).take many.toNat, 0) := by
      unfold readN; rw [if_neg (fun e => e hf), Int.toNat_natCast]
    have HX : Hid (∀ a b : Nat, (⟨((N q).data.toArray)⟩ : ByteArray).extract a b = ⟨(((N q).data.drop a).take (b - a)).toArray⟩) := Lib.hid (fun a b => arr_eta (by rw [ext_toList]))
    by_cases hb : off < 0 ∨ many < 0
    · rw [hr, if_pos hb]
      clear hr HX hsz hl h hd
      go_enter Tryz.func34, Tryz.ntmps34
      by_cases h0 : off < 0
      · have d1 : decide (off < 0) = true := decide_eq_true h0
        go_wp2_with (go_at_call 69; refine CF.out.mono ?_; rintro e w' ⟨rfl, hw'⟩; rw [hw']; clear hw' w')
        go_ret2
        exact ⟨rfl, rfl⟩
      · have d1 : decide (off < 0) = false := decide_eq_false h0
        have h1 : many < 0 := by omega
        have d2 : decide (many < 0) = true := decide_eq_true h1
        clear hb
        go_wp2_with (go_at_call 69; refine CF.out.mono ?_; rintro e w' ⟨rfl, hw'⟩; rw [hw']; clear hw' w')
        go_ret2
        exact ⟨rfl, rfl⟩
    · obtain ⟨p, rfl⟩ : ∃ p : Nat, off = (p : Int) := ⟨off.toNat, by omega⟩
      obtain ⟨m, rfl⟩ : ∃ m : Nat, many = (m : Int) := ⟨many.toNat, by omega⟩
      rw [hr, if_neg hb, Int.toNat_natCast, Int.toNat_natCast]
      have d1 : decide ((p : Int) < 0) = false := decide_eq_false (by omega)
      have d2 : decide ((m : Int) < 0) = false := decide_eq_false (by omega)
      clear hr h hd hb
      by_cases h1 : (N q).data.length ≤ p
      · have e1 : ((N q).data.drop p).take m = [] := by rw [List.drop_of_length_le h1, List.take_nil]
        rw [e1]
        generalize (⟨(N q).data.toArray⟩ : ByteArray) = D at *
        rw [← hsz] at h1
        have d3 : decide (D.size ≤ p) = true := decide_eq_true h1
        clear HX hsz e1
        go_enter Tryz.func34, Tryz.ntmps34
        go_wp2_with (go_at_call 69; refine CF.out.mono ?_; rintro e w' ⟨rfl, hw'⟩; rw [hw']; clear hw' w')
        go_ret2
        exact ⟨rfl, rfl⟩
      · have x1 := HX.out p (N q).data.length
        have x2 : (⟨((N q).data.drop p).toArray⟩ : ByteArray).size = (N q).data.length - p := by
          show ((N q).data.drop p).toArray.size = _
          rw [List.size_toArray, List.length_drop]
        rw [List.take_of_length_le (by rw [List.length_drop]; omega)] at x1
        by_cases h2 : m < (N q).data.length - p
        · have x3 : (⟨((N q).data.drop p).toArray⟩ : ByteArray).extract 0 m = ⟨(((N q).data.drop p).take m).toArray⟩ := arr_eta (by rw [ext_toList, List.drop_zero, Nat.sub_zero])
          rw [← x3]
          generalize (⟨((N q).data.drop p).toArray⟩ : ByteArray) = E at *
          generalize (⟨(N q).data.toArray⟩ : ByteArray) = D at *
          clear HX
          generalize (N q).data.length = L at *
          subst hsz
          have d3 : decide (D.size ≤ p) = false := decide_eq_false h1
          have h3 : m < E.size := by omega
          have d4 : decide (m < E.size) = true := decide_eq_true h3
          have h4 : p ≤ D.size := by omega
          have HE := Lib.hid x1
          clear x3 x2
          go_enter Tryz.func34, Tryz.ntmps34
          go_wp2_with (go_at_call 69; refine CF.out.mono ?_; rintro e w' ⟨rfl, hw'⟩; rw [hw']; clear hw' w')
          go_ret2
          exact ⟨rfl, rfl⟩
        · have x3 : ((N q).data.drop p).take m = (N q).data.drop p := List.take_of_length_le (by rw [List.length_drop]; omega)
          rw [x3]
          generalize (⟨((N q).data.drop p).toArray⟩ : ByteArray) = E at *
          generalize (⟨(N q).data.toArray⟩ : ByteArray) = D at *
          clear HX x3
          generalize (N q).data.length = L at *
          subst hsz
          have d3 : decide (D.size ≤ p) = false := decide_eq_false h1
          have h3 : ¬ m < E.size := by omega
          have d4 : decide (m < E.size) = false := decide_eq_false h3
          have h4 : p ≤ D.size := by omega
          clear x2
          go_enter Tryz.func34, Tryz.ntmps34
          go_wp2_with (go_at_call 69; refine CF.out.mono ?_; rintro e w' ⟨rfl, hw'⟩; rw [hw']; clear hw' w')
          go_ret2
          exact ⟨rfl, rfl⟩
  · have hr : readN N k off many = ([], findN N k) := by unfold readN; rw [if_pos hf]
    rw [hr]
    generalize findN N k = fe at *
    have b1 : (fe == 0) = false := beq_eq_false_iff_ne.2 hf
    clear h hd hr
    go_enter Tryz.func34, Tryz.ntmps34
    go_wp2_with (go_at_call 69; refine CF.out.mono ?_; rintro e w' ⟨rfl, hw'⟩; rw [hw']; clear hw' w')
    go_ret2
    exact ⟨rfl, rfl⟩
end Go.Proofs.YtlpcccpagmipnaaGreat.P
namespace Go.Proofs.YtlpcccpagmipnaaGreat.P
open Go.RowKit Go.ChangeMaps Go.MapKept
def RefOk (cs : Array Value) (N : Nat → NodeA) : Prop := ∀ q, q < 32 → cs[q * 3]? = some (.int .i64 ((N q).kind : Int)) ∧ cs[q * 3 + 1]? = some (.int .i64 ((N q).links : Int)) ∧ cs[q * 3 + 2]? = some (.string ⟨(N q).data.toArray⟩)
abbrev rfA (r g c n : Nat) : Asn := blkA r (.cells #[.int .i64 (n : Int), .slice (some ⟨g, 0, none⟩) 32 c] 102)
abbrev rnA (g : Nat) (cs : Array Value) : Asn := blkA g (.cells cs 110)
/-- A reference's volume of one's own. -/
def RfP (w0 : World) (r g c n : Nat) (N : Nat → NodeA) (R : Asn) (w : World) : Prop := ∃ cs, RefOk cs N ∧ Own w0 w (Star (rfA r g c n) (Star (rnA g cs) R))
theorem stable_rf (r g c n : Nat) (cs : Array Value) {R : Asn} (hs : Stable R) : Stable (Star (rfA r g c n) (Star (rnA g cs) R)) := stable_star (stable_blk _ _) (stable_star (stable_blk _ _) hs)
section
variable {w0 w : World} {r g c n : Nat} {N : Nat → NodeA} {R : Asn}
theorem RfP.gr (h : RfP w0 r g c n N R w) (hs : Stable R) {w' : World} (gr : Gr w w') : RfP w0 r g c n N R w' := by
  obtain ⟨cs, h1, h2⟩ := h
  exact ⟨cs, h1, h2.gr (stable_rf _ _ _ _ _ hs) gr⟩
theorem RfP.sub (h : RfP w0 r g c n N R w) : Gr w0 w := by
  obtain ⟨cs, h1, h2⟩ := h
  exact h2.sub
theorem RfP.rf (h : RfP w0 r g c n N R w) : RefAt w r g c n N := by
  obtain ⟨cs, h1, h2⟩ := h
  have hb := h2.right.blk
  exact ⟨blk_cell h2.blk 0 rfl, blk_cell h2.blk 1 rfl, fun q hq => ⟨blk_cell hb _ (h1 q hq).1, blk_cell hb _ (h1 q hq).2.1, blk_cell hb _ (h1 q hq).2.2⟩⟩
theorem RfP.frozen (h : RfP w0 r g c n N R w) (k : Nat) : w.frozen? ⟨g, k, none⟩ = false := by
  obtain ⟨cs, h1, h2⟩ := h
  exact blk_frozen h2.right.blk k
theorem set_self {cs : Array Value} {i : Nat} {v : Value} (h : cs[i]? = some v) : cs.setIfInBounds i v = cs := by
  obtain ⟨l1, e1⟩ := Array.getElem?_eq_some_iff.1 h
  refine Array.ext (by rw [Array.size_setIfInBounds]) (fun j h1 h2 => ?_)
  by_cases e : i = j
  · subst e
    rw [Array.getElem_setIfInBounds_self, e1]
  · rw [Array.getElem_setIfInBounds_ne _ e]
theorem ref_put {cs : Array Value} (h : RefOk cs N) {q : Nat} (hq : q < 32) (x : NodeA) : RefOk (((cs.setIfInBounds (q * 3) (.int .i64 (x.kind : Int))).setIfInBounds (q * 3 + 1) (.int .i64 (x.links : Int))).setIfInBounds (q * 3 + 2) (.string ⟨x.data.toArray⟩)) (insN N q x) := fun p hp => by
  obtain ⟨a1, a2, a3⟩ := h q hq
  obtain ⟨b1, b2, b3⟩ := h p hp
  have l1 := (Array.getElem?_eq_some_iff.1 a3).1
  by_cases e : p = q
  · subst e
    have hx : insN N p x p = x := by unfold insN; rw [if_pos rfl]
    rw [hx]
    refine ⟨?_, ?_, ?_⟩
    · rw [Array.getElem?_setIfInBounds_ne (by omega), Array.getElem?_setIfInBounds_ne (by omega), Array.getElem?_setIfInBounds_self_of_lt (by omega)]
    · rw [Array.getElem?_setIfInBounds_ne (by omega), Array.getElem?_setIfInBounds_self_of_lt (by rw [Array.size_setIfInBounds]; omega)]
    · rw [Array.getElem?_setIfInBounds_self_of_lt (by rw [Array.size_setIfInBounds, Array.size_setIfInBounds]; omega)]
  · have hx : insN N q x p = N p := by unfold insN; rw [if_neg e]
    rw [hx]
    refine ⟨?_, ?_, ?_⟩
    · rw [Array.getElem?_setIfInBounds_ne (by omega), Array.getElem?_setIfInBounds_ne (by omega), Array.getElem?_setIfInBounds_ne (by omega)]; exact b1
    · rw [Array.getElem?_setIfInBounds_ne (by omega), Array.getElem?_setIfInBounds_ne (by omega), Array.getElem?_setIfInBounds_ne (by omega)]; exact b2
    · rw [Array.getElem?_setIfInBounds_ne (by omega), Array.getElem?_setIfInBounds_ne (by omega), Array.getElem?_setIfInBounds_ne (by omega)]; exact b3
theorem rf_put (h : RfP w0 r g c n N R w) (hs : Stable R) {q : Nat} (hq : q < 32) (x : NodeA) : RfP w0 r g c n (insN N q x) R (w.setCells g (q * 3) [.int .i64 (x.kind : Int), .int .i64 (x.links : Int), .string ⟨x.data.toArray⟩]) := by
  obtain ⟨cs, h1, h2⟩ := h
  have hs1 : Stable (Star (rfA r g c n) R) := stable_star (stable_blk _ _) hs
  have h3 := h2.swap2.put8 hs1 (q * 3) (.int .i64 (x.kind : Int)) _ rfl
  have h4 := h3.put8 hs1 (q * 3 + 1) (.int .i64 (x.links : Int)) _ rfl
  have h5 := h4.put8 hs1 (q * 3 + 2) (.string ⟨x.data.toArray⟩) _ rfl
  exact ⟨_, ref_put h1 hq x, h5.swap2⟩
theorem ref_same {cs : Array Value} (h : RefOk cs N) {q : Nat} (hq : q < 32) : cs.setIfInBounds (q * 3) (.int .i64 ((N q).kind : Int)) = cs ∧ cs.setIfInBounds (q * 3 + 1) (.int .i64 ((N q).links : Int)) = cs :=
  ⟨set_self (h q hq).1, set_self (h q hq).2.1⟩
theorem rf_data (h : RfP w0 r g c n N R w) (hs : Stable R) {q : Nat} (hq : q < 32) (D : List UInt8) : RfP w0 r g c n (insN N q ⟨(N q).kind, (N q).links, D⟩) R (w.setCell ⟨g, q * 3 + 2, none⟩ (.string ⟨D.toArray⟩)) := by
  obtain ⟨cs, h1, h2⟩ := h
  obtain ⟨e1, e2⟩ := ref_same h1 hq
  have h5 := h2.swap2.put8 (stable_star (stable_blk _ _) hs) (q * 3 + 2) (.string ⟨D.toArray⟩) _ rfl
  have := ref_put h1 hq ⟨(N q).kind, (N q).links, D⟩
  dsimp only at this
  rw [e1, e2] at this
  exact ⟨_, this, h5.swap2⟩
theorem rf_links (h : RfP w0 r g c n N R w) (hs : Stable R) {q : Nat} (hq : q < 32) (k : Nat) : RfP w0 r g c n (insN N q ⟨(N q).kind, k, (N q).data⟩) R (w.setCell ⟨g, q * 3 + 1, none⟩ (.int .i64 (k : Int))) := by
  obtain ⟨cs, h1, h2⟩ := h
  obtain ⟨e1, e2⟩ := ref_same h1 hq
  have h5 := h2.swap2.put8 (stable_star (stable_blk _ _) hs) (q * 3 + 1) (.int .i64 (k : Int)) _ rfl
  have hk := ref_put h1 hq ⟨(N q).kind, k, (N q).data⟩
  dsimp only at hk
  rw [e1] at hk
  refine ⟨_, hk, ?_⟩
  have e3 : (cs.setIfInBounds (q * 3 + 1) (.int .i64 (k : Int))).setIfInBounds (q * 3 + 2) (.string ⟨(N q).data.toArray⟩) = cs.setIfInBounds (q * 3 + 1) (.int .i64 (k : Int)) :=
    set_self (by rw [Array.getElem?_setIfInBounds_ne (by omega)]; exact (h1 q hq).2.2)
  rw [e3]
  exact h5.swap2
end
section
variable {w0 w : World} {r g c n : Nat} {N : Nat → NodeA} {R : Asn}
set_option maxHeartbeats 1600000 in
theorem r_link (h : RfP w0 r g c n N R w) (hs : Stable R) (hl : ∀ q, q < 32 → (N q).links ≤ 255) (k y : Int) (full : Bool) : Calls Tryz.prog 52 #[.pointer (some ⟨r, 0, none⟩), .int .i64 k, .int .i64 y, .bool full] w fun e w' => e = .returned (.int .i64 (linkN N full k y).1) ∧ RfP w0 r g c n (linkN N full k y).2 R w' := by
  have CF := Lib.hid (c_find8 h.rf k)
  have HH := Lib.hid h
  by_cases hf : findN N k = 0
  · rw [hf] at CF
    obtain ⟨q, rfl, hq, hkd⟩ := find_zero hf
    have c1 := h.rf.row
    obtain ⟨_, c2, _⟩ := h.rf.node q hq
    have z2 := h.frozen (q * 3 + 1)
    have hl2 := hl q hq
    have hq1 : (q : Int) < 32 := by omega
    have hr : linkN N full (q : Int) y = if ((N q).links : Int) + y < 0 ∨ 255 < ((N q).links : Int) + y then (15, N) else if full then (4, N) else (0, insN N q ⟨(N q).kind, (((N q).links : Int) + y).toNat, (N q).data⟩) := by
      unfold linkN; rw [if_neg (fun e => e hf), Int.toNat_natCast]
    by_cases hb : ((N q).links : Int) + y < 0 ∨ 255 < ((N q).links : Int) + y
    · rw [hr, if_pos hb]
      generalize (N q).links = lk at *
      clear h hr hl z2
      go_enter Tryz.func52, Tryz.ntmps52
      by_cases n1 : y < -255
      · have d1 : decide (y < -255) = true := decide_eq_true n1
        clear hb
        go_wp2_with (go_at_call 69; refine CF.out.mono ?_; rintro e w' ⟨rfl, hw'⟩; rw [hw']; clear hw' w')
        go_ret
        exact ⟨rfl, HH.out⟩
      · have d1 : decide (y < -255) = false := decide_eq_false n1
        by_cases n2 : 255 < y
        · have d2 : decide (255 < y) = true := decide_eq_true n2
          clear hb
          go_wp2_with (go_at_call 69; refine CF.out.mono ?_; rintro e w' ⟨rfl, hw'⟩; rw [hw']; clear hw' w')
          go_ret
          exact ⟨rfl, HH.out⟩
        · have d2 : decide (255 < y) = false := decide_eq_false n2
          by_cases n3 : (lk : Int) + y < 0
          · have d3 : decide ((lk : Int) + y < 0) = true := decide_eq_true n3
            clear hb
            go_wp2_with (go_at_call 69; refine CF.out.mono ?_; rintro e w' ⟨rfl, hw'⟩; rw [hw']; clear hw' w')
            go_ret
            exact ⟨rfl, HH.out⟩
          · have d3 : decide ((lk : Int) + y < 0) = false := decide_eq_false n3
            have n4 : 255 < (lk : Int) + y := by omega
            have d4 : decide (255 < (lk : Int) + y) = true := decide_eq_true n4
            clear hb
            go_wp2_with (go_at_call 69; refine CF.out.mono ?_; rintro e w' ⟨rfl, hw'⟩; rw [hw']; clear hw' w')
            go_ret
            exact ⟨rfl, HH.out⟩
    · rw [hr, if_neg hb]
      obtain ⟨p, hp⟩ : ∃ p : Nat, ((N q).links : Int) + y = (p : Int) := ⟨(((N q).links : Int) + y).toNat, by omega⟩
      have d1 : decide (y < -255) = false := decide_eq_false (by omega)
      have d2 : decide (255 < y) = false := decide_eq_false (by omega)
      have d3 : decide (((N q).links : Int) + y < 0) = false := decide_eq_false (by omega)
      have d4 : decide (255 < ((N q).links : Int) + y) = false := decide_eq_false (by omega)
      rw [hp, Int.toNat_natCast]
      have HP := Lib.hid (rf_links (h.gr hs (Gr.drewN (Gr.refl _) 1)) hs hq p)
      rw [← hp] at HP
      clear hp hr hl h
      generalize (N q).links = lk at *
      cases full with
      | true =>
        clear z2 HP
        go_enter Tryz.func52, Tryz.ntmps52
        go_wp2_with (go_at_call 69; refine CF.out.mono ?_; rintro e w' ⟨rfl, hw'⟩; rw [hw']; clear hw' w')
        go_ret
        exact ⟨rfl, HH.out⟩
      | false =>
        clear HH
        go_enter Tryz.func52, Tryz.ntmps52
        go_upto_region 8 with (go_at_call 69; refine CF.out.mono ?_; rintro e w' ⟨rfl, hw'⟩; rw [hw']; clear hw' w')
        go_still_tail 17, (by kernel_rfl)
        go_wp2_with fail
        go_ret
        exact ⟨rfl, HP.out⟩
  · have hr : linkN N full k y = (findN N k, N) := by unfold linkN; rw [if_pos hf]
    rw [hr]
    generalize findN N k = fe at *
    have b1 : (fe == 0) = false := beq_eq_false_iff_ne.2 hf
    clear h hr hl
    go_enter Tryz.func52, Tryz.ntmps52
    go_wp2_with (go_at_call 69; refine CF.out.mono ?_; rintro e w' ⟨rfl, hw'⟩; rw [hw']; clear hw' w')
    go_ret
    exact ⟨rfl, HH.out⟩
end
end Go.Proofs.YtlpcccpagmipnaaGreat.P
namespace Go.Proofs.YtlpcccpagmipnaaGreat.P
open Go.RowKit Go.ChangeMaps Go.MapKept
theorem first_some_all {N : Nat → NodeA} {k : Nat} (h : firstN N = some k) : k < 32 ∧ (N k).kind = 0 ∧ ∀ j, j < k → ¬ (N j).kind = 0 := by
  unfold firstN at h
  rw [List.find?_range_eq_some] at h
  obtain ⟨h0, hm, hl⟩ := h
  refine ⟨List.mem_range.1 hm, of_decide_eq_true h0, fun j hj e => ?_⟩
  have := hl j hj
  rw [decide_eq_true e] at this
  cases this
theorem first_none_all {N : Nat → NodeA} (h : firstN N = none) : ∀ j, j < 32 → ¬ (N j).kind = 0 := by
  unfold firstN at h
  rw [List.find?_range_eq_none] at h
  intro j hj e
  have := h j hj
  rw [decide_eq_true e] at this
  cases this
theorem node_info : (Tryz.prog.info? 110).map (·.size) = some 3 := by kernel_rfl
def nodeC (x : NodeA) : Array Value := #[.int .i64 (x.kind : Int), .int .i64 (x.links : Int), .string ⟨x.data.toArray⟩]
theorem nodeC_one (x : NodeA) : (nodeC x).all (·.oneCell') = true := by simp [nodeC, Value.oneCell']
theorem built_node0 : Tryz.prog.built 110 [] = some (nodeC node0) := by kernel_rfl
theorem built_nodeK (k : Nat) : Tryz.prog.built 110 [(0, .int .i64 (k : Int))] = some (nodeC ⟨k, 0, []⟩) := by kernel_rfl
section
variable {w0 w : World} {r g c n : Nat} {N : Nat → NodeA} {R : Asn}
theorem rf_there (h : RfP w0 r g c n N R w) {q : Nat} (hq : q < 32) : w.there g (q * 3) 3 := fun j hj => by
  refine ⟨?_, h.frozen _⟩
  obtain ⟨a1, a2, a3⟩ := h.rf.node q hq
  rcases (by omega : j = 0 ∨ j = 1 ∨ j = 2) with rfl | rfl | rfl
  · rw [Nat.add_zero, a1]; rfl
  · rw [a2]; rfl
  · rw [a3]; rfl
set_option maxHeartbeats 1600000 in
theorem r_free (h : RfP w0 r g c n N R w) (hs : Stable R) (k : Int) (full : Bool) : Calls Tryz.prog 51 #[.pointer (some ⟨r, 0, none⟩), .int .i64 k, .bool full] w fun e w' => e = .returned (.int .i64 (freeNd N full k).1) ∧ RfP w0 r g c n (freeNd N full k).2 R w' := by
  have CF := Lib.hid (c_find8 h.rf k)
  have HH := Lib.hid h
  by_cases hf : findN N k = 0
  · rw [hf] at CF
    obtain ⟨q, rfl, hq, hkd⟩ := find_zero hf
    have c1 := h.rf.row
    have hq1 : (q : Int) < 32 := by omega
    have HT := Lib.hid (rf_there h hq)
    have HI := Lib.hid node_info
    have HP := Lib.hid (rf_put h hs hq node0)
    have hr : freeNd N full (q : Int) = if full then (4, N) else (0, insN N q node0) := by
      unfold freeNd; rw [if_neg (fun e => e hf), Int.toNat_natCast]
    rw [hr]
    clear hr h
    cases full with
    | true =>
      clear HP
      go_enter Tryz.func51, Tryz.ntmps51
      go_wp2_with (go_at_call 69; refine CF.out.mono ?_; rintro e w' ⟨rfl, hw'⟩; rw [hw']; clear hw' w')
      go_ret
      exact ⟨rfl, HH.out⟩
    | false =>
      clear HH
      go_enter Tryz.func51, Tryz.ntmps51
      go_upto_region 5 with (go_at_call 69; refine CF.out.mono ?_; rintro e w' ⟨rfl, hw'⟩; rw [hw']; clear hw' w')
      go_wp2_with (first
        | (refine wpList_build0 rfl 110 rfl (nodeC node0) built_node0 ?_)
        | (refine wpList_store_mid rfl _ _ _ rfl g (q * 3) (nodeC node0) rfl rfl HT.out HI.out (nodeC_one node0) ?_))
      go_ret
      exact ⟨rfl, HP.out⟩
  · have hr : freeNd N full k = (findN N k, N) := by unfold freeNd; rw [if_pos hf]
    rw [hr]
    generalize findN N k = fe at *
    have b1 : (fe == 0) = false := beq_eq_false_iff_ne.2 hf
    clear h hr
    go_enter Tryz.func51, Tryz.ntmps51
    go_wp2_with (go_at_call 69; refine CF.out.mono ?_; rintro e w' ⟨rfl, hw'⟩; rw [hw']; clear hw' w')
    go_ret
    exact ⟨rfl, HH.out⟩
set_option maxHeartbeats 1600000 in
theorem r_cut (h : RfP w0 r g c n N R w) (hs : Stable R) (k size : Int) (full : Bool) (hsz : size ≤ 9223372036854775807) : Calls Tryz.prog 54 #[.pointer (some ⟨r, 0, none⟩), .int .i64 k, .int .i64 size, .bool full] w fun e w' => e = .returned (.int .i64 (cutN N full k size).1) ∧ RfP w0 r g c n (cutN N full k size).2 R w' := by
  have CF := Lib.hid (c_find8 h.rf k)
  have HH := Lib.hid h
  by_cases hf : findN N k = 0
  · rw [hf] at CF
    obtain ⟨q, rfl, hq, hkd⟩ := find_zero hf
    have c1 := h.rf.row
    obtain ⟨_, _, c2⟩ := h.rf.node q hq
    have z2 := h.frozen (q * 3 + 2)
    have hq1 : (q : Int) < 32 := by omega
    have hl : (⟨(N q).data.toArray⟩ : ByteArray).size = (N q).data.length := List.size_toArray
    have hr : cutN N full (q : Int) size = if size < 0 ∨ ((N q).data.length : Int) < size then (1, N) else if full then (4, N) else (0, insN N q ⟨(N q).kind, (N q).links, (N q).data.take size.toNat⟩) := by
      unfold cutN; rw [if_neg (fun e => e hf), Int.toNat_natCast]
    by_cases hb : size < 0 ∨ ((N q).data.length : Int) < size
    · rw [hr, if_pos hb]
      clear h hr z2
      rw [← hl] at hb
      generalize (⟨(N q).data.toArray⟩ : ByteArray) = D at *
      clear hl
      go_enter Tryz.func54, Tryz.ntmps54
      by_cases n1 : size < 0
      · have d1 : decide (size < 0) = true := decide_eq_true n1
        clear hb
        go_wp2_with (go_at_call 69; refine CF.out.mono ?_; rintro e w' ⟨rfl, hw'⟩; rw [hw']; clear hw' w')
        go_ret
        exact ⟨rfl, HH.out⟩
      · have d1 : decide (size < 0) = false := decide_eq_false n1
        have n2 : (D.size : Int) < size := by omega
        have d2 : decide ((D.size : Int) < size) = true := decide_eq_true n2
        clear hb
        go_wp2_with (go_at_call 69; refine CF.out.mono ?_; rintro e w' ⟨rfl, hw'⟩; rw [hw']; clear hw' w')
        go_ret
        exact ⟨rfl, HH.out⟩
    · obtain ⟨p, rfl⟩ : ∃ p : Nat, size = (p : Int) := ⟨size.toNat, by omega⟩
      rw [hr, if_neg hb, Int.toNat_natCast]
      have HP := Lib.hid (rf_data (h.gr hs (Gr.drewN (Gr.refl _) 1)) hs hq ((N q).data.take p))
      have hx : (⟨(N q).data.toArray⟩ : ByteArray).extract 0 p = ⟨((N q).data.take p).toArray⟩ := arr_eta (by rw [ext_toList, List.drop_zero, Nat.sub_zero])
      have h1 : p ≤ (N q).data.length := by omega
      clear hr h hb
      rw [← hx] at HP
      rw [← hl] at h1
      generalize (⟨(N q).data.toArray⟩ : ByteArray) = D at *
      clear hx hl
      have d1 : decide ((p : Int) < 0) = false := decide_eq_false (by omega)
      have d2 : decide ((D.size : Int) < (p : Int)) = false := decide_eq_false (by omega)
      have d3 : decide (D.size < p) = false := decide_eq_false (by omega)
      cases full with
      | true =>
        clear z2 HP
        go_enter Tryz.func54, Tryz.ntmps54
        go_wp2_with (go_at_call 69; refine CF.out.mono ?_; rintro e w' ⟨rfl, hw'⟩; rw [hw']; clear hw' w')
        go_ret
        exact ⟨rfl, HH.out⟩
      | false =>
        clear HH
        go_enter Tryz.func54, Tryz.ntmps54
        go_upto_region 8 with (go_at_call 69; refine CF.out.mono ?_; rintro e w' ⟨rfl, hw'⟩; rw [hw']; clear hw' w')
        go_still_tail 17, (by kernel_rfl)
        go_wp2_with fail
        go_ret
        exact ⟨rfl, HP.out⟩
  · have hr : cutN N full k size = (findN N k, N) := by unfold cutN; rw [if_pos hf]
    rw [hr]
    generalize findN N k = fe at *
    have b1 : (fe == 0) = false := beq_eq_false_iff_ne.2 hf
    clear h hr
    go_enter Tryz.func54, Tryz.ntmps54
    go_wp2_with (go_at_call 69; refine CF.out.mono ?_; rintro e w' ⟨rfl, hw'⟩; rw [hw']; clear hw' w')
    go_ret
    exact ⟨rfl, HH.out⟩
set_option maxHeartbeats 1600000 in
theorem r_add (h : RfP w0 r g c n N R w) (hs : Stable R) (kd : Int) (full : Bool) : Calls Tryz.prog 50 #[.pointer (some ⟨r, 0, none⟩), .int .i64 kd, .bool full] w fun e w' => e = .returned (.tuple #[.int .i64 (addN N full kd).1, .int .i64 (addN N full kd).2.1]) ∧ RfP w0 r g c n (addN N full kd).2.2 R w' := by
  have HH := Lib.hid h
  by_cases hb : kd ≠ 1 ∧ kd ≠ 2
  · have hr : addN N full kd = (0, 1, N) := by unfold addN; rw [if_pos hb]
    rw [hr]
    have b1 : (kd != 1) = true := bne_iff_ne.2 hb.1
    have b2 : (kd != 2) = true := bne_iff_ne.2 hb.2
    clear h hr hb
    go_enter Tryz.func50, Tryz.ntmps50
    go_wp2_with fail
    go_ret2
    exact ⟨rfl, HH.out⟩
  · obtain ⟨q, rfl⟩ : ∃ q : Nat, kd = (q : Int) := ⟨kd.toNat, by omega⟩
    have hr : addN N full (q : Int) = if full then ((0 : Int), (4 : Int), N) else match firstN N with
        | some k => ((k : Int), 0, insN N k ⟨q, 0, []⟩)
        | none => (0, 4, N) := by
      unfold addN; rw [if_neg hb, Int.toNat_natCast]
      all_goals (cases full <;> cases firstN N <;> rfl)
    have hq12 : q = 1 ∨ q = 2 := by omega
    have HI := Lib.hid node_info
    have HB := Lib.hid (built_nodeK q)
    rw [hr]
    clear hr hb
    cases full with
    | true =>
      rw [if_pos rfl]
      rcases hq12 with rfl | rfl
      all_goals
        go_enter Tryz.func50, Tryz.ntmps50
        go_wp2_with fail
        go_loopw [8] (fun v wl => v = .int .i64 0 ∧ wl = w) (fun v _ => 0)
        case atStart => exact ⟨rfl, rfl⟩
        case round =>
          obtain ⟨rfl, rfl⟩ := hrel
          go_wp2_with fail
          go_ret2
          exact ⟨rfl, HH.out⟩
    | false =>
      rw [if_neg Bool.false_ne_true]
      cases hfn : firstN N with
      | none =>
        have HJ := Lib.hid (first_none_all hfn)
        clear hfn h
        rcases hq12 with rfl | rfl
        all_goals
          go_enter Tryz.func50, Tryz.ntmps50
          go_wp2_with fail
          go_loopw [8] (fun v wl => ∃ k : Nat, k ≤ 32 ∧ v = .int .i64 (k : Int) ∧ wl = w) (fun v _ => 32 - (intOf v).toNat)
          case atStart => exact ⟨0, Nat.zero_le _, rfl, rfl⟩
          case round =>
            obtain ⟨k, hk, rfl, rfl⟩ := hrel
            by_cases hlt : k < 32
            · have dl : decide (k < 32) = true := decide_eq_true hlt
              have dl2 : decide ((k : Int) < 32) = true := decide_eq_true (by omega)
              have hk1 : (k : Int) < 32 := by omega
              have c1 := HH.out.rf.row
              obtain ⟨c2, _, _⟩ := HH.out.rf.node k hlt
              have b1 : (((N k).kind : Int) == 0) = false := beq_eq_false_iff_ne.2 (by have := HJ.out k hlt; omega)
              generalize (N k).kind = kk at *
              go_wp2_with fail
              go_roundw
              case rel => exact ⟨k + 1, by omega, by go_num, trivial⟩
              case measure => simp [intOf]; omega
            · obtain rfl : k = 32 := by omega
              go_wp2_with fail
              go_ret2
              exact ⟨rfl, HH.out⟩
      | some k0 =>
        obtain ⟨hk0, hkk, hall⟩ := first_some_all hfn
        have HJ := Lib.hid hall
        have HT := Lib.hid (rf_there h hk0)
        have HP := Lib.hid (rf_put h hs hk0 ⟨q, 0, []⟩)
        clear hfn h hall
        rcases hq12 with rfl | rfl
        all_goals
          go_enter Tryz.func50, Tryz.ntmps50
          go_wp2_with fail
          go_loopw [8] (fun v wl => ∃ k : Nat, k ≤ k0 ∧ v = .int .i64 (k : Int) ∧ wl = w) (fun v _ => 32 - (intOf v).toNat)
          case atStart => exact ⟨0, Nat.zero_le _, rfl, rfl⟩
          case round =>
            obtain ⟨k, hk, rfl, rfl⟩ := hrel
            have hlt : k < 32 := by omega
            have dl : decide (k < 32) = true := decide_eq_true hlt
            have dl2 : decide ((k : Int) < 32) = true := decide_eq_true (by omega)
            have hk1 : (k : Int) < 32 := by omega
            have c1 := HH.out.rf.row
            obtain ⟨c2, _, _⟩ := HH.out.rf.node k hlt
            by_cases h0 : k = k0
            · subst h0
              rw [hkk] at c2
              clear HJ HH
              go_wp2_with (first
                | (refine wpList_build1 rfl _ _ _ rfl _ rfl _ HB.out ?_)
                | (refine wpList_store_mid rfl _ _ _ rfl g (k * 3) (nodeC _) rfl rfl HT.out HI.out (nodeC_one _) ?_))
              go_ret2
              exact ⟨rfl, HP.out⟩
            · have b1 : (((N k).kind : Int) == 0) = false := beq_eq_false_iff_ne.2 (by have := HJ.out k (by omega); omega)
              clear hkk
              generalize (N k).kind = kk at *
              go_wp2_with fail
              go_roundw
              case rel => exact ⟨k + 1, by omega, by go_num, trivial⟩
              case measure => simp [intOf]; omega
end
end Go.Proofs.YtlpcccpagmipnaaGreat.P
namespace Go.Proofs.YtlpcccpagmipnaaGreat.P
open Go.RowKit Go.ChangeMaps Go.MapKept
section
variable {w0 w : World} {r g c n : Nat} {N : Nat → NodeA} {R : Asn}
theorem toL_mk (L : List UInt8) : (⟨L.toArray⟩ : ByteArray).data.toList = L := rfl
set_option maxHeartbeats 3200000 in
theorem r_write (h : RfP w0 r g c n N R w) (hs : Stable R) (hn : n ≤ 100000) (hd : ∀ q, q < 32 → (N q).data.length ≤ 2368) (k off : Int) (s : ByteArray) (full : Bool) (hof : off ≤ 9223372036854775807) (hss : s.size ≤ 9223372036854775807) :
    Calls Tryz.prog 53 #[.pointer (some ⟨r, 0, none⟩), .int .i64 k, .int .i64 off, .string s, .bool full] w fun e w' => e = .returned (.int .i64 (writeN N n full k off s.data.toList).1) ∧ RfP w0 r g c n (writeN N n full k off s.data.toList).2 R w' := by
  have CF := Lib.hid (c_find8 h.rf k)
  have HH := Lib.hid h
  have hsl := toL_size s
  by_cases hf : findN N k = 0
  · rw [hf] at CF
    obtain ⟨q, rfl, hq, hkd⟩ := find_zero hf
    have c1 := h.rf.row
    obtain ⟨_, _, c2⟩ := h.rf.node q hq
    have z2 := h.frozen (q * 3 + 2)
    have hq1 : (q : Int) < 32 := by omega
    have hl : (⟨(N q).data.toArray⟩ : ByteArray).size = (N q).data.length := List.size_toArray
    have hdq := hd q hq
    have hr : writeN N n full (q : Int) off s.data.toList = if off < 0 ∨ ((N q).data.length : Int) < off ∨ 512 < s.size then ((1 : Int), N) else if 2368 < off + (s.size : Int) then (15, N) else if full then (4, N)
        else if roomN N n < (takesN (wrD (N q).data off.toNat s.data.toList).length : Int) - (takesN (N q).data.length : Int) then (4, N) else (0, insN N q ⟨(N q).kind, (N q).links, wrD (N q).data off.toNat s.data.toList⟩) := by
      unfold writeN; rw [if_neg (fun e => e hf), Int.toNat_natCast, hsl]
    by_cases hb : off < 0 ∨ ((N q).data.length : Int) < off ∨ 512 < s.size
    · rw [hr, if_pos hb]
      clear h hr z2 hd
      rw [← hl] at hb hdq
      generalize (⟨(N q).data.toArray⟩ : ByteArray) = D at *
      clear hl
      go_enter Tryz.func53, Tryz.ntmps53
      by_cases n1 : off < 0
      · have d1 : decide (off < 0) = true := decide_eq_true n1
        clear hb
        go_wp2_with (go_at_call 69; refine CF.out.mono ?_; rintro e w' ⟨rfl, hw'⟩; rw [hw']; clear hw' w')
        go_ret
        exact ⟨rfl, HH.out⟩
      · have d1 : decide (off < 0) = false := decide_eq_false n1
        by_cases n2 : (D.size : Int) < off
        · have d2 : decide ((D.size : Int) < off) = true := decide_eq_true n2
          clear hb
          go_wp2_with (go_at_call 69; refine CF.out.mono ?_; rintro e w' ⟨rfl, hw'⟩; rw [hw']; clear hw' w')
          go_ret
          exact ⟨rfl, HH.out⟩
        · have d2 : decide ((D.size : Int) < off) = false := decide_eq_false n2
          have n3 : 512 < s.size := by omega
          have d3 : decide (512 < s.size) = true := decide_eq_true n3
          clear hb
          go_wp2_with (go_at_call 69; refine CF.out.mono ?_; rintro e w' ⟨rfl, hw'⟩; rw [hw']; clear hw' w')
          go_ret
          exact ⟨rfl, HH.out⟩
    · obtain ⟨p, rfl⟩ : ∃ p : Nat, off = (p : Int) := ⟨off.toNat, by omega⟩
      rw [if_neg hb, Int.toNat_natCast] at hr
      have d1 : decide ((p : Int) < 0) = false := decide_eq_false (by omega)
      have d2 : decide ((N q).data.length < p) = false := decide_eq_false (by omega)
      have d3 : decide (512 < s.size) = false := decide_eq_false (by omega)
      by_cases hm : 2368 < (p : Int) + (s.size : Int)
      · rw [hr, if_pos hm]
        have d4 : decide (2368 < (p : Int) + (s.size : Int)) = true := decide_eq_true hm
        clear h hr z2 hd
        rw [← hl] at hb d2 hdq
        generalize (⟨(N q).data.toArray⟩ : ByteArray) = D at *
        clear hl
        go_enter Tryz.func53, Tryz.ntmps53
        go_wp2_with (go_at_call 69; refine CF.out.mono ?_; rintro e w' ⟨rfl, hw'⟩; rw [hw']; clear hw' w')
        go_ret
        exact ⟨rfl, HH.out⟩
      · rw [if_neg hm] at hr
        have d4 : decide (2368 < (p : Int) + (s.size : Int)) = false := decide_eq_false hm
        have HP := Lib.hid (rf_data h hs hq (wrD (N q).data p s.data.toList))
        have CR := Lib.hid (c_room8 h.rf hn hd)
        have HT : Hid (∀ (t : Nat) (wx : World), t ≤ 1000000 → Calls Tryz.prog 40 #[.int .i64 (t : Int)] wx fun e w' => e = .returned (.int .i64 (takesN t : Int)) ∧ w' = wx) := Lib.hid (fun t wx ht => c_takes8 t ht wx)
        have hwl : (wrD (N q).data p s.data.toList).length ≤ 2368 := by unfold wrD; rw [List.length_append, List.length_append, List.length_take, List.length_drop, hsl]; omega
        have hpl : p ≤ (N q).data.length := by omega
        have hE1 : ((⟨(N q).data.toArray⟩ : ByteArray).extract 0 p ++ s).data.toList = (N q).data.take p ++ s.data.toList := by rw [app_toList8, ext_toList, List.drop_zero, Nat.sub_zero]
        have hs1 : ((⟨(N q).data.toArray⟩ : ByteArray).extract 0 p ++ s).size = p + s.size := by rw [← toL_size, hE1, List.length_append, List.length_take, hsl]; omega
        have hroom : -2000 ≤ roomN N n ∧ roomN N n ≤ 100000 := by
          have hs32 : ∀ j, j ≤ 32 → sumT N j ≤ 38 * j := by
            intro j
            induction j with
            | zero => intro _; exact Nat.le_refl _
            | succ j ih =>
              intro hj
              have h1 := ih (by omega)
              have h2 := takes_bound (hd j (by omega))
              rw [sumT_succ]; omega
          have h1 := hs32 32 (Nat.le_refl _)
          have h2 : roomN N n = (n : Int) - 9 - (sumT N 32 : Int) := rfl
          omega
        have t1 := takes_bound hwl
        have t2 := takes_bound hdq
        by_cases hg : p + s.size < (N q).data.length
        · have hE2 : ((⟨(N q).data.toArray⟩ : ByteArray).extract 0 p ++ s) ++ (⟨(N q).data.toArray⟩ : ByteArray).extract (p + s.size) (⟨(N q).data.toArray⟩ : ByteArray).size = ⟨(wrD (N q).data p s.data.toList).toArray⟩ := by
            have e3 : List.take ((N q).data.length - (p + s.size)) (List.drop (p + s.size) (N q).data) = List.drop (p + s.size) (N q).data := List.take_of_length_le (by rw [List.length_drop]; omega)
            have h : (((⟨(N q).data.toArray⟩ : ByteArray).extract 0 p ++ s) ++ (⟨(N q).data.toArray⟩ : ByteArray).extract (p + s.size) (⟨(N q).data.toArray⟩ : ByteArray).size).data.toList = wrD (N q).data p s.data.toList := by
              rw [app_toList8, hE1, ext_toList, hl, toL_mk, e3]
              unfold wrD; rw [hsl]
            exact arr_eta (h.trans (toL_mk _).symm)
          have hs2 : (⟨(wrD (N q).data p s.data.toList).toArray⟩ : ByteArray).size = (wrD (N q).data p s.data.toList).length := List.size_toArray
          rw [← hE2] at HP hs2
          have hs5 : s.size ≤ 512 := by omega
          clear hE1 h hb hd hf
          obtain ⟨LW, hLW⟩ : ∃ LW, LW = (wrD (N q).data p s.data.toList).length := ⟨_, rfl⟩
          rw [← hLW] at hwl hs2 hr t1
          clear hLW
          generalize wrD (N q).data p s.data.toList = W at *
          clear hE2
          generalize hD : (⟨(N q).data.toArray⟩ : ByteArray) = D at *
          rw [← hl] at t2 d2 hpl hg hdq hr
          clear hD hl
          generalize roomN N n = rm at *
          have d3b : decide ((512 : Int) < (s.size : Int)) = false := decide_eq_false (by omega)
          have d2b : decide ((D.size : Int) < (p : Int)) = false := decide_eq_false (by omega)
          have d5b : decide ((p : Int) + (s.size : Int) < (D.size : Int)) = true := decide_eq_true (by omega)
          have d5 : decide (p + s.size < D.size) = true := decide_eq_true hg
          cases full with
          | true =>
            rw [hr, if_pos rfl]
            clear HP CR HT z2 hr
            go_enter Tryz.func53, Tryz.ntmps53
            go_wp2_with (go_at_call 69; refine CF.out.mono ?_; rintro e w' ⟨rfl, hw'⟩; rw [hw']; clear hw' w')
            go_ret
            exact ⟨rfl, HH.out⟩
          | false =>
            rw [if_neg Bool.false_ne_true] at hr
            by_cases hrm : rm < (takesN LW : Int) - (takesN D.size : Int)
            · rw [hr, if_pos hrm]
              have d6 : decide (rm < (takesN LW : Int) - (takesN D.size : Int)) = true := decide_eq_true hrm
              clear HP z2 hr
              go_enter Tryz.func53, Tryz.ntmps53
              go_upto_region 12 with (go_at_call 69; refine CF.out.mono ?_; rintro e w' ⟨rfl, hw'⟩; rw [hw']; clear hw' w')
              clear hs1 d5 d5b hg CF
              generalize D.extract 0 p ++ s ++ D.extract (p + s.size) D.size = X at *
              subst hs2
              go_wp2_with (first
                | (go_at_call 40; refine (HT.out _ _ (by omega)).mono ?_; rintro e w' ⟨rfl, hw'⟩; rw [hw']; clear hw' w')
                | (go_at_call 26; refine CR.out.mono ?_; rintro e w' ⟨rfl, hw'⟩; rw [hw']; clear hw' w'))
              go_ret
              exact ⟨rfl, HH.out⟩
            · rw [hr, if_neg hrm]
              have d6 : decide (rm < (takesN LW : Int) - (takesN D.size : Int)) = false := decide_eq_false hrm
              clear HH hr
              go_enter Tryz.func53, Tryz.ntmps53
              go_upto_region 12 with (go_at_call 69; refine CF.out.mono ?_; rintro e w' ⟨rfl, hw'⟩; rw [hw']; clear hw' w')
              clear hs1 d5 d5b hg CF
              generalize D.extract 0 p ++ s ++ D.extract (p + s.size) D.size = X at *
              subst hs2
              go_wp2_with (first
                | (go_at_call 40; refine (HT.out _ _ (by omega)).mono ?_; rintro e w' ⟨rfl, hw'⟩; rw [hw']; clear hw' w')
                | (go_at_call 26; refine CR.out.mono ?_; rintro e w' ⟨rfl, hw'⟩; rw [hw']; clear hw' w'))
              go_ret
              exact ⟨rfl, HP.out⟩
        · have hE2 : (⟨(N q).data.toArray⟩ : ByteArray).extract 0 p ++ s = ⟨(wrD (N q).data p s.data.toList).toArray⟩ := by
            have h : ((⟨(N q).data.toArray⟩ : ByteArray).extract 0 p ++ s).data.toList = wrD (N q).data p s.data.toList := by
              rw [hE1]
              unfold wrD; rw [hsl, List.drop_of_length_le (by omega : (N q).data.length ≤ p + s.size), List.append_nil]
            exact arr_eta (h.trans (toL_mk _).symm)
          have hs2 : ((⟨(N q).data.toArray⟩ : ByteArray).extract 0 p ++ s).size = (wrD (N q).data p s.data.toList).length := by rw [hE2]; exact List.size_toArray
          rw [← hE2] at HP
          have hs5 : s.size ≤ 512 := by omega
          clear hE1 h hb hd hf
          obtain ⟨LW, hLW⟩ : ∃ LW, LW = (wrD (N q).data p s.data.toList).length := ⟨_, rfl⟩
          rw [← hLW] at hwl hs2 hr t1
          clear hLW
          generalize wrD (N q).data p s.data.toList = W at *
          clear hE2
          generalize hD : (⟨(N q).data.toArray⟩ : ByteArray) = D at *
          rw [← hl] at t2 d2 hpl hg hdq hr
          clear hD hl
          generalize roomN N n = rm at *
          have d3b : decide ((512 : Int) < (s.size : Int)) = false := decide_eq_false (by omega)
          have d2b : decide ((D.size : Int) < (p : Int)) = false := decide_eq_false (by omega)
          have d5b : decide ((p : Int) + (s.size : Int) < (D.size : Int)) = false := decide_eq_false (by omega)
          have d5 : decide (p + s.size < D.size) = false := decide_eq_false hg
          cases full with
          | true =>
            rw [hr, if_pos rfl]
            clear HP CR HT z2 hr
            go_enter Tryz.func53, Tryz.ntmps53
            go_wp2_with (go_at_call 69; refine CF.out.mono ?_; rintro e w' ⟨rfl, hw'⟩; rw [hw']; clear hw' w')
            go_ret
            exact ⟨rfl, HH.out⟩
          | false =>
            rw [if_neg Bool.false_ne_true] at hr
            by_cases hrm : rm < (takesN LW : Int) - (takesN D.size : Int)
            · rw [hr, if_pos hrm]
              have d6 : decide (rm < (takesN LW : Int) - (takesN D.size : Int)) = true := decide_eq_true hrm
              clear HP z2 hr
              go_enter Tryz.func53, Tryz.ntmps53
              go_upto_region 12 with (go_at_call 69; refine CF.out.mono ?_; rintro e w' ⟨rfl, hw'⟩; rw [hw']; clear hw' w')
              clear hs1 d5 d5b hg CF
              generalize D.extract 0 p ++ s = X at *
              subst hs2
              go_wp2_with (first
                | (go_at_call 40; refine (HT.out _ _ (by omega)).mono ?_; rintro e w' ⟨rfl, hw'⟩; rw [hw']; clear hw' w')
                | (go_at_call 26; refine CR.out.mono ?_; rintro e w' ⟨rfl, hw'⟩; rw [hw']; clear hw' w'))
              go_ret
              exact ⟨rfl, HH.out⟩
            · rw [hr, if_neg hrm]
              have d6 : decide (rm < (takesN LW : Int) - (takesN D.size : Int)) = false := decide_eq_false hrm
              clear HH hr
              go_enter Tryz.func53, Tryz.ntmps53
              go_upto_region 12 with (go_at_call 69; refine CF.out.mono ?_; rintro e w' ⟨rfl, hw'⟩; rw [hw']; clear hw' w')
              clear hs1 d5 d5b hg CF
              generalize D.extract 0 p ++ s = X at *
              subst hs2
              go_wp2_with (first
                | (go_at_call 40; refine (HT.out _ _ (by omega)).mono ?_; rintro e w' ⟨rfl, hw'⟩; rw [hw']; clear hw' w')
                | (go_at_call 26; refine CR.out.mono ?_; rintro e w' ⟨rfl, hw'⟩; rw [hw']; clear hw' w'))
              go_ret
              exact ⟨rfl, HP.out⟩
  · have hr : writeN N n full k off s.data.toList = (findN N k, N) := by unfold writeN; rw [if_pos hf]
    rw [hr]
    generalize findN N k = fe at *
    have b1 : (fe == 0) = false := beq_eq_false_iff_ne.2 hf
    clear h hr hd
    go_enter Tryz.func53, Tryz.ntmps53
    go_wp2_with (go_at_call 69; refine CF.out.mono ?_; rintro e w' ⟨rfl, hw'⟩; rw [hw']; clear hw' w')
    go_ret
    exact ⟨rfl, HH.out⟩
end
end Go.Proofs.YtlpcccpagmipnaaGreat.P
namespace Go.Proofs.YtlpcccpagmipnaaGreat.P
open Go.RowKit Go.ChangeMaps Go.MapKept
theorem built_statK (kd lk sz : Nat) : Tryz.prog.built 56 [(0, .int .i64 (kd : Int)), (1, .int .i64 (lk : Int)), (2, .int .i64 (sz : Int))] = some (statL ⟨kd, lk, sz, []⟩) := by kernel_rfl
theorem built_stat0 : Tryz.prog.built 56 [] = some stat0 := by kernel_rfl
set_option maxHeartbeats 1600000 in
theorem c_stat8 {w : World} {r g c n : Nat} {N : Nat → NodeA} (h : RefAt w r g c n N) (hd : ∀ q, q < 32 → (N q).data.length ≤ 2368) (k : Int) : Calls Tryz.prog 32 #[.pointer (some ⟨r, 0, none⟩), .int .i64 k] w fun e w' => e = .returned (.tuple #[.agg (statV N k), .int .i64 (findN N k)]) ∧ Gr w w' := by
  obtain ⟨w1, hw1⟩ : ∃ w1, w1 = w.alloc (.cells stat0 56) := ⟨_, rfl⟩
  have g1 : Gr w w1 := by rw [hw1]; exact (Gr.refl w).alloc (Nat.le_refl _) _
  have hB : w1.heap[w.heap.size]? = some (.cells stat0 56) := by rw [hw1]; exact blk_new _ _
  have h1 := h.gr g1
  have CF := Lib.hid (c_find8 h1 k)
  have HZ := Lib.hid stat_zero
  by_cases hf : findN N k = 0
  · obtain ⟨q, rfl, hq, hkd⟩ := find_zero hf
    have e : statV N (q : Int) = statL ⟨(N q).kind, (N q).links, (N q).data.length, []⟩ := by
      unfold statV statL
      rw [if_neg (fun e => e hf), Int.toNat_natCast]
    rw [hf] at CF
    rw [e, hf]
    have c1 := h1.row
    obtain ⟨c2, c3, c4⟩ := h1.node q hq
    have hq1 : (q : Int) < 32 := by omega
    have hl : (⟨(N q).data.toArray⟩ : ByteArray).size = (N q).data.length := List.size_toArray
    have hdq := hd q hq
    have hB2 : (w1.drewN 1).heap[w.heap.size]? = some (.cells stat0 56) := hB
    have g2 : Gr w (w1.drewN 1) := gtrans g1 (Gr.drewN (Gr.refl _) 1)
    have HBT := Lib.hid (built_statK (N q).kind (N q).links (N q).data.length)
    have HI := Lib.hid (stat_info ⟨(N q).kind, (N q).links, (N q).data.length, []⟩)
    have HS := Lib.hid (stat_one ⟨(N q).kind, (N q).links, (N q).data.length, []⟩)
    rw [← hl] at HBT HI HS hdq ⊢
    clear e h h1 hd hB g1 hf
    generalize (⟨(N q).data.toArray⟩ : ByteArray) = D at *
    clear hl
    generalize (N q).kind = kd at *
    generalize (N q).links = lk at *
    have HE : Hid (((w1.drewN 1).setRow w.heap.size (statL ⟨kd, lk, D.size, []⟩)).heap[w.heap.size]? = some (.cells (statL ⟨kd, lk, D.size, []⟩) 56) ∧ Gr w ((w1.drewN 1).setRow w.heap.size (statL ⟨kd, lk, D.size, []⟩))) := Lib.hid ⟨blk_setRow hB2, below_setRow g2 (Nat.le_refl _) _⟩
    have HB2 := Lib.hid hB2
    clear hB2 g2
    go_enter Tryz.func32, Tryz.ntmps32
    go_upto_region 1 with (refine wpList_alloc_blk rfl 56 stat0 rfl (HZ.out _) ?_)
    rw [← hw1]
    generalize w.heap.size = B at *
    clear hw1
    go_upto_region 4 with (go_at_call 69; refine CF.out.mono ?_; rintro e w' ⟨rfl, hw'⟩; rw [hw']; clear hw' w')
    go_still_tail 25, (by kernel_rfl)
    go_wp2_with (first
      | (refine wpList_build3 rfl 56 0 1 2 _ _ _ rfl (.int .i64 (kd : Int)) (.int .i64 (lk : Int)) (.int .i64 (D.size : Int)) rfl rfl rfl _ HBT.out ?_)
      | (refine wpList_store_row rfl _ _ _ rfl B (statL ⟨kd, lk, D.size, []⟩) rfl rfl _ _ HB2.out HI.out rfl HS.out ?_))
    refine bodyPost_ret (res_ct rfl rfl (ld_stat HE.out.1 HI.out)) rfl ?_
    exact ⟨rfl, HE.out.2⟩
  · have e : statV N k = stat0 := by unfold statV; rw [if_pos hf]
    rw [e]
    have HI := Lib.hid (stat_info i0)
    have HS := Lib.hid (stat_one i0)
    have HE : Hid ((w1.setRow w.heap.size stat0).heap[w.heap.size]? = some (.cells stat0 56) ∧ Gr w (w1.setRow w.heap.size stat0)) := Lib.hid ⟨blk_setRow hB, below_setRow g1 (Nat.le_refl _) _⟩
    have HB2 := Lib.hid hB
    generalize findN N k = fe at *
    have b1 : (fe == 0) = false := beq_eq_false_iff_ne.2 hf
    clear e h h1 hd hB g1
    go_enter Tryz.func32, Tryz.ntmps32
    go_upto_region 1 with (refine wpList_alloc_blk rfl 56 stat0 rfl (HZ.out _) ?_)
    rw [← hw1]
    generalize w.heap.size = B at *
    clear hw1
    go_wp2_with (first
      | (go_at_call 69; refine CF.out.mono ?_; rintro e w' ⟨rfl, hw'⟩; rw [hw']; clear hw' w')
      | (refine wpList_build0 rfl 56 rfl stat0 built_stat0 ?_)
      | (refine wpList_store_row rfl _ _ _ rfl B stat0 rfl rfl _ _ HB2.out HI.out rfl HS.out ?_))
    refine bodyPost_ret (res_ct rfl rfl (ld_stat HE.out.1 HI.out)) rfl ?_
    exact ⟨rfl, HE.out.2⟩
end Go.Proofs.YtlpcccpagmipnaaGreat.P
namespace Go.Proofs.YtlpcccpagmipnaaGreat.P
open Go.RowKit Go.ChangeMaps Go.MapKept
theorem nodeInfo : (Tryz.prog.info? 110).map (fun i => (i.zero, i.size, i.bytes)) = some (some (.agg (nodeC node0)), 3, 32) := by kernel_rfl
def freshC : Array Value := madeCells (nodeC node0) 96
theorem fresh_ok : RefOk freshC exN0 := fun q hq => by
  rcases (by omega : q = 0 ∨ q = 1 ∨ q = 2 ∨ q = 3 ∨ q = 4 ∨ q = 5 ∨ q = 6 ∨ q = 7 ∨ q = 8 ∨ q = 9 ∨ q = 10 ∨ q = 11 ∨ q = 12 ∨ q = 13 ∨ q = 14 ∨ q = 15 ∨ q = 16 ∨ q = 17 ∨ q = 18 ∨ q = 19 ∨ q = 20 ∨ q = 21 ∨ q = 22 ∨ q = 23 ∨ q = 24 ∨ q = 25 ∨ q = 26 ∨ q = 27 ∨ q = 28 ∨ q = 29 ∨ q = 30 ∨ q = 31) with rfl | rfl | rfl | rfl | rfl | rfl | rfl | rfl | rfl | rfl | rfl | rfl | rfl | rfl | rfl | rfl | rfl | rfl | rfl | rfl | rfl | rfl | rfl | rfl | rfl | rfl | rfl | rfl | rfl | rfl | rfl | rfl
  · exact ⟨by kernel_rfl, by kernel_rfl, by kernel_rfl⟩
  · exact ⟨by kernel_rfl, by kernel_rfl, by kernel_rfl⟩
  · exact ⟨by kernel_rfl, by kernel_rfl, by kernel_rfl⟩
  · exact ⟨by kernel_rfl, by kernel_rfl, by kernel_rfl⟩
  · exact ⟨by kernel_rfl, by kernel_rfl, by kernel_rfl⟩
  · exact ⟨by kernel_rfl, by kernel_rfl, by kernel_rfl⟩
  · exact ⟨by kernel_rfl, by kernel_rfl, by kernel_rfl⟩
  · exact ⟨by kernel_rfl, by kernel_rfl, by kernel_rfl⟩
  · exact ⟨by kernel_rfl, by kernel_rfl, by kernel_rfl⟩
  · exact ⟨by kernel_rfl, by kernel_rfl, by kernel_rfl⟩
  · exact ⟨by kernel_rfl, by kernel_rfl, by kernel_rfl⟩
  · exact ⟨by kernel_rfl, by kernel_rfl, by kernel_rfl⟩
  · exact ⟨by kernel_rfl, by kernel_rfl, by kernel_rfl⟩
  · exact ⟨by kernel_rfl, by kernel_rfl, by kernel_rfl⟩
  · exact ⟨by kernel_rfl, by kernel_rfl, by kernel_rfl⟩
  · exact ⟨by kernel_rfl, by kernel_rfl, by kernel_rfl⟩
  · exact ⟨by kernel_rfl, by kernel_rfl, by kernel_rfl⟩
  · exact ⟨by kernel_rfl, by kernel_rfl, by kernel_rfl⟩
  · exact ⟨by kernel_rfl, by kernel_rfl, by kernel_rfl⟩
  · exact ⟨by kernel_rfl, by kernel_rfl, by kernel_rfl⟩
  · exact ⟨by kernel_rfl, by kernel_rfl, by kernel_rfl⟩
  · exact ⟨by kernel_rfl, by kernel_rfl, by kernel_rfl⟩
  · exact ⟨by kernel_rfl, by kernel_rfl, by kernel_rfl⟩
  · exact ⟨by kernel_rfl, by kernel_rfl, by kernel_rfl⟩
  · exact ⟨by kernel_rfl, by kernel_rfl, by kernel_rfl⟩
  · exact ⟨by kernel_rfl, by kernel_rfl, by kernel_rfl⟩
  · exact ⟨by kernel_rfl, by kernel_rfl, by kernel_rfl⟩
  · exact ⟨by kernel_rfl, by kernel_rfl, by kernel_rfl⟩
  · exact ⟨by kernel_rfl, by kernel_rfl, by kernel_rfl⟩
  · exact ⟨by kernel_rfl, by kernel_rfl, by kernel_rfl⟩
  · exact ⟨by kernel_rfl, by kernel_rfl, by kernel_rfl⟩
  · exact ⟨by kernel_rfl, by kernel_rfl, by kernel_rfl⟩
theorem mk_nodes (w : World) : (Instr.makeSlice 100 (.int .i64 32) (.int .i64 32)).run Tryz.prog w = .ok (.slice (some ⟨w.heap.size, 0, none⟩) 32 32) (w.alloc (.cells freshC 110)) := by
  obtain ⟨i0, hi, hz0, hz1, hz2⟩ := info_parts nodeInfo
  have := run_make (P := Tryz.prog) w 100 110 i0 (.agg (nodeC node0)) Tryz.underlying100 hi hz0 .i64 .i64 32 32 (by omega) (Int.le_refl _) (by rw [hz2]; decide) (by omega)
  rw [this, hz1]
  rfl
theorem vol8_zero (n g : Nat) : Tryz.prog.built 102 [(0, .int .i64 (n : Int)), (1, .slice (some ⟨g, 0, none⟩) 32 32)] = some #[.int .i64 (n : Int), .slice (some ⟨g, 0, none⟩) 32 32] := by kernel_rfl
section
variable {w0 w : World} {R : Asn}
set_option maxHeartbeats 1600000 in
theorem r_new (h : Own w0 w R) (hs : Stable R) (n : Nat) : Calls Tryz.prog 15 #[.int .i64 (n : Int)] w fun e w' => ∃ r g, e = .returned (.pointer (some ⟨r, 0, none⟩)) ∧ RfP w0 r g 32 n exN0 R w' := by
  have hmk := mk_nodes w
  have hbt := vol8_zero n w.heap.size
  have h1 := h.alloc hs (.cells freshC 110)
  have h2 := h1.alloc (stable_star (stable_blk _ _) hs) (.cells #[.int .i64 (n : Int), .slice (some ⟨w.heap.size, 0, none⟩) 32 32] 102)
  have hz : (w.alloc (.cells freshC 110)).heap.size = w.heap.size + 1 := by simp
  rw [hz] at h2
  clear hz
  have HP := Lib.hid (⟨freshC, fresh_ok, h2⟩ : RfP w0 (w.heap.size + 1) w.heap.size 32 n exN0 R _)
  clear h h1 h2
  go_enter Tryz.func15, Tryz.ntmps15
  go_wp2_with fail
  go_ret
  exact ⟨_, _, rfl, HP.out⟩
end
end Go.Proofs.YtlpcccpagmipnaaGreat.P
