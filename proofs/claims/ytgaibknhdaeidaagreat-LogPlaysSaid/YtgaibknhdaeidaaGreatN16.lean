/- Stage 7: acts opened. No condition. -/
import Derived.Test.YtgaibknhdaeidaaGreatN14
import Derived.Test.YtgaibknhdaeidaaGreatI2
import Derived.Test.YtgaibknhdaeidaaGreatZ
import Derived.Test.YtgaibknhdaeidaaGreatI8
import Derived.Test.YtgaibknhdaeidaaGreatI9
set_option linter.unusedVariables false
set_option linter.unusedSimpArgs false
set_option maxRecDepth 100000
namespace Go.Proofs.YtgaibknhdaeidaaGreat.P
open Go.RowKit
structure QActV where
  kind : Int
  i : Int
  s : ByteArray
  keep : Int
def QActV.ok (x : QActV) : Prop := i64 x.kind ∧ i64 x.i ∧ x.s.size ≤ 140737488351232 ∧ u64 x.keep
/-- The acts lie there. -/
def QActs (w : World) (bl off len : Nat) (f : Nat → QActV) : Prop :=
  ∀ i, i < len → (f i).ok ∧ w.cell? ⟨bl, off + i * 4, none⟩ = some (.int .i64 (f i).kind) ∧ w.cell? ⟨bl, off + i * 4 + 1, none⟩ = some (.int .i64 (f i).i) ∧ w.cell? ⟨bl, off + i * 4 + 2, none⟩ = some (.string (f i).s) ∧ w.cell? ⟨bl, off + i * 4 + 3, none⟩ = some (.int .u64 (f i).keep)
section
open Go.ChangeShapes Go.WideShapes Go.Deep
variable {H : Type} {enc : TypeId × Value → H} {w : World} {base : Nat} {spare : Nat → Bool} {held : Bool}
set_option maxRecDepth 100000 in
theorem Qopen_acts {v : Value} {d : DataW H} {ps : List MemPlace} (hv : ∃ (o : Option Addr) (l c : Nat), v = .slice o l c) (h : DataW.Trod enc Tryz.prog w base spare held 23 v d ps) (HD : ∀ n ∈ d.weights Tryz.prog 23, n ≤ 140737488351232) :
    ∃ (o : Option Addr) (len cap bl off : Nat) (f : Nat → QActV), v = .slice o len cap ∧ len * 40 ≤ 140737488351232 ∧ (0 < len → o = some ⟨bl, off, none⟩ ∧ bl < w.heap.size) ∧ QActs w bl off len f := by
  rcases open_structs_w Tryz.underlying23 Tryz.underlying38 (by kernel_rfl) (by kernel_rfl) (by decide) hv h with ⟨o, cap, rfl⟩ | ⟨bl, off, len, cap, rfl, hl0, hlc, hcap, hbl, ⟨N, hN1, hN2⟩, hf⟩
  · exact ⟨o, 0, cap, 0, 0, fun _ => ⟨0, 0, ⟨#[]⟩, 0⟩, rfl, by omega, fun h => absurd h (by omega), fun i hi => absurd hi (by omega)⟩
  · have hby : Tryz.prog.bytesOf 38 = 40 := by kernel_rfl
    rw [hby] at hN2
    have hN3 := HD _ hN2
    have hx : ∀ i, ∃ a : QActV, i < len → a.ok ∧ w.cell? ⟨bl, off + i * 4, none⟩ = some (.int .i64 a.kind) ∧ w.cell? ⟨bl, off + i * 4 + 1, none⟩ = some (.int .i64 a.i) ∧ w.cell? ⟨bl, off + i * 4 + 2, none⟩ = some (.string a.s) ∧ w.cell? ⟨bl, off + i * 4 + 3, none⟩ = some (.int .u64 a.keep) := by
      intro i
      by_cases hi : i < len
      · obtain ⟨u0, y0, n0, c0, t0, m0⟩ := hf i hi 0 _ rfl
        obtain ⟨u1, y1, n1, c1, t1, m1⟩ := hf i hi 1 _ rfl
        obtain ⟨u2, y2, n2, c2, t2, m2⟩ := hf i hi 2 _ rfl
        obtain ⟨u3, y3, n3, c3, t3, m3⟩ := hf i hi 3 _ rfl
        obtain ⟨x0, e0, _, k0⟩ := DataW.trod_int Tryz.underlying3 t0
        obtain ⟨x1, e1, _, k1⟩ := DataW.trod_int Tryz.underlying3 t1
        obtain ⟨x2, e2, q2, _⟩ := DataW.trod_string Tryz.underlying9 t2
        have k2 : x2.size ≤ 140737488351232 := by
          rw [q2] at m2
          have := HD _ (m2 _ (by simp only [DataW.weights, List.mem_singleton]; rfl))
          simpa using this
        obtain ⟨x3, e3, _, k3⟩ := DataW.trod_int Tryz.underlying36 t3
        rw [List.singleton_inj] at e0 e1 e2 e3
        subst e0; subst e1; subst e2; subst e3
        exact ⟨⟨x0, x1, x2, x3⟩, fun _ => ⟨⟨wf_i64 k0, wf_i64 k1, k2, wf_u64 k3⟩, c0, c1, c2, c3⟩⟩
      · exact ⟨⟨0, 0, ⟨#[]⟩, 0⟩, fun h => absurd h hi⟩
    obtain ⟨f, hf'⟩ := Classical.axiomOfChoice hx
    exact ⟨some ⟨bl, off, none⟩, len, cap, bl, off, f, rfl, Nat.le_trans (Nat.mul_le_mul_right _ hN1) hN3, fun _ => ⟨rfl, hbl⟩, fun i hi => hf' i hi⟩
end

end Go.Proofs.YtgaibknhdaeidaaGreat.P
namespace Go.Proofs.YtgaibknhdaeidaaGreat.P
open Go.RowKit
def InvD (n : Nat) (z : DState) : Prop := SZ z ∧ WZ z ∧ z.safe.length = n ∧ z.wait.length ≤ 100
/-- Both logs, or neither. -/
def ST (w0 w : World) (n d r : Nat) (v1 v2 : Value) (R : Asn) : Prop :=
  (v1 = .pointer none ∧ v2 = .pointer none ∧ ∃ z, InvD n z ∧ Own w0 w (Star (dsk d z) (Star (rdk r z) R))) ∨
  (∃ l l2 mb z st st2 dead, v1 = .pointer (some ⟨l, 0, none⟩) ∧ v2 = .pointer (some ⟨l2, 0, none⟩) ∧ Inv7 n z st st2 dead ∧ Own w0 w (BL d r z l mb l2 st st2 dead R))
variable {w0 w : World} {d r n : Nat} {z : DState} {v1 v2 : Value} {R : Asn}
theorem stable_dr (hs : Stable R) (z1 z2 : DState) : Stable (Star (dsk d z1) (Star (rdk r z2) R)) := stable_star (stable_dsk _ _) (stable_star (stable_rdk _ _) hs)
/-- A box more. -/
theorem st_box (h : ST w0 w n d r v1 v2 R) (hs : Stable R) (o : Obj) : ST w0 (w.alloc o) n d r v1 v2 (Star (blkA w.heap.size o) R) := by
  rcases h with ⟨e1, e2, z, hi, ho⟩ | ⟨l, l2, mb, z, st, st2, dead, e1, e2, hi, ho⟩
  · exact .inl ⟨e1, e2, z, hi, (ho.alloc (stable_dr hs _ _) o).rot3'⟩
  · exact .inr ⟨l, l2, mb, z, st, st2, dead, e1, e2, hi, ho.box4 (stable_bl _ _ _ _ _ _ _ _ _ _ _ hs) o⟩
theorem st_unbox {X : Asn} (h : ST w0 w n d r v1 v2 (Star X R)) : ST w0 w n d r v1 v2 R := by
  rcases h with ⟨e1, e2, z, hi, ho⟩ | ⟨l, l2, mb, z, st, st2, dead, e1, e2, hi, ho⟩
  · exact .inl ⟨e1, e2, z, hi, ho.rot3.right⟩
  · exact .inr ⟨l, l2, mb, z, st, st2, dead, e1, e2, hi, ho.unbox4⟩
theorem st_blk {B : Nat} {o : Obj} (h : ST w0 w n d r v1 v2 (Star (blkA B o) R)) : w.heap[B]? = some o := by
  rcases h with ⟨e1, e2, z, hi, ho⟩ | ⟨l, l2, mb, z, st, st2, dead, e1, e2, hi, ho⟩
  · exact ho.right.right.blk
  · exact ho.boxed
theorem st_sub (h : ST w0 w n d r v1 v2 R) : Gr w0 w := by
  rcases h with ⟨e1, e2, z, hi, ho⟩ | ⟨l, l2, mb, z, st, st2, dead, e1, e2, hi, ho⟩
  · exact ho.sub
  · exact ho.sub
theorem inv_pow {st st2 : List (Int × ByteArray)} {dead : Bool} (h : Inv7 n z st st2 dead) (k : Int) (hk : k ≤ 9223372036854775807) : Inv7 n (powZ z k) st st2 dead := by
  obtain ⟨k1, k2, k3, k4, k5, k6, k7, k8, k9⟩ := h
  exact ⟨k1, ⟨k2.1, k2.2.1, by show 0 ≤ max k 0; omega, by show max k 0 ≤ _; omega, k2.2.2.2.2⟩, k3, k4, k5, k6, k7, k8, k9⟩
theorem invd_pow (h : InvD n z) (k : Int) (hk : k ≤ 9223372036854775807) : InvD n (powZ z k) := by
  obtain ⟨k1, k2, k3, k4⟩ := h
  exact ⟨k1, ⟨k2.1, k2.2.1, by show 0 ≤ max k 0; omega, by show max k 0 ≤ _; omega, k2.2.2.2.2⟩, k3, k4⟩
/-- Power, on both. -/
theorem st_power {B : Nat} {o : Obj} (h : ST w0 w n d r v1 v2 (Star (blkA B o) R)) (hs : Stable R) (k : Int) (hk : k ≤ 9223372036854775807) :
    ∃ Q : World → Prop, Calls Tryz.prog 8 #[.pointer (some ⟨d, 0, none⟩), .int .i64 k] w (fun e w' => e = .returned (.tuple #[]) ∧ Q w') ∧
      ∀ w1, Q w1 → w1.heap[B]? = some o ∧ Calls Tryz.prog 9 #[.pointer (some ⟨r, 0, none⟩), .int .i64 k] w1 (fun e w' => e = .returned (.tuple #[]) ∧ ST w0 w' n d r v1 v2 (Star (blkA B o) R)) := by
  have hs2 : Stable (Star (blkA B o) R) := stable_star (stable_blk _ _) hs
  rcases h with ⟨e1, e2, z, hi, ho⟩ | ⟨l, l2, mb, z, st, st2, dead, e1, e2, hi, ho⟩
  · refine ⟨_, o_power ho (stable_star (stable_rdk _ _) hs2) k hk, fun w1 h1 => ⟨h1.right.right.blk, ?_⟩⟩
    refine (r_power h1.swap2 (stable_star (stable_dsk _ _) hs2) k hk).mono ?_
    rintro e w' ⟨rfl, h2⟩
    exact ⟨rfl, .inl ⟨e1, e2, _, invd_pow hi k hk, h2.swap2⟩⟩
  · refine ⟨_, o_power ho (stable_star (stable_lg _ _ _ _ _) (stable_rdl _ _ _ _ _ hs2)) k hk, fun w1 h1 => ⟨h1.boxed, ?_⟩⟩
    have h3 : Own w0 w1 (Star (rdk r z) (Star (rlA l2 r st2 dead) (Star (dsk d (powZ z k)) (Star (lgA l d mb st dead) (Star (blkA B o) R))))) := h1.flip4
    refine (r_power h3 (stable_star (stable_rl _ _ _ _) (stable_star (stable_dsk _ _) (stable_star (stable_lg _ _ _ _ _) hs2))) k hk).mono ?_
    rintro e w' ⟨rfl, h2⟩
    exact ⟨rfl, .inr ⟨l, l2, mb, _, st, st2, dead, e1, e2, inv_pow hi k hk, h2.flip4⟩⟩
theorem invd_crash (h : InvD n z) (K : Int) : InvD n (crashZ z K) ∧ (crashZ z K).wait = [] := by
  obtain ⟨k1, k2, k3, k4⟩ := h
  exact ⟨⟨⟨sz_set _ _ _ k1.1 k1.2 _, fun x hx => by cases hx⟩, wz_crash z k2 K, by rw [crash_len]; exact k3, Nat.zero_le _⟩, rfl⟩
/-- What there is of the disks alone. -/
theorem st_disks {X : Asn} (h : ST w0 w n d r v1 v2 X) : ∃ z, InvD n z ∧ Own w0 w (Star (dsk d z) (Star (rdk r z) X)) := by
  rcases h with ⟨e1, e2, z, hi, ho⟩ | ⟨l, l2, mb, z, st, st2, dead, e1, e2, hi, ho⟩
  · exact ⟨z, hi, ho⟩
  · refine ⟨z, ⟨hi.1, hi.2.1, hi.2.2.1, hi.2.2.2.1⟩, ?_⟩
    exact ho.mono fun F hF => star_drop2 (star_mono_r (fun F h => star_mono_r (fun F h => star_drop2 h) h) hF)
/-- Crash, on both. -/
theorem st_crash {B : Nat} {o : Obj} (h : ST w0 w n d r v1 v2 (Star (blkA B o) R)) (hs : Stable R) (K : Int) (hK : u64 K) :
    ∃ Q : World → Prop, Calls Tryz.prog 10 #[.pointer (some ⟨d, 0, none⟩), .int .u64 K] w (fun e w' => e = .returned (.tuple #[]) ∧ Q w') ∧
      ∀ w1, Q w1 → w1.heap[B]? = some o ∧ Calls Tryz.prog 11 #[.pointer (some ⟨r, 0, none⟩), .int .u64 K] w1 (fun e w' => e = .returned (.tuple #[]) ∧ ∃ z, InvD n z ∧ z.wait = [] ∧ Own w0 w' (Star (dsk d z) (Star (rdk r z) (Star (blkA B o) R)))) := by
  have hs2 : Stable (Star (blkA B o) R) := stable_star (stable_blk _ _) hs
  obtain ⟨z, hi, ho⟩ := st_disks h
  have h4 := hi.2.2.2
  refine ⟨_, o_crash ho (stable_star (stable_rdk _ _) hs2) K hK (by omega), fun w1 h1 => ⟨h1.right.right.blk, ?_⟩⟩
  refine (r_crash h1.swap2 (stable_star (stable_dsk _ _) hs2) K hK (by omega)).mono ?_
  rintro e w' ⟨rfl, h2⟩
  exact ⟨rfl, _, (invd_crash hi K).1, (invd_crash hi K).2, h2.swap2⟩
/-- Open, on both. -/
theorem st_open (h : Own w0 w (Star (dsk d z) (Star (rdk r z) R))) (hs : Stable R) (hi : InvD n z) (h48 : 48 ≤ n) (hw : z.wait = []) :
    (∃ Q : Nat → World → Prop, Calls Tryz.prog 6 #[.pointer (some ⟨d, 0, none⟩)] w (fun e w' => ∃ l, e = .returned (.tuple #[.pointer (some ⟨l, 0, none⟩), .int .i64 0]) ∧ Q l w') ∧
      ∀ l w1, Q l w1 → Calls Tryz.prog 7 #[.pointer (some ⟨r, 0, none⟩)] w1 (fun e w' => ∃ l2, e = .returned (.tuple #[.pointer (some ⟨l2, 0, none⟩), .int .i64 0]) ∧ ST w0 w' n d r (.pointer (some ⟨l, 0, none⟩)) (.pointer (some ⟨l2, 0, none⟩)) R)) ∨
    (∃ (bad : Int) (Q : World → Prop), bad ≠ 0 ∧ Calls Tryz.prog 6 #[.pointer (some ⟨d, 0, none⟩)] w (fun e w' => e = .returned (.tuple #[.pointer none, .int .i64 bad]) ∧ Q w') ∧
      ∀ w1, Q w1 → Calls Tryz.prog 7 #[.pointer (some ⟨r, 0, none⟩)] w1 (fun e w' => e = .returned (.tuple #[.pointer none, .int .i64 bad]) ∧ ST w0 w' n d r (.pointer none) (.pointer none) R)) := by
  obtain ⟨k1, k2, k3, k4⟩ := hi
  have CO := o_open h (stable_star (stable_rdk _ _) hs) k1 (by omega)
  obtain ⟨q1, q2, q3, q4, q5⟩ := open_keeps z k1 k2 (by omega) hw
  have hni : ∀ x ∈ ([] : List (Int × ByteArray)), 0 ≤ x.1 ∧ x.1 < 65536 := fun x hx => by cases hx
  by_cases h0 : (openQ z).1 = 0
  · refine .inl ⟨fun l w1 => ∃ mb, Own w0 w1 (DL d (openQ z).2 l mb [] false (Star (rdk r z) R)), CO.mono ?_, fun l w1 h1 => ?_⟩
    · rintro e w' ⟨m, _⟩
      obtain ⟨l, mb, e1, e2⟩ := m h0
      exact ⟨l, e1, mb, e2⟩
    · obtain ⟨mb, h1⟩ := h1
      refine (q_open h1.rot3 (stable_star (stable_dsk _ _) (stable_star (stable_lg _ _ _ _ _) hs)) k1 (by omega)).mono ?_
      rintro e w' ⟨m, _⟩
      obtain ⟨l2, e1, e2⟩ := m h0
      exact ⟨l2, e1, .inr ⟨l, l2, mb, _, [], [], false, rfl, rfl, ⟨q1, q2, by rw [q3]; exact k3, q4, fun _ => ⟨q5 h0, rfl⟩, fun e => (by cases e), Nat.zero_le _, Nat.zero_le _, hni⟩, e2.flip4⟩⟩
  · refine .inr ⟨(openQ z).1, fun w1 => Own w0 w1 (Star (dsk d (openQ z).2) (Star (rdk r z) R)), h0, CO.mono ?_, fun w1 h1 => ?_⟩
    · rintro e w' ⟨_, m⟩
      exact m h0
    · refine (q_open h1.swap2 (stable_star (stable_dsk _ _) hs) k1 (by omega)).mono ?_
      rintro e w' ⟨_, m⟩
      obtain ⟨e1, e2⟩ := m h0
      exact ⟨e1, .inl ⟨rfl, rfl, _, ⟨q1, q2, by rw [q3]; exact k3, q4⟩, e2.swap2⟩⟩
/-- Open, on both, with pointers that may be nil. -/
theorem st_open_v (h : Own w0 w (Star (dsk d z) (Star (rdk r z) R))) (hs : Stable R) (hi : InvD n z) (h48 : 48 ≤ n) (hw : z.wait = []) :
    ∃ (bad : Int) (Q : Option Addr → World → Prop), Calls Tryz.prog 6 #[.pointer (some ⟨d, 0, none⟩)] w (fun e w' => ∃ p, e = .returned (.tuple #[.pointer p, .int .i64 bad]) ∧ Q p w') ∧
      ∀ p w1, Q p w1 → Calls Tryz.prog 7 #[.pointer (some ⟨r, 0, none⟩)] w1 (fun e w' => ∃ p2, e = .returned (.tuple #[.pointer p2, .int .i64 bad]) ∧ (!(p.isNone == p2.isNone)) = false ∧ ST w0 w' n d r (.pointer p) (.pointer p2) R) := by
  rcases st_open h hs hi h48 hw with ⟨Q, C1, C2⟩ | ⟨bad, Q, _, C1, C2⟩
  · refine ⟨0, fun p w1 => ∃ l, p = some ⟨l, 0, none⟩ ∧ Q l w1, C1.mono ?_, ?_⟩
    · rintro e w' ⟨l, e1, e2⟩
      exact ⟨_, e1, l, rfl, e2⟩
    · rintro p w1 ⟨l, rfl, h1⟩
      refine (C2 l w1 h1).mono ?_
      rintro e w' ⟨l2, e1, e2⟩
      exact ⟨_, e1, rfl, e2⟩
  · refine ⟨bad, fun p w1 => p = none ∧ Q w1, C1.mono ?_, ?_⟩
    · rintro e w' ⟨e1, e2⟩
      exact ⟨_, e1, rfl, e2⟩
    · rintro p w1 ⟨rfl, h1⟩
      refine (C2 w1 h1).mono ?_
      rintro e w' ⟨e1, e2⟩
      exact ⟨_, e1, rfl, e2⟩
/-- does, whatever act. -/
theorem c_does7 {l mb l2 : Nat} {st st2 : List (Int × ByteArray)} {dead : Bool} (h : Own w0 w (BL d r z l mb l2 st st2 dead R)) (hs : Stable R) (hi : Inv7 n z st st2 dead) (hn : n ≤ 544) (kind i : Int) (s : ByteArray) (keep : Int) (hsz : s.size ≤ 9223372036854770000) :
    Calls Tryz.prog 12 #[.pointer (some ⟨l, 0, none⟩), .pointer (some ⟨l2, 0, none⟩), .agg (actC kind i s keep)] w (DoneP w0 d r n l mb l2 R) := by
  by_cases e1 : kind = 1
  · subst e1; exact does_1 h hs hi i s keep
  by_cases e2 : kind = 2
  · subst e2; exact does_2 h hs hi hn i s keep hsz
  by_cases e3 : kind = 3
  · subst e3; exact does_3 h hs hi i s keep
  by_cases e4 : kind = 4
  · subst e4; exact does_4 h hs hi i s keep
  by_cases e7 : kind = 7
  · subst e7; exact does_7 h hs hi hn i s keep
  exact does_0 h hs hi kind i s keep ⟨e1, e2, e3, e4, e7⟩
/-- Both disks. -/
def OpenedP (w : World) (e : Ending) (w' : World) : Prop := ∃ d r n z, e = .returned (.tuple #[.pointer (some ⟨d, 0, none⟩), .pointer (some ⟨r, 0, none⟩)]) ∧ 48 ≤ n ∧ n ≤ 544 ∧ InvD n z ∧ z.wait = [] ∧ Own w w' (Star (dsk d z) (Star (rdk r z) emp))
theorem invd_new (l : List ByteArray) (h1 : 48 ≤ l.length) (h2 : l.length ≤ 544) (h : ∀ s ∈ l, s.size = 64) : InvD l.length (newZ l) := ⟨⟨h, fun x hx => by cases hx⟩, newZ_wz l h1 h2, rfl, Nat.zero_le _⟩
theorem c_opened_yes (w : World) (o : Option Addr) (c : Nat) (A : List ByteArray) (hA : RowS w o A) (hok : okRow A = true) (n : Int) :
    Calls Tryz.prog 5 #[.slice o A.length c, .int .i64 n] w (OpenedP w) := by
  have h3 := hok
  unfold okRow at h3
  simp only [Bool.and_eq_true, decide_eq_true_eq] at h3
  obtain ⟨⟨h1, h2⟩, hall⟩ := h3
  have h64 : ∀ x ∈ A, x.size = 64 := fun x hx => of_decide_eq_true (List.all_eq_true.1 hall x hx)
  have CE := Lib.hid (e_of w o c A hA hok)
  have CD : Hid (∀ w1 r, Own w w1 (Star (rdk r (newZ A)) emp) → Calls Tryz.prog 27 #[.slice o A.length c] w1 fun e w' => ∃ d, e = .returned (.tuple #[.pointer (some ⟨d, 0, none⟩), .int .i64 0]) ∧ OpenedP w (.returned (.tuple #[.pointer (some ⟨d, 0, none⟩), .pointer (some ⟨r, 0, none⟩)])) w') := Lib.hid (fun w1 r ho => (c_of w1 o c A h1 h2 (hA.gr ho.sub) h64).mono (by
    rintro e w' ⟨d, F, rfl, k1, k2, k3⟩
    exact ⟨d, rfl, d, r, A.length, newZ A, rfl, h1, h2, invd_new A h1 h2 h64, rfl, ho.add (stable_star (stable_rdk _ _) stable_emp) k3 ⟨F, k1, k2⟩⟩))
  have HN : Hid (∀ r w' F, rdk r (newZ A) w' F → (∀ x, F x → w.heap.size ≤ x ∧ x < w'.heap.size) → Gr w w' → Own w w' (Star (rdk r (newZ A)) emp)) := Lib.hid (fun r w' F k1 k2 k3 => (Own.start (Gr.refl w)).add stable_emp k3 ⟨F, k1, k2⟩)
  clear hA hok h1 h2 hall h64
  have hd : n < 48 ∨ (48 ≤ n ∧ 544 < n) ∨ (48 ≤ n ∧ n ≤ 544) := by omega
  generalize A.length = len at *
  rcases hd with q | ⟨q1, q2⟩ | ⟨q1, q2⟩
  all_goals
    go_enter Tryz.func5, Tryz.ntmps5
    go_wp2_with (first
      | (go_at_call 25; refine CE.out.mono ?_; rintro e w1 ⟨r, F, rfl, k1, k2, k3⟩; have H1 := Lib.hid (HN.out _ _ _ k1 k2 k3); clear k1 k2 k3)
      | (go_at_call 27; refine (CD.out _ _ H1.out).mono ?_; rintro e w2 ⟨d, rfl, k⟩; have H2 := Lib.hid k; clear k))
    refine bodyPost_ret (results_tmp2 rfl _ _ _) rfl ?_
    exact H2.out
theorem c_opened_no (w : World) (o : Option Addr) (c : Nat) (A : List ByteArray) (hl : A.length ≤ 4000000000000000) (hA : RowS w o A) (hok : okRow A = false) (n : Int) :
    Calls Tryz.prog 5 #[.slice o A.length c, .int .i64 n] w (OpenedP w) := by
  have CE := Lib.hid (e_of_no w o c A hl hA hok)
  have CD : Hid (∀ m : Nat, 48 ≤ m → m ≤ 544 → ∀ w1, Gr w w1 → Calls Tryz.prog 20 #[.int .i64 (m : Int)] w1 (NewO w m emp)) := Lib.hid (fun m m1 m2 w1 g => o_new (Own.start g) stable_emp m m1 m2)
  have CR : Hid (∀ m : Nat, 48 ≤ m → m ≤ 544 → ∀ w1 d, Own w w1 (Star (dsk d (newZ (List.replicate m z64))) emp) → Calls Tryz.prog 26 #[.int .i64 (m : Int)] w1 fun e w' => ∃ r, e = .returned (.pointer (some ⟨r, 0, none⟩)) ∧ OpenedP w (.returned (.tuple #[.pointer (some ⟨d, 0, none⟩), .pointer (some ⟨r, 0, none⟩)])) w') := Lib.hid (fun m m1 m2 w1 d ho => (e_new m m1 m2 w1).mono (by
    rintro e w' ⟨r, F, rfl, k1, k2, k3⟩
    have hlr : (List.replicate m z64).length = m := List.length_replicate
    have hinv := invd_new (List.replicate m z64) (by rw [hlr]; exact m1) (by rw [hlr]; exact m2) (fun s hs => by rw [List.eq_of_mem_replicate hs]; exact z64_size)
    rw [hlr] at hinv
    exact ⟨r, rfl, d, r, m, _, rfl, m1, m2, hinv, rfl, (ho.add (stable_star (stable_dsk _ _) stable_emp) k3 ⟨F, k1, k2⟩).swap2⟩))
  clear hA hok hl
  have hd : n < 48 ∨ (48 ≤ n ∧ 544 < n) ∨ (48 ≤ n ∧ n ≤ 544) := by omega
  generalize A.length = len at *
  rcases hd with q | ⟨q1, q2⟩ | ⟨q1, q2⟩
  · have CD2 := Lib.hid (CD.out 48 (by omega) (by omega))
    have CR2 := Lib.hid (CR.out 48 (by omega) (by omega))
    clear CD CR
    go_enter Tryz.func5, Tryz.ntmps5
    go_wp2_with (first
      | (go_at_call 25; refine CE.out.mono ?_; rintro e w1 ⟨rfl, g1⟩; have G1 := Lib.hid g1; clear g1)
      | (go_at_call 20; refine (CD2.out _ G1.out).mono ?_; rintro e w2 ⟨d, rfl, k⟩; have H2 := Lib.hid k; clear k)
      | (go_at_call 26; refine (CR2.out _ _ H2.out).mono ?_; rintro e w3 ⟨r, rfl, k⟩; have H3 := Lib.hid k; clear k))
    refine bodyPost_ret (results_tmp2 rfl _ _ _) rfl ?_
    exact H3.out
  · have CD2 := Lib.hid (CD.out 48 (by omega) (by omega))
    have CR2 := Lib.hid (CR.out 48 (by omega) (by omega))
    clear CD CR
    go_enter Tryz.func5, Tryz.ntmps5
    go_wp2_with (first
      | (go_at_call 25; refine CE.out.mono ?_; rintro e w1 ⟨rfl, g1⟩; have G1 := Lib.hid g1; clear g1)
      | (go_at_call 20; refine (CD2.out _ G1.out).mono ?_; rintro e w2 ⟨d, rfl, k⟩; have H2 := Lib.hid k; clear k)
      | (go_at_call 26; refine (CR2.out _ _ H2.out).mono ?_; rintro e w3 ⟨r, rfl, k⟩; have H3 := Lib.hid k; clear k))
    refine bodyPost_ret (results_tmp2 rfl _ _ _) rfl ?_
    exact H3.out
  · obtain ⟨m, rfl⟩ : ∃ m : Nat, n = (m : Int) := ⟨n.toNat, by omega⟩
    have CD2 := Lib.hid (CD.out m (by omega) (by omega))
    have CR2 := Lib.hid (CR.out m (by omega) (by omega))
    clear CD CR
    go_enter Tryz.func5, Tryz.ntmps5
    go_wp2_with (first
      | (go_at_call 25; refine CE.out.mono ?_; rintro e w1 ⟨rfl, g1⟩; have G1 := Lib.hid g1; clear g1)
      | (go_at_call 20; refine (CD2.out _ G1.out).mono ?_; rintro e w2 ⟨d, rfl, k⟩; have H2 := Lib.hid k; clear k)
      | (go_at_call 26; refine (CR2.out _ _ H2.out).mono ?_; rintro e w3 ⟨r, rfl, k⟩; have H3 := Lib.hid k; clear k))
    refine bodyPost_ret (results_tmp2 rfl _ _ _) rfl ?_
    exact H3.out
end Go.Proofs.YtgaibknhdaeidaaGreat.P
