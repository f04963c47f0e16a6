/- Stage 11: acts that came in; both pools made. No condition. -/
import Derived.Test.YtbcnibnkojnpiaaGreatVD
import Derived.Test.YtbcnibnkojnpiaaGreatEO
import Derived.Test.YtbcnibnkojnpiaaGreatS
set_option linter.unusedVariables false
set_option linter.unusedSimpArgs false
set_option maxRecDepth 100000
namespace Go.Proofs.YtbcnibnkojnpiaaGreat.P
open Go.RowKit Go.MuLone Go.Maps Go.Proofs.YtbcnibnkojnpiaaGreat.W
structure QActV where
  kind : Int
  which : Int
  page : Int
  n : Int
  bits : Int
  at_ : Int
  s : ByteArray
def QActV.ok (x : QActV) : Prop := i64 x.kind ∧ i64 x.which ∧ i64 x.page ∧ i64 x.n ∧ u64 x.bits ∧ u64 x.at_ ∧ x.s.size ≤ maxLen
/-- The acts lie there. -/
def QActs (w : World) (bl off len : Nat) (f : Nat → QActV) : Prop :=
  ∀ i, i < len → (f i).ok ∧ w.cell? ⟨bl, off + i * 7, none⟩ = some (.int .i64 (f i).kind) ∧ w.cell? ⟨bl, off + i * 7 + 1, none⟩ = some (.int .i64 (f i).which) ∧ w.cell? ⟨bl, off + i * 7 + 2, none⟩ = some (.int .i64 (f i).page) ∧ w.cell? ⟨bl, off + i * 7 + 3, none⟩ = some (.int .i64 (f i).n) ∧ w.cell? ⟨bl, off + i * 7 + 4, none⟩ = some (.int .u64 (f i).bits) ∧ w.cell? ⟨bl, off + i * 7 + 5, none⟩ = some (.int .u64 (f i).at_) ∧ w.cell? ⟨bl, off + i * 7 + 6, none⟩ = some (.string (f i).s)
section
open Go.ChangeShapes Go.WideShapes Go.Deep
variable {H : Type} {enc : TypeId × Value → H} {w : World} {base : Nat} {spare : Nat → Bool} {held : Bool}
set_option maxRecDepth 100000 in
theorem Qopen_acts {v : Value} {d : DataW H} {ps : List MemPlace} (hv : ∃ (o : Option Addr) (l c : Nat), v = .slice o l c) (h : DataW.Trod enc Tryz.prog w base spare held 22 v d ps) :
    ∃ (o : Option Addr) (len cap bl off : Nat) (f : Nat → QActV), v = .slice o len cap ∧ len ≤ maxLen ∧ (0 < len → o = some ⟨bl, off, none⟩ ∧ bl < w.heap.size) ∧ QActs w bl off len f := by
  rcases open_structs_s Tryz.underlying22 Tryz.underlying74 (by kernel_rfl) (by kernel_rfl) (by decide) hv h with ⟨o, cap, rfl⟩ | ⟨bl, off, len, cap, rfl, hl0, hlc, hcap, hbl, hf⟩
  · exact ⟨o, 0, cap, 0, 0, fun _ => ⟨0, 0, 0, 0, 0, 0, ⟨#[]⟩⟩, rfl, by unfold maxLen; omega, fun h => absurd h (by omega), fun i hi => absurd hi (by omega)⟩
  · have hx : ∀ i, ∃ a : QActV, i < len → a.ok ∧ w.cell? ⟨bl, off + i * 7, none⟩ = some (.int .i64 a.kind) ∧ w.cell? ⟨bl, off + i * 7 + 1, none⟩ = some (.int .i64 a.which) ∧ w.cell? ⟨bl, off + i * 7 + 2, none⟩ = some (.int .i64 a.page) ∧ w.cell? ⟨bl, off + i * 7 + 3, none⟩ = some (.int .i64 a.n) ∧ w.cell? ⟨bl, off + i * 7 + 4, none⟩ = some (.int .u64 a.bits) ∧ w.cell? ⟨bl, off + i * 7 + 5, none⟩ = some (.int .u64 a.at_) ∧ w.cell? ⟨bl, off + i * 7 + 6, none⟩ = some (.string a.s) := by
      intro i
      by_cases hi : i < len
      · obtain ⟨u0, y0, n0, c0, t0⟩ := hf i hi 0 _ rfl
        obtain ⟨u1, y1, n1, c1, t1⟩ := hf i hi 1 _ rfl
        obtain ⟨u2, y2, n2, c2, t2⟩ := hf i hi 2 _ rfl
        obtain ⟨u3, y3, n3, c3, t3⟩ := hf i hi 3 _ rfl
        obtain ⟨u4, y4, n4, c4, t4⟩ := hf i hi 4 _ rfl
        obtain ⟨u5, y5, n5, c5, t5⟩ := hf i hi 5 _ rfl
        obtain ⟨u6, y6, n6, c6, t6⟩ := hf i hi 6 _ rfl
        obtain ⟨x0, e0, _, k0⟩ := DataW.trod_int Tryz.underlying3 t0
        obtain ⟨x1, e1, _, k1⟩ := DataW.trod_int Tryz.underlying3 t1
        obtain ⟨x2, e2, _, k2⟩ := DataW.trod_int Tryz.underlying3 t2
        obtain ⟨x3, e3, _, k3⟩ := DataW.trod_int Tryz.underlying3 t3
        obtain ⟨x4, e4, _, k4⟩ := DataW.trod_int Tryz.underlying39 t4
        obtain ⟨x5, e5, _, k5⟩ := DataW.trod_int Tryz.underlying39 t5
        obtain ⟨x6, e6, _, k6⟩ := DataW.trod_string Tryz.underlying9 t6
        rw [List.singleton_inj] at e0 e1 e2 e3 e4 e5 e6
        subst e0; subst e1; subst e2; subst e3; subst e4; subst e5; subst e6
        exact ⟨⟨x0, x1, x2, x3, x4, x5, x6⟩, fun _ => ⟨⟨wf_i64 k0, wf_i64 k1, wf_i64 k2, wf_i64 k3, wf_u64 k4, wf_u64 k5, k6⟩, c0, c1, c2, c3, c4, c5, c6⟩⟩
      · exact ⟨⟨0, 0, 0, 0, 0, 0, ⟨#[]⟩⟩, fun h => absurd h hi⟩
    obtain ⟨f, hf'⟩ := Classical.axiomOfChoice hx
    exact ⟨some ⟨bl, off, none⟩, len, cap, bl, off, f, rfl, by omega, fun _ => ⟨rfl, hbl⟩, fun i hi => hf' i hi⟩
theorem Qopen_acts_c {u : Value} {y : DataW H × List MemPlace} {n : Nat} (h : DataW.trod enc Tryz.prog w base spare held n 22 [u] = some y) :
    ∃ (o : Option Addr) (len cap bl off : Nat) (f : Nat → QActV), u = .slice o len cap ∧ len ≤ maxLen ∧ (0 < len → o = some ⟨bl, off, none⟩ ∧ bl < w.heap.size) ∧ QActs w bl off len f := by
  obtain ⟨o, len, cap, rfl, ht⟩ := open_slice_c Tryz.underlying22 h
  exact Qopen_acts ⟨o, len, cap, rfl⟩ ht
end

theorem sacts_of {w : World} {bl off len : Nat} {f : Nat → QActV} (h : QActs w bl off len f) : SActs w bl off len (fun i => ⟨(f i).kind, (f i).which, (f i).page, (f i).n, (f i).bits, (f i).at_, (f i).s⟩) := fun i hi => h i hi
def sizeN (size : Int) : Nat := if 1 ≤ size ∧ size ≤ 256 then size.toNat else 24
theorem sizeN_bd (size : Int) : 1 ≤ sizeN size ∧ sizeN size ≤ 256 := by unfold sizeN; split <;> omega
def z11 (n : Nat) : Sp := ⟨freshL n 0, List.replicate (n * 256) 0⟩
theorem pl_new (n : Nat) (h1 : 1 ≤ n) (h2 : n ≤ 256) : Pl n (z11 n) [] := ⟨fun _ => none, wf_none n h1 h2 _ (by simp), fun r h => (by cases h), List.nodup_nil, fresh_len _ _⟩
/-- A pool of n frames and the document's. -/
theorem o_both2 {w0 w : World} (g : Gr w0 w) (size : Int) :
    Calls Tryz.prog 7 #[.int .i64 size] w fun e w' => ∃ b pb rb rp, e = .returned (.tuple #[.pointer (some ⟨b, 0, none⟩), .pointer (some ⟨pb, 0, none⟩), .pointer (some ⟨rp, 0, none⟩)]) ∧ Own w0 w' (Star (plA pb b 0 (z11 (sizeN size)).L (z11 (sizeN size)).s) (Star (rpA rp rb 0 (z11 (sizeN size)).L (z11 (sizeN size)).s) emp)) := by
  obtain ⟨h1, h2⟩ := sizeN_bd size
  have K0 := Lib.hid (Own.start g)
  have EM := Lib.hid stable_emp
  have SPL := Lib.hid (fun pb b (x : Sp) => stable_star (stable_pl pb b 0 x.L x.s) EM.out)
  by_cases hs : 1 ≤ size ∧ size ≤ 256
  · obtain ⟨n, rfl⟩ : ∃ n : Nat, size = (n : Int) := ⟨size.toNat, by omega⟩
    have hn : sizeN (n : Int) = n := by unfold sizeN; rw [if_pos hs, Int.toNat_natCast]
    rw [hn] at h1 h2 ⊢
    have HT := Lib.hid (fun w => r_takes (n : Int) w)
    rw [decide_eq_true hs] at HT
    clear hn hs
    go_enter Tryz.func7, Tryz.ntmps7
    go_upto_region 5 with (first
      | (go_at_call 24; refine (HT.out _).mono ?_; rintro e wt ⟨rfl, hwt⟩; rw [hwt]; clear hwt wt)
      | (go_at_call 18; refine (o_mnew K0.out EM.out n h1 h2).mono ?_; rintro e w1 ⟨b, rfl, k1⟩; have K1 := Lib.hid k1; clear k1))
    go_upto_region 6 with (go_at_call 19; refine (o_pnew K1.out EM.out (Nat.zero_le _)).mono ?_; rintro e w2 ⟨pb, rfl, k2⟩; have K2 : RowKit.Hid (Own w0 w2 (Star (plA pb b 0 (z11 n).L (z11 n).s) emp)) := Lib.hid k2; clear k2)
    clear K0 K1
    go_wp2_with (first
      | (go_at_call 26; refine (o_rnew K2.out (SPL.out pb b (z11 n)) n h2).mono ?_; rintro e w3 ⟨rb, rfl, k3⟩; have K3 := Lib.hid k3; clear k3)
      | (go_at_call 25; refine (o_qnew K3.out (SPL.out pb b (z11 n)) (Nat.zero_le _) h2).mono ?_; rintro e w4 ⟨rp, rfl, k4⟩; have K4 := Lib.hid k4; clear k4))
    go_ret3
    exact ⟨b, pb, rb, rp, rfl, K4.out.swap2⟩

  · have hn : sizeN size = 24 := by unfold sizeN; rw [if_neg hs]
    rw [hn] at h1 h2 ⊢
    have HT := Lib.hid (fun w => r_takes size w)
    rw [decide_eq_false hs] at HT
    obtain ⟨n, hn24⟩ : ∃ n : Nat, n = 24 := ⟨_, rfl⟩
    clear hn hs
    go_enter Tryz.func7, Tryz.ntmps7
    go_upto_region 5 with (first
      | (go_at_call 24; refine (HT.out _).mono ?_; rintro e wt ⟨rfl, hwt⟩; rw [hwt]; clear hwt wt)
      | (go_at_call 18; refine (o_mnew K0.out EM.out 24 h1 h2).mono ?_; rintro e w1 ⟨b, rfl, k1⟩; have K1 := Lib.hid k1; clear k1))
    go_upto_region 6 with (go_at_call 19; refine (o_pnew K1.out EM.out (Nat.zero_le _)).mono ?_; rintro e w2 ⟨pb, rfl, k2⟩; have K2 : RowKit.Hid (Own w0 w2 (Star (plA pb b 0 (z11 24).L (z11 24).s) emp)) := Lib.hid k2; clear k2)
    clear K0 K1
    go_wp2_with (first
      | (go_at_call 26; refine (o_rnew K2.out (SPL.out pb b (z11 24)) 24 h2).mono ?_; rintro e w3 ⟨rb, rfl, k3⟩; have K3 := Lib.hid k3; clear k3)
      | (go_at_call 25; refine (o_qnew K3.out (SPL.out pb b (z11 24)) (Nat.zero_le _) h2).mono ?_; rintro e w4 ⟨rp, rfl, k4⟩; have K4 := Lib.hid k4; clear k4))
    go_ret3
    exact ⟨b, pb, rb, rp, rfl, K4.out.swap2⟩

theorem bytes_back11 (w : World) (g c n : Nat) (l : List UInt8) (hn : l.length = n) (hc : ∀ j (h : j < l.length), w.cell? ⟨g, j, none⟩ = some (bv l[j])) : (convert 44 9 (.slice (some ⟨g, 0, none⟩) n c)).run Tryz.prog w = .ok (.string ⟨l.toArray⟩) w := by
  subst hn
  refine run_convert_bytes_back w _ _ 5 ⟨g, 0, none⟩ c l Tryz.underlying44 Tryz.underlying5 Tryz.underlying9 (fun j hj => ?_)
  have ha : (⟨g, 0, none⟩ : Addr).add j = ⟨g, j, none⟩ := by
    unfold Addr.add
    split <;> simp_all
  rw [ha, hc j hj]
  rfl
end Go.Proofs.YtbcnibnkojnpiaaGreat.P
