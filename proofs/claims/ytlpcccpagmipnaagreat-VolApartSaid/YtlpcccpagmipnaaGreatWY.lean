/- Stage 8: the acts that came in; calls whose answers do not matter; VolRoom, walked. No condition. -/
import Derived.Test.YtlpcccpagmipnaaGreatWX
set_option linter.unusedVariables false
set_option linter.unusedSimpArgs false
set_option maxRecDepth 100000
namespace Go.Proofs.YtlpcccpagmipnaaGreat.P
open Go.RowKit Go.ChangeMaps Go.MapKept
structure V8ActV where
  kind : Int
  n : Int
  off : Int
  many : Int
  s : ByteArray
def V8ActV.ok (x : V8ActV) : Prop := i64 x.kind ∧ i64 x.n ∧ i64 x.off ∧ i64 x.many ∧ x.s.size ≤ 140737488351232
/-- The acts lie there. -/
def V8Acts (w : World) (bl off len : Nat) (f : Nat → V8ActV) : Prop :=
  ∀ i, i < len → (f i).ok ∧ w.cell? ⟨bl, off + i * 5, none⟩ = some (.int .i64 (f i).kind) ∧ w.cell? ⟨bl, off + i * 5 + 1, none⟩ = some (.int .i64 (f i).n) ∧ w.cell? ⟨bl, off + i * 5 + 2, none⟩ = some (.int .i64 (f i).off) ∧ w.cell? ⟨bl, off + i * 5 + 3, none⟩ = some (.int .i64 (f i).many) ∧ w.cell? ⟨bl, off + i * 5 + 4, none⟩ = some (.string (f i).s)
section
open Go.ChangeShapes Go.WideShapes Go.Deep
variable {H : Type} {enc : TypeId × Value → H} {w : World} {base : Nat} {spare : Nat → Bool} {held : Bool}
set_option maxRecDepth 100000 in
theorem V8open_acts {v : Value} {d : DataW H} {ps : List MemPlace} (hv : ∃ (o : Option Addr) (l c : Nat), v = .slice o l c) (h : DataW.Trod enc Tryz.prog w base spare held 22 v d ps) (HD : ∀ n ∈ d.weights Tryz.prog 22, n ≤ 140737488351232) :
    ∃ (o : Option Addr) (len cap bl off : Nat) (f : Nat → V8ActV), v = .slice o len cap ∧ len * 48 ≤ 140737488351232 ∧ (0 < len → o = some ⟨bl, off, none⟩ ∧ bl < w.heap.size) ∧ V8Acts w bl off len f := by
  rcases open_structs_w Tryz.underlying22 Tryz.underlying39 (by kernel_rfl) (by kernel_rfl) (by decide) hv h with ⟨o, cap, rfl⟩ | ⟨bl, off, len, cap, rfl, hl0, hlc, hcap, hbl, ⟨N, hN1, hN2⟩, hf⟩
  · exact ⟨o, 0, cap, 0, 0, fun _ => ⟨0, 0, 0, 0, ⟨#[]⟩⟩, rfl, by omega, fun h => absurd h (by omega), fun i hi => absurd hi (by omega)⟩
  · have hby : Tryz.prog.bytesOf 39 = 48 := by kernel_rfl
    rw [hby] at hN2
    have hN3 := HD _ hN2
    have hx : ∀ i, ∃ a : V8ActV, i < len → a.ok ∧ w.cell? ⟨bl, off + i * 5, none⟩ = some (.int .i64 a.kind) ∧ w.cell? ⟨bl, off + i * 5 + 1, none⟩ = some (.int .i64 a.n) ∧ w.cell? ⟨bl, off + i * 5 + 2, none⟩ = some (.int .i64 a.off) ∧ w.cell? ⟨bl, off + i * 5 + 3, none⟩ = some (.int .i64 a.many) ∧ w.cell? ⟨bl, off + i * 5 + 4, none⟩ = some (.string a.s) := by
      intro i
      by_cases hi : i < len
      · obtain ⟨u0, y0, n0, c0, t0, m0⟩ := hf i hi 0 _ rfl
        obtain ⟨u1, y1, n1, c1, t1, m1⟩ := hf i hi 1 _ rfl
        obtain ⟨u2, y2, n2, c2, t2, m2⟩ := hf i hi 2 _ rfl
        obtain ⟨u3, y3, n3, c3, t3, m3⟩ := hf i hi 3 _ rfl
        obtain ⟨u4, y4, n4, c4, t4, m4⟩ := hf i hi 4 _ rfl
        obtain ⟨x0, e0, _, k0⟩ := DataW.trod_int Tryz.underlying3 t0
        obtain ⟨x1, e1, _, k1⟩ := DataW.trod_int Tryz.underlying3 t1
        obtain ⟨x2, e2, _, k2⟩ := DataW.trod_int Tryz.underlying3 t2
        obtain ⟨x3, e3, _, k3⟩ := DataW.trod_int Tryz.underlying3 t3
        obtain ⟨x4, e4, q4, _⟩ := DataW.trod_string Tryz.underlying9 t4
        have k4 : x4.size ≤ 140737488351232 := by
          rw [q4] at m4
          have := HD _ (m4 _ (by simp only [DataW.weights, List.mem_singleton]; rfl))
          simpa using this
        rw [List.singleton_inj] at e0 e1 e2 e3 e4
        subst e0; subst e1; subst e2; subst e3; subst e4
        exact ⟨⟨x0, x1, x2, x3, x4⟩, fun _ => ⟨⟨wf_i64 k0, wf_i64 k1, wf_i64 k2, wf_i64 k3, k4⟩, c0, c1, c2, c3, c4⟩⟩
      · exact ⟨⟨0, 0, 0, 0, ⟨#[]⟩⟩, fun h => absurd h hi⟩
    obtain ⟨f, hf'⟩ := Classical.axiomOfChoice hx
    exact ⟨some ⟨bl, off, none⟩, len, cap, bl, off, f, rfl, Nat.le_trans (Nat.mul_le_mul_right _ hN1) hN3, fun _ => ⟨rfl, hbl⟩, fun i hi => hf' i hi⟩
end
theorem V8cells {w wx : World} {bl off len : Nat} {f : Nat → V8ActV} (h : V8Acts w bl off len f) {k : Nat} (hk : k < len) (g : Gr w wx) :
    wx.cell? ⟨bl, off + k * 5, none⟩ = some (.int .i64 (f k).kind) ∧ wx.cell? ⟨bl, off + k * 5 + 1, none⟩ = some (.int .i64 (f k).n) ∧ wx.cell? ⟨bl, off + k * 5 + 2, none⟩ = some (.int .i64 (f k).off) ∧ wx.cell? ⟨bl, off + k * 5 + 3, none⟩ = some (.int .i64 (f k).many) ∧ wx.cell? ⟨bl, off + k * 5 + 4, none⟩ = some (.string (f k).s) := by
  obtain ⟨_, c0, c1, c2, c3, c4⟩ := h k hk
  exact ⟨kcell g c0, kcell g c1, kcell g c2, kcell g c3, kcell g c4⟩
theorem c_sectors8 (s : Nat) (hs : s ≤ 1000000) (w : World) : Calls Tryz.prog 83 #[.int .i64 (s : Int)] w fun e w' => e = .returned (.int .i64 (cntN s : Int)) ∧ w' = w := by
  have hc : cntN s = (s + 63) / 64 := rfl
  have e1 : Int.tdiv (s : Int) 64 = ((s / 64 : Nat) : Int) := by rw [Int.tdiv_eq_ediv_of_nonneg (by omega)]; omega
  have e2 : Int.tmod (s : Int) 64 = ((s % 64 : Nat) : Int) := by rw [Int.tmod_eq_emod_of_nonneg (by omega)]; omega
  go_enter Tryz.func83, Tryz.ntmps83
  by_cases h : 0 < s % 64
  · have d1 : decide (0 < s % 64) = true := decide_eq_true h
    have d2 : decide ((0 : Int) < ((s % 64 : Nat) : Int)) = true := decide_eq_true (by omega)
    have e3 : ((s / 64 : Nat) : Int) + 1 = (cntN s : Int) := by omega
    go_wp2_with fail
    go_ret
    refine ⟨?_, rfl⟩
    go_num
  · have d1 : decide (0 < s % 64) = false := decide_eq_false h
    have d2 : decide ((0 : Int) < ((s % 64 : Nat) : Int)) = false := decide_eq_false (by omega)
    have e3 : ((s / 64 : Nat) : Int) = (cntN s : Int) := by omega
    go_wp2_with fail
    go_ret
    refine ⟨?_, rfl⟩
    go_num
theorem c_takes8 (s : Nat) (hs : s ≤ 1000000) (w : World) : Calls Tryz.prog 40 #[.int .i64 (s : Int)] w fun e w' => e = .returned (.int .i64 (takesN s : Int)) ∧ w' = w := by
  have hc : cntN s = (s + 63) / 64 := rfl
  have ht : takesN s = cntN s + (if 5 < cntN s then 1 else 0) := rfl
  have CS := Lib.hid (c_sectors8 s hs w)
  generalize takesN s = t at *
  generalize cntN s = q at *
  go_enter Tryz.func40, Tryz.ntmps40
  by_cases h : 5 < q
  · have d1 : decide (5 < q) = true := decide_eq_true h
    have d2 : decide ((5 : Int) < (q : Int)) = true := decide_eq_true (by omega)
    rw [if_pos h] at ht
    subst ht
    go_wp2_with (go_at_call 83; refine CS.out.mono ?_; rintro e w' ⟨rfl, hw'⟩; rw [hw']; clear hw' w')
    go_ret
    refine ⟨?_, rfl⟩
    go_num
  · have d1 : decide (5 < q) = false := decide_eq_false h
    have d2 : decide ((5 : Int) < (q : Int)) = false := decide_eq_false (by omega)
    rw [if_neg h, Nat.add_zero] at ht
    subst ht
    go_wp2_with (go_at_call 83; refine CS.out.mono ?_; rintro e w' ⟨rfl, hw'⟩; rw [hw']; clear hw' w')
    go_ret
    refine ⟨?_, rfl⟩
    go_num
theorem vol_node {v : Nat → List UInt8} {n : Nat} {N : Nat → NodeA} (h : IsVol v n N) {k : Nat} (hk : k < 32) : (N k).data.length ≤ 2368 ∧ (N k).links ≤ 255 ∧ ((N k).kind = 0 → (N k).data.length = 0) := by
  obtain ⟨S, hr, hN⟩ := h
  have hl : (N k).data.length = (S k).size := by rw [hN k hk]; exact datA_len _ _
  have hk2 : (N k).kind = (S k).kind := by rw [hN k hk]; rfl
  have hlk : (N k).links = (S k).links := by rw [hN k hk]; rfl
  rw [hl, hk2, hlk]
  exact ⟨(hr.ok k hk).size, (hr.ok k hk).links, fun h => ((hr.ok k hk).free h).2⟩
/-! calls whose answers do not matter -/
def VA (w0 : World) (d n l V : Nat) (R : Asn) (w : World) : Prop := ∃ m N, VS w0 d n l V R m N w
section
variable {w0 w : World} {d n l V : Nat} {R : Asn}
theorem VA.gr (h : VA w0 d n l V R w) (hs : Stable R) {w' : World} (g : Gr w w') : VA w0 d n l V R w' := by
  obtain ⟨m, N, h⟩ := h
  exact ⟨m, N, h.gr hs g⟩
theorem VA.sub (h : VA w0 d n l V R w) : Gr w0 w := by
  obtain ⟨m, N, h⟩ := h
  exact h.sub
theorem j_new (h : VA w0 d n l V R w) (hs : Stable R) (h1 : 16 ≤ n) (h2 : n ≤ 512) (kd : Int) :
    Calls Tryz.prog 35 #[.pointer (some ⟨V, 0, none⟩), .int .i64 kd] w fun e w' => ∃ a b : Int, e = .returned (.tuple #[.int .i64 a, .int .i64 b]) ∧ VA w0 d n l V R w' := by
  obtain ⟨m, N, z, ml, st, c1, c2, c3, c4, c5⟩ := h
  refine (o_vnew c3 hs (li_of c1 h1 h2) c2 c4 kd).mono ?_
  rintro e w' ⟨rfl, st', k1, k2, k3, k4⟩
  exact ⟨_, _, rfl, _, _, z, ml, st', c1, k1, k2, k3, k4⟩
theorem j_free (h : VA w0 d n l V R w) (hs : Stable R) (h1 : 16 ≤ n) (h2 : n ≤ 512) (k : Int) :
    Calls Tryz.prog 37 #[.pointer (some ⟨V, 0, none⟩), .int .i64 k] w fun e w' => ∃ a : Int, e = .returned (.int .i64 a) ∧ VA w0 d n l V R w' := by
  obtain ⟨m, N, z, ml, st, c1, c2, c3, c4, c5⟩ := h
  refine (o_vfree c3 hs (li_of c1 h1 h2) c2 c4 k).mono ?_
  rintro e w' ⟨rfl, st', k1, k2, k3, k4⟩
  exact ⟨_, rfl, _, _, z, ml, st', c1, k1, k2, k3, k4⟩
theorem j_cut (h : VA w0 d n l V R w) (hs : Stable R) (h1 : 16 ≤ n) (h2 : n ≤ 512) (k size : Int) :
    Calls Tryz.prog 39 #[.pointer (some ⟨V, 0, none⟩), .int .i64 k, .int .i64 size] w fun e w' => ∃ a : Int, e = .returned (.int .i64 a) ∧ VA w0 d n l V R w' := by
  obtain ⟨m, N, z, ml, st, c1, c2, c3, c4, c5⟩ := h
  refine (o_vcut c3 hs (li_of c1 h1 h2) c2 c4 k size).mono ?_
  rintro e w' ⟨rfl, st', k1, k2, k3, k4⟩
  exact ⟨_, rfl, _, _, z, ml, st', c1, k1, k2, k3, k4⟩
theorem j_write (h : VA w0 d n l V R w) (hs : Stable R) (h1 : 16 ≤ n) (h2 : n ≤ 512) (k off : Int) (s : ByteArray) :
    Calls Tryz.prog 36 #[.pointer (some ⟨V, 0, none⟩), .int .i64 k, .int .i64 off, .string s] w fun e w' => ∃ a : Int, e = .returned (.int .i64 a) ∧ VA w0 d n l V R w' := by
  obtain ⟨m, N, z, ml, st, c1, c2, c3, c4, c5⟩ := h
  refine (o_vwrite c3 hs (li_of c1 h1 h2) c2 c4 k off s).mono ?_
  rintro e w' ⟨rfl, st', k1, k2, k3, k4⟩
  exact ⟨_, rfl, _, _, z, ml, st', c1, k1, k2, k3, k4⟩
theorem j_commit (h : VA w0 d n l V R w) (hs : Stable R) (h1 : 16 ≤ n) (h2 : n ≤ 512) :
    Calls Tryz.prog 14 #[.pointer (some ⟨l, 0, none⟩)] w fun e w' => e = .returned (.int .i64 0) ∧ VA w0 d n l V R w' := by
  obtain ⟨m, N, h⟩ := h
  refine (k_commit h hs h1 h2).mono ?_
  rintro e w' ⟨rfl, k2⟩
  exact ⟨rfl, _, _, k2⟩
theorem kv_home {m : Nat} {N : Nat → NodeA} (h : VS w0 d n l V R m N w) :
    Calls Tryz.prog 16 #[.pointer (some ⟨l, 0, none⟩)] w fun e w' => e = .returned (.int .i64 (n : Int)) ∧ w' = w := by
  obtain ⟨z, ml, st, c1, c2, c3, c4, c5⟩ := h
  have := o_home c3
  rw [c1.len, show ((n + 32 : Nat) : Int) - 32 = (n : Int) by omega] at this
  exact this
theorem VS.node {m : Nat} {N : Nat → NodeA} (h : VS w0 d n l V R m N w) {k : Nat} (hk : k < 32) : (N k).data.length ≤ 2368 ∧ (N k).links ≤ 255 ∧ ((N k).kind = 0 → (N k).data.length = 0) := by
  obtain ⟨z, ml, st, c1, c2, c3, c4, c5⟩ := h
  exact vol_node c4 hk
end
def sumT (N : Nat → NodeA) (j : Nat) : Nat := sumN (fun k => takesN (N k).data.length) j
theorem sumT_succ (N : Nat → NodeA) (j : Nat) : sumT N (j + 1) = sumT N j + takesN (N j).data.length := rfl
theorem takes_bound {s : Nat} (h : s ≤ 2368) : takesN s ≤ 38 := by unfold takesN cntN; split <;> omega
end Go.Proofs.YtlpcccpagmipnaaGreat.P
