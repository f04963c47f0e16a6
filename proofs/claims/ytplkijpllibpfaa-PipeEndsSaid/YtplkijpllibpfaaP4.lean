import Derived.Test.YtplkijpllibpfaaP3
import Derived.Deep.RegionHeld3
import Derived.Deep.DeepCutAuto
set_option linter.unusedVariables false
namespace Go.Proofs.Ytplkijpllibpfaa.P
open Go.RowKit
theorem c_rwrite' (b : ByteArray) (r x : Int) (s : ByteArray) (hb : b.size ≤ maxLen) (hs : s.size ≤ maxLen) (w : World) :
    Calls Try.prog 9 #[.agg #[.string b, .int .i64 r, .int .i64 x], .string s] w fun e w' => e = .returned (.tuple #[.agg #[.string (wB b r s), .int .i64 (wR r r), .int .i64 (wR r x)], .int .i64 (wN b r s), .int .i64 (wE b r s)]) ∧ Gr w w' := c_rwrite b r x s hb hs w
theorem c_write' (b : ByteArray) (r x : Int) (s : ByteArray) (hb : b.size ≤ maxLen) (hs : s.size ≤ maxLen) (w : World) :
    Calls Try.prog 8 #[.agg #[.string b, .int .i64 r, .int .i64 x], .string s] w fun e w' => e = .returned (.tuple #[.agg #[.string (wB b r s), .int .i64 (wR r r), .int .i64 (wR r x)], .int .i64 (wN b r s), .int .i64 (wE b r s)]) ∧ Gr w w' := c_write b r x s hb hs w
/-- an act, as the law's cells have it -/
structure ActV where
  kind : Int
  n : Int
  k : Int
  s : ByteArray
def ActV.ok (x : ActV) : Prop := i64 x.kind ∧ i64 x.n ∧ i64 x.k ∧ x.s.size ≤ maxLen
/-- the acts lie there -/
def Acts (w : World) (bl off len : Nat) (f : Nat → ActV) : Prop :=
  ∀ i, i < len → (f i).ok ∧ w.cell? ⟨bl, off + i * 4, none⟩ = some (.int .i64 (f i).kind) ∧ w.cell? ⟨bl, off + i * 4 + 1, none⟩ = some (.int .i64 (f i).n) ∧
    w.cell? ⟨bl, off + i * 4 + 2, none⟩ = some (.int .i64 (f i).k) ∧ w.cell? ⟨bl, off + i * 4 + 3, none⟩ = some (.string (f i).s)
def pipeAt (w : World) (B : Nat) (b : ByteArray) (r x : Int) : Prop := w.heap[B]? = some (.cells #[.string b, .int .i64 r, .int .i64 x] 23)
def Loop (w0 : World) (Bp Bq : Nat) (wr : World) (b : ByteArray) (r x : Int) : Prop :=
  b.size ≤ maxLen ∧ i64 r ∧ i64 x ∧ Gr w0 wr ∧ pipeAt wr Bp b r x ∧ pipeAt wr Bq b r x
def oc (r x n k : Int) : Bool := okF r n && okF x k
def oA (r x n k : Int) : Int := if oc r x n k then r + n else r
def oX (r x n k : Int) : Int := if oc r x n k then x + k else x
def oE (r x n k : Int) : Int := if oc r x n k then 0 else 1
theorem c_open' (b : ByteArray) (r x n k : Int) (hr : i64 r) (hx : i64 x) (hn : i64 n) (hk : i64 k) (w : World) :
    Calls Try.prog 12 #[.agg #[.string b, .int .i64 r, .int .i64 x], .int .i64 n, .int .i64 k] w fun e w' => e = .returned (.tuple #[.agg #[.string b, .int .i64 (oA r x n k), .int .i64 (oX r x n k)], .int .i64 (oE r x n k)]) ∧ Gr w w' := c_open b r x n k hr hx hn hk w
theorem c_ropen' (b : ByteArray) (r x n k : Int) (hr : i64 r) (hx : i64 x) (hn : i64 n) (hk : i64 k) (w : World) :
    Calls Try.prog 13 #[.agg #[.string b, .int .i64 r, .int .i64 x], .int .i64 n, .int .i64 k] w fun e w' => e = .returned (.tuple #[.agg #[.string b, .int .i64 (oA r x n k), .int .i64 (oX r x n k)], .int .i64 (oE r x n k)]) ∧ Gr w w' := c_ropen b r x n k hr hx hn hk w
theorem c_read' (b : ByteArray) (r x m : Int) (hb : b.size ≤ maxLen) (w : World) :
    Calls Try.prog 10 #[.agg #[.string b, .int .i64 r, .int .i64 x], .int .i64 m] w fun e w' => e = .returned (.tuple #[.agg #[.string (rB b x m), .int .i64 (rR m r), .int .i64 (rR m x)], .string (rS b x m), .int .i64 (rE b x m)]) ∧ Gr w w' := c_read b r x m hb w
theorem c_rread' (b : ByteArray) (r x m : Int) (hb : b.size ≤ maxLen) (w : World) :
    Calls Try.prog 11 #[.agg #[.string b, .int .i64 r, .int .i64 x], .int .i64 m] w fun e w' => e = .returned (.tuple #[.agg #[.string (rB b x m), .int .i64 (rR m r), .int .i64 (rR m x)], .string (rS b x m), .int .i64 (rE b x m)]) ∧ Gr w w' := c_rread b r x m hb w
theorem wB_le (b : ByteArray) (r : Int) (s : ByteArray) (hb : b.size ≤ maxLen) (hs : s.size ≤ maxLen) : (wB b r s).size ≤ maxLen := by
  unfold maxLen at *
  unfold wB; split
  · show 0 ≤ _; omega
  · split
    · rw [ByteArray.size_append, ByteArray.size_extract]; unfold nF; omega
    · exact hb
theorem wR_i64 (r x : Int) (h : i64 x) : i64 (wR r x) := by
  unfold wR; split
  · unfold i64; omega
  · exact h
theorem rB_le (b : ByteArray) (x m : Int) (hb : b.size ≤ maxLen) : (rB b x m).size ≤ maxLen := by
  unfold maxLen at *
  unfold rB; split
  · show 0 ≤ _; omega
  · split
    · rw [ByteArray.size_extract]; omega
    · exact hb
theorem rR_i64 (m y : Int) (h : i64 y) : i64 (rR m y) := by
  unfold rR; split
  · unfold i64; omega
  · exact h
theorem okF_i64 {a b : Int} (h : okF a b = true) : i64 (a + b) := by
  have := of_decide_eq_true (show decide (0 ≤ a + b ∧ a + b ≤ 1024) = true from h)
  unfold i64; omega
theorem oA_i64 (r x n k : Int) (h : i64 r) : i64 (oA r x n k) := by
  unfold oA; split
  · rename_i g; exact okF_i64 (by unfold oc at g; simp at g; exact g.1)
  · exact h
theorem oX_i64 (r x n k : Int) (h : i64 x) : i64 (oX r x n k) := by
  unfold oX; split
  · rename_i g; exact okF_i64 (by unfold oc at g; simp at g; exact g.2)
  · exact h
theorem turned {w0 wx : World} {Bp Bq : Nat} {b b' : ByteArray} {r x r' x' : Int} (hne : Bp ≠ Bq) (lp : w0.heap.size ≤ Bp) (lq : w0.heap.size ≤ Bq) (hb : b.size ≤ maxLen) (hr : i64 r) (hx : i64 x) (g : Gr w0 wx)
    (hp : pipeAt wx Bp b' r' x') (hq : pipeAt wx Bq b' r' x') :
    Loop w0 Bp Bq ((((((wx.setCell ⟨Bp, 0, none⟩ (.string b)).setCell ⟨Bp, 1, none⟩ (.int .i64 r)).setCell ⟨Bp, 2, none⟩ (.int .i64 x)).setCell ⟨Bq, 0, none⟩ (.string b)).setCell ⟨Bq, 1, none⟩ (.int .i64 r)).setCell ⟨Bq, 2, none⟩ (.int .i64 x)) b r x :=
  ⟨hb, hr, hx, Below.setCell (Below.setCell (Below.setCell (Below.setCell (Below.setCell (Below.setCell g lp _) lp _) lp _) lq _) lq _) lq _,
    blk_other (blk_other (blk_other (blk_set (blk_set (blk_set hp 0 _) 1 _) 2 _) ⟨Bq, 0, none⟩ _ hne) ⟨Bq, 1, none⟩ _ hne) ⟨Bq, 2, none⟩ _ hne,
    blk_set (blk_set (blk_set (blk_other (blk_other (blk_other hq ⟨Bp, 0, none⟩ _ hne.symm) ⟨Bp, 1, none⟩ _ hne.symm) ⟨Bp, 2, none⟩ _ hne.symm) 0 _) 1 _) 2 _⟩
set_option maxRecDepth 100000 in
set_option maxHeartbeats 4000000 in
theorem l_plays (b : ByteArray) (r x : Int) (hb : b.size ≤ maxLen) (hr : i64 r) (hx : i64 x) (bl off len cap : Nat) (f : Nat → ActV) (w : World) (hlen : len ≤ 9223372036854775807) (hl : Acts w bl off len f) (hbl : bl < w.heap.size) :
    Calls Try.prog 3 #[.agg #[.string b, .int .i64 r, .int .i64 x], .slice (some ⟨bl, off, none⟩) len cap] w fun e w' => e = .returned (.bool true) ∧ Gr w w' := by
  have HL := Lib.hid hl
  have HB := Lib.hid hb
  have HR := Lib.hid hr
  have HX := Lib.hid hx
  clear hl hb hr hx
  go_enter Try.func3, Try.ntmps3
  go_wp2_with fail
  refine (c_shown _).mono ?_; rintro e w1 ⟨rfl, g1⟩
  have B1 := Lib.hid (blk_gr g1 (blk_new w _))
  have c0 := blk_cell B1.out 0 rfl
  have c1 := blk_cell B1.out 1 rfl
  have c2 := blk_cell B1.out 2 rfl
  have l0 := blk_lt B1.out
  go_wp2_with fail
  clear c0 c1 c2
  go_loopw [7] (fun v7 wr => ∃ (k : Nat) (b' : ByteArray) (r' x' : Int), k ≤ len ∧ v7 = .int .i64 k ∧ Loop w w.heap.size w1.heap.size wr b' r' x') (fun v7 _ => len - (intOf v7).toNat)
  case atStart => exact ⟨0, b, r, x, Nat.zero_le _, rfl, HB.out, HR.out, HX.out, Below.alloc (galloc _ g1) (by have := g1.size; simp at this; omega) _, blk_alloc _ B1.out, blk_new w1 _⟩
  case round =>
    obtain ⟨k, b', r', x', hk, rfl, hloop⟩ := hrel
    by_cases hlt : k < len
    · obtain ⟨hok, a0, a1, a2, a3⟩ := HL.out k hlt
      obtain ⟨hb', hr', hx', gw, hp, hq⟩ := hloop
      have HBR := Lib.hid hb'; have HRR := Lib.hid hr'; have HXR := Lib.hid hx'
      obtain ⟨ok0, ok1, ok2, ok3⟩ := hok
      have O1 := Lib.hid ok1; have O2 := Lib.hid ok2; have O3 := Lib.hid ok3
      replace a0 := kcell gw a0
      replace a1 := kcell gw a1
      replace a2 := kcell gw a2
      replace a3 := kcell gw a3
      have lp := blk_lt hp
      have lq := blk_lt hq
      have p0 := blk_cell hp 0 rfl
      have p1 := blk_cell hp 1 rfl
      have p2 := blk_cell hp 2 rfl
      have q0 := blk_cell hq 0 rfl
      have q1 := blk_cell hq 1 rfl
      have q2 := blk_cell hq 2 rfl
      have lbl := cell_lt a0
      have HP := Lib.hid hp
      have HQ := Lib.hid hq
      have GW := Lib.hid gw
      dsimp only at lbl
      clear hb' hr' hx' ok0 ok1 ok2 ok3 hp hq gw
      by_cases hk1 : (f k).kind = 1
      · rw [hk1] at a0
        have K1 := Lib.hid hk1
        clear hk1
        as_aux_lemma =>
          have F0 := hold p0
          have F1 := hold p1
          have F2 := hold p2
          have F3 := hold a3
          go_upto_region 8 with fail
          go_cut [8, 9, 10] (fun s8 s9 s10 wx => ∃ D : Nat, s8 = .pointer (some ⟨D, 0, none⟩) ∧ s9 = .int .i64 (wN b' r' (f k).s) ∧ s10 = .int .i64 (wE b' r' (f k).s) ∧ pipeAt wx D (wB b' r' (f k).s) (wR r' r') (wR r' x') ∧ Gr wr wx ∧ wr.heap.size ≤ D)
          case first =>
            go_region_held3 (fun w' => Gr wr w') (first | (with_reducible assumption) | go_grown)
              (first | (go_at_call 8; refine (c_write' _ _ _ _ HBR.out O3.out _).mono ?_; rintro e w2 ⟨rfl, g2⟩; have g3 : Gr wr w2 := gtrans (by first | assumption | go_grown) g2; replace g2 := undrew g2; (first | (have B8 := blk_gr g2 (blk_new wr _); have d0 := blk_cell B8 0 rfl; have d1 := blk_cell B8 1 rfl; have d2 := blk_cell B8 2 rfl; have z0 := blk_frozen B8 0; have z1 := blk_frozen B8 1; have z2 := blk_frozen B8 2; have l8 := blk_lt B8) | (have l8 := g3.size))))
            all_goals
              go_wp2_with fail
              go_meet
              first
                | exact ⟨_, rfl, rfl, rfl, blk_new _ _, by go_grown, g3.size⟩
                | exact ⟨_, rfl, rfl, rfl, (blk_set (blk_set (blk_set B8 0 _) 1 _) 2 _), by go_grown, Nat.le_refl _⟩
          case rest =>
            obtain ⟨D1, rfl, rfl, rfl, hD1, gD1, lD1⟩ := hcut
            have HD1 := Lib.hid hD1
            have GD1 := Lib.hid gD1
            obtain ⟨wd, rfl⟩ : ∃ wd : World, wd = wc := ⟨_, rfl⟩
            replace p0 := kcell gD1 p0
            replace p1 := kcell gD1 p1
            replace p2 := kcell gD1 p2
            replace q0 := kcell gD1 q0
            replace q1 := kcell gD1 q1
            replace q2 := kcell gD1 q2
            replace a0 := kcell gD1 a0
            replace a1 := kcell gD1 a1
            replace a2 := kcell gD1 a2
            replace a3 := kcell gD1 a3
            have lD1' := blk_lt hD1
            have sD1 := gD1.size
            have d10 := blk_cell hD1 0 rfl
            have d11 := blk_cell hD1 1 rfl
            have d12 := blk_cell hD1 2 rfl
            clear F0 F1 F2 F3 hD1 gD1
            have F0 := hold q0
            have F1 := hold q1
            have F2 := hold q2
            have F3 := hold a3
            go_upto_region 9 with fail
            go_cut [11, 12, 13] (fun s11 s12 s13 wx => ∃ D : Nat, s11 = .pointer (some ⟨D, 0, none⟩) ∧ s12 = .int .i64 (wN b' r' (f k).s) ∧ s13 = .int .i64 (wE b' r' (f k).s) ∧ pipeAt wx D (wB b' r' (f k).s) (wR r' r') (wR r' x') ∧ Gr wd wx ∧ wd.heap.size ≤ D)
            case first =>
              go_region_held3 (fun w' => Gr wd w') (first | (with_reducible assumption) | go_grown)
                (first | (go_at_call 9; refine (c_rwrite' _ _ _ _ HBR.out O3.out _).mono ?_; rintro e w2 ⟨rfl, g2⟩; have g3 : Gr wd w2 := gtrans (by first | assumption | go_grown) g2; replace g2 := undrew g2; (first | (have B8 := blk_gr g2 (blk_new wd _); have d0 := blk_cell B8 0 rfl; have d1 := blk_cell B8 1 rfl; have d2 := blk_cell B8 2 rfl; have z0 := blk_frozen B8 0; have z1 := blk_frozen B8 1; have z2 := blk_frozen B8 2; have l8 := blk_lt B8) | (have l8 := g3.size))))
              all_goals
                go_wp2_with fail
                go_meet
                first
                  | exact ⟨_, rfl, rfl, rfl, blk_new _ _, by go_grown, g3.size⟩
                  | exact ⟨_, rfl, rfl, rfl, (blk_set (blk_set (blk_set B8 0 _) 1 _) 2 _), by go_grown, Nat.le_refl _⟩
            case rest =>
              obtain ⟨D2, rfl, rfl, rfl, hD2, gD2, lD2⟩ := hcut
              obtain ⟨wx, rfl⟩ : ∃ wx : World, wx = wc := ⟨_, rfl⟩
              replace d10 := kcell gD2 d10
              replace d11 := kcell gD2 d11
              replace d12 := kcell gD2 d12
              have d20 := blk_cell hD2 0 rfl
              have d21 := blk_cell hD2 1 rfl
              have d22 := blk_cell hD2 2 rfl
              have HP2 := Lib.hid (blk_gr gD2 (blk_gr GD1.out HP.out))
              have HQ2 := Lib.hid (blk_gr gD2 (blk_gr GD1.out HQ.out))
              have GW2 := Lib.hid (gtrans GW.out (gtrans GD1.out gD2))
              have lD2' := blk_lt hD2
              have sD2 := gD2.size
              have z0 := blk_frozen HP2.out 0
              have z1 := blk_frozen HP2.out 1
              have z2 := blk_frozen HP2.out 2
              have y0 := blk_frozen HQ2.out 0
              have y1 := blk_frozen HQ2.out 1
              have y2 := blk_frozen HQ2.out 2
              have hp0 := blk_cell HP2.out 0 rfl
              have hp1 := blk_cell HP2.out 1 rfl
              have hp2 := blk_cell HP2.out 2 rfl
              have hq0 := blk_cell HQ2.out 0 rfl
              have hq1 := blk_cell HQ2.out 1 rfl
              have hq2 := blk_cell HQ2.out 2 rfl
              clear F0 F1 F2 F3 hD2 gD2 p0 p1 p2 q0 q1 q2 a0 a1 a2 a3
              have hE : (wE b' r' (f k).s == 0) = true ∨ (wE b' r' (f k).s == 0) = false := by cases (wE b' r' (f k).s == 0) <;> simp
              rcases hE with hE | hE
              · go_wp2_with fail
                refine ⟨⟨k + 1, _, _, _, hlt, rfl, turned (by omega) (by omega) (by omega) (wB_le _ _ _ HBR.out O3.out) (wR_i64 _ _ HRR.out) (wR_i64 _ _ HXR.out) GW2.out HP2.out HQ2.out⟩, by simp only [intOf]; omega⟩
              · go_wp2_with fail
                refine ⟨⟨k + 1, _, _, _, hlt, rfl, HBR.out, HRR.out, HXR.out, GW2.out, HP2.out, HQ2.out⟩, by simp only [intOf]; omega⟩
      · by_cases hk2 : (f k).kind = 2
        · rw [hk2] at a0
          have K2 := Lib.hid hk2
          clear hk2
          as_aux_lemma =>
            have F0 := hold p0
            have F1 := hold p1
            have F2 := hold p2
            have F3 := hold a1
            go_upto_region 16 with fail
            go_cut [14, 15, 16] (fun s14 s15 s16 wx => ∃ D : Nat, s14 = .pointer (some ⟨D, 0, none⟩) ∧ s15 = .string (rS b' x' (f k).n) ∧ s16 = .int .i64 (rE b' x' (f k).n) ∧ pipeAt wx D (rB b' x' (f k).n) (rR (f k).n r') (rR (f k).n x') ∧ Gr wr wx ∧ wr.heap.size ≤ D)
            case first =>
              go_region_held3 (fun w' => Gr wr w') (first | (with_reducible assumption) | go_grown)
                (first | (go_at_call 10; refine (c_read' _ _ _ _ HBR.out _).mono ?_; rintro e w2 ⟨rfl, g2⟩; have g3 : Gr wr w2 := gtrans (by first | assumption | go_grown) g2; replace g2 := undrew g2; (first | (have B8 := blk_gr g2 (blk_new wr _); have d0 := blk_cell B8 0 rfl; have d1 := blk_cell B8 1 rfl; have d2 := blk_cell B8 2 rfl; have z0 := blk_frozen B8 0; have z1 := blk_frozen B8 1; have z2 := blk_frozen B8 2; have l8 := blk_lt B8) | (have l8 := g3.size))))
              all_goals
                go_wp2_with fail
                go_meet
                first
                  | exact ⟨_, rfl, rfl, rfl, blk_new _ _, by go_grown, g3.size⟩
                  | exact ⟨_, rfl, rfl, rfl, (blk_set (blk_set (blk_set B8 0 _) 1 _) 2 _), by go_grown, Nat.le_refl _⟩
            case rest =>
              obtain ⟨D1, rfl, rfl, rfl, hD1, gD1, lD1⟩ := hcut
              have HD1 := Lib.hid hD1
              have GD1 := Lib.hid gD1
              obtain ⟨wd, rfl⟩ : ∃ wd : World, wd = wc := ⟨_, rfl⟩
              replace p0 := kcell gD1 p0
              replace p1 := kcell gD1 p1
              replace p2 := kcell gD1 p2
              replace q0 := kcell gD1 q0
              replace q1 := kcell gD1 q1
              replace q2 := kcell gD1 q2
              replace a0 := kcell gD1 a0
              replace a1 := kcell gD1 a1
              replace a2 := kcell gD1 a2
              replace a3 := kcell gD1 a3
              have lD1' := blk_lt hD1
              have sD1 := gD1.size
              have d10 := blk_cell hD1 0 rfl
              have d11 := blk_cell hD1 1 rfl
              have d12 := blk_cell hD1 2 rfl
              clear F0 F1 F2 F3 hD1 gD1
              have F0 := hold q0
              have F1 := hold q1
              have F2 := hold q2
              have F3 := hold a1
              go_upto_region 17 with fail
              go_cut [17, 18, 19] (fun s17 s18 s19 wx => ∃ D : Nat, s17 = .pointer (some ⟨D, 0, none⟩) ∧ s18 = .string (rS b' x' (f k).n) ∧ s19 = .int .i64 (rE b' x' (f k).n) ∧ pipeAt wx D (rB b' x' (f k).n) (rR (f k).n r') (rR (f k).n x') ∧ Gr wd wx ∧ wd.heap.size ≤ D)
              case first =>
                go_region_held3 (fun w' => Gr wd w') (first | (with_reducible assumption) | go_grown)
                  (first | (go_at_call 11; refine (c_rread' _ _ _ _ HBR.out _).mono ?_; rintro e w2 ⟨rfl, g2⟩; have g3 : Gr wd w2 := gtrans (by first | assumption | go_grown) g2; replace g2 := undrew g2; (first | (have B8 := blk_gr g2 (blk_new wd _); have d0 := blk_cell B8 0 rfl; have d1 := blk_cell B8 1 rfl; have d2 := blk_cell B8 2 rfl; have z0 := blk_frozen B8 0; have z1 := blk_frozen B8 1; have z2 := blk_frozen B8 2; have l8 := blk_lt B8) | (have l8 := g3.size))))
                all_goals
                  go_wp2_with fail
                  go_meet
                  first
                    | exact ⟨_, rfl, rfl, rfl, blk_new _ _, by go_grown, g3.size⟩
                    | exact ⟨_, rfl, rfl, rfl, (blk_set (blk_set (blk_set B8 0 _) 1 _) 2 _), by go_grown, Nat.le_refl _⟩
              case rest =>
                obtain ⟨D2, rfl, rfl, rfl, hD2, gD2, lD2⟩ := hcut
                obtain ⟨wx, rfl⟩ : ∃ wx : World, wx = wc := ⟨_, rfl⟩
                replace d10 := kcell gD2 d10
                replace d11 := kcell gD2 d11
                replace d12 := kcell gD2 d12
                have d20 := blk_cell hD2 0 rfl
                have d21 := blk_cell hD2 1 rfl
                have d22 := blk_cell hD2 2 rfl
                have HP2 := Lib.hid (blk_gr gD2 (blk_gr GD1.out HP.out))
                have HQ2 := Lib.hid (blk_gr gD2 (blk_gr GD1.out HQ.out))
                have GW2 := Lib.hid (gtrans GW.out (gtrans GD1.out gD2))
                have lD2' := blk_lt hD2
                have sD2 := gD2.size
                have z0 := blk_frozen HP2.out 0
                have z1 := blk_frozen HP2.out 1
                have z2 := blk_frozen HP2.out 2
                have y0 := blk_frozen HQ2.out 0
                have y1 := blk_frozen HQ2.out 1
                have y2 := blk_frozen HQ2.out 2
                have hp0 := blk_cell HP2.out 0 rfl
                have hp1 := blk_cell HP2.out 1 rfl
                have hp2 := blk_cell HP2.out 2 rfl
                have hq0 := blk_cell HQ2.out 0 rfl
                have hq1 := blk_cell HQ2.out 1 rfl
                have hq2 := blk_cell HQ2.out 2 rfl
                clear F0 F1 F2 F3 hD2 gD2 p0 p1 p2 q0 q1 q2 a0 a1 a2 a3
                have hE : (rE b' x' (f k).n == 0) = true ∨ (rE b' x' (f k).n == 0) = false := by cases (rE b' x' (f k).n == 0) <;> simp
                rcases hE with hE | hE
                · go_wp2_with fail
                  refine ⟨⟨k + 1, _, _, _, hlt, rfl, turned (by omega) (by omega) (by omega) (rB_le _ _ _ HBR.out) (rR_i64 _ _ HRR.out) (rR_i64 _ _ HXR.out) GW2.out HP2.out HQ2.out⟩, by simp only [intOf]; omega⟩
                · go_wp2_with fail
                  refine ⟨⟨k + 1, _, _, _, hlt, rfl, HBR.out, HRR.out, HXR.out, GW2.out, HP2.out, HQ2.out⟩, by simp only [intOf]; omega⟩
        · by_cases hk3 : (f k).kind = 3
          · rw [hk3] at a0
            have K3 := Lib.hid hk3
            clear hk3
            as_aux_lemma =>
              have F0 := hold p0
              have F1 := hold p1
              have F2 := hold p2
              have F3 := hold a1
              have F4 := hold a2
              go_upto_region 24 with fail
              go_cut [20, 21] (fun s20 s21 wx => ∃ D : Nat, s20 = .pointer (some ⟨D, 0, none⟩) ∧ s21 = .int .i64 (oE r' x' (f k).n (f k).k) ∧ pipeAt wx D b' (oA r' x' (f k).n (f k).k) (oX r' x' (f k).n (f k).k) ∧ Gr wr wx ∧ wr.heap.size ≤ D)
              case first =>
                go_region_held3 (fun w' => Gr wr w') (first | (with_reducible assumption) | go_grown)
                  (first | (go_at_call 12; refine (c_open' _ _ _ _ _ HRR.out HXR.out O1.out O2.out _).mono ?_; rintro e w2 ⟨rfl, g2⟩; have g3 : Gr wr w2 := gtrans (by first | assumption | go_grown) g2; replace g2 := undrew g2; (first | (have B8 := blk_gr g2 (blk_new wr _); have d0 := blk_cell B8 0 rfl; have d1 := blk_cell B8 1 rfl; have d2 := blk_cell B8 2 rfl; have z0 := blk_frozen B8 0; have z1 := blk_frozen B8 1; have z2 := blk_frozen B8 2; have l8 := blk_lt B8) | (have l8 := g3.size))))
                all_goals
                  go_wp2_with fail
                  go_meet
                  first
                    | exact ⟨_, rfl, rfl, blk_new _ _, by go_grown, g3.size⟩
                    | exact ⟨_, rfl, rfl, (blk_set (blk_set (blk_set B8 0 _) 1 _) 2 _), by go_grown, Nat.le_refl _⟩
              case rest =>
                obtain ⟨D1, rfl, rfl, hD1, gD1, lD1⟩ := hcut
                have HD1 := Lib.hid hD1
                have GD1 := Lib.hid gD1
                obtain ⟨wd, rfl⟩ : ∃ wd : World, wd = wc := ⟨_, rfl⟩
                replace p0 := kcell gD1 p0
                replace p1 := kcell gD1 p1
                replace p2 := kcell gD1 p2
                replace q0 := kcell gD1 q0
                replace q1 := kcell gD1 q1
                replace q2 := kcell gD1 q2
                replace a0 := kcell gD1 a0
                replace a1 := kcell gD1 a1
                replace a2 := kcell gD1 a2
                replace a3 := kcell gD1 a3
                have lD1' := blk_lt hD1
                have sD1 := gD1.size
                have d10 := blk_cell hD1 0 rfl
                have d11 := blk_cell hD1 1 rfl
                have d12 := blk_cell hD1 2 rfl
                clear F0 F1 F2 F3 hD1 gD1
                have F0 := hold q0
                have F1 := hold q1
                have F2 := hold q2
                have F3 := hold a1
                have F4 := hold a2
                go_upto_region 25 with fail
                go_cut [22, 23] (fun s22 s23 wx => ∃ D : Nat, s22 = .pointer (some ⟨D, 0, none⟩) ∧ s23 = .int .i64 (oE r' x' (f k).n (f k).k) ∧ pipeAt wx D b' (oA r' x' (f k).n (f k).k) (oX r' x' (f k).n (f k).k) ∧ Gr wd wx ∧ wd.heap.size ≤ D)
                case first =>
                  go_region_held3 (fun w' => Gr wd w') (first | (with_reducible assumption) | go_grown)
                    (first | (go_at_call 13; refine (c_ropen' _ _ _ _ _ HRR.out HXR.out O1.out O2.out _).mono ?_; rintro e w2 ⟨rfl, g2⟩; have g3 : Gr wd w2 := gtrans (by first | assumption | go_grown) g2; replace g2 := undrew g2; (first | (have B8 := blk_gr g2 (blk_new wd _); have d0 := blk_cell B8 0 rfl; have d1 := blk_cell B8 1 rfl; have d2 := blk_cell B8 2 rfl; have z0 := blk_frozen B8 0; have z1 := blk_frozen B8 1; have z2 := blk_frozen B8 2; have l8 := blk_lt B8) | (have l8 := g3.size))))
                  all_goals
                    go_wp2_with fail
                    go_meet
                    first
                      | exact ⟨_, rfl, rfl, blk_new _ _, by go_grown, g3.size⟩
                      | exact ⟨_, rfl, rfl, (blk_set (blk_set (blk_set B8 0 _) 1 _) 2 _), by go_grown, Nat.le_refl _⟩
                case rest =>
                  obtain ⟨D2, rfl, rfl, hD2, gD2, lD2⟩ := hcut
                  obtain ⟨wx, rfl⟩ : ∃ wx : World, wx = wc := ⟨_, rfl⟩
                  replace d10 := kcell gD2 d10
                  replace d11 := kcell gD2 d11
                  replace d12 := kcell gD2 d12
                  have d20 := blk_cell hD2 0 rfl
                  have d21 := blk_cell hD2 1 rfl
                  have d22 := blk_cell hD2 2 rfl
                  have HP2 := Lib.hid (blk_gr gD2 (blk_gr GD1.out HP.out))
                  have HQ2 := Lib.hid (blk_gr gD2 (blk_gr GD1.out HQ.out))
                  have GW2 := Lib.hid (gtrans GW.out (gtrans GD1.out gD2))
                  have lD2' := blk_lt hD2
                  have sD2 := gD2.size
                  have z0 := blk_frozen HP2.out 0
                  have z1 := blk_frozen HP2.out 1
                  have z2 := blk_frozen HP2.out 2
                  have y0 := blk_frozen HQ2.out 0
                  have y1 := blk_frozen HQ2.out 1
                  have y2 := blk_frozen HQ2.out 2
                  have hp0 := blk_cell HP2.out 0 rfl
                  have hp1 := blk_cell HP2.out 1 rfl
                  have hp2 := blk_cell HP2.out 2 rfl
                  have hq0 := blk_cell HQ2.out 0 rfl
                  have hq1 := blk_cell HQ2.out 1 rfl
                  have hq2 := blk_cell HQ2.out 2 rfl
                  clear F0 F1 F2 F3 hD2 gD2 p0 p1 p2 q0 q1 q2 a0 a1 a2 a3
                  go_wp2_with fail
                  refine ⟨⟨k + 1, _, _, _, hlt, rfl, turned (by omega) (by omega) (by omega) (HBR.out) (oA_i64 _ _ _ _ HRR.out) (oX_i64 _ _ _ _ HXR.out) GW2.out HP2.out HQ2.out⟩, by simp only [intOf]; omega⟩
          · have e1 : ((f k).kind == 1) = false := by simpa using hk1
            have e2 : ((f k).kind == 2) = false := by simpa using hk2
            have e3 : ((f k).kind == 3) = false := by simpa using hk3
            clear hk1 hk2 hk3
            go_wp2_with fail
            refine ⟨⟨k + 1, b', r', x', hlt, rfl, HBR.out, HRR.out, HXR.out, GW.out, HP.out, HQ.out⟩, by simp only [intOf]; omega⟩
    · go_wp2_with fail
      go_ret
      exact ⟨rfl, hloop.2.2.2.1⟩
end Go.Proofs.Ytplkijpllibpfaa.P
