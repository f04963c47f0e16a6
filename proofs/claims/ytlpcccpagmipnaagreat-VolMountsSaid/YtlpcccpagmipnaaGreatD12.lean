/- Stage 6: slices.Backward of the writes that wait: its contract for a range over it. No condition. -/
import Derived.Test.YtlpcccpagmipnaaGreatD10
import Derived.RangeFuncNested
import Derived.RangeFuncBox
import Derived.RangeFuncLeaves
import Derived.Shelf.Abstract
import Derived.OwnWalkIn
import Derived.TacticsInMore
import Derived.LoopNIn
import Derived.LoopIn
set_option linter.unusedVariables false
set_option maxRecDepth 50000
namespace Go.Proofs.YtlpcccpagmipnaaGreat.P
open Go.RowKit Go.Shelf
attribute [local go_sem] Oper.semAt_some
abbrev WI := (Int × ByteArray) × Nat
def encW (x : WI) : Array Value := #[.int .i64 (x.2 : Int), .agg #[.int .i64 x.1.1, .string x.1.2]]
/-- What has come when m are still left. -/
def backs (ys : List WI) (m : Nat) : List WI := (ys.drop m).reverse
theorem backs_all (ys : List WI) : backs ys ys.length = [] := by unfold backs; simp
theorem backs_step (ys : List WI) (m : Nat) (x : WI) (h : ys[m]? = some x) : backs ys m = backs ys (m + 1) ++ [x] := by
  obtain ⟨hm, e⟩ := List.getElem?_eq_some_iff.1 h
  unfold backs
  rw [List.drop_eq_getElem_cons hm, List.reverse_cons, e]
theorem backs_len (ys : List WI) (m : Nat) : (backs ys m).length = ys.length - m := by unfold backs; simp
/-- They lie there. -/
def LieW (n₀ : Nat) (W : World) (wo : Option Addr) (ys : List WI) : Prop :=
  ∀ m x, ys[m]? = some x → x.2 = m ∧ ∃ b, wo = some ⟨b, 0, none⟩ ∧ b < n₀ ∧ W.cell? ⟨b, m * 2, none⟩ = some (.int .i64 x.1.1) ∧ W.cell? ⟨b, m * 2 + 1, none⟩ = some (.string x.1.2)
theorem LieW.below {n₀ : Nat} {A B : World} (h : Below n₀ A B) {wo : Option Addr} {ys : List WI} (hl : LieW n₀ A wo ys) : LieW n₀ B wo ys := fun m x hx => by
  obtain ⟨e, b, hb, h0, h1, h2⟩ := hl m x hx
  exact ⟨e, b, hb, h0, (h.cell (p := ⟨b, m * 2, none⟩) h0).trans h1, (h.cell (p := ⟨b, m * 2 + 1, none⟩) h0).trans h2⟩
set_option maxHeartbeats 1000000 in
theorem back_in (F : Fence) (n : Nat) (h5 : F.fn 99) (hro : F.round = none) (a : Option Addr) (len cap : Nat) (w : World) :
    CallsIn F n Tryz.prog 99 #[.slice a len cap] w fun e w' => e = .returned (.func (.func 126) #[] #[.pointer (some ⟨w.heap.size, 0, none⟩)]) ∧ w' = w.alloc (.cells #[.slice a len cap] 124) := by
  refine callsIn_of_wp Tryz.func99 rfl h5 ?_ hro
  simp only [Tryz.ntmps99, List.size_toArray, List.length_cons, List.length_nil, Nat.reduceAdd, Nat.reduceSub, Array.replicate_succ, Array.replicate_zero, List.push_toArray, List.append_toArray, List.nil_append, List.cons_append]
  gi_wp2
  go_ret
  exact ⟨rfl, rfl⟩
set_option maxRecDepth 100000 in
set_option maxHeartbeats 2000000 in
theorem back1_in (F : Fence) (n : Nat) (h8 : F.fn 126) (hro : F.round = none) (hn : 1 ≤ n) (l Bs n₀ : Nat) (wo : Option Addr) (cap : Nat) (ys : List WI) (hreach : ys.length ≤ 4000000000000) (J Jx : List WI → World → Prop)
    (hY : ∀ pre x W, J pre W → pre.length < ys.length → YieldAt F (n - 1) Tryz.prog l (encW x) W fun e W' =>
      (e = .returned (.bool true) ∧ J (pre ++ [x]) W' ∧ Below n₀ W W') ∨ (e = .returned (.bool false) ∧ Jx (pre ++ [x]) W'))
    (W : World) (hBs : W.cell? ⟨Bs, 0, none⟩ = some (.slice wo ys.length cap)) (hBn : Bs < n₀) (hc : LieW n₀ W wo ys) (h0 : J [] W) :
    CallsIn F n Tryz.prog 126 #[.func (.yield l) #[] #[], .pointer (some ⟨Bs, 0, none⟩)] W fun e W' => (∃ v, e = .returned v) ∧
      ((∃ xs, xs = backs ys 0 ∧ J xs W') ∨ (∃ pre, (∃ m, m ≤ ys.length ∧ pre = backs ys m) ∧ Jx pre W')) := by
  refine callsIn_of_wp Tryz.func126 rfl h8 ?_ hro
  simp only [Tryz.ntmps126, List.size_toArray, List.length_cons, List.length_nil, Nat.reduceAdd, Nat.reduceSub, Array.replicate_succ, Array.replicate_zero, List.push_toArray, List.append_toArray, List.nil_append, List.cons_append]
  gi_wp2
  gi_loopw [3] (fun i wr => ∃ m : Nat, m ≤ ys.length ∧ i = .int .i64 ((m : Int) - 1) ∧ J (backs ys m) wr ∧ Below n₀ W wr)
    (fun i _ => (intOf i + 1).toNat)
  case atStart => exact ⟨ys.length, Nat.le_refl _, rfl, by rw [backs_all]; exact h0, Below.refl _ _⟩
  case round =>
    obtain ⟨m, hm, rfl, hJs, hnx⟩ := hrel
    cases m with
    | succ m =>
      obtain ⟨x, hx⟩ : ∃ x, ys[m]? = some x := ⟨ys[m]'(by omega), List.getElem?_eq_getElem _⟩
      obtain ⟨e2, b, rfl, hb, c1, c2⟩ := (hc.below hnx) m x hx
      have cs := (hnx.cell (p := ⟨Bs, 0, none⟩) hBn).trans hBs
      obtain ⟨fn, tmps, assign, body, hy, hR⟩ := hY _ x wr hJs (by rw [backs_len]; omega)
      rw [← backs_step ys m x hx] at hR
      have HNX := Lib.hid hnx
      have hml : m < ys.length := by omega
      have ei : ((m + 1 : Nat) : Int) - 1 = (m : Int) := by omega
      rw [ei]
      unfold encW at hy
      rw [e2] at hy
      generalize hN : ys.length = N at *
      have HN := Lib.hid hN
      clear hN hJs hnx hc hx e2 hBs hY h0
      obtain ⟨⟨xq, xs⟩, xi⟩ := x
      dsimp only at c1 c2 hy
      have hm0 : (0 : Int) ≤ m := by omega
      have hmN : (m : Int) < 4000000000001 := by omega
      gi_wp2
      refine hR.mono ?_
      rintro e W3 (⟨rfl, hJ3, hk3⟩ | ⟨rfl, hJx3⟩)
      · have HB3 := Lib.hid (HNX.out.trans hk3)
        clear hk3
        gi_wp2
        go_roundw
        case rel => exact ⟨m, by omega, rfl, hJ3, HB3.out⟩
        case measure => simp [intOf]
      · gi_wp2
        refine bodyPost_ret (results_none rfl _ _ _) rfl ?_
        exact ⟨⟨_, rfl⟩, .inr ⟨_, ⟨m, by rw [HN.out]; omega, rfl⟩, hJx3⟩⟩
    | zero =>
      have ei : ((0 : Nat) : Int) - 1 = -1 := by omega
      rw [ei]
      gi_wp2
      go_end0
      exact ⟨⟨_, rfl⟩, .inl ⟨_, rfl, hJs⟩⟩
theorem back_stops (F : Fence) (n : Nat) (h8 : F.fn 126) (hro : F.round = none) (hn : 1 ≤ n) (Bs n₀ : Nat) (wo : Option Addr) (cap : Nat) (ys : List WI) (hreach : ys.length ≤ 4000000000000) (w : World) (hBs : Bs < n₀) (hn₀ : n₀ ≤ w.heap.size)
    (hc : w.cell? ⟨Bs, 0, none⟩ = some (.slice wo ys.length cap)) (hI : LieW n₀ w wo ys) :
    SeqStopsK F n Tryz.prog 126 #[.pointer (some ⟨Bs, 0, none⟩)] encW (Below n₀) (fun xs => xs = backs ys 0) (fun pre => ∃ m, m ≤ ys.length ∧ pre = backs ys m) ys.length w := fun l J Jx W hW _ _ hY h0 =>
  back1_in F n h8 hro hn l Bs n₀ wo cap ys hreach J Jx hY W ((hW.cell (p := ⟨Bs, 0, none⟩) (by show Bs < _; omega)).trans hc) hBs (hI.below (hW.mono hn₀)) h0
end Go.Proofs.YtlpcccpagmipnaaGreat.P
namespace Go.Proofs.YtlpcccpagmipnaaGreat.P
open Go.RowKit Go.Shelf
attribute [local go_sem] Oper.semAt_some
def stepR (q : Int) (s : ByteArray) (x : Int × ByteArray) : ByteArray := bif decide (x.1 = q) then x.2 else s
/-- What is read of a sector. -/
def readS (z : DState) (q : Nat) : ByteArray := z.wait.foldl (stepR q) (z.safe[q]?.getD ⟨#[]⟩)
theorem fold_none (q : Int) : ∀ (l : List (Int × ByteArray)) (s : ByteArray), (∀ x ∈ l, x.1 ≠ q) → l.foldl (stepR q) s = s
  | [], s, h => rfl
  | x :: l, s, h => by
    rw [List.foldl_cons, fold_none q l _ (fun y hy => h y (List.mem_cons_of_mem _ hy))]
    unfold stepR
    rw [decide_eq_false (h x (List.mem_cons_self ..))]; rfl
theorem fold_at (q : Int) (l : List (Int × ByteArray)) (s : ByteArray) (m : Nat) (x : Int × ByteArray) (hx : l[m]? = some x) (he : x.1 = q) (h : ∀ y ∈ l.drop (m + 1), y.1 ≠ q) : l.foldl (stepR q) s = x.2 := by
  obtain ⟨hm, e⟩ := List.getElem?_eq_some_iff.1 hx
  have e1 : l = l.take m ++ x :: l.drop (m + 1) := by rw [← e, ← List.drop_eq_getElem_cons hm, List.take_append_drop]
  rw [e1, List.foldl_append, List.foldl_cons, fold_none q _ _ h]
  unfold stepR
  rw [decide_eq_true he]; rfl
theorem zip_fst (l : List (Int × ByteArray)) (n : Nat) (y : Int × ByteArray) (h : y ∈ l.drop n) : ∃ k, (y, k) ∈ l.zipIdx.drop n := by
  have e : (l.zipIdx.drop n).map Prod.fst = l.drop n := by rw [List.map_drop, List.zipIdx_map_fst]
  rw [← e] at h
  obtain ⟨⟨a, k⟩, h1, h2⟩ := List.mem_map.1 h
  exact ⟨k, by rw [← h2]; exact h1⟩
theorem read_done (z : DState) (q : Nat) (h : ∀ x ∈ backs z.wait.zipIdx 0, x.1.1 ≠ (q : Int)) : readS z q = z.safe[q]?.getD ⟨#[]⟩ := by
  unfold readS
  refine fold_none _ _ _ (fun y hy => ?_)
  obtain ⟨k, hk⟩ := zip_fst z.wait 0 y hy
  exact h (y, k) (by unfold backs; exact List.mem_reverse.2 hk)
theorem read_stop (z : DState) (q : Nat) (m : Nat) (p : List WI) (x : WI) (e : p ++ [x] = backs z.wait.zipIdx m) (hx : x.1.1 = (q : Int)) (h : ∀ y ∈ p, y.1.1 ≠ (q : Int)) : readS z q = x.1.2 := by
  by_cases hm : m < z.wait.zipIdx.length
  · have hy : z.wait.zipIdx[m]? = some (z.wait.zipIdx[m]'hm) := List.getElem?_eq_getElem hm
    rw [backs_step _ m _ hy] at e
    obtain ⟨e1, e2⟩ := List.append_inj' e rfl
    injection e2 with e2 _
    rw [← e2, List.getElem?_zipIdx] at hy
    have hw : z.wait[m]? = some x.1 := by
      cases hq : z.wait[m]? with
      | none => rw [hq] at hy; cases hy
      | some v => rw [hq] at hy; injection hy with hy; rw [← hy]
    unfold readS
    refine fold_at _ _ _ m x.1 hw hx (fun y hy => ?_)
    obtain ⟨k, hk⟩ := zip_fst z.wait (m + 1) y hy
    exact h (y, k) (by rw [e1]; unfold backs; exact List.mem_reverse.2 hk)
  · have : backs z.wait.zipIdx m = [] := by unfold backs; rw [List.drop_eq_nil_of_le (by omega)]; rfl
    rw [this] at e
    exact absurd e (by simp)
def noneW (q : Nat) (pre : List WI) : Prop := ∀ x ∈ pre, x.1.1 ≠ (q : Int)
theorem noneW_nil (q : Nat) : noneW q [] := fun _ h => by cases h
def lastOf (q : Nat) (pre : List WI) (s : ByteArray) : Prop := ∃ p x, pre = p ++ [x] ∧ x.1.1 = (q : Int) ∧ noneW q p ∧ x.1.2 = s
def BoxW (W : World) (B : Nat) (x : Int × ByteArray) : Prop := W.heap[B]? = some (.cells #[.int .i64 x.1, .string x.2] 165)
theorem BoxW.own (B : Nat) (x : Int × ByteArray) : Own (fun (_ : Unit) W => BoxW W B x) := fun s X Y row hs hg hrow => by
  refine (hg.block B (Array.getElem?_eq_some_iff.1 hs).1 (fun e' => ?_)).trans hs
  obtain ⟨o, ho, hc⟩ := hrow B e'.symm
  rw [show X.heap[B]? = _ from hs] at ho; cases ho; cases hc
theorem lie_of {w : World} {d sb : Nat} {wb : Option Nat} {z : DState} (h : DiskO w d sb wb z) {wo : Option Addr} {wc : Nat} (k1 : w.cell? ⟨d, 1, none⟩ = some (.slice wo z.wait.length wc)) : LieW w.heap.size w wo z.wait.zipIdx := by
  intro m x hx
  rw [List.getElem?_zipIdx] at hx
  cases hq : z.wait[m]? with
  | none => rw [hq] at hx; cases hx
  | some v =>
    rw [hq] at hx
    injection hx with hx
    subst hx
    obtain ⟨g, wc', hg, e0, e1, e2⟩ := h.waits hq
    rw [k1] at e0
    injection e0 with e0
    injection e0 with e0 _ _
    obtain ⟨o, ho, _⟩ := cells_of_cell e1
    exact ⟨by simp, g, e0, (Array.getElem?_eq_some_iff.1 ho).1, e1, e2⟩
theorem zipIdx_len (l : List (Int × ByteArray)) : l.zipIdx.length = l.length := by simp
set_option maxRecDepth 100000 in
set_option maxHeartbeats 4000000 in
theorem c_dread_in (w : World) (d sb : Nat) (wb : Option Nat) (z : DState) (h : DiskO w d sb wb z) (ho : z.off = false) (q : Nat) (hq : q < z.safe.length) (hh : hasB z q = true) (hm : z.wait.length ≤ 4000000000000) :
    CallsIn Fence.wide 6 Tryz.prog 65 #[.pointer (some ⟨d, 0, none⟩), .int .i64 (q : Int)] w fun e w' => e = .returned (.tuple #[.string (readS z q), .int .i64 0]) ∧ Gr w w' := by
  have H := Lib.hid h
  obtain ⟨sc, wo, wc, hb, hr⟩ := h
  have hd := blk_lt hb
  have HG : RowKit.Hid (Gr w (((w.alloc (.cells #[.int .i64 (q : Int)] 3)).alloc (.cells #[.string ⟨#[]⟩] 9)).alloc (.cells #[.int .i64 0] 29))) := Lib.hid (by go_grown)
  have H3 := Lib.hid (H.out.gr HG.out)
  obtain ⟨sc3, wo3, wc3, hb3, hr3⟩ := H3.out
  have k2 := blk_cell hb3 2 (v := .bool z.off) rfl
  have k1 := blk_cell hb3 1 (v := .slice wo3 z.wait.length wc3) rfl
  rw [ho] at k2
  have CH := c_has (((w.alloc (.cells #[.int .i64 (q : Int)] 3)).alloc (.cells #[.string ⟨#[]⟩] 9)).alloc (.cells #[.int .i64 0] 29)) d sb wb z H3.out q
  rw [hh] at CH
  clear hb hr hb3 hr3
  refine callsIn_of_wp_marks Tryz.func65 rfl trivial ?_ rfl
  simp only [Tryz.ntmps65, List.size_toArray, List.length_cons, List.length_nil, Nat.reduceAdd, Nat.reduceSub, Array.replicate_succ, Array.replicate_zero, List.push_toArray, List.append_toArray, List.nil_append, List.cons_append]
  gi_wp2_with first
    | (refine ⟨trivial, ?_⟩; gi_at_call 98; refine (callsIn_wide.2 CH).mono ?_; rintro e w' ⟨rfl, rfl⟩)
    | (refine ⟨trivial, ?_⟩; gi_at_call 99; refine (back_in Fence.wide _ trivial rfl _ _ _ _).mono ?_; rintro e w' ⟨rfl, rfl⟩)
  have hW3 : (((w.alloc (.cells #[.int .i64 (q : Int)] 3)).alloc (.cells #[.string ⟨#[]⟩] 9)).alloc (.cells #[.int .i64 0] 29)).heap.size = w.heap.size + 3 := by simp
  have b0 : Boxed (((w.alloc (.cells #[.int .i64 (q : Int)] 3)).alloc (.cells #[.string ⟨#[]⟩] 9)).alloc (.cells #[.int .i64 0] 29)) w.heap.size 3 (.int .i64 (q : Int)) := blk_alloc _ (blk_alloc _ (blk_new w _))
  have b1 : Boxed (((w.alloc (.cells #[.int .i64 (q : Int)] 3)).alloc (.cells #[.string ⟨#[]⟩] 9)).alloc (.cells #[.int .i64 0] 29)) (w.heap.size + 1) 9 (.string ⟨#[]⟩) := blk_alloc _ (by have := blk_new (w.alloc (.cells #[.int .i64 (q : Int)] 3)) (.cells #[.string ⟨#[]⟩] 9); rwa [World.size_alloc] at this)
  have b2 : Boxed (((w.alloc (.cells #[.int .i64 (q : Int)] 3)).alloc (.cells #[.string ⟨#[]⟩] 9)).alloc (.cells #[.int .i64 0] 29)) (w.heap.size + 1 + 1) 29 (.int .i64 0) := by have := blk_new ((w.alloc (.cells #[.int .i64 (q : Int)] 3)).alloc (.cells #[.string ⟨#[]⟩] 9)) (.cells #[.int .i64 0] 29); rwa [World.size_alloc, World.size_alloc] at this
  clear CH k2
  generalize (((w.alloc (.cells #[.int .i64 (q : Int)] 3)).alloc (.cells #[.string ⟨#[]⟩] 9)).alloc (.cells #[.int .i64 0] 29)) = w3 at *
  have bS := Boxed.new w3 124 (.slice wo3 z.wait.length wc3)
  rw [hW3] at bS
  have hgr4 : Gr w (w3.alloc (.cells #[.slice wo3 z.wait.length wc3] 124)) := gtrans HG.out (Below.alloc (Below.refl _ _) (Nat.le_refl _) _)
  have hd4 := (HG.out).size
  have H4 := Lib.hid (H3.out.gr (Below.alloc (Below.refl _ w3) (Nat.le_refl _) (.cells #[.slice wo3 z.wait.length wc3] 124)))
  have k14 : (w3.alloc (.cells #[.slice wo3 z.wait.length wc3] 124)).cell? ⟨d, 1, none⟩ = some (.slice wo3 z.wait.length wc3) := calloc _ k1
  have b0 := b0.alloc (.cells #[.slice wo3 z.wait.length wc3] 124)
  have b1 := b1.alloc (.cells #[.slice wo3 z.wait.length wc3] 124)
  have b2 := b2.alloc (.cells #[.slice wo3 z.wait.length wc3] 124)
  have hW0 : (w3.alloc (.cells #[.slice wo3 z.wait.length wc3] 124)).heap.size = w.heap.size + 1 + 1 + 1 + 1 := by rw [World.size_alloc, hW3]
  generalize (w3.alloc (.cells #[.slice wo3 z.wait.length wc3] 124)) = W0 at *
  have HGW := Lib.hid hgr4
  have hI := lie_of H4.out k14
  refine wpIn_rangeFunc_ownH rfl (by omega) (gf := 126) (lb := #[.pointer (some ⟨w.heap.size + 1 + 1 + 1, 0, none⟩)]) rfl trivial (enters_of Tryz.func126 (by kernel_rfl) rfl)
    (back_stops Fence.wide _ trivial rfl (by omega) (w.heap.size + 1 + 1 + 1) W0.heap.size wo3 wc3 z.wait.zipIdx (by rw [zipIdx_len]; exact hm) W0 (by omega) (Nat.le_refl _) (by rw [zipIdx_len]; exact bS.cell) hI) belowK_t (belowK_b (Nat.le_refl _)) (Below.refl _ _) (fun _ => rfl)
    (fun pre W => (((noneW q pre ∧ Boxed W w.heap.size 3 (.int .i64 (q : Int))) ∧ Boxed W (w.heap.size + 1) 9 (.string ⟨#[]⟩)) ∧ Boxed W (w.heap.size + 1 + 1) 29 (.int .i64 0)) ∧ Below W0.heap.size W0 W)
    (fun c pre W => ((c = .ret ∧ ∃ s, lastOf q pre s ∧ Boxed W (w.heap.size + 1) 9 (.string s)) ∧ Boxed W (w.heap.size + 1 + 1) 29 (.int .i64 0)) ∧ Below w.heap.size w W)
    (OwnFrom.and (OwnFrom.and (OwnFrom.and (OwnFrom.and (ownFrom_pure _ _) (Own.from (boxed_own _ _ _) _)) (Own.from (boxed_own _ _ _) _)) (Own.from (boxed_own _ _ _) _)) (ownFrom_below (Nat.le_refl _) (by omega)))
    (fun c => OwnFrom.and (OwnFrom.and (OwnFrom.and (ownFrom_pure _ _) (fun s X Y row hs hg hr => by obtain ⟨p, e1, e2⟩ := hs; exact ⟨p, e1, boxed_own _ _ (fun (_ : Unit) => Value.string p) () X Y row e2 hg (fun r e => (hr r e).2)⟩)) (Own.from (boxed_own _ _ _) _)) (ownFrom_below (Nat.le_refl _) (by omega)))
    ⟨⟨⟨⟨noneW_nil _, b0⟩, b1⟩, b2⟩, Below.refl _ _⟩
    (fun x a' W => ∃ Bx, w.heap.size + 1 + 1 + 1 < Bx ∧ BoxW W Bx x.1 ∧ a' = { tmps := #[.pointer (some ⟨d, 0, none⟩), .int .i64 (q : Int), undef, .pointer (some ⟨w.heap.size, 0, none⟩), .pointer (some ⟨w.heap.size + 1, 0, none⟩), .pointer (some ⟨w.heap.size + 1 + 1, 0, none⟩), undef, .pointer (some ⟨Bx, 0, none⟩), .pointer (some ⟨d, 0, none⟩), .bool false, .pointer (some ⟨d, 0, none⟩), .pointer (some ⟨d, 0, none⟩), .pointer (some ⟨d, 2, none⟩), .bool false, .pointer (some ⟨d, 0, none⟩), .int .i64 (q : Int), .bool true, .bool false, .pointer (some ⟨d, 0, none⟩), .pointer (some ⟨d, 0, none⟩), .pointer (some ⟨d, 1, none⟩), .slice wo3 z.wait.length wc3, .func (.func 126) #[] #[.pointer (some ⟨w.heap.size + 1 + 1 + 1, 0, none⟩)], .int .i64 (x.2 : Int), .agg #[.int .i64 x.1.1, .string x.1.2], undef, undef, undef, undef, undef, undef, undef, undef, undef, undef, undef, undef, undef], defers := [] })
    (fun x a' _ X Y row hs hg hr => by obtain ⟨Bx, e1, e2, e3⟩ := hs; exact ⟨Bx, e1, BoxW.own Bx x.1 () X Y row e2 hg (fun r e => (hr r e).2), e3⟩)
    ?assign ?body ?done ?stop
  case assign =>
    rintro l pre x W K ⟨⟨⟨⟨hp, c0⟩, c1⟩, c2⟩, hB1⟩ hK
    obtain ⟨⟨xq, xs⟩, xi⟩ := x
    have hsz := hB1.size
    unfold encW
    gi_wp2
    exact hK _ _ ((KeepsOthers.alloc _ _).from _) ((Below.refl _ W).alloc hB1.size _) ⟨⟨⟨⟨hp, c0.alloc _⟩, c1.alloc _⟩, c2.alloc _⟩, hB1.alloc hB1.size _⟩ ⟨W.heap.size, by omega, blk_new W _, rfl⟩
  case body =>
    rintro l pre x a' W hl ⟨r, hr⟩ ⟨⟨⟨⟨hp, c0⟩, c1⟩, c2⟩, hB1⟩ ⟨Bx, hBx, bX, rfl⟩ hlt
    obtain ⟨⟨xq, xs⟩, xi⟩ := x
    have d0 := c0.cell
    have d1 := c1.cell
    have d2 := c2.cell
    have f1 := c1.frozen
    have f2 := c2.frozen
    have x0 := blk_cell bX 0 (v := .int .i64 xq) rfl
    have x1 := blk_cell bX 1 (v := .string xs) rfl
    by_cases hqq : xq = (q : Int)
    · subst hqq
      gi_wp2
      exact ⟨((KeepsOthers.setCell _ _ _).trans (KeepsOthers.setCell _ _ _)).from _, ⟨⟨rfl, xs, ⟨pre, _, rfl, rfl, hp, rfl⟩, (c1.set _).other (by omega) _⟩, (c2.other (by omega) _).set _⟩, (((HGW.out.trans (hB1.mono (by omega))).setCell (p := ⟨w.heap.size + 1, 0, none⟩) (by simp) _).setCell (p := ⟨w.heap.size + 1 + 1, 0, none⟩) (by simp; omega) _)⟩
    · have hqb : (xq == (q : Int)) = false := beq_eq_false_iff_ne.2 hqq
      gi_wp2
      exact ⟨KeepsFrom.refl _ _, Below.refl _ _, ⟨⟨⟨fun y hy => (List.mem_append.1 hy).elim (hp y) (fun e => by rw [List.mem_singleton.1 e]; exact hqq), c0⟩, c1⟩, c2⟩, hW0 ▸ hB1⟩
  case done =>
    rintro D zs W hD rfl ⟨⟨⟨⟨hp, c0⟩, c1⟩, c2⟩, hB1⟩ hK
    have HW := Lib.hid (H4.out.gr hB1)
    obtain ⟨sc', s0, sf, scell⟩ := HW.out.safes
    have s1 := scell q _ (List.getElem?_eq_getElem hq)
    have d0 := c0.cell
    have d1 := c1.cell
    have d2 := c2.cell
    have f1 := c1.frozen
    have f2 := c2.frozen
    have hr : readS z q = z.safe[q] := by rw [read_done z q hp, List.getElem?_eq_getElem hq]; rfl
    have HR := Lib.hid hr
    clear hr
    generalize z.safe[q] = rs at *
    clear sf scell
    have hmx : Tryz.prog.follows .mixedOrders = true := by kernel_rfl
    gi_wp2
    gi_region
    all_goals gi_wp2
    all_goals
      have hKO : KeepsOthers W ((W.setCell ⟨w.heap.size + 1, 0, none⟩ (.string rs)).setCell ⟨w.heap.size + 1 + 1, 0, none⟩ (.int .i64 0)).drew := ((KeepsOthers.setCell _ _ _).trans (KeepsOthers.setCell _ _ _)).trans (KeepsOthers.drew _)
      have hBW : Below w.heap.size w ((W.setCell ⟨w.heap.size + 1, 0, none⟩ (.string rs)).setCell ⟨w.heap.size + 1 + 1, 0, none⟩ (.int .i64 0)).drew := (((HGW.out.trans (hB1.mono (by omega))).setCell (p := ⟨w.heap.size + 1, 0, none⟩) (by simp) _).setCell (p := ⟨w.heap.size + 1 + 1, 0, none⟩) (by simp; omega) _).drew
      have g1 : Boxed ((W.setCell ⟨w.heap.size + 1, 0, none⟩ (.string rs)).setCell ⟨w.heap.size + 1 + 1, 0, none⟩ (.int .i64 0)).drew (w.heap.size + 1) 9 (.string rs) := (c1.set _).other (by omega) _
      have g2 : Boxed ((W.setCell ⟨w.heap.size + 1, 0, none⟩ (.string rs)).setCell ⟨w.heap.size + 1 + 1, 0, none⟩ (.int .i64 0)).drew (w.heap.size + 1 + 1) 29 (.int .i64 0) := (c2.other (by omega) _).set _
      have hK' := hKO.same D _ hK rfl
      generalize ((W.setCell ⟨w.heap.size + 1, 0, none⟩ (.string rs)).setCell ⟨w.heap.size + 1 + 1, 0, none⟩ (.int .i64 0)).drew = WE at *
      refine ⟨by simp, .inl ⟨_, _, rfl, run_takeDeferred hK', ?_⟩⟩
      have hc1 := cell_kept g1.cell (grownBy_putObj' _ D (.deferred none)) (fun r e => by cases e; exact ⟨_, hK', rfl⟩)
      have hc2 := cell_kept g2.cell (grownBy_putObj' _ D (.deferred none)) (fun r e => by cases e; exact ⟨_, hK', rfl⟩)
      exact ⟨_, res_cc rfl _ _ _ _ _ (.string rs) (.int .i64 0) rfl rfl (by go_simp) (by go_simp), by rw [HR.out], hBW.trans (belowK_b (w := w) (Nat.le_refl _) WE D _ _ (by omega) hK' rfl rfl)⟩
  case stop =>
    rintro D c pre W hD ⟨m, hm2, hpre⟩ ⟨⟨⟨rfl, s, hl, c1⟩, c2⟩, hB1⟩ hK
    obtain ⟨p, x, hp, hx, hn, rfl⟩ := hl
    have hr := read_stop z q m p x (hp.symm.trans hpre) hx hn
    have HR := Lib.hid hr
    clear hr
    gi_wp2
    refine ⟨by simp, .inl ⟨_, _, rfl, run_takeDeferred hK, ?_⟩⟩
    have hc1 := cell_kept c1.cell (grownBy_putObj' _ D (.deferred none)) (fun r e => by cases e; exact ⟨_, hK, rfl⟩)
    have hc2 := cell_kept c2.cell (grownBy_putObj' _ D (.deferred none)) (fun r e => by cases e; exact ⟨_, hK, rfl⟩)
    exact ⟨_, res_cc rfl _ _ _ _ _ (.string x.1.2) (.int .i64 0) rfl rfl (by go_simp) (by go_simp), by rw [HR.out], hB1.trans (belowK_b (w := w) (Nat.le_refl _) W D _ _ (by omega) hK rfl rfl)⟩
theorem c_dread (w : World) (d sb : Nat) (wb : Option Nat) (z : DState) (h : DiskO w d sb wb z) (ho : z.off = false) (q : Nat) (hq : q < z.safe.length) (hm : z.wait.length ≤ 4000000000000) :
    Calls Tryz.prog 65 #[.pointer (some ⟨d, 0, none⟩), .int .i64 (q : Int)] w fun e w' => e = .returned (.tuple #[.string (readS z q), .int .i64 0]) ∧ Gr w w' :=
  callsIn_wide.1 (c_dread_in w d sb wb z h ho q hq (by unfold hasB; simp [hq]) hm)
theorem c_dread_no (w : World) (d sb : Nat) (wb : Option Nat) (z : DState) (h : DiskO w d sb wb z) (ho : z.off = false) (i : Int) (hh : hasB z i = false) :
    Calls Tryz.prog 65 #[.pointer (some ⟨d, 0, none⟩), .int .i64 i] w fun e w' => e = .returned (.tuple #[.string ⟨#[]⟩, .int .i64 1]) ∧ Gr w w' := by
  have H := Lib.hid h
  obtain ⟨sv, wv, hb⟩ := h.cellsOf
  have hd := blk_lt hb
  have HG : RowKit.Hid (Gr w (((w.alloc (.cells #[.int .i64 i] 3)).alloc (.cells #[.string ⟨#[]⟩] 9)).alloc (.cells #[.int .i64 0] 29))) := Lib.hid (by go_grown)
  have H3 := Lib.hid (H.out.gr HG.out)
  obtain ⟨sv3, wv3, hb3⟩ := H3.out.cellsOf
  have k2 := blk_cell hb3 2 (v := .bool z.off) rfl
  rw [ho] at k2
  have CH := c_has (((w.alloc (.cells #[.int .i64 i] 3)).alloc (.cells #[.string ⟨#[]⟩] 9)).alloc (.cells #[.int .i64 0] 29)) d sb wb z H3.out i
  rw [hh] at CH
  clear hb hb3 h
  go_enter Tryz.func65, Tryz.ntmps65
  go_wp2_with (go_at_call 98; refine CH.mono ?_; rintro e w' ⟨rfl, rfl⟩)
  refine bodyPost_ret (res_cc rfl _ _ _ _ _ _ _ rfl rfl (by go_simp) (by go_simp)) rfl ⟨rfl, ?_⟩
  go_grown
end Go.Proofs.YtlpcccpagmipnaaGreat.P
