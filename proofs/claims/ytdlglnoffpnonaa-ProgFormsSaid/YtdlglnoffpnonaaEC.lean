/- Stage 11: Pages. No condition. -/
import Derived.Test.YtdlglnoffpnonaaEB
import Derived.Deep.AppendLies
set_option linter.unusedVariables false
set_option linter.unusedSimpArgs false
set_option maxRecDepth 100000
namespace Go.Proofs.Ytdlglnoffpnonaa.P
open Go.RowKit Go.MuLone Go.Maps
theorem star_assoc {A B C : Asn} {w : World} {F : Nat → Prop} (h : Star (Star A B) C w F) : Star A (Star B C) w F := by
  obtain ⟨F1, F2, ⟨G1, G2, a, b, hd1, s1, s2⟩, c, hd, t1, t2⟩ := h
  exact ⟨G1, fun x => G2 x ∨ F2 x, a, ⟨G2, F2, b, c, fun x hx hy => hd x (s2 x hx) hy, fun x h => .inl h, fun x h => .inr h⟩, fun x hx hy => hy.elim (hd1 x hx) (hd x (s1 x hx)), fun x hx => t1 x (s1 x hx), fun x hx => hx.elim (fun e => t1 x (s2 x e)) (t2 x)⟩
theorem star_unassoc {A B C : Asn} {w : World} {F : Nat → Prop} (h : Star A (Star B C) w F) : Star (Star A B) C w F := by
  obtain ⟨F1, F2, a, ⟨G1, G2, b, c, hd1, s1, s2⟩, hd, t1, t2⟩ := h
  exact ⟨fun x => F1 x ∨ G1 x, G2, ⟨F1, G1, a, b, fun x hx hy => hd x hx (s1 x hy), fun x h => .inl h, fun x h => .inr h⟩, c, fun x hx hy => hx.elim (fun e => hd x e (s2 x hy)) (fun e => hd1 x e hy), fun x hx => hx.elim (t1 x) (fun e => t2 x (s1 x e)), fun x hx => t2 x (s2 x hx)⟩
theorem intInfo : (Try.prog.info? 3).map (fun i => (i.zero, i.size, i.bytes)) = some (some (.int .i64 0), 1, 8) := by kernel_rfl
def ints (l : List Int) : List Value := l.map fun i => .int .i64 i
/-- A variable that holds a slice of numbers, its row one's own. -/
def outA (ob : Nat) (l : List Int) : Asn := fun w F => ∃ (o : Option Addr) (c : Nat), Star (blkA ob (.cells #[.slice o l.length c] 50)) (rowA 3 1 (.slice o l.length c) l.length (ints l)) w F
theorem stable_out (ob : Nat) (l : List Int) : Stable (outA ob l) := by
  rintro w w' F G ⟨o, c, h⟩ hc hg
  exact ⟨o, c, stable_star (stable_blk _ _) (stable_row _ _ _ _ _) w w' F G h hc hg⟩
theorem own_ex2 {w0 w : World} {A : Option Addr → Nat → Asn} {X R : Asn} (h : Own w0 w (Star X (Star (fun w F => ∃ o c, A o c w F) R))) : ∃ o c, Own w0 w (Star X (Star (A o c) R)) := by
  obtain ⟨F, ⟨F1, F2, a, ⟨G1, G2, ⟨o, c, b⟩, d, e1, e2, e3⟩, hd, s1, s2⟩, hb, g⟩ := h
  exact ⟨o, c, F, ⟨F1, F2, a, ⟨G1, G2, b, d, e1, e2, e3⟩, hd, s1, s2⟩, hb, g⟩
set_option maxHeartbeats 1600000 in
theorem o_pages1 {w0 w : World} {ob : Nat} {l : List Int} {A R : Asn} (h : Own w0 w (Star A (Star (outA ob l) R))) (hA : Stable A) (hR : Stable R) (hl : l.length < 100000) (n f g : Int) :
    Calls Try.prog 37 #[.int .i64 n, .int .i64 f, .int .u64 g, .pointer (some ⟨ob, 0, none⟩)] w fun e w' => e = .returned (.tuple #[]) ∧ Own w0 w' (Star A (Star (outA ob (l ++ [n])) R)) := by
  obtain ⟨o, c, h⟩ := own_ex2 (A := fun o c => Star (blkA ob (.cells #[.slice o l.length c] 50)) (rowA 3 1 (.slice o l.length c) l.length (ints l))) h
  have h2 : Own w0 w (Star (blkA ob (.cells #[.slice o l.length c] 50)) (Star (rowA 3 1 (.slice o l.length c) l.length (ints l)) (Star A R))) := h.mono (fun F h => star_mono_r (fun F h => star_swap2 h) (star_swap2 (star_mono_r (fun F h => star_assoc h) h)))
  have c0 := blk_cell h2.blk 0 (v := .slice o l.length c) rfl
  have SA := stable_star hA hR
  have HSA := Lib.hid SA
  have H2 := Lib.hid h2
  obtain ⟨i0, hi0, hz0, hz1, hz2⟩ := info_parts intInfo
  have hlen : (ints l).length = l.length := List.length_map _
  clear h h2 hA hR SA
  go_enter Try.func37, Try.ntmps37
  have H6 := Lib.hid (H2.out.gr (stable_star (stable_blk _ _) (stable_star (stable_row _ _ _ _ _) HSA.out)) ((Gr.refl _).alloc (Nat.le_refl _) (.cells #[.int .i64 n] 3)))
  have HROW := Lib.hid H6.out.right.row
  go_wp2_with (at_builtin; refine wpList_append_lies _ rfl _ _ _ rfl 0 3 i0 (.int .i64 0) 1 8 Try.underlying50 hi0 hz0 hz1 hz2 rfl (by omega) (.slice o l.length c) l.length (ints l) rfl HROW.out ⟨_, 0, none⟩ 1 1 [.int .i64 n] rfl rfl (World.news_of_block (cs := #[.int .i64 n]) (blk_new _ _)) (by simp [Value.oneCell']) (by omega) (by unfold maxLen; omega) (by omega) (by omega) (w.heap.size + 1) (by simp) ?_; intro g2 cap2 w8 hown8 hgrow8 hat8 hlt8; have H9 := Lib.hid (H6.out.swap2.grown (g := g2) (stable_star (stable_blk _ _) HSA.out) hown8 rfl hgrow8 (hat8.elim .inl (fun e => .inr (by simp; omega))) hlt8).swap2; have c8 := blk_cell H9.out.blk 0 (v := .slice o l.length c) rfl; have f8 := blk_frozen H9.out.blk 0; clear hown8 hgrow8 hat8 hlt8)
  go_end0
  have e1 : l.length + 1 = (l ++ [n]).length := by simp
  have e2 : ints l ++ [.int .i64 n] = ints (l ++ [n]) := by unfold ints; simp
  have H10 := H9.out.set (stable_star (stable_row _ _ _ _ _) HSA.out) 0 (.slice (some ⟨g2, 0, none⟩) (l.length + 1) cap2)
  rw [e2] at H10
  refine ⟨rfl, H10.mono (fun F h => star_mono_r (fun F h => ?_) (st3 h))⟩
  obtain ⟨F1, F2, a, b, d, s1, s2⟩ := star_unassoc h
  exact ⟨F1, F2, ⟨some ⟨g2, 0, none⟩, cap2, by rw [← e1]; exact a⟩, b, d, s1, s2⟩
theorem o_pages2 (w : World) (f : Int) : Calls Try.prog 38 #[.int .i64 f] w fun e w' => e = .returned (.tuple #[]) ∧ w' = w := by
  go_enter Try.func38, Try.ntmps38
  go_wp2_with fail
  go_end0
  exact ⟨rfl, rfl⟩
theorem cbs_pages (w0 : World) (pb b fi ob : Nat) : Cbs (X := Sp × List Int) (·.1) (fun x => outA ob x.2) (fun k x => x.2.length ≤ k) pb b fi (fun n _ _ x => (x.1, x.2 ++ [n])) (fun _ x => x) 37 38 #[.pointer (some ⟨ob, 0, none⟩)] #[] w0 := by
  refine ⟨fun x => stable_out _ _, fun k k' x h1 h2 => Nat.le_trans h1 h2, fun k x n f g h _ => ?_, fun k x f h _ => Nat.le_succ_of_le h, ?_, ?_, ?_, ?_⟩
  · show (x.2 ++ [n]).length ≤ k + 1
    rw [List.length_append]; exact Nat.succ_le_succ h
  · intro n f g w; simp [go_sem]
  · intro f w; simp [go_sem]
  · intro k x n f g w R hR hk hk2 _ _ _ h
    exact o_pages1 h (stable_pl _ _ _ _ _) hR (by omega) n f g
  · intro k x f w R hR hk hk2 _ h
    refine (o_pages2 w f).mono ?_
    rintro e w' ⟨rfl, rfl⟩
    exact ⟨rfl, h⟩
end Go.Proofs.Ytdlglnoffpnonaa.P
