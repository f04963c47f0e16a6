/- Stage 11: the document's Pages. No condition. -/
import Derived.Test.YtdlglnoffpnonaaGreatU2
import Derived.Test.YtdlglnoffpnonaaGreatED
import Derived.Deep.AppendLies
import Derived.Deep.LoopGhost
import Derived.Test.YtdlglnoffpnonaaGreatU6
import Derived.Test.YtdlglnoffpnonaaGreatPT
import Derived.Test.YtdlglnoffpnonaaGreatEM
set_option linter.unusedVariables false
set_option linter.unusedSimpArgs false
set_option maxRecDepth 100000
namespace Go.Proofs.YtdlglnoffpnonaaGreat.P
open Go.RowKit Go.MuLone Go.Maps
structure Pgr where
  n : Nat
  b : Int
  f : Nat
def pgCells (l : List Pgr) : List Value := l.flatMap fun p => [.int .i64 (p.n : Int), .int .u64 p.b, .int .i64 (p.f : Int)]
def tbI (l : List Nat) : List Value := l.map fun (f : Nat) => .int .i64 (f : Int)
def rqC (z : Sp) (t n : Nat) : Nat → List Pgr
  | 0 => []
  | c + 1 => rqC z t n c ++ (match kid z t c with | none => [] | some g => [⟨n * 32 + c, T z t c % 32, g⟩])
def rqB (z : Sp) (t n : Nat) : Nat → List Pgr
  | 0 => []
  | b + 1 => rqB z t n b ++ (match kid z t b with | none => [] | some g => rqC z g (n * 32 + b) 32)
def tbB (z : Sp) (t : Nat) : Nat → List Nat
  | 0 => []
  | b + 1 => tbB z t b ++ (match kid z t b with | none => [] | some g => [g])
def rqA (z : Sp) (r : Nat) : Nat → List Pgr
  | 0 => []
  | a + 1 => rqA z r a ++ (match kid z r a with | none => [] | some g => rqB z g a 32)
def tbA (z : Sp) (r : Nat) : Nat → List Nat
  | 0 => []
  | a + 1 => tbA z r a ++ (match kid z r a with | none => [] | some g => g :: tbB z g 32)
theorem rqC_len (z : Sp) (t n : Nat) : ∀ c, (rqC z t n c).length ≤ c
  | 0 => Nat.le_refl _
  | c + 1 => by
    have := rqC_len z t n c
    rw [rqC, List.length_append]
    cases kid z t c with
    | none => show _ + 0 ≤ _; omega
    | some g => show _ + 1 ≤ _; omega
theorem rqB_len (z : Sp) (t n : Nat) : ∀ c, (rqB z t n c).length ≤ c * 32
  | 0 => Nat.le_refl _
  | c + 1 => by
    have := rqB_len z t n c
    rw [rqB, List.length_append]
    cases kid z t c with
    | none => show _ + 0 ≤ _; omega
    | some g => have := rqC_len z g (n * 32 + c) 32; show _ + (rqC z g (n * 32 + c) 32).length ≤ _; omega
theorem tbB_len (z : Sp) (t : Nat) : ∀ c, (tbB z t c).length ≤ c
  | 0 => Nat.le_refl _
  | c + 1 => by
    have := tbB_len z t c
    rw [tbB, List.length_append]
    cases kid z t c with
    | none => show _ + 0 ≤ _; omega
    | some g => show _ + 1 ≤ _; omega
theorem rqA_len (z : Sp) (r : Nat) : ∀ c, (rqA z r c).length ≤ c * 1024
  | 0 => Nat.le_refl _
  | c + 1 => by
    have := rqA_len z r c
    rw [rqA, List.length_append]
    cases kid z r c with
    | none => show _ + 0 ≤ _; omega
    | some g => have := rqB_len z g c 32; show _ + (rqB z g c 32).length ≤ _; omega
theorem tbA_len (z : Sp) (r : Nat) : ∀ c, (tbA z r c).length ≤ c * 33
  | 0 => Nat.le_refl _
  | c + 1 => by
    have := tbA_len z r c
    rw [tbA, List.length_append]
    cases kid z r c with
    | none => show _ + 0 ≤ _; omega
    | some g => have := tbB_len z g 32; show _ + ((tbB z g 32).length + 1) ≤ _; omega
theorem pgCells_add (l : List Pgr) (p : Pgr) : pgCells (l ++ [p]) = pgCells l ++ [.int .i64 (p.n : Int), .int .u64 p.b, .int .i64 (p.f : Int)] := by
  unfold pgCells; simp
theorem pgCells_len : ∀ l : List Pgr, (pgCells l).length = l.length * 3
  | [] => rfl
  | a :: l => by
    have := pgCells_len l
    show (_ :: _ :: _ :: pgCells l).length = _
    simp only [List.length_cons]; omega
theorem tbI_add (l : List Nat) (f : Nat) : tbI (l ++ [f]) = tbI l ++ [.int .i64 (f : Int)] := by unfold tbI; rw [List.map_append]; rfl
theorem tbI_len (l : List Nat) : (tbI l).length = l.length := by unfold tbI; exact List.length_map _
theorem pageInfo : (Tryz.prog.info? 67).map (fun i => (i.zero, i.size, i.bytes)) = some (some (.agg #[.int .i64 0, .int .u64 0, .int .i64 0]), 3, 24) := by kernel_rfl
set_option maxHeartbeats 12800000 in
theorem o_rpages {w0 w : World} {rp rb fi : Nat} {z : Sp} {R : Asn} {own : Who} (h : Own w0 w (Star (rpA rp rb fi z.L z.s) R)) (hR : Stable R) (hw : WF fi z own) {r p j : Nat} (hr : own r = some (3, p, j)) :
    Calls Tryz.prog 21 #[.pointer (some ⟨rp, 0, none⟩), .int .i64 (r : Int)] w fun e w' => ∃ o6 c6 o7 c7, e = .returned (.tuple #[.slice o6 (rqA z r 32).length c6, .slice o7 (tbA z r 32).length c7]) ∧ Own w0 w' (Star (rpA rp rb fi z.L z.s) (Star (rowA 67 3 (.slice o6 (rqA z r 32).length c6) (rqA z r 32).length (pgCells (rqA z r 32))) (Star (rowA 3 1 (.slice o7 (tbA z r 32).length c7) (tbA z r 32).length (tbI (tbA z r 32))) R))) := by
  obtain ⟨i0, hi0, hz0, hz1, hz2⟩ := info_parts intInfo
  obtain ⟨i1, hi1, hy0, hy1, hy2⟩ := info_parts pageInfo
  have SQ := Lib.hid (stable_rp rp rb fi z.L z.s)
  have HR := Lib.hid hR
  have ST := Lib.hid (fun (v6 v7 : Value) (P : List Pgr) (Tb : List Nat) => stable_star SQ.out (stable_star (stable_row 67 3 v6 P.length (pgCells P)) (stable_star (stable_row 3 1 v7 Tb.length (tbI Tb)) HR.out)))
  have ST7 := Lib.hid (fun (v6 : Value) (P : List Pgr) => stable_star SQ.out (stable_star (stable_row 67 3 v6 P.length (pgCells P)) HR.out))
  have H0 : RowKit.Hid (Own w0 w (Star (rpA rp rb fi z.L z.s) (Star (rowA 67 3 (.slice none 0 0) 0 []) (Star (rowA 3 1 (.slice none 0 0) 0 []) R)))) := Lib.hid (by
    have a := (h.add (stable_star SQ.out HR.out) (Gr.refl _) (A := rowA 3 1 (.slice none 0 0) 0 []) ⟨fun _ => False, ⟨⟨rfl, .inl ⟨rfl, rfl⟩⟩, fun b hb => by cases hb⟩, fun x hx => hx.elim⟩)
    have b := (a.add (stable_star (stable_row _ _ _ _ _) (stable_star SQ.out HR.out)) (Gr.refl _) (A := rowA 67 3 (.slice none 0 0) 0 []) ⟨fun _ => False, ⟨⟨rfl, .inl ⟨rfl, rfl⟩⟩, fun b hb => by cases hb⟩, fun x hx => hx.elim⟩)
    exact b.rot3)
  have NX : RowKit.Hid (∀ (f hh p' j' k : Nat), own f = some (hh + 1, p', j') → k < 32 → ∀ w1 Q, Stable Q → Own w0 w1 (Star (rpA rp rb fi z.L z.s) Q) → Calls Tryz.prog 47 #[.pointer (some ⟨rp, 0, none⟩), .int .i64 (f : Int), .int .i64 (k : Int)] w1 fun e w' => e = .returned (.int .i64 (kidI (kid z f k))) ∧ Own w0 w' (Star (rpA rp rb fi z.L z.s) Q)) := Lib.hid (fun f hh p' j' k hf hk w1 Q hQ h => o_rnext h hQ hw hf k hk)
  clear h hR
  go_enter Tryz.func21, Tryz.ntmps21
  go_wp2_with fail
  go_loopg [6, 7, 8] 33 (fun t v6 v7 v8 wr => ∃ (a : Nat) (o6 : Option Addr) (c6 : Nat) (o7 : Option Addr) (c7 : Nat), a ≤ 32 ∧ t = 33 - a ∧ v6 = .slice o6 (rqA z r a).length c6 ∧ v7 = .slice o7 (tbA z r a).length c7 ∧ v8 = .int .i64 (a : Int) ∧ Own w0 wr (Star (rpA rp rb fi z.L z.s) (Star (rowA 67 3 (.slice o6 (rqA z r a).length c6) (rqA z r a).length (pgCells (rqA z r a))) (Star (rowA 3 1 (.slice o7 (tbA z r a).length c7) (tbA z r a).length (tbI (tbA z r a))) R))))
  case atStart => exact ⟨0, none, 0, none, 0, by omega, rfl, rfl, rfl, rfl, H0.out⟩
  case round =>
    clear H0
    obtain ⟨a, o6, c6, o7, c7, ha, rfl, rfl, rfl, rfl, ho⟩ := hrel
    have H := Lib.hid ho
    clear ho
    by_cases ha2 : a < 32
    · have e1 : (a : Int) < 32 := by omega
      have e2 : IntKind.i64.wrap ((a : Int) + 1) = (a : Int) + 1 := wrapI _ (by omega) (by omega)
      have N1 := Lib.hid (NX.out r 2 p j a hr ha2 _ _ (by exact stable_star (stable_row _ _ _ _ _) (stable_star (stable_row _ _ _ _ _) HR.out)) H.out)
      have lp := rqA_len z r a
      have lt := tbA_len z r a
      cases hk : kid z r a with
      | none =>
        rw [hk] at N1
        have N1b : RowKit.Hid (Calls Tryz.prog 47 #[.pointer (some ⟨rp, 0, none⟩), .int .i64 (r : Int), .int .i64 (a : Int)] wr fun e w' => e = .returned (.int .i64 (-1)) ∧ Own w0 w' (Star (rpA rp rb fi z.L z.s) (Star (rowA 67 3 (.slice o6 (rqA z r a).length c6) (rqA z r a).length (pgCells (rqA z r a))) (Star (rowA 3 1 (.slice o7 (tbA z r a).length c7) (tbA z r a).length (tbI (tbA z r a))) R)))) := Lib.hid N1.out
        clear N1
        have q1 : rqA z r (a + 1) = rqA z r a := by rw [rqA, hk]; exact List.append_nil _
        have q2 : tbA z r (a + 1) = tbA z r a := by rw [tbA, hk]; exact List.append_nil _
        have Q1 := Lib.hid q1
        have Q2 := Lib.hid q2
        clear q1 q2 hk
        go_wp2_with (go_at_call 47; refine N1b.out.mono ?_; rintro e w2 ⟨rfl, h2⟩; have H2 := Lib.hid h2; clear h2)
        go_roundg (33 - (a + 1))
        case measure => omega
        case rel => exact ⟨a + 1, o6, c6, o7, c7, by omega, rfl, by rw [Q1.out], by rw [Q2.out], by go_num, by rw [Q1.out, Q2.out]; exact H2.out⟩
      | some g =>
        have hg := (hw.kid_iff hr ha2).1 hk
        rw [hk] at N1
        have N1b : RowKit.Hid (Calls Tryz.prog 47 #[.pointer (some ⟨rp, 0, none⟩), .int .i64 (r : Int), .int .i64 (a : Int)] wr fun e w' => e = .returned (.int .i64 (g : Int)) ∧ Own w0 w' (Star (rpA rp rb fi z.L z.s) (Star (rowA 67 3 (.slice o6 (rqA z r a).length c6) (rqA z r a).length (pgCells (rqA z r a))) (Star (rowA 3 1 (.slice o7 (tbA z r a).length c7) (tbA z r a).length (tbI (tbA z r a))) R)))) := Lib.hid N1.out
        clear N1
        have q1 : rqA z r (a + 1) = rqA z r a ++ rqB z g a 32 := by rw [rqA, hk]
        have q2 : tbA z r (a + 1) = tbA z r a ++ g :: tbB z g 32 := by rw [tbA, hk]
        have Q1 := Lib.hid q1
        have Q2 := Lib.hid q2
        have n1 : ¬ (g : Int) < 0 := by omega
        have HG := Lib.hid hg
        clear q1 q2 hk hg
        obtain ⟨PA, hPA⟩ : ∃ l, rqA z r a = l := ⟨_, rfl⟩
        obtain ⟨TA, hTA⟩ : ∃ l, tbA z r a = l := ⟨_, rfl⟩
        rw [hPA] at N1b Q1 lp
        rw [hTA] at N1b Q2 lt
        rw [hPA] at H
        rw [hTA] at H
        rw [hPA, hTA]
        clear hPA hTA H
        go_upto_region 8 with (go_at_call 47; refine N1b.out.mono ?_; rintro e w2 ⟨rfl, h2⟩; have H2 := Lib.hid h2; clear h2)
        have H6 := Lib.hid (H2.out.gr (ST.out _ _ _ _) ((Gr.refl _).alloc (Nat.le_refl _) (.cells #[.int .i64 (g : Int)] 3)))
        have HROW := Lib.hid H6.out.right.right.row
        have tl := tbI_len TA
        clear N1b H2
        go_upto_region 9 with (at_builtin; refine wpList_append_lies _ rfl _ _ _ rfl 0 3 i0 (.int .i64 0) 1 8 Tryz.underlying63 hi0 hz0 hz1 hz2 rfl (by omega) (.slice o7 (TA).length c7) (TA).length (tbI (TA)) rfl HROW.out ⟨_, 0, none⟩ 1 1 [.int .i64 (g : Int)] rfl rfl (World.news_of_block (cs := #[.int .i64 (g : Int)]) (blk_new _ _)) (by simp [Value.oneCell']) (by omega) (by unfold maxLen; omega) (by omega) (by omega) (w2.heap.size + 1) (by simp) ?_; intro g2 cap2 w8 hown8 hgrow8 hat8 hlt8; have H9 := Lib.hid ((H6.out.rot3.grown (g := g2) (ST7.out _ _) hown8 rfl hgrow8 (hat8.elim .inl (fun e => .inr (by simp; omega))) hlt8).rot3'); clear hown8 hgrow8 hat8 hlt8)
        go_wp2_with fail
        have z0 : PA = PA ++ rqB z g a 0 := (List.append_nil _).symm
        have z1 : TA ++ [g] = TA ++ g :: tbB z g 0 := rfl
        have H9b : RowKit.Hid (Own w0 w8 (Star (rpA rp rb fi z.L z.s) (Star (rowA 67 3 (.slice o6 (PA ++ rqB z g a 0).length c6) (PA ++ rqB z g a 0).length (pgCells (PA ++ rqB z g a 0))) (Star (rowA 3 1 (.slice (some ⟨g2, 0, none⟩) (TA ++ g :: tbB z g 0).length cap2) (TA ++ g :: tbB z g 0).length (tbI (TA ++ g :: tbB z g 0))) R)))) := Lib.hid (by
          have h := H9.out
          rw [← tbI_add, show TA.length + 1 = (TA ++ [g]).length by simp] at h
          rw [← z0, ← z1]; exact h)
        have y0 : TA.length + 1 = (TA ++ g :: tbB z g 0).length := by rw [← z1]; simp
        have Y0 := Lib.hid y0
        have Z0 := Lib.hid (congrArg List.length z0)
        clear z0 z1 y0 H9 H6 HROW
        go_loopg [6, 7, 10] 33 (fun t v6 v7 v10 wr => ∃ (b : Nat) (o6 : Option Addr) (c6 : Nat) (o7 : Option Addr) (c7 : Nat), b ≤ 32 ∧ t = 33 - b ∧ v6 = .slice o6 (PA ++ rqB z g a b).length c6 ∧ v7 = .slice o7 (TA ++ g :: tbB z g b).length c7 ∧ v10 = .int .i64 (b : Int) ∧ Own w0 wr (Star (rpA rp rb fi z.L z.s) (Star (rowA 67 3 (.slice o6 (PA ++ rqB z g a b).length c6) (PA ++ rqB z g a b).length (pgCells (PA ++ rqB z g a b))) (Star (rowA 3 1 (.slice o7 (TA ++ g :: tbB z g b).length c7) (TA ++ g :: tbB z g b).length (tbI (TA ++ g :: tbB z g b))) R))))
        case atStart => exact ⟨0, o6, c6, some ⟨g2, 0, none⟩, cap2, by omega, rfl, by rw [← Z0.out], by rw [← Y0.out], rfl, H9b.out⟩
        case round =>
          clear H9b Y0 Z0
          obtain ⟨b, o6, c6, o7, c7, hb, rfl, rfl, rfl, rfl, ho⟩ := hrel
          have H := Lib.hid ho
          clear ho
          by_cases hb2 : b < 32
          · have e3 : (b : Int) < 32 := by omega
            have e4 : IntKind.i64.wrap ((b : Int) + 1) = (b : Int) + 1 := wrapI _ (by omega) (by omega)
            have N1 := Lib.hid (NX.out g 1 r a b HG.out hb2 _ _ (by exact stable_star (stable_row _ _ _ _ _) (stable_star (stable_row _ _ _ _ _) HR.out)) H.out)
            have lp2 := rqB_len z g a b
            have lt2 := tbB_len z g b
            cases hk : kid z g b with
            | none =>
              rw [hk] at N1
              have N1b : RowKit.Hid (Calls Tryz.prog 47 #[.pointer (some ⟨rp, 0, none⟩), .int .i64 (g : Int), .int .i64 (b : Int)] wr fun e w' => e = .returned (.int .i64 (-1)) ∧ Own w0 w' (Star (rpA rp rb fi z.L z.s) (Star (rowA 67 3 (.slice o6 (PA ++ rqB z g a b).length c6) (PA ++ rqB z g a b).length (pgCells (PA ++ rqB z g a b))) (Star (rowA 3 1 (.slice o7 (TA ++ g :: tbB z g b).length c7) (TA ++ g :: tbB z g b).length (tbI (TA ++ g :: tbB z g b))) R)))) := Lib.hid N1.out
              clear N1
              have q1 : rqB z g a (b + 1) = rqB z g a b := by rw [rqB, hk]; exact List.append_nil _
              have q2 : tbB z g (b + 1) = tbB z g b := by rw [tbB, hk]; exact List.append_nil _
              have R1 := Lib.hid q1
              have R2 := Lib.hid q2
              clear q1 q2 hk
              go_wp2_with (go_at_call 47; refine N1b.out.mono ?_; rintro e w2 ⟨rfl, h2⟩; have H2 := Lib.hid h2; clear h2)
              go_roundg (33 - (b + 1))
              case measure => omega
              case rel => exact ⟨b + 1, o6, c6, o7, c7, by omega, rfl, by rw [R1.out, List.length_append], by rw [R2.out, List.length_append, List.length_cons], by go_num, by rw [R1.out, R2.out]; exact H2.out⟩
            | some t =>
              have ht := (hw.kid_iff HG.out hb2).1 hk
              rw [hk] at N1
              have N1b : RowKit.Hid (Calls Tryz.prog 47 #[.pointer (some ⟨rp, 0, none⟩), .int .i64 (g : Int), .int .i64 (b : Int)] wr fun e w' => e = .returned (.int .i64 (t : Int)) ∧ Own w0 w' (Star (rpA rp rb fi z.L z.s) (Star (rowA 67 3 (.slice o6 (PA ++ rqB z g a b).length c6) (PA ++ rqB z g a b).length (pgCells (PA ++ rqB z g a b))) (Star (rowA 3 1 (.slice o7 (TA ++ g :: tbB z g b).length c7) (TA ++ g :: tbB z g b).length (tbI (TA ++ g :: tbB z g b))) R)))) := Lib.hid N1.out
              clear N1
              have q1 : PA ++ rqB z g a (b + 1) = (PA ++ rqB z g a b) ++ rqC z t (a * 32 + b) 32 := by rw [rqB, hk]; simp only [List.append_assoc]
              have q2 : TA ++ g :: tbB z g (b + 1) = (TA ++ g :: tbB z g b) ++ [t] := by rw [tbB, hk]; simp only [List.append_assoc, List.cons_append]
              have R1 := Lib.hid q1
              have R2 := Lib.hid q2
              have n2 : ¬ (t : Int) < 0 := by omega
              have HT := Lib.hid ht
              clear q1 q2 hk ht
              have lp3 : (PA ++ rqB z g a b).length ≤ a * 1024 + b * 32 := by rw [List.length_append]; omega
              have lt3 : (TA ++ g :: tbB z g b).length ≤ a * 33 + b + 1 := by rw [List.length_append, List.length_cons]; omega
              obtain ⟨PB, hPB⟩ : ∃ l, PA ++ rqB z g a b = l := ⟨_, rfl⟩
              obtain ⟨TB, hTB⟩ : ∃ l, TA ++ g :: tbB z g b = l := ⟨_, rfl⟩
              rw [hPB] at N1b R1 lp3
              rw [hTB] at N1b R2 lt3
              rw [hPB, hTB]
              clear hPB hTB H lp2 lt2
              go_upto_region 14 with (go_at_call 47; refine N1b.out.mono ?_; rintro e w3 ⟨rfl, h2⟩; have H2 := Lib.hid h2; clear h2)
              have H6 := Lib.hid (H2.out.gr (ST.out _ _ _ _) ((Gr.refl _).alloc (Nat.le_refl _) (.cells #[.int .i64 (t : Int)] 3)))
              have HROW3 := Lib.hid H6.out.right.right.row
              have tl := tbI_len TB
              clear N1b H2
              go_upto_region 15 with (at_builtin; refine wpList_append_lies _ rfl _ _ _ rfl 0 3 i0 (.int .i64 0) 1 8 Tryz.underlying63 hi0 hz0 hz1 hz2 rfl (by omega) (.slice o7 (TB).length c7) (TB).length (tbI (TB)) rfl HROW3.out ⟨_, 0, none⟩ 1 1 [.int .i64 (t : Int)] rfl rfl (World.news_of_block (cs := #[.int .i64 (t : Int)]) (blk_new _ _)) (by simp [Value.oneCell']) (by omega) (by unfold maxLen; omega) (by omega) (by omega) (w3.heap.size + 1) (by simp) ?_; intro g3 cap3 w4 hown8 hgrow8 hat8 hlt8; have H3 := Lib.hid ((H6.out.rot3.grown (g := g3) (ST7.out _ _) hown8 rfl hgrow8 (hat8.elim .inl (fun e => .inr (by simp; omega))) hlt8).rot3'); clear hown8 hgrow8 hat8 hlt8)
              go_wp2_with fail
              have s0 : PB = PB ++ rqC z t (a * 32 + b) 0 := (List.append_nil _).symm
              have H3b : RowKit.Hid (Own w0 w4 (Star (rpA rp rb fi z.L z.s) (Star (rowA 67 3 (.slice o6 (PB ++ rqC z t (a * 32 + b) 0).length c6) (PB ++ rqC z t (a * 32 + b) 0).length (pgCells (PB ++ rqC z t (a * 32 + b) 0))) (Star (rowA 3 1 (.slice (some ⟨g3, 0, none⟩) (TB.length + 1) cap3) (TB.length + 1) (tbI TB ++ [.int .i64 (t : Int)])) R)))) := Lib.hid (by
                have h := H3.out
                rw [← s0]; exact h)
              have S0 := Lib.hid (congrArg List.length s0)
              clear s0 H3 H6 HROW3
              have STC := Lib.hid (fun (v6 : Value) (P : List Pgr) => stable_star SQ.out (stable_star (stable_row 67 3 v6 P.length (pgCells P)) (stable_star (stable_row 3 1 (.slice (some ⟨g3, 0, none⟩) (TB.length + 1) cap3) (TB.length + 1) (tbI TB ++ [.int .i64 (t : Int)])) HR.out)))
              have STD := Lib.hid (stable_star SQ.out (stable_star (stable_row 3 1 (.slice (some ⟨g3, 0, none⟩) (TB.length + 1) cap3) (TB.length + 1) (tbI TB ++ [.int .i64 (t : Int)])) HR.out))
              go_loopg [6, 12] 33 (fun n v6 v12 wr => ∃ (c : Nat) (o6 : Option Addr) (c6 : Nat), c ≤ 32 ∧ n = 33 - c ∧ v6 = .slice o6 (PB ++ rqC z t (a * 32 + b) c).length c6 ∧ v12 = .int .i64 (c : Int) ∧ Own w0 wr (Star (rpA rp rb fi z.L z.s) (Star (rowA 67 3 (.slice o6 (PB ++ rqC z t (a * 32 + b) c).length c6) (PB ++ rqC z t (a * 32 + b) c).length (pgCells (PB ++ rqC z t (a * 32 + b) c))) (Star (rowA 3 1 (.slice (some ⟨g3, 0, none⟩) (TB.length + 1) cap3) (TB.length + 1) (tbI TB ++ [.int .i64 (t : Int)])) R))))
              case atStart => exact ⟨0, o6, c6, by omega, rfl, by rw [← S0.out], rfl, H3b.out⟩
              case round =>
                clear H3b S0
                obtain ⟨c, o6, c6, hc, rfl, rfl, rfl, ho⟩ := hrel
                have H := Lib.hid ho
                clear ho
                by_cases hc2 : c < 32
                · have e5 : (c : Int) < 32 := by omega
                  have e6 : IntKind.i64.wrap ((c : Int) + 1) = (c : Int) + 1 := wrapI _ (by omega) (by omega)
                  have N1 := Lib.hid (NX.out t 0 g b c HT.out hc2 _ _ (by exact stable_star (stable_row _ _ _ _ _) (stable_star (stable_row _ _ _ _ _) HR.out)) H.out)
                  have lp4 := rqC_len z t (a * 32 + b) c
                  cases hk : kid z t c with
                  | none =>
                    rw [hk] at N1
                    have N1b : RowKit.Hid (Calls Tryz.prog 47 #[.pointer (some ⟨rp, 0, none⟩), .int .i64 (t : Int), .int .i64 (c : Int)] wr fun e w' => e = .returned (.int .i64 (-1)) ∧ Own w0 w' (Star (rpA rp rb fi z.L z.s) (Star (rowA 67 3 (.slice o6 (PB ++ rqC z t (a * 32 + b) c).length c6) (PB ++ rqC z t (a * 32 + b) c).length (pgCells (PB ++ rqC z t (a * 32 + b) c))) (Star (rowA 3 1 (.slice (some ⟨g3, 0, none⟩) (TB.length + 1) cap3) (TB.length + 1) (tbI TB ++ [.int .i64 (t : Int)])) R)))) := Lib.hid N1.out
                    clear N1
                    have q1 : rqC z t (a * 32 + b) (c + 1) = rqC z t (a * 32 + b) c := by rw [rqC, hk]; exact List.append_nil _
                    have U1 := Lib.hid q1
                    clear q1 hk
                    go_wp2_with (go_at_call 47; refine N1b.out.mono ?_; rintro e w2 ⟨rfl, h2⟩; have H2 := Lib.hid h2; clear h2)
                    go_roundg (33 - (c + 1))
                    case measure => omega
                    case rel => exact ⟨c + 1, o6, c6, by omega, rfl, by rw [U1.out, List.length_append], by go_num, by rw [U1.out]; exact H2.out⟩
                  | some f =>
                    rw [hk] at N1
                    have N1b : RowKit.Hid (Calls Tryz.prog 47 #[.pointer (some ⟨rp, 0, none⟩), .int .i64 (t : Int), .int .i64 (c : Int)] wr fun e w' => e = .returned (.int .i64 (f : Int)) ∧ Own w0 w' (Star (rpA rp rb fi z.L z.s) (Star (rowA 67 3 (.slice o6 (PB ++ rqC z t (a * 32 + b) c).length c6) (PB ++ rqC z t (a * 32 + b) c).length (pgCells (PB ++ rqC z t (a * 32 + b) c))) (Star (rowA 3 1 (.slice (some ⟨g3, 0, none⟩) (TB.length + 1) cap3) (TB.length + 1) (tbI TB ++ [.int .i64 (t : Int)])) R)))) := Lib.hid N1.out
                    clear N1
                    have q1 : PB ++ rqC z t (a * 32 + b) (c + 1) = (PB ++ rqC z t (a * 32 + b) c) ++ [⟨(a * 32 + b) * 32 + c, T z t c % 32, f⟩] := by rw [rqC, hk]; simp only [List.append_assoc]
                    have U1 := Lib.hid q1
                    have n3 : ¬ (f : Int) < 0 := by omega
                    have n4 : (0 : Int) ≤ (f : Int) := by omega
                    have ht := hw.lt HT.out
                    have hhi := hw.sz.hi
                    have LD := Lib.hid (fun (w1 : World) (h : Own w0 w1 (Star (rpA rp rb fi z.L z.s) (Star (rowA 67 3 (.slice o6 (PB ++ rqC z t (a * 32 + b) c).length c6) (PB ++ rqC z t (a * 32 + b) c).length (pgCells (PB ++ rqC z t (a * 32 + b) c))) (Star (rowA 3 1 (.slice (some ⟨g3, 0, none⟩) (TB.length + 1) cap3) (TB.length + 1) (tbI TB ++ [.int .i64 (t : Int)])) R)))) => o_rld (by exact h) (by exact stable_star (stable_row _ _ _ _ _) (stable_star (stable_row _ _ _ _ _) HR.out)) t c (by omega) hc2)
                    obtain ⟨m, hm⟩ : ∃ m : Nat, T z t c = (m : Int) := by
                      rcases hw.ch t 0 g b HT.out c hc2 with h | ⟨g', b', h, _⟩
                      · exact ⟨0, h⟩
                      · exact ⟨_, h⟩
                    have lp5 : (PB ++ rqC z t (a * 32 + b) c).length ≤ a * 1024 + b * 32 + c := by rw [List.length_append]; omega
                    obtain ⟨PC, hPC⟩ : ∃ l, PB ++ rqC z t (a * 32 + b) c = l := ⟨_, rfl⟩
                    rw [hPC] at N1b U1 lp5
                    rw [hPC]
                    have LDb : RowKit.Hid (∀ w1, Own w0 w1 (Star (rpA rp rb fi z.L z.s) (Star (rowA 67 3 (.slice o6 PC.length c6) (PC).length (pgCells (PC))) (Star (rowA 3 1 (.slice (some ⟨g3, 0, none⟩) (TB.length + 1) cap3) (TB.length + 1) (tbI TB ++ [.int .i64 (t : Int)])) R))) → Calls Tryz.prog 48 #[.pointer (some ⟨rp, 0, none⟩), .int .i64 (t : Int), .int .i64 (c : Int)] w1 fun e w' => e = .returned (.int .u64 (m : Int)) ∧ Own w0 w' (Star (rpA rp rb fi z.L z.s) (Star (rowA 67 3 (.slice o6 PC.length c6) (PC).length (pgCells (PC))) (Star (rowA 3 1 (.slice (some ⟨g3, 0, none⟩) (TB.length + 1) cap3) (TB.length + 1) (tbI TB ++ [.int .i64 (t : Int)])) R)))) := Lib.hid (by have h := LD.out; rw [hm, hPC] at h; exact h)
                    rw [hm] at U1
                    clear hPC H lp4 LD hk q1 ht hhi hm
                    go_upto_region 20 with (go_at_call 47; refine N1b.out.mono ?_; rintro e w5 ⟨rfl, h2⟩; have H5 := Lib.hid h2; clear h2)
                    have w1 : IntKind.i64.wrap (1024 * (a : Int)) = 1024 * (a : Int) := wrapI _ (by omega) (by omega)
                    have w2 : IntKind.i64.wrap (32 * (b : Int)) = 32 * (b : Int) := wrapI _ (by omega) (by omega)
                    have w3 : IntKind.i64.wrap (1024 * (a : Int) + 32 * (b : Int)) = 1024 * (a : Int) + 32 * (b : Int) := wrapI _ (by omega) (by omega)
                    have w4 : IntKind.i64.wrap (1024 * (a : Int) + 32 * (b : Int) + (c : Int)) = 1024 * (a : Int) + 32 * (b : Int) + (c : Int) := wrapI _ (by omega) (by omega)
                    have w5 : IntKind.u64.wrap ((m : Int) % 32) = (m : Int) % 32 := wrapU _ (by omega) (by omega)
                    have w6 : IntKind.u64.wrap (Int.tmod (m : Int) 32) = (m : Int) % 32 := by rw [Int.tmod_eq_emod_of_nonneg (by omega)]; exact w5
                    have w7 : Int.tmod (m : Int) 32 = (m : Int) % 32 := Int.tmod_eq_emod_of_nonneg (by omega)
                    go_wp2_with (first | (go_at_call 48; refine (LDb.out _ H5.out).mono ?_; rintro e w6' ⟨rfl, h6⟩; have H6 := Lib.hid h6; clear h6) | (at_builtin; have H7 := Lib.hid (H6.out.gr (STC.out _ PC) ((Gr.refl _).alloc (Nat.le_refl _) (.cells #[.int .i64 (1024 * (a : Int) + 32 * (b : Int) + (c : Int)), .int .u64 ((m : Int) % 32), .int .i64 (f : Int)] 67))); refine wpList_append_lies _ rfl _ _ _ rfl 0 67 i1 (.agg #[.int .i64 0, .int .u64 0, .int .i64 0]) 3 24 Tryz.underlying62 hi1 hy0 hy1 hy2 rfl (by omega) (.slice o6 PC.length c6) PC.length (pgCells PC) rfl H7.out.right.row ⟨_, 0, none⟩ 1 1 [.int .i64 (1024 * (a : Int) + 32 * (b : Int) + (c : Int)), .int .u64 ((m : Int) % 32), .int .i64 (f : Int)] rfl rfl (World.news_of_block (cs := #[.int .i64 (1024 * (a : Int) + 32 * (b : Int) + (c : Int)), .int .u64 ((m : Int) % 32), .int .i64 (f : Int)]) (blk_new _ _)) (by simp [Value.oneCell']) (by omega) (by unfold maxLen; omega) (by omega) (by omega) (w6'.heap.size + 1) (by simp) ?_; intro g9 cap9 w9 hown8 hgrow8 hat8 hlt8; have H9 := Lib.hid ((H7.out.swap2.grown (g := g9) STD.out hown8 rfl hgrow8 (hat8.elim .inl (fun e => .inr (by simp; omega))) hlt8).swap2); clear hown8 hgrow8 hat8 hlt8 H7))
                    go_roundg (33 - (c + 1))
                    case measure => omega
                    case rel => exact ⟨c + 1, some ⟨g9, 0, none⟩, cap9, by omega, rfl, by rw [U1.out, List.length_append]; rfl, by go_num, by rw [U1.out, pgCells_add, List.length_append]; have h := H9.out; rw [show 1024 * (a : Int) + 32 * (b : Int) + (c : Int) = (((a * 32 + b) * 32 + c : Nat) : Int) by omega] at h; exact h⟩
                · obtain rfl : c = 32 := by omega
                  rw [← R1.out, ← tbI_add, show TB.length + 1 = (TB ++ [t]).length by simp, ← R2.out] at H
                  go_wp2_with fail
                  go_roundg (33 - (b + 1))
                  case measure => omega
                  case rel => exact ⟨b + 1, o6, c6, some ⟨g3, 0, none⟩, cap3, by omega, rfl, by rw [R1.out, List.length_append], by rw [R2.out, List.length_append]; rfl, by go_num, H.out⟩
          · obtain rfl : b = 32 := by omega
            rw [← Q1.out, ← Q2.out] at H
            go_wp2_with fail
            go_roundg (33 - (a + 1))
            case measure => omega
            case rel => exact ⟨a + 1, o6, c6, o7, c7, by omega, rfl, by rw [Q1.out], by rw [Q2.out], by go_num, H.out⟩
    · obtain rfl : a = 32 := by omega
      go_wp2_with fail
      go_ret2
      exact ⟨o6, c6, o7, c7, rfl, H.out⟩
end Go.Proofs.YtdlglnoffpnonaaGreat.P
namespace Go.Proofs.YtdlglnoffpnonaaGreat.P
open Go.RowKit Go.MuLone Go.Maps
theorem rqC_mem (z : Sp) (t n : Nat) (p : Pgr) : ∀ c, p ∈ rqC z t n c ↔ ∃ k g, k < c ∧ kid z t k = some g ∧ p = ⟨n * 32 + k, T z t k % 32, g⟩
  | 0 => by
    constructor
    · intro h; cases h
    · rintro ⟨k, g, h, _⟩; omega
  | c + 1 => by
    rw [rqC, List.mem_append, rqC_mem z t n p c]
    constructor
    · rintro (⟨k, g, h1, h2, h3⟩ | h)
      · exact ⟨k, g, by omega, h2, h3⟩
      · cases hk : kid z t c with
        | none => rw [hk] at h; cases h
        | some g => rw [hk] at h; exact ⟨c, g, by omega, hk, List.mem_singleton.1 h⟩
    · rintro ⟨k, g, h1, h2, h3⟩
      rcases Nat.lt_or_ge k c with h | h
      · exact .inl ⟨k, g, h, h2, h3⟩
      · obtain rfl : k = c := by omega
        exact .inr (by rw [h2]; exact List.mem_singleton.2 h3)
theorem rqB_mem (z : Sp) (t n : Nat) (p : Pgr) : ∀ c, p ∈ rqB z t n c ↔ ∃ k g, k < c ∧ kid z t k = some g ∧ p ∈ rqC z g (n * 32 + k) 32
  | 0 => by
    constructor
    · intro h; cases h
    · rintro ⟨k, g, h, _⟩; omega
  | c + 1 => by
    rw [rqB, List.mem_append, rqB_mem z t n p c]
    constructor
    · rintro (⟨k, g, h1, h2, h3⟩ | h)
      · exact ⟨k, g, by omega, h2, h3⟩
      · cases hk : kid z t c with
        | none => rw [hk] at h; cases h
        | some g => rw [hk] at h; exact ⟨c, g, by omega, hk, h⟩
    · rintro ⟨k, g, h1, h2, h3⟩
      rcases Nat.lt_or_ge k c with h | h
      · exact .inl ⟨k, g, h, h2, h3⟩
      · obtain rfl : k = c := by omega
        exact .inr (by rw [h2]; exact h3)
theorem rqA_mem (z : Sp) (r : Nat) (p : Pgr) : ∀ c, p ∈ rqA z r c ↔ ∃ k g, k < c ∧ kid z r k = some g ∧ p ∈ rqB z g k 32
  | 0 => by
    constructor
    · intro h; cases h
    · rintro ⟨k, g, h, _⟩; omega
  | c + 1 => by
    rw [rqA, List.mem_append, rqA_mem z r p c]
    constructor
    · rintro (⟨k, g, h1, h2, h3⟩ | h)
      · exact ⟨k, g, by omega, h2, h3⟩
      · cases hk : kid z r c with
        | none => rw [hk] at h; cases h
        | some g => rw [hk] at h; exact ⟨c, g, by omega, hk, h⟩
    · rintro ⟨k, g, h1, h2, h3⟩
      rcases Nat.lt_or_ge k c with h | h
      · exact .inl ⟨k, g, h, h2, h3⟩
      · obtain rfl : k = c := by omega
        exact .inr (by rw [h2]; exact h3)
/-- A page of the list: its three indexes, its tables, its entry. -/
theorem page_mem (z : Sp) (r : Nat) (p : Pgr) : p ∈ rqA z r 32 ↔ ∃ a b c g t f, a < 32 ∧ b < 32 ∧ c < 32 ∧ kid z r a = some g ∧ kid z g b = some t ∧ kid z t c = some f ∧ p = ⟨(a * 32 + b) * 32 + c, T z t c % 32, f⟩ := by
  rw [rqA_mem]
  constructor
  · rintro ⟨a, g, h1, h2, h3⟩
    obtain ⟨b, t, k1, k2, k3⟩ := (rqB_mem _ _ _ _ _).1 h3
    obtain ⟨c, f, l1, l2, l3⟩ := (rqC_mem _ _ _ _ _).1 k3
    exact ⟨a, b, c, g, t, f, h1, k1, l1, h2, k2, l2, l3⟩
  · rintro ⟨a, b, c, g, t, f, h1, k1, l1, h2, k2, l2, l3⟩
    exact ⟨a, g, h1, h2, (rqB_mem _ _ _ _ _).2 ⟨b, t, k1, k2, (rqC_mem _ _ _ _ _).2 ⟨c, f, l1, l2, l3⟩⟩⟩
end Go.Proofs.YtdlglnoffpnonaaGreat.P
namespace Go.Proofs.YtdlglnoffpnonaaGreat.P
open Go.RowKit Go.MuLone Go.Maps
variable {fi : Nat} {z : Sp} {own : Who}
theorem clear_keep (s : List UInt8) (L n f : Nat) (hs : s.length = L * 256) (hn : n < L) (hf : f ≠ n) (i : Nat) (hi : i < 256) : (clearS L s n)[f * 256 + i]? = s[f * 256 + i]? := by
  have hB : n * 256 + 256 ≤ s.length := by rw [hs]; omega
  unfold clearS
  rw [if_pos (frB_t ⟨Int.natCast_nonneg n, Int.ofNat_lt.2 hn⟩), Int.toNat_natCast]
  exact putL_at _ _ _ (by rw [List.length_replicate]; exact hB) _ (by rw [List.length_replicate]; omega)
theorem put_keep (s : List UInt8) (L t k f : Nat) (v : Int) (hs : s.length = L * 256) (ht : t < L) (hk : k < 32) (hf : f ≠ t) (i : Nat) (hi : i < 256) : (storeS s ((t * 256 + k * 8 : Nat) : Int) 8 v)[f * 256 + i]? = s[f * 256 + i]? := by
  have hA : t * 256 + k * 8 + 8 ≤ s.length := by rw [hs]; omega
  have hC : f * 256 + i < t * 256 + k * 8 ∨ t * 256 + k * 8 + 8 ≤ f * 256 + i := by omega
  obtain ⟨e1, e2⟩ := store_put s (t * 256 + k * 8) v hA
  rw [e1]
  generalize (W.bytesF v 8).data.toList = bl at *
  generalize t * 256 + k * 8 = A at *
  exact putL_at _ _ _ (by rw [e2]; exact hA) _ (by rw [e2]; exact hC)
theorem link_keep (h : WF fi z own) (q : takeB z.L fi = true) {t hh p j k : Nat} (ht : own t = some (hh + 1, p, j)) (hk : k < 32) {f pf jf : Nat} (hf : own f = some (0, pf, jf)) (v : Int) (i : Nat) (hi : i < 256) :
    (putX (takeX fi z) ((t * 256 + k * 8 : Nat) : Int) v).s[f * 256 + i]? = z.s[f * 256 + i]? := by
  obtain ⟨n, w1, _, hn, _, _, _, w4⟩ := take_b q
  have hlf := h.lt hf
  have hlt := h.lt ht
  have hfn : f ≠ n := fun e => by rw [e, hn] at hlf; exact absurd hlf.2.2 (by decide)
  have hft : f ≠ t := fun e => by rw [e, ht] at hf; cases hf
  have hlen := h.sz.len
  show (storeS (takeS z.L fi z.s) ((t * 256 + k * 8 : Nat) : Int) 8 v)[f * 256 + i]? = _
  rw [w4, put_keep _ z.L.length t k f v (by rw [clear_len _ _ _ w1 hlen]; exact hlen) hlt.2.1 hk hft i hi]
  exact clear_keep _ _ _ _ hlen w1 hfn i hi
theorem below_keep (h : WF fi z own) {t hh p j k : Nat} (ht : own t = some (hh + 1, p, j)) (hk : k < 32) {a l : Int} (hpl : placeI t a l = ((t * 256 + k * 8 : Nat) : Int)) (hq : validB z.s (placeI t a l) = false → 0 < leftX fi z) {f pf jf : Nat} (hf : own f = some (0, pf, jf)) (i : Nat) (hi : i < 256) :
    (belowX fi z t a l).s[f * 256 + i]? = z.s[f * 256 + i]? := by
  unfold belowX
  cases hv : validB z.s (placeI t a l) with
  | true => rw [cond_true]
  | false => rw [cond_false, hpl]; exact link_keep h ((left_take h.fle).2 (hq hv)) ht hk hf _ i hi
set_option maxHeartbeats 6400000 in
/-- The bytes of a page that was there before stand as they were. -/
theorem map_keep (h : WF fi z own) {r p j P b : Nat} (hr : own r = some (3, p, j)) (hP : P < 32768) (hb : b % 2 = 1) (hb2 : b < 32) (hno : pth z r 3 P = none) (hleft : mapMiss z r P < leftX fi z) {f pf jf : Nat} (hf : own f = some (0, pf, jf)) (i : Nat) (hi : i < 256) :
    (mapX fi z r P b).s[f * 256 + i]? = z.s[f * 256 + i]? := by
  have hth : mapThere z r P = false := by rw [there_eq h hr hP, hno]; rfl
  have hbad := bad_no h hr hP hb hb2
  have hlt : decide (leftX fi z ≤ mapMiss z r P) = false := decide_eq_false (by omega)
  have eX : mapX fi z r P b = putX (takeX fi (mapZ fi z r P)) (placeI (mapT fi z r P) ((P : Int) * 256) 0) (entryI (takeN (mapZ fi z r P).L fi) b) := by
    unfold mapX; rw [hbad, hth, hlt, cond_false, cond_false, cond_false]
  rw [miss_eq h hr hP] at hleft
  have hl0 : 0 < leftX fi z := by have : 0 ≤ lack (pth z r 1 (P / 1024)) ∧ 0 ≤ lack (pth z r 2 (P / 32)) := by { unfold lack; constructor <;> split <;> omega }; omega
  have b1 := below_keep h (k := P / 1024) hr (by omega) (pl2 r hP) (fun _ => hl0) hf i hi
  have hl1 : 0 ≤ lack (pth z r 1 (P / 1024)) ∧ (pth z r 1 (P / 1024) = none → lack (pth z r 1 (P / 1024)) = 1) := by
    unfold lack; constructor
    · split <;> omega
    · intro e; rw [e]; rfl
  have hl2 : 0 ≤ lack (pth z r 2 (P / 32)) ∧ (pth z r 2 (P / 32) = none → lack (pth z r 2 (P / 32)) = 1) := by
    unfold lack; constructor
    · split <;> omega
    · intro e; rw [e]; rfl
  have pk1 : pth z r 1 (P / 1024) = kid z r (P / 1024) := by have := pth_kid (z := z) (r := r) (d := 0) (m := 0) (k := P / 1024) (f := r) (by omega) rfl; rw [show 0 * 32 + P / 1024 = P / 1024 by omega] at this; exact this
  obtain ⟨t1, o1, n1, g1, q1, k1, f1⟩ := below_step h hr (d := 0) (m := 0) (f := r) (k := P / 1024) (by omega) (by decide) rfl (by omega) (pl2 r hP) (fun e => by rw [show 0 * 32 + P / 1024 = P / 1024 by omega] at e; have := hl1.2 e; omega)
  rw [show 0 * 32 + P / 1024 = P / 1024 by omega] at q1 k1 f1
  replace q1 : pth (belowX fi z r ((P : Int) * 256) 2) r 1 (P / 1024) = some t1 := q1
  replace f1 : leftX fi (belowX fi z r ((P : Int) * 256) 2) = leftX fi z - lack (pth z r 1 (P / 1024)) := f1
  have hr1 := g1.old _ _ hr
  have s2 : pth (belowX fi z r ((P : Int) * 256) 2) r 2 (P / 32) = pth z r 2 (P / 32) := k1 2 (P / 32) (by decide) (by omega) (by omega)
  obtain ⟨t0, o2, n2, g2, q2, k2, f2⟩ := below_step g1.wf hr1 (d := 1) (m := P / 1024) (f := t1) (k := P / 32 % 32) (by omega) (by omega) q1 (by omega) (pl1 t1 hP) (fun e => by
    rw [show P / 1024 * 32 + P / 32 % 32 = P / 32 by omega] at e
    replace e : pth (belowX fi z r ((P : Int) * 256) 2) r 2 (P / 32) = none := e
    rw [s2] at e
    have := hl2.2 e
    rw [f1]; omega)
  rw [show P / 1024 * 32 + P / 32 % 32 = P / 32 by omega] at q2 f2
  replace q2 : pth (belowX fi (belowX fi z r ((P : Int) * 256) 2) t1 ((P : Int) * 256) 1) r 2 (P / 32) = some t0 := q2
  replace f2 : leftX fi (belowX fi (belowX fi z r ((P : Int) * 256) 2) t1 ((P : Int) * 256) 1) = leftX fi (belowX fi z r ((P : Int) * 256) 2) - lack (pth (belowX fi z r ((P : Int) * 256) 2) r 2 (P / 32)) := f2
  rw [s2] at f2
  have hr2 := g2.old _ _ hr1
  have eZ : mapZ fi z r P = belowX fi (belowX fi z r ((P : Int) * 256) 2) t1 ((P : Int) * 256) 1 := by unfold mapZ; rw [n1]
  have eT : mapT fi z r P = t0 := by unfold mapT; rw [n1]; exact n2
  rw [eT, eZ, pl0 t0 hP] at eX
  obtain ⟨p1, j1, ho1⟩ := pth_high g1.wf hr1 (show 1 ≤ 3 by decide) q1
  obtain ⟨p2, j2, ho2⟩ := pth_high g2.wf hr2 (show 2 ≤ 3 by decide) q2
  have hlf : 0 < leftX fi (belowX fi (belowX fi z r ((P : Int) * 256) 2) t1 ((P : Int) * 256) 1) := by rw [f2, f1]; omega
  have hl9 : 0 < leftX fi (belowX fi z r ((P : Int) * 256) 2) := by rw [f1]; omega
  have b2 := below_keep g1.wf (k := P / 32 % 32) ho1 (by omega) (pl1 t1 hP) (fun _ => hl9) (g1.old _ _ hf) i hi
  rw [eX]
  rw [link_keep g2.wf ((left_take g2.wf.fle).2 hlf) (hh := 0) ho2 (by omega) (g2.old _ _ (g1.old _ _ hf)) _ i hi, b2, b1]
end Go.Proofs.YtdlglnoffpnonaaGreat.P
namespace Go.Proofs.YtdlglnoffpnonaaGreat.P
open Go.RowKit Go.MuLone Go.Maps
variable {fi : Nat} {z : Sp} {own : Who}
theorem pth_grow {z' : Sp} {own' : Who} {r0 : Nat} (h : WF fi z own) (g : Grw fi z own z' own' r0) {r p j : Nat} (hr : own r = some (3, p, j)) : ∀ d n f, d ≤ 3 → pth z r d n = some f → pth z' r d n = some f
  | 0, n, f, _, e => e
  | d + 1, n, f, hd, e => by
    rw [pth_succ] at e
    cases e1 : pth z r d (n / 32) with
    | none => rw [e1] at e; cases e
    | some t =>
      rw [e1] at e
      replace e : kid z t (n % 32) = some f := e
      obtain ⟨p', j', ho⟩ := pth_high h hr (by omega) e1
      have ho2 : own t = some ((2 - d) + 1, p', j') := by rw [ho]; congr 2; omega
      have e2 : T z t (n % 32) ≠ 0 := by
        intro q; unfold kid at e; rw [q, if_neg (by decide)] at e; cases e
      have e3 := g.keep t _ _ _ ho2 (n % 32) (Nat.mod_lt _ (by decide)) e2
      rw [pth_succ, pth_grow h g hr d (n / 32) t (by omega) e1]
      show kid z' t (n % 32) = some f
      rw [← e]; unfold kid; rw [e3]
/-- Page P of the root r: its bits, its bytes. -/
def PgAt (z : Sp) (r P b : Nat) (y : List UInt8) : Prop :=
  ∃ t0 gn, pth z r 2 (P / 32) = some t0 ∧ T z t0 (P % 32) = ((gn * 1024 + b : Nat) : Int) ∧ gn < z.L.length ∧ ∀ i, i < 256 → z.s[gn * 256 + i]? = some (y.getD i 0)
theorem lay_is (h : WF fi z own) {r p j P b : Nat} (hr : own r = some (3, p, j)) (hP : P < 32768) (hb : b % 2 = 1) (hb2 : b < 32) (hbr : b / 2 % 2 = 1) (hbu : b / 16 % 2 = 1) (hno : pth z r 3 P = none) (hleft : mapMiss z r P < leftX fi z) (y : ByteArray) (hy : y.size ≤ 256) :
    ∃ own' t0 n, Grw fi z own (mapX fi z r P b) own' r ∧ pth (mapX fi z r P b) r 2 (P / 32) = some t0 ∧ T (mapX fi z r P b) t0 (P % 32) = ((n * 1024 + b : Nat) : Int) ∧ own n = none ∧ own' n = some (0, t0, P % 32) ∧ n < (mapX fi z r P b).L.length ∧
      (∀ i, i < 256 → (mapX fi z r P b).s[n * 256 + i]? = some 0) ∧ (layZ fi r b P y z).s = putL (mapX fi z r P b).s (n * 256) y.data.toList ∧ n * 256 + y.data.toList.length ≤ (mapX fi z r P b).s.length ∧ StP (mapX fi z r P b) (layZ fi r b P y z) own' := by
  obtain ⟨t0, n, q1, q2, hn, hz⟩ := map_zero h hr hP hb hb2 hno hleft
  obtain ⟨m1, own', g, _, _, t0', gn, q1', q2', q3, q4⟩ := map_ok h hr hP hb hb2 hno hleft
  obtain rfl : t0 = t0' := Option.some.inj (q1.symm.trans q1')
  obtain rfl : n = gn := by have := q2.symm.trans q2'; omega
  have hw := g.wf
  obtain ⟨k1, k2⟩ := page_walk hw (StP.refl hw) (g.old _ _ hr) hP hb hb2 hbr hbu q1 q2 hn 0 (by decide)
  have hA : layAt fi r b P z = ((n * 256 + 0 : Nat) : Int) := by
    unfold layAt
    rw [← k2]; congr 1
  obtain ⟨w1, w2, w3⟩ := write_step hw (StP.refl hw) q4 hn 0 y (by omega)
  refine ⟨own', t0, n, g, q1, q2, q3, q4, hn, hz, ?_, w2, ?_⟩
  · unfold layZ; rw [hA]; exact w1
  · unfold layZ; rw [hA]; exact w3
theorem pgat_new (h : WF fi z own) {r p j P b : Nat} (hr : own r = some (3, p, j)) (hP : P < 32768) (hb : b % 2 = 1) (hb2 : b < 32) (hbr : b / 2 % 2 = 1) (hbu : b / 16 % 2 = 1) (hno : pth z r 3 P = none) (hleft : mapMiss z r P < leftX fi z) (y : ByteArray) (hy : y.size ≤ 256) :
    PgAt (layZ fi r b P y z) r P b y.data.toList := by
  obtain ⟨own', t0, n, g, q1, q2, q3, q4, hn, hz, e1, e2, s⟩ := lay_is h hr hP hb hb2 hbr hbu hno hleft y hy
  have hw := g.wf
  obtain ⟨p2, j2, ho⟩ := pth_high hw (g.old _ _ hr) (show 2 ≤ 3 by decide) q1
  have e0 : y.data.toList.length = y.size := Array.length_toList
  refine ⟨t0, n, by rw [s.pth hw (g.old _ _ hr) 2 _ (by decide)]; exact q1, by rw [s.T t0 0 p2 j2 ho _ (by omega)]; exact q2, by rw [s.L]; exact hn, fun i hi => ?_⟩
  rw [e1, putL_get _ _ _ e2, if_neg (by omega), List.getD_eq_getElem?_getD]
  by_cases hc : i < y.data.toList.length
  · rw [if_pos (by omega), show n * 256 + i - n * 256 = i by omega, List.getElem?_eq_getElem hc]; rfl
  · rw [if_neg (by omega), hz i hi, List.getElem?_eq_none (by omega)]; rfl
theorem pgat_keep (h : WF fi z own) {r p j P b : Nat} (hr : own r = some (3, p, j)) (hP : P < 32768) (hb : b % 2 = 1) (hb2 : b < 32) (hbr : b / 2 % 2 = 1) (hbu : b / 16 % 2 = 1) (hno : pth z r 3 P = none) (hleft : mapMiss z r P < leftX fi z) (y : ByteArray) (hy : y.size ≤ 256)
    {P' b' : Nat} {y' : List UInt8} (hb' : b' % 2 = 1) (hb2' : b' < 32) (hp : PgAt z r P' b' y') : PgAt (layZ fi r b P y z) r P' b' y' := by
  obtain ⟨own', t0, n, g, q1, q2, q3, q4, hn, hz, e1, e2, s⟩ := lay_is h hr hP hb hb2 hbr hbu hno hleft y hy
  obtain ⟨t, gn, a1, a2, a3, a4⟩ := hp
  have hw := g.wf
  have hr' := g.old _ _ hr
  obtain ⟨p2, j2, ho⟩ := pth_high h hr (show 2 ≤ 3 by decide) a1
  replace ho : own t = some (0 + 1, p2, j2) := ho
  have hk := g.keep t _ _ _ ho (P' % 32) (Nat.mod_lt _ (by decide)) (by rw [a2]; omega)
  have og : own gn = some (0, t, P' % 32) := by
    rcases h.ch t 0 p2 j2 ho (P' % 32) (Nat.mod_lt _ (by decide)) with c | ⟨g2, b2, c1, c2, c3, _, c5⟩
    · rw [c] at a2; omega
    · rw [c1] at a2
      obtain rfl : g2 = gn := by omega
      exact c5
  have hne : gn ≠ n := fun e => by rw [e, q3] at og; cases og
  have e0 : y.data.toList.length = y.size := Array.length_toList
  refine ⟨t, gn, ?_, ?_, ?_, fun i hi => ?_⟩
  · rw [s.pth hw hr' 2 _ (by decide)]; exact pth_grow h g hr 2 _ _ (by decide) a1
  · rw [s.T t 0 p2 j2 (g.old _ _ ho) _ (Nat.mod_lt _ (by decide)), hk]; exact a2
  · rw [s.L, g.len]; exact a3
  · rw [e1, putL_at _ _ _ e2 _ (by omega), map_keep h hr hP hb hb2 hno hleft og i hi]; exact a4 i hi
end Go.Proofs.YtdlglnoffpnonaaGreat.P
namespace Go.Proofs.YtdlglnoffpnonaaGreat.P
open Go.RowKit Go.MuLone Go.Maps
def PgKeep (z z' : Sp) (r : Nat) : Prop := ∀ P' b' y', b' % 2 = 1 → b' < 32 → PgAt z r P' b' y' → PgAt z' r P' b' y'
def PgStep (z z' : Sp) (r P b : Nat) (y : List UInt8) : Prop := PgAt z' r P b y ∧ PgKeep z z' r
theorem PgAt.congr {z : Sp} {r P b : Nat} {y y' : List UInt8} (h : PgAt z r P b y) (e : ∀ i, i < 256 → y.getD i 0 = y'.getD i 0) : PgAt z r P b y' := by
  obtain ⟨t, g, a1, a2, a3, a4⟩ := h
  exact ⟨t, g, a1, a2, a3, fun i hi => by rw [← e i hi]; exact a4 i hi⟩
theorem ext_head (y : ByteArray) : (y.extract 0 (min y.size 256)).data.toList = y.data.toList.take 256 := by
  have e0 : y.data.toList.length = y.size := Array.length_toList
  rw [ByteArray.data_extract, Array.toList_extract]
  show (y.data.toList.drop 0).take (min y.size 256 - 0) = _
  rw [List.drop_zero, Nat.sub_zero]
  rcases Nat.le_total y.size 256 with h | h
  · rw [Nat.min_eq_left h, List.take_of_length_le (by omega), List.take_of_length_le (by omega)]
  · rw [Nat.min_eq_right h]
theorem ext_tail (y : ByteArray) : (y.extract (min y.size 256) y.size).data.toList = y.data.toList.drop 256 := by
  have e0 : y.data.toList.length = y.size := Array.length_toList
  rw [ByteArray.data_extract, Array.toList_extract]
  show (y.data.toList.drop (min y.size 256)).take (y.size - min y.size 256) = _
  rw [List.take_of_length_le (by rw [List.length_drop]; omega)]
  rcases Nat.le_total y.size 256 with h | h
  · rw [Nat.min_eq_left h, List.drop_of_length_le (by omega), List.drop_of_length_le (by omega)]
  · rw [Nat.min_eq_right h]
theorem take_getD (l : List UInt8) (i : Nat) (hi : i < 256) : (l.take 256).getD i 0 = l.getD i 0 := by
  rw [List.getD_eq_getElem?_getD, List.getD_eq_getElem?_getD, List.getElem?_take, if_pos hi]
theorem laid_low_pg {fi r n0 : Nat} {lf : Int} {own0 : Who} {pp : Nat} {z : Sp} (h : Laid fi r lf n0 own0 pp 0 z) (hp : pp < 28) {b : Nat} (hb : b % 2 = 1) (hb2 : b < 32) (hbr : b / 2 % 2 = 1) (hbu : b / 16 % 2 = 1) (hl : (pp : Int) + 3 ≤ lf) (y : ByteArray) (hy : y.size ≤ 256) :
    PgStep z (layZ fi r b ((pp + 1 : Nat) : Int) y z) r (pp + 1) b y.data.toList := by
  obtain ⟨own, p, j, hw, hr, ho, hn⟩ := h.ex
  have d1 : (pp + 1) / 1024 = 0 := by omega
  have d2 : (pp + 1) / 32 = 0 := by omega
  have h3 : pth z r 3 (pp + 1) = none := by
    have := h.p3 (pp + 1) (by omega)
    rw [decide_eq_false (by omega)] at this
    cases hq : pth z r 3 (pp + 1) with
    | none => rfl
    | some f => rw [hq] at this; cases this
  have hm : mapMiss z r ((pp + 1 : Nat) : Int) = if 1 ≤ pp then 0 else 2 := by
    rw [miss_eq hw hr (by omega), d1, d2]
    unfold lack
    rw [h.p1 0 (by omega), h.p2 0 (by omega)]
    by_cases e : 1 ≤ pp
    · simp [e]
    · simp [e]
  have hlf := h.left
  have hml : mapMiss z r ((pp + 1 : Nat) : Int) < leftX fi z := by
    rw [hm, hlf]; split <;> simp <;> omega
  exact ⟨pgat_new hw hr (by omega) hb hb2 hbr hbu h3 hml y hy, fun P' b' y' h1 h2 h4 => pgat_keep hw hr (by omega) hb hb2 hbr hbu h3 hml y hy h1 h2 h4⟩
theorem laid_high_pg {fi r n0 : Nat} {lf : Int} {own0 : Who} {pp q : Nat} {z : Sp} (h : Laid fi r lf n0 own0 pp q z) (hp : 1 ≤ pp ∧ pp ≤ 28) (hq : q < 8) {b : Nat} (hb : b % 2 = 1) (hb2 : b < 32) (hbr : b / 2 % 2 = 1) (hbu : b / 16 % 2 = 1) (hl : (pp : Int) + q + 4 ≤ lf) (y : ByteArray) (hy : y.size ≤ 256) :
    PgStep z (layZ fi r b ((56 + q : Nat) : Int) y z) r (56 + q) b y.data.toList := by
  obtain ⟨own, p, j, hw, hr, ho, hn⟩ := h.ex
  have d1 : (56 + q) / 1024 = 0 := by omega
  have d2 : (56 + q) / 32 = 1 := by omega
  have h3 : pth z r 3 (56 + q) = none := by
    have := h.p3 (56 + q) (by omega)
    rw [decide_eq_false (by omega)] at this
    cases hq : pth z r 3 (56 + q) with
    | none => rfl
    | some f => rw [hq] at this; cases this
  have hm : mapMiss z r ((56 + q : Nat) : Int) = if 1 ≤ q then 0 else 1 := by
    rw [miss_eq hw hr (by omega), d1, d2]
    unfold lack
    rw [h.p1 0 (by omega), h.p2 1 (by omega)]
    by_cases e : 1 ≤ q
    · simp [e, hp.1]
    · simp [e, hp.1]
  have hlf := h.left
  rw [if_pos hp.1] at hlf
  have hml : mapMiss z r ((56 + q : Nat) : Int) < leftX fi z := by
    rw [hm, hlf]; split <;> simp <;> omega
  exact ⟨pgat_new hw hr (by omega) hb hb2 hbr hbu h3 hml y hy, fun P' b' y' h1 h2 h4 => pgat_keep hw hr (by omega) hb hb2 hbr hbu h3 hml y hy h1 h2 h4⟩
theorem layX_low_pg {fi r n0 : Nat} {lf : Int} {own0 : Who} {b : Nat} (hb : b % 2 = 1) (hb2 : b < 32) (hbr : b / 2 % 2 = 1) (hbu : b / 16 % 2 = 1) : ∀ (k pp : Nat) (y : ByteArray) (z : Sp), Laid fi r lf n0 own0 pp 0 z → pp + k ≤ 28 → (pp : Int) + k + 2 ≤ lf →
    (∀ i, i < k → PgAt (layX fi r b k ((pp + 1 : Nat) : Int) y z).1 r (pp + 1 + i) b (y.data.toList.drop (i * 256))) ∧ PgKeep z (layX fi r b k ((pp + 1 : Nat) : Int) y z).1 r
  | 0, pp, y, z, h, _, _ => ⟨fun i hi => absurd hi (Nat.not_lt_zero _), fun _ _ _ _ _ h => h⟩
  | k + 1, pp, y, z, h, h1, h2 => by
    have hsz : (y.extract 0 (min y.size 256)).size ≤ 256 := by rw [ByteArray.size_extract]; omega
    obtain ⟨m1, m2, m3, h'⟩ := laid_low h (by omega) hb hb2 hbr hbu (by omega) (y.extract 0 (min y.size 256)) hsz
    obtain ⟨s1, s2⟩ := laid_low_pg h (by omega) hb hb2 hbr hbu (by omega) (y.extract 0 (min y.size 256)) hsz
    rw [layX, m1, m2, m3, decide_eq_true rfl, cond_true, cond_true, cond_true]
    obtain ⟨i1, i2⟩ := layX_low_pg hb hb2 hbr hbu k (pp + 1) (y.extract (min y.size 256) y.size) _ h' (by omega) (by omega)
    refine ⟨fun i hi => ?_, fun P' b' y' g1 g2 g3 => i2 P' b' y' g1 g2 (s2 P' b' y' g1 g2 g3)⟩
    cases i with
    | zero =>
      refine (i2 _ _ _ hb hb2 s1).congr (fun j hj => ?_)
      rw [ext_head, take_getD _ _ hj]; simp
    | succ i =>
      have := i1 i (by omega)
      rw [ext_tail, List.drop_drop, show 256 + i * 256 = (i + 1) * 256 by omega] at this
      rw [show pp + 1 + (i + 1) = pp + 1 + 1 + i by omega]
      exact this
theorem layX_high_pg {fi r n0 : Nat} {lf : Int} {own0 : Who} {b : Nat} (hb : b % 2 = 1) (hb2 : b < 32) (hbr : b / 2 % 2 = 1) (hbu : b / 16 % 2 = 1) {pp : Nat} (hp : 1 ≤ pp ∧ pp ≤ 28) : ∀ (k q : Nat) (y : ByteArray) (z : Sp), Laid fi r lf n0 own0 pp q z → q + k ≤ 8 → (pp : Int) + q + k + 3 ≤ lf →
    (∀ i, i < k → PgAt (layX fi r b k ((56 + q : Nat) : Int) y z).1 r (56 + q + i) b (y.data.toList.drop (i * 256))) ∧ PgKeep z (layX fi r b k ((56 + q : Nat) : Int) y z).1 r
  | 0, q, y, z, h, _, _ => ⟨fun i hi => absurd hi (Nat.not_lt_zero _), fun _ _ _ _ _ h => h⟩
  | k + 1, q, y, z, h, h1, h2 => by
    have hsz : (y.extract 0 (min y.size 256)).size ≤ 256 := by rw [ByteArray.size_extract]; omega
    obtain ⟨m1, m2, m3, h'⟩ := laid_high h hp (by omega) hb hb2 hbr hbu (by omega) (y.extract 0 (min y.size 256)) hsz
    obtain ⟨s1, s2⟩ := laid_high_pg h hp (by omega) hb hb2 hbr hbu (by omega) (y.extract 0 (min y.size 256)) hsz
    rw [layX, m1, m2, m3, decide_eq_true rfl, cond_true, cond_true, cond_true]
    obtain ⟨i1, i2⟩ := layX_high_pg hb hb2 hbr hbu hp k (q + 1) (y.extract (min y.size 256) y.size) _ h' (by omega) (by omega)
    refine ⟨fun i hi => ?_, fun P' b' y' g1 g2 g3 => i2 P' b' y' g1 g2 (s2 P' b' y' g1 g2 g3)⟩
    cases i with
    | zero =>
      refine (i2 _ _ _ hb hb2 s1).congr (fun j hj => ?_)
      rw [ext_head, take_getD _ _ hj]; simp
    | succ i =>
      have := i1 i (by omega)
      rw [ext_tail, List.drop_drop, show 256 + i * 256 = (i + 1) * 256 by omega] at this
      rw [show 56 + q + (i + 1) = 56 + (q + 1) + i by omega]
      exact this
end Go.Proofs.YtdlglnoffpnonaaGreat.P
namespace Go.Proofs.YtdlglnoffpnonaaGreat.P
open Go.RowKit Go.MuLone Go.Maps
theorem load_pg {fi r nn : Nat} {lf : Int} {own0 : Who} {x : Pg} (hm : mayP x = true) (hl : (szT x : Int) + szD x + 11 ≤ lf) {zs : Nat → Sp} (hL0 : Laid fi r lf nn own0 0 0 (zs 0)) (hzs : ∀ i, i < 3 → layX fi r (prB i) (prC (szT x) (szD x) i) (prF (szT x) i) (prY x.tx x.da i) (zs i) = (zs (i + 1), 0)) :
    (∀ i, i < szT x → PgAt (zs 3) r (1 + i) 27 (x.tx.data.toList.drop (i * 256))) ∧ (∀ i, i < szD x → PgAt (zs 3) r (1 + szT x + i) 23 (x.da.data.toList.drop (i * 256))) ∧ (∀ i, i < 8 → PgAt (zs 3) r (56 + i) 23 []) ∧ Laid fi r lf nn own0 (szT x + szD x) 8 (zs 3) := by
  obtain ⟨hT, hD, t1, t8, d20⟩ := szb hm
  have z1 : (layX fi r (27 : Nat) (szT x) ((0 + 1 : Nat) : Int) x.tx (zs 0)).1 = zs 1 := congrArg Prod.fst (hzs 0 (by decide))
  have z2 : (layX fi r (23 : Nat) (szD x) ((0 + szT x + 1 : Nat) : Int) x.da (zs 1)).1 = zs 2 := by
    have := congrArg Prod.fst (hzs 1 (by decide))
    rw [show 0 + szT x + 1 = 1 + szT x by omega]; exact this
  have z3 : (layX fi r (23 : Nat) 8 ((56 + 0 : Nat) : Int) ⟨#[]⟩ (zs 2)).1 = zs 3 := congrArg Prod.fst (hzs 2 (by decide))
  obtain ⟨a0, L1⟩ := layX_low (b := 27) (by decide) (by decide) (by decide) (by decide) (szT x) 0 x.tx _ hL0 (by omega) (by omega)
  obtain ⟨p1, k1⟩ := layX_low_pg (b := 27) (by decide) (by decide) (by decide) (by decide) (szT x) 0 x.tx _ hL0 (by omega) (by omega)
  rw [z1] at L1 p1 k1
  obtain ⟨a1, L2⟩ := layX_low (b := 23) (by decide) (by decide) (by decide) (by decide) (szD x) (0 + szT x) x.da _ L1 (by omega) (by omega)
  obtain ⟨p2, k2⟩ := layX_low_pg (b := 23) (by decide) (by decide) (by decide) (by decide) (szD x) (0 + szT x) x.da _ L1 (by omega) (by omega)
  rw [z2] at L2 p2 k2
  obtain ⟨a2, L3⟩ := layX_high (b := 23) (by decide) (by decide) (by decide) (by decide) (pp := 0 + szT x + szD x) (by omega) 8 0 ⟨#[]⟩ _ L2 (by omega) (by omega)
  obtain ⟨p3, k3⟩ := layX_high_pg (b := 23) (by decide) (by decide) (by decide) (by decide) (pp := 0 + szT x + szD x) (by omega) 8 0 ⟨#[]⟩ _ L2 (by omega) (by omega)
  rw [z3] at L3 p3 k3
  refine ⟨fun i hi => ?_, fun i hi => ?_, fun i hi => ?_, ?_⟩
  · have := p1 i hi
    rw [show 0 + 1 + i = 1 + i by omega] at this
    exact k3 _ _ _ (by decide) (by decide) (k2 _ _ _ (by decide) (by decide) this)
  · have := p2 i hi
    rw [show 0 + szT x + 1 + i = 1 + szT x + i by omega] at this
    exact k3 _ _ _ (by decide) (by decide) this
  · have := p3 i hi
    rw [show 56 + 0 + i = 56 + i by omega] at this
    refine this.congr (fun j hj => ?_)
    show (([] : List UInt8).drop _).getD j 0 = _
    rw [List.drop_nil]
  · rw [show 0 + szT x + szD x = szT x + szD x by omega] at L3
    exact L3
/-- No page of it may be both written and fetched. -/
theorem load_bits {fi r nn : Nat} {lf : Int} {own0 : Who} {x : Pg} (hm : mayP x = true) (hl : (szT x : Int) + szD x + 11 ≤ lf) {zs : Nat → Sp} (hL0 : Laid fi r lf nn own0 0 0 (zs 0)) (hzs : ∀ i, i < 3 → layX fi r (prB i) (prC (szT x) (szD x) i) (prF (szT x) i) (prY x.tx x.da i) (zs i) = (zs (i + 1), 0)) :
    ∀ q ∈ rqA (zs 3) r 32, q.b = 27 ∨ q.b = 23 := by
  obtain ⟨hT, hD, t1, t8, d20⟩ := szb hm
  obtain ⟨b1, b2, b3, L⟩ := load_pg hm hl hL0 hzs
  intro q hq
  obtain ⟨a, b, c, g, t, f, ha, hb, hc, ka, kb, kc, rfl⟩ := (page_mem _ _ _).1 hq
  have e1 : pth (zs 3) r 1 a = some g := by
    rw [pth_succ, Nat.mod_eq_of_lt ha]; exact ka
  have e2 : pth (zs 3) r 2 (a * 32 + b) = some t := by
    rw [pth_succ, show (a * 32 + b) / 32 = a by omega, show (a * 32 + b) % 32 = b by omega, e1]; exact kb
  have e3 : pth (zs 3) r 3 ((a * 32 + b) * 32 + c) = some f := by
    rw [pth_succ, show ((a * 32 + b) * 32 + c) / 32 = a * 32 + b by omega, show ((a * 32 + b) * 32 + c) % 32 = c by omega, e2]; exact kc
  have h3 := L.p3 ((a * 32 + b) * 32 + c) (by omega)
  rw [e3] at h3
  have h4 := of_decide_eq_true h3.symm
  have fin : ∀ B l, PgAt (zs 3) r ((a * 32 + b) * 32 + c) B l → B < 32 → T (zs 3) t c % 32 = (B : Int) := by
    rintro B l ⟨t0, gn, q1, q2, _⟩ hB
    rw [show ((a * 32 + b) * 32 + c) / 32 = a * 32 + b by omega, e2] at q1
    obtain rfl : t = t0 := Option.some.inj q1
    rw [show ((a * 32 + b) * 32 + c) % 32 = c by omega] at q2
    rw [q2]; omega
  generalize (a * 32 + b) * 32 + c = P at *
  show T (zs 3) t c % 32 = 27 ∨ T (zs 3) t c % 32 = 23
  rcases h4 with h4 | h4
  · rcases Nat.lt_or_ge P (1 + szT x) with h5 | h5
    · have := b1 (P - 1) (by omega)
      rw [show 1 + (P - 1) = P by omega] at this
      exact .inl (fin _ _ this (by decide))
    · have := b2 (P - 1 - szT x) (by omega)
      rw [show 1 + szT x + (P - 1 - szT x) = P by omega] at this
      exact .inr (fin _ _ this (by decide))
  · have := b3 (P - 56) (by omega)
    rw [show 56 + (P - 56) = P by omega] at this
    exact .inr (fin _ _ this (by decide))
end Go.Proofs.YtdlglnoffpnonaaGreat.P
namespace Go.Proofs.YtdlglnoffpnonaaGreat.P
open Go.RowKit Go.MuLone Go.Maps
theorem needed_pos {acc : Int} (h : acc = 1 ∨ acc = 2 ∨ acc = 3) : neededI acc = 2 ∨ neededI acc = 4 ∨ neededI acc = 8 := by
  rcases h with rfl | rfl | rfl
  · exact .inl rfl
  · exact .inr (.inl rfl)
  · exact .inr (.inr rfl)
theorem mayB_low (n b : Nat) (k : Int) (hk : k = 2 ∨ k = 4 ∨ k = 8) (hb2 : b < 32) : mayB k ((n * 1024 + b : Nat) : Int) = mayB k (b : Int) := by
  unfold mayB
  have e1 : ((n * 1024 + b : Nat) : Int) % 2 = (b : Int) % 2 := by omega
  have e2 : ((n * 1024 + b : Nat) : Int) / 16 % 2 = (b : Int) / 16 % 2 := by omega
  have e3 : ((n * 1024 + b : Nat) : Int) / k % 2 = (b : Int) / k % 2 := by rcases hk with rfl | rfl | rfl <;> omega
  rw [e1, e2, e3]
/-- Where the byte o of page P is found, or that it is not. -/
theorem pgat_walk {fi : Nat} {z : Sp} {own : Who} (hw : WF fi z own) {r p j P b : Nat} {y : List UInt8} (hr : own r = some (3, p, j)) (hP : P < 32768) (hb2 : b < 32) (hp : PgAt z r P b y) {acc : Int} (ha : acc = 1 ∨ acc = 2 ∨ acc = 3) (o : Nat) (ho : o < 256) :
    ∃ n : Nat, n < z.L.length ∧ (∀ i, i < 256 → z.s[n * 256 + i]? = some (y.getD i 0)) ∧ walkR z.L.length z.s r ((P * 256 + o : Nat) : Int) acc = (bif mayB (neededI acc) (b : Int) then 0 else 3) ∧
      walkV z.L.length z.s r ((P * 256 + o : Nat) : Int) acc = (bif mayB (neededI acc) (b : Int) then ((n * 256 + o : Nat) : Int) else 0) := by
  obtain ⟨t0, n, q1, q2, hn, hy⟩ := hp
  refine ⟨n, hn, hy, ?_⟩
  obtain ⟨e3, e4⟩ : leafR z.L.length z.s r ((P : Int) * 256) = 0 ∧ leafV z.L.length z.s r ((P : Int) * 256) = ((t0 * 256 + P % 32 * 8 : Nat) : Int) := by
    rcases leaf_tab hw hr hP with ⟨e1, e2, e3⟩ | ⟨t1, e1, e2, e3, e4⟩ | ⟨t1, t0', e1, e2, e3, e4⟩
    · have := pth_pre' (m := P / 32) (d := 1) (z := z) (r := r) (by rw [show P / 32 / 32 = P / 1024 by omega]; exact e1)
      rw [q1] at this; cases this
    · rw [q1] at e2; cases e2
    · have : t0 = t0' := Option.some.inj (q1.symm.trans e2)
      subst this
      exact ⟨e3, e4⟩
  obtain ⟨v, hv⟩ : ∃ v : Int, ((P * 256 + o : Nat) : Int) = v := ⟨_, rfl⟩
  have hv1 : v < 8388608 := by omega
  have hv2 : P = (v / 256).toNat := by omega
  have hv3 : 0 ≤ v := by omega
  obtain ⟨f1, f2⟩ := leaf_same5 (fr := z.L.length) (s := z.s) (r := (r : Int)) hv1 hv2 hv3
  rw [hv]
  have hE : walkE z.L.length z.s r v = ((n * 1024 + b : Nat) : Int) := by unfold walkE; rw [f2, e4]; exact q2
  have hd : ((n * 1024 + b : Nat) : Int) / 1024 = (n : Int) := by omega
  have hk := needed_pos ha
  have hR : walkR z.L.length z.s r v acc = (bif mayB (neededI acc) (b : Int) then 0 else 3) := by
    unfold walkR
    rw [decide_eq_false (by rcases hk with h | h | h <;> rw [h] <;> decide), cond_false, f1, e3, decide_eq_true rfl, cond_true, hE, mayB_low n b _ hk hb2, hd, decide_eq_true (show (n : Int) < (z.L.length : Int) by omega), Bool.and_true]
  refine ⟨hR, ?_⟩
  unfold walkV
  rw [hR, hE, hd]
  cases mayB (neededI acc) (b : Int) with
  | true => rw [cond_true, decide_eq_true rfl, cond_true, cond_true]; omega
  | false => rw [cond_false, decide_eq_false (by decide), cond_false, cond_false]
end Go.Proofs.YtdlglnoffpnonaaGreat.P
namespace Go.Proofs.YtdlglnoffpnonaaGreat.P
open Go.RowKit Go.MuLone Go.Maps
/-- n bytes of y from o on, noughts behind its end. -/
def bsF (y : List UInt8) (o n : Nat) : List UInt8 := (List.range n).map (fun i => y.getD (o + i) 0)
theorem bsF_len (y : List UInt8) (o n : Nat) : (bsF y o n).length = n := by unfold bsF; rw [List.length_map, List.length_range]
theorem bsF_get (y : List UInt8) (o n i : Nat) (h : i < n) : (bsF y o n)[i]? = some (y.getD (o + i) 0) := by
  unfold bsF; rw [List.getElem?_map, List.getElem?_range h]; rfl
theorem bsF_app (y : List UInt8) (o A k : Nat) : bsF y o A ++ bsF y (o + A) k = bsF y o (A + k) := by
  apply List.ext_getElem?
  intro i
  by_cases h : i < A
  · rw [List.getElem?_append_left (by rw [bsF_len]; exact h), bsF_get _ _ _ _ h, bsF_get _ _ _ _ (by omega)]
  · rw [List.getElem?_append_right (by rw [bsF_len]; omega), bsF_len]
    by_cases h2 : i < A + k
    · rw [bsF_get _ _ _ _ (by omega), bsF_get _ _ _ _ h2, show o + A + (i - A) = o + i by omega]
    · rw [List.getElem?_eq_none (by rw [bsF_len]; omega), List.getElem?_eq_none (by rw [bsF_len]; omega)]
theorem bsF_all (y : List UInt8) : bsF y 0 y.length = y := by
  apply List.ext_getElem?
  intro i
  by_cases h : i < y.length
  · rw [bsF_get _ _ _ _ h, Nat.zero_add, List.getD_eq_getElem?_getD, List.getElem?_eq_getElem h]; rfl
  · rw [List.getElem?_eq_none (by rw [bsF_len]; omega), List.getElem?_eq_none (by omega)]
theorem bsF_past (y : List UInt8) (n : Nat) : bsF y y.length n = List.replicate n 0 := by
  apply List.ext_getElem?
  intro i
  by_cases h : i < n
  · rw [bsF_get _ _ _ _ h, List.getElem?_replicate, if_pos h, List.getD_eq_getElem?_getD, List.getElem?_eq_none (by omega)]; rfl
  · rw [List.getElem?_eq_none (by rw [bsF_len]; omega), List.getElem?_eq_none (by rw [List.length_replicate]; omega)]
theorem getD_drop (y : List UInt8) (a i : Nat) : (y.drop a).getD i 0 = y.getD (a + i) 0 := by
  rw [List.getD_eq_getElem?_getD, List.getD_eq_getElem?_getD, List.getElem?_drop]
theorem getV_nat (s : List UInt8) (p k : Nat) (h : p + k ≤ s.length) : (getV s (p : Int) (k : Int)).data.toList = (s.drop p).take k := by
  unfold getV subB
  rw [if_neg (by omega), if_pos (inB_t (by omega)), Int.toNat_natCast, Int.toNat_natCast]
theorem in_pages {fi : Nat} {z : Sp} {own : Who} (hw : WF fi z own) {r p j B b c : Nat} {y : List UInt8} (hr : own r = some (3, p, j)) (hb2 : b < 32) (hm : mayB 2 (b : Int) = true) (hB : B + c ≤ 32768)
    (hp : ∀ i, i < c → PgAt z r (B + i) b (y.drop (i * 256))) (a : Int) (o n : Nat) (ha : a = ((B * 256 + o : Nat) : Int)) (hn : o + n ≤ c * 256) :
    ∀ (F A : Nat), A ≤ n → n - A < F → chunkX (X := List UInt8) (fun _ => z) r a n 1 (fun p a b x => x ++ (getV z.s p (b - a)).data.toList) F A (bsF y o A) = (bsF y o n, 0)
  | 0, A, _, h2 => absurd h2 (Nat.not_lt_zero _)
  | F + 1, A, h1, h2 => by
    rw [chunkX]
    by_cases hl : n ≤ A
    · obtain rfl : A = n := by omega
      rw [decide_eq_true (Int.le_refl _), cond_true]
    · rw [decide_eq_false (by omega), cond_false]
      obtain ⟨q, hq⟩ : ∃ q, (o + A) / 256 = q := ⟨_, rfl⟩
      obtain ⟨O, hO⟩ : ∃ O, (o + A) % 256 = O := ⟨_, rfl⟩
      have hqc : q < c := by omega
      have hO2 : O < 256 := by omega
      have hwr : IntKind.u64.wrap (a + (A : Int)) = (((B + q) * 256 + O : Nat) : Int) := by
        rw [ha, IntKind.wrap_u64]; omega
      obtain ⟨m, hmL, hby, hR, hV⟩ := pgat_walk hw hr (P := B + q) (by omega) hb2 (hp q hqc) (acc := 1) (.inl rfl) O hO2
      have hn1 : neededI 1 = 2 := rfl
      rw [hn1, hm, cond_true] at hR hV
      rw [hwr, hR, decide_eq_true rfl, cond_true, hV]
      have hpc : pieceI a n A = ((A + min (n - A) (256 - O) : Nat) : Int) := by
        unfold pieceI; rw [hwr]; omega
      obtain ⟨k, hk⟩ : ∃ k, min (n - A) (256 - O) = k := ⟨_, rfl⟩
      rw [hk] at hpc
      have hlen := hw.sz.len
      have hmb : m * 256 + O + k ≤ z.s.length := by rw [hlen]; omega
      have hg : (getV z.s ((m * 256 + O : Nat) : Int) (((A + k : Nat) : Int) - (A : Int))).data.toList = bsF y (o + A) k := by
        rw [show ((A + k : Nat) : Int) - (A : Int) = (k : Int) by omega, getV_nat _ _ _ hmb]
        apply List.ext_getElem?
        intro i
        by_cases hi : i < k
        · rw [List.getElem?_take_of_lt hi, List.getElem?_drop, Nat.add_assoc, hby (O + i) (by omega), bsF_get _ _ _ _ hi, getD_drop, show q * 256 + (O + i) = o + A + i by omega]
        · rw [List.getElem?_eq_none (by rw [List.length_take]; omega), List.getElem?_eq_none (by rw [bsF_len]; omega)]
      rw [hpc, hg, bsF_app]
      exact in_pages hw hr hb2 hm hB hp a o n ha hn F (A + k) (by omega) (by omega)
theorem in_all {fi : Nat} {z : Sp} {own : Who} (hw : WF fi z own) {r p j B b c : Nat} {y : List UInt8} (hr : own r = some (3, p, j)) (hb2 : b < 32) (hm : mayB 2 (b : Int) = true) (hB : B + c ≤ 32768)
    (hp : ∀ i, i < c → PgAt z r (B + i) b (y.drop (i * 256))) (a : Int) (o n : Nat) (ha : a = ((B * 256 + o : Nat) : Int)) (hn : o + n ≤ c * 256) (hn2 : n ≤ 4096) :
    inE fi z r a n = 0 ∧ inV fi z r a n = ⟨(bsF y o n).toArray⟩ := by
  have mb : movedBad fi z r n = false := by
    unfold movedBad; rw [hw.tkn hr, decide_eq_false (by omega), decide_eq_false (by omega)]; rfl
  have h := in_pages hw hr hb2 hm hB hp a o n ha hn (n + 1) 0 (Nat.zero_le _) (by omega)
  have hx : inX z r a n = (bsF y o n, 0) := by
    unfold inX
    rw [Int.toNat_natCast]
    exact h
  have he : inE fi z r a n = 0 := by unfold inE; rw [mb, cond_false, hx]
  refine ⟨he, ?_⟩
  unfold inV
  rw [he, decide_eq_true rfl, cond_true, hx]
/-- One byte put at a page's place: refused, or put. -/
theorem out_one {fi : Nat} {z : Sp} {own : Who} (hw : WF fi z own) {r p j P b : Nat} {y : List UInt8} (hr : own r = some (3, p, j)) (hb2 : b < 32) (hP : P < 32768) (hp : PgAt z r P b y) (a : Int) (O : Nat) (hO : O < 256) (ha : a = ((P * 256 + O : Nat) : Int)) (s : ByteArray) (hs : s.size = 1) :
    outErr fi z r a s = (bif mayB 4 (b : Int) then 0 else 3) ∧ (mayB 4 (b : Int) = false → outSt fi z r a s = z) := by
  have mb : movedBad fi z r s.size = false := by
    unfold movedBad; rw [hw.tkn hr, decide_eq_false (by omega), decide_eq_false (by omega)]; rfl
  obtain ⟨m, hmL, hby, hR, hV⟩ := pgat_walk hw hr hP hb2 hp (acc := 2) (.inr (.inl rfl)) O hO
  have hn1 : neededI 2 = 4 := rfl
  rw [hn1] at hR hV
  have hwr : IntKind.u64.wrap (a + 0) = ((P * 256 + O : Nat) : Int) := by
    rw [ha, IntKind.wrap_u64]; omega
  have hpc : pieceI a ((1 : Nat) : Int) 0 = 1 := by
    unfold pieceI; rw [hwr]; omega
  have e1 : outC z r a ((1 : Nat) : Int) = bif mayB 4 (b : Int) then 0 else 3 := by
    unfold outC
    rw [show (((1 : Nat) : Int).toNat + 1) = 1 + 1 from rfl, chunkX, decide_eq_false (by decide), cond_false, hwr, hR]
    cases mayB 4 (b : Int) with
    | true => rw [cond_true, decide_eq_true rfl, cond_true, hpc, chunkX, decide_eq_true (by decide), cond_true]
    | false => rw [cond_false, decide_eq_false (by decide), cond_false]
  refine ⟨?_, fun hq => (by
    unfold outSt
    rw [mb, cond_false, hs, e1, hq, cond_false, decide_eq_false (by decide), cond_false])⟩
  unfold outErr
  rw [mb, cond_false, hs, e1]
  cases hq : mayB 4 (b : Int) with
  | false => rw [cond_false, decide_eq_false (by decide), cond_false]
  | true =>
    rw [hq, cond_true] at hR
    rw [cond_true, decide_eq_true rfl, cond_true]
    unfold outW
    rw [hs, show (((1 : Nat) : Int).toNat + 1) = 1 + 1 from rfl, chunkX, decide_eq_false (by decide), cond_false, hwr]
    show (bif decide (walkR z.L.length z.s r ((P * 256 + O : Nat) : Int) 2 = 0) then chunkX (X := Sp) id r a ((1 : Nat) : Int) 2 (fun p a c x => putX2 s p a c x) 1 (pieceI a ((1 : Nat) : Int) 0) (putX2 s (walkV z.L.length z.s r ((P * 256 + O : Nat) : Int) 2) 0 (pieceI a ((1 : Nat) : Int) 0) z) else (z, walkR z.L.length z.s r ((P * 256 + O : Nat) : Int) 2)).2 = _
    rw [hR, decide_eq_true rfl, cond_true, hpc, chunkX, decide_eq_true (by decide), cond_true]
end Go.Proofs.YtdlglnoffpnonaaGreat.P
