/- Stage 11: the document's Pages. No condition. -/
import Derived.Test.YtbcnibnkojnpiaaGreatU2
import Derived.Test.YtbcnibnkojnpiaaGreatED
import Derived.Deep.AppendLies
import Derived.Deep.LoopGhost
set_option linter.unusedVariables false
set_option linter.unusedSimpArgs false
set_option maxRecDepth 100000
namespace Go.Proofs.YtbcnibnkojnpiaaGreat.P
open Go.RowKit Go.MuLone Go.Maps
structure Pgr where
  n : Nat
  b : Int
  f : Nat
def pgCells (l : List Pgr) : List Value := l.flatMap fun p => [.int .i64 (p.n : Int), .int .u64 p.b, .int .i64 (p.f : Int)]
def tbI (l : List Nat) : List Value := l.map fun (f : Nat) => .int .i64 (f : Int)
def rqC (z : Sp) (t n : Nat) : Nat → List Pgr
  | 0 => []
  | c + 1 => rqC z t n c ++ (match kid z t c with | none => [] | some g => [⟨n * 32 + c, T z t c % 32, g⟩])
def rqB (z : Sp) (t n : Nat) : Nat → List Pgr
  | 0 => []
  | b + 1 => rqB z t n b ++ (match kid z t b with | none => [] | some g => rqC z g (n * 32 + b) 32)
def tbB (z : Sp) (t : Nat) : Nat → List Nat
  | 0 => []
  | b + 1 => tbB z t b ++ (match kid z t b with | none => [] | some g => [g])
def rqA (z : Sp) (r : Nat) : Nat → List Pgr
  | 0 => []
  | a + 1 => rqA z r a ++ (match kid z r a with | none => [] | some g => rqB z g a 32)
def tbA (z : Sp) (r : Nat) : Nat → List Nat
  | 0 => []
  | a + 1 => tbA z r a ++ (match kid z r a with | none => [] | some g => g :: tbB z g 32)
theorem rqC_len (z : Sp) (t n : Nat) : ∀ c, (rqC z t n c).length ≤ c
  | 0 => Nat.le_refl _
  | c + 1 => by
    have := rqC_len z t n c
    rw [rqC, List.length_append]
    cases kid z t c with
    | none => show _ + 0 ≤ _; omega
    | some g => show _ + 1 ≤ _; omega
theorem rqB_len (z : Sp) (t n : Nat) : ∀ c, (rqB z t n c).length ≤ c * 32
  | 0 => Nat.le_refl _
  | c + 1 => by
    have := rqB_len z t n c
    rw [rqB, List.length_append]
    cases kid z t c with
    | none => show _ + 0 ≤ _; omega
    | some g => have := rqC_len z g (n * 32 + c) 32; show _ + (rqC z g (n * 32 + c) 32).length ≤ _; omega
theorem tbB_len (z : Sp) (t : Nat) : ∀ c, (tbB z t c).length ≤ c
  | 0 => Nat.le_refl _
  | c + 1 => by
    have := tbB_len z t c
    rw [tbB, List.length_append]
    cases kid z t c with
    | none => show _ + 0 ≤ _; omega
    | some g => show _ + 1 ≤ _; omega
theorem rqA_len (z : Sp) (r : Nat) : ∀ c, (rqA z r c).length ≤ c * 1024
  | 0 => Nat.le_refl _
  | c + 1 => by
    have := rqA_len z r c
    rw [rqA, List.length_append]
    cases kid z r c with
    | none => show _ + 0 ≤ _; omega
    | some g => have := rqB_len z g c 32; show _ + (rqB z g c 32).length ≤ _; omega
theorem tbA_len (z : Sp) (r : Nat) : ∀ c, (tbA z r c).length ≤ c * 33
  | 0 => Nat.le_refl _
  | c + 1 => by
    have := tbA_len z r c
    rw [tbA, List.length_append]
    cases kid z r c with
    | none => show _ + 0 ≤ _; omega
    | some g => have := tbB_len z g 32; show _ + ((tbB z g 32).length + 1) ≤ _; omega
theorem pgCells_add (l : List Pgr) (p : Pgr) : pgCells (l ++ [p]) = pgCells l ++ [.int .i64 (p.n : Int), .int .u64 p.b, .int .i64 (p.f : Int)] := by
  unfold pgCells; simp
theorem pgCells_len : ∀ l : List Pgr, (pgCells l).length = l.length * 3
  | [] => rfl
  | a :: l => by
    have := pgCells_len l
    show (_ :: _ :: _ :: pgCells l).length = _
    simp only [List.length_cons]; omega
theorem tbI_add (l : List Nat) (f : Nat) : tbI (l ++ [f]) = tbI l ++ [.int .i64 (f : Int)] := by unfold tbI; rw [List.map_append]; rfl
theorem tbI_len (l : List Nat) : (tbI l).length = l.length := by unfold tbI; exact List.length_map _
theorem pageInfo : (Tryz.prog.info? 41).map (fun i => (i.zero, i.size, i.bytes)) = some (some (.agg #[.int .i64 0, .int .u64 0, .int .i64 0]), 3, 24) := by kernel_rfl
set_option maxHeartbeats 12800000 in
theorem o_rpages {w0 w : World} {rp rb fi : Nat} {z : Sp} {R : Asn} {own : Who} (h : Own w0 w (Star (rpA rp rb fi z.L z.s) R)) (hR : Stable R) (hw : WF fi z own) {r p j : Nat} (hr : own r = some (3, p, j)) :
    Calls Tryz.prog 12 #[.pointer (some ⟨rp, 0, none⟩), .int .i64 (r : Int)] w fun e w' => ∃ o6 c6 o7 c7, e = .returned (.tuple #[.slice o6 (rqA z r 32).length c6, .slice o7 (tbA z r 32).length c7]) ∧ Own w0 w' (Star (rpA rp rb fi z.L z.s) (Star (rowA 41 3 (.slice o6 (rqA z r 32).length c6) (rqA z r 32).length (pgCells (rqA z r 32))) (Star (rowA 3 1 (.slice o7 (tbA z r 32).length c7) (tbA z r 32).length (tbI (tbA z r 32))) R))) := by
  obtain ⟨i0, hi0, hz0, hz1, hz2⟩ := info_parts intInfo
  obtain ⟨i1, hi1, hy0, hy1, hy2⟩ := info_parts pageInfo
  have SQ := Lib.hid (stable_rp rp rb fi z.L z.s)
  have HR := Lib.hid hR
  have ST := Lib.hid (fun (v6 v7 : Value) (P : List Pgr) (Tb : List Nat) => stable_star SQ.out (stable_star (stable_row 41 3 v6 P.length (pgCells P)) (stable_star (stable_row 3 1 v7 Tb.length (tbI Tb)) HR.out)))
  have ST7 := Lib.hid (fun (v6 : Value) (P : List Pgr) => stable_star SQ.out (stable_star (stable_row 41 3 v6 P.length (pgCells P)) HR.out))
  have H0 : RowKit.Hid (Own w0 w (Star (rpA rp rb fi z.L z.s) (Star (rowA 41 3 (.slice none 0 0) 0 []) (Star (rowA 3 1 (.slice none 0 0) 0 []) R)))) := Lib.hid (by
    have a := (h.add (stable_star SQ.out HR.out) (Gr.refl _) (A := rowA 3 1 (.slice none 0 0) 0 []) ⟨fun _ => False, ⟨⟨rfl, .inl ⟨rfl, rfl⟩⟩, fun b hb => by cases hb⟩, fun x hx => hx.elim⟩)
    have b := (a.add (stable_star (stable_row _ _ _ _ _) (stable_star SQ.out HR.out)) (Gr.refl _) (A := rowA 41 3 (.slice none 0 0) 0 []) ⟨fun _ => False, ⟨⟨rfl, .inl ⟨rfl, rfl⟩⟩, fun b hb => by cases hb⟩, fun x hx => hx.elim⟩)
    exact b.rot3)
  have NX : RowKit.Hid (∀ (f hh p' j' k : Nat), own f = some (hh + 1, p', j') → k < 32 → ∀ w1 Q, Stable Q → Own w0 w1 (Star (rpA rp rb fi z.L z.s) Q) → Calls Tryz.prog 36 #[.pointer (some ⟨rp, 0, none⟩), .int .i64 (f : Int), .int .i64 (k : Int)] w1 fun e w' => e = .returned (.int .i64 (kidI (kid z f k))) ∧ Own w0 w' (Star (rpA rp rb fi z.L z.s) Q)) := Lib.hid (fun f hh p' j' k hf hk w1 Q hQ h => o_rnext h hQ hw hf k hk)
  clear h hR
  go_enter Tryz.func12, Tryz.ntmps12
  go_wp2_with fail
  go_loopg [6, 7, 8] 33 (fun t v6 v7 v8 wr => ∃ (a : Nat) (o6 : Option Addr) (c6 : Nat) (o7 : Option Addr) (c7 : Nat), a ≤ 32 ∧ t = 33 - a ∧ v6 = .slice o6 (rqA z r a).length c6 ∧ v7 = .slice o7 (tbA z r a).length c7 ∧ v8 = .int .i64 (a : Int) ∧ Own w0 wr (Star (rpA rp rb fi z.L z.s) (Star (rowA 41 3 (.slice o6 (rqA z r a).length c6) (rqA z r a).length (pgCells (rqA z r a))) (Star (rowA 3 1 (.slice o7 (tbA z r a).length c7) (tbA z r a).length (tbI (tbA z r a))) R))))
  case atStart => exact ⟨0, none, 0, none, 0, by omega, rfl, rfl, rfl, rfl, H0.out⟩
  case round =>
    clear H0
    obtain ⟨a, o6, c6, o7, c7, ha, rfl, rfl, rfl, rfl, ho⟩ := hrel
    have H := Lib.hid ho
    clear ho
    by_cases ha2 : a < 32
    · have e1 : (a : Int) < 32 := by omega
      have e2 : IntKind.i64.wrap ((a : Int) + 1) = (a : Int) + 1 := wrapI _ (by omega) (by omega)
      have N1 := Lib.hid (NX.out r 2 p j a hr ha2 _ _ (by exact stable_star (stable_row _ _ _ _ _) (stable_star (stable_row _ _ _ _ _) HR.out)) H.out)
      have lp := rqA_len z r a
      have lt := tbA_len z r a
      cases hk : kid z r a with
      | none =>
        rw [hk] at N1
        have N1b : RowKit.Hid (Calls Tryz.prog 36 #[.pointer (some ⟨rp, 0, none⟩), .int .i64 (r : Int), .int .i64 (a : Int)] wr fun e w' => e = .returned (.int .i64 (-1)) ∧ Own w0 w' (Star (rpA rp rb fi z.L z.s) (Star (rowA 41 3 (.slice o6 (rqA z r a).length c6) (rqA z r a).length (pgCells (rqA z r a))) (Star (rowA 3 1 (.slice o7 (tbA z r a).length c7) (tbA z r a).length (tbI (tbA z r a))) R)))) := Lib.hid N1.out
        clear N1
        have q1 : rqA z r (a + 1) = rqA z r a := by rw [rqA, hk]; exact List.append_nil _
        have q2 : tbA z r (a + 1) = tbA z r a := by rw [tbA, hk]; exact List.append_nil _
        have Q1 := Lib.hid q1
        have Q2 := Lib.hid q2
        clear q1 q2 hk
        go_wp2_with (go_at_call 36; refine N1b.out.mono ?_; rintro e w2 ⟨rfl, h2⟩; have H2 := Lib.hid h2; clear h2)
        go_roundg (33 - (a + 1))
        case measure => omega
        case rel => exact ⟨a + 1, o6, c6, o7, c7, by omega, rfl, by rw [Q1.out], by rw [Q2.out], by go_num, by rw [Q1.out, Q2.out]; exact H2.out⟩
      | some g =>
        have hg := (hw.kid_iff hr ha2).1 hk
        rw [hk] at N1
        have N1b : RowKit.Hid (Calls Tryz.prog 36 #[.pointer (some ⟨rp, 0, none⟩), .int .i64 (r : Int), .int .i64 (a : Int)] wr fun e w' => e = .returned (.int .i64 (g : Int)) ∧ Own w0 w' (Star (rpA rp rb fi z.L z.s) (Star (rowA 41 3 (.slice o6 (rqA z r a).length c6) (rqA z r a).length (pgCells (rqA z r a))) (Star (rowA 3 1 (.slice o7 (tbA z r a).length c7) (tbA z r a).length (tbI (tbA z r a))) R)))) := Lib.hid N1.out
        clear N1
        have q1 : rqA z r (a + 1) = rqA z r a ++ rqB z g a 32 := by rw [rqA, hk]
        have q2 : tbA z r (a + 1) = tbA z r a ++ g :: tbB z g 32 := by rw [tbA, hk]
        have Q1 := Lib.hid q1
        have Q2 := Lib.hid q2
        have n1 : ¬ (g : Int) < 0 := by omega
        have HG := Lib.hid hg
        clear q1 q2 hk hg
        obtain ⟨PA, hPA⟩ : ∃ l, rqA z r a = l := ⟨_, rfl⟩
        obtain ⟨TA, hTA⟩ : ∃ l, tbA z r a = l := ⟨_, rfl⟩
        rw [hPA] at N1b Q1 lp
        rw [hTA] at N1b Q2 lt
        rw [hPA] at H
        rw [hTA] at H
        rw [hPA, hTA]
        clear hPA hTA H
        go_upto_region 8 with (go_at_call 36; refine N1b.out.mono ?_; rintro e w2 ⟨rfl, h2⟩; have H2 := Lib.hid h2; clear h2)
        have H6 := Lib.hid (H2.out.gr (ST.out _ _ _ _) ((Gr.refl _).alloc (Nat.le_refl _) (.cells #[.int .i64 (g : Int)] 3)))
        have HROW := Lib.hid H6.out.right.right.row
        have tl := tbI_len TA
        clear N1b H2
        go_upto_region 9 with (at_builtin; refine wpList_append_lies _ rfl _ _ _ rfl 0 3 i0 (.int .i64 0) 1 8 Tryz.underlying29 hi0 hz0 hz1 hz2 rfl (by omega) (.slice o7 (TA).length c7) (TA).length (tbI (TA)) rfl HROW.out ⟨_, 0, none⟩ 1 1 [.int .i64 (g : Int)] rfl rfl (World.news_of_block (cs := #[.int .i64 (g : Int)]) (blk_new _ _)) (by simp [Value.oneCell']) (by omega) (by unfold maxLen; omega) (by omega) (by omega) (w2.heap.size + 1) (by simp) ?_; intro g2 cap2 w8 hown8 hgrow8 hat8 hlt8; have H9 := Lib.hid ((H6.out.rot3.grown (g := g2) (ST7.out _ _) hown8 rfl hgrow8 (hat8.elim .inl (fun e => .inr (by simp; omega))) hlt8).rot3'); clear hown8 hgrow8 hat8 hlt8)
        go_wp2_with fail
        have z0 : PA = PA ++ rqB z g a 0 := (List.append_nil _).symm
        have z1 : TA ++ [g] = TA ++ g :: tbB z g 0 := rfl
        have H9b : RowKit.Hid (Own w0 w8 (Star (rpA rp rb fi z.L z.s) (Star (rowA 41 3 (.slice o6 (PA ++ rqB z g a 0).length c6) (PA ++ rqB z g a 0).length (pgCells (PA ++ rqB z g a 0))) (Star (rowA 3 1 (.slice (some ⟨g2, 0, none⟩) (TA ++ g :: tbB z g 0).length cap2) (TA ++ g :: tbB z g 0).length (tbI (TA ++ g :: tbB z g 0))) R)))) := Lib.hid (by
          have h := H9.out
          rw [← tbI_add, show TA.length + 1 = (TA ++ [g]).length by simp] at h
          rw [← z0, ← z1]; exact h)
        have y0 : TA.length + 1 = (TA ++ g :: tbB z g 0).length := by rw [← z1]; simp
        have Y0 := Lib.hid y0
        have Z0 := Lib.hid (congrArg List.length z0)
        clear z0 z1 y0 H9 H6 HROW
        go_loopg [6, 7, 10] 33 (fun t v6 v7 v10 wr => ∃ (b : Nat) (o6 : Option Addr) (c6 : Nat) (o7 : Option Addr) (c7 : Nat), b ≤ 32 ∧ t = 33 - b ∧ v6 = .slice o6 (PA ++ rqB z g a b).length c6 ∧ v7 = .slice o7 (TA ++ g :: tbB z g b).length c7 ∧ v10 = .int .i64 (b : Int) ∧ Own w0 wr (Star (rpA rp rb fi z.L z.s) (Star (rowA 41 3 (.slice o6 (PA ++ rqB z g a b).length c6) (PA ++ rqB z g a b).length (pgCells (PA ++ rqB z g a b))) (Star (rowA 3 1 (.slice o7 (TA ++ g :: tbB z g b).length c7) (TA ++ g :: tbB z g b).length (tbI (TA ++ g :: tbB z g b))) R))))
        case atStart => exact ⟨0, o6, c6, some ⟨g2, 0, none⟩, cap2, by omega, rfl, by rw [← Z0.out], by rw [← Y0.out], rfl, H9b.out⟩
        case round =>
          clear H9b Y0 Z0
          obtain ⟨b, o6, c6, o7, c7, hb, rfl, rfl, rfl, rfl, ho⟩ := hrel
          have H := Lib.hid ho
          clear ho
          by_cases hb2 : b < 32
          · have e3 : (b : Int) < 32 := by omega
            have e4 : IntKind.i64.wrap ((b : Int) + 1) = (b : Int) + 1 := wrapI _ (by omega) (by omega)
            have N1 := Lib.hid (NX.out g 1 r a b HG.out hb2 _ _ (by exact stable_star (stable_row _ _ _ _ _) (stable_star (stable_row _ _ _ _ _) HR.out)) H.out)
            have lp2 := rqB_len z g a b
            have lt2 := tbB_len z g b
            cases hk : kid z g b with
            | none =>
              rw [hk] at N1
              have N1b : RowKit.Hid (Calls Tryz.prog 36 #[.pointer (some ⟨rp, 0, none⟩), .int .i64 (g : Int), .int .i64 (b : Int)] wr fun e w' => e = .returned (.int .i64 (-1)) ∧ Own w0 w' (Star (rpA rp rb fi z.L z.s) (Star (rowA 41 3 (.slice o6 (PA ++ rqB z g a b).length c6) (PA ++ rqB z g a b).length (pgCells (PA ++ rqB z g a b))) (Star (rowA 3 1 (.slice o7 (TA ++ g :: tbB z g b).length c7) (TA ++ g :: tbB z g b).length (tbI (TA ++ g :: tbB z g b))) R)))) := Lib.hid N1.out
              clear N1
              have q1 : rqB z g a (b + 1) = rqB z g a b := by rw [rqB, hk]; exact List.append_nil _
              have q2 : tbB z g (b + 1) = tbB z g b := by rw [tbB, hk]; exact List.append_nil _
              have R1 := Lib.hid q1
              have R2 := Lib.hid q2
              clear q1 q2 hk
              go_wp2_with (go_at_call 36; refine N1b.out.mono ?_; rintro e w2 ⟨rfl, h2⟩; have H2 := Lib.hid h2; clear h2)
              go_roundg (33 - (b + 1))
              case measure => omega
              case rel => exact ⟨b + 1, o6, c6, o7, c7, by omega, rfl, by rw [R1.out, List.length_append], by rw [R2.out, List.length_append, List.length_cons], by go_num, by rw [R1.out, R2.out]; exact H2.out⟩
            | some t =>
              have ht := (hw.kid_iff HG.out hb2).1 hk
              rw [hk] at N1
              have N1b : RowKit.Hid (Calls Tryz.prog 36 #[.pointer (some ⟨rp, 0, none⟩), .int .i64 (g : Int), .int .i64 (b : Int)] wr fun e w' => e = .returned (.int .i64 (t : Int)) ∧ Own w0 w' (Star (rpA rp rb fi z.L z.s) (Star (rowA 41 3 (.slice o6 (PA ++ rqB z g a b).length c6) (PA ++ rqB z g a b).length (pgCells (PA ++ rqB z g a b))) (Star (rowA 3 1 (.slice o7 (TA ++ g :: tbB z g b).length c7) (TA ++ g :: tbB z g b).length (tbI (TA ++ g :: tbB z g b))) R)))) := Lib.hid N1.out
              clear N1
              have q1 : PA ++ rqB z g a (b + 1) = (PA ++ rqB z g a b) ++ rqC z t (a * 32 + b) 32 := by rw [rqB, hk]; simp only [List.append_assoc]
              have q2 : TA ++ g :: tbB z g (b + 1) = (TA ++ g :: tbB z g b) ++ [t] := by rw [tbB, hk]; simp only [List.append_assoc, List.cons_append]
              have R1 := Lib.hid q1
              have R2 := Lib.hid q2
              have n2 : ¬ (t : Int) < 0 := by omega
              have HT := Lib.hid ht
              clear q1 q2 hk ht
              have lp3 : (PA ++ rqB z g a b).length ≤ a * 1024 + b * 32 := by rw [List.length_append]; omega
              have lt3 : (TA ++ g :: tbB z g b).length ≤ a * 33 + b + 1 := by rw [List.length_append, List.length_cons]; omega
              obtain ⟨PB, hPB⟩ : ∃ l, PA ++ rqB z g a b = l := ⟨_, rfl⟩
              obtain ⟨TB, hTB⟩ : ∃ l, TA ++ g :: tbB z g b = l := ⟨_, rfl⟩
              rw [hPB] at N1b R1 lp3
              rw [hTB] at N1b R2 lt3
              rw [hPB, hTB]
              clear hPB hTB H lp2 lt2
              go_upto_region 14 with (go_at_call 36; refine N1b.out.mono ?_; rintro e w3 ⟨rfl, h2⟩; have H2 := Lib.hid h2; clear h2)
              have H6 := Lib.hid (H2.out.gr (ST.out _ _ _ _) ((Gr.refl _).alloc (Nat.le_refl _) (.cells #[.int .i64 (t : Int)] 3)))
              have HROW3 := Lib.hid H6.out.right.right.row
              have tl := tbI_len TB
              clear N1b H2
              go_upto_region 15 with (at_builtin; refine wpList_append_lies _ rfl _ _ _ rfl 0 3 i0 (.int .i64 0) 1 8 Tryz.underlying29 hi0 hz0 hz1 hz2 rfl (by omega) (.slice o7 (TB).length c7) (TB).length (tbI (TB)) rfl HROW3.out ⟨_, 0, none⟩ 1 1 [.int .i64 (t : Int)] rfl rfl (World.news_of_block (cs := #[.int .i64 (t : Int)]) (blk_new _ _)) (by simp [Value.oneCell']) (by omega) (by unfold maxLen; omega) (by omega) (by omega) (w3.heap.size + 1) (by simp) ?_; intro g3 cap3 w4 hown8 hgrow8 hat8 hlt8; have H3 := Lib.hid ((H6.out.rot3.grown (g := g3) (ST7.out _ _) hown8 rfl hgrow8 (hat8.elim .inl (fun e => .inr (by simp; omega))) hlt8).rot3'); clear hown8 hgrow8 hat8 hlt8)
              go_wp2_with fail
              have s0 : PB = PB ++ rqC z t (a * 32 + b) 0 := (List.append_nil _).symm
              have H3b : RowKit.Hid (Own w0 w4 (Star (rpA rp rb fi z.L z.s) (Star (rowA 41 3 (.slice o6 (PB ++ rqC z t (a * 32 + b) 0).length c6) (PB ++ rqC z t (a * 32 + b) 0).length (pgCells (PB ++ rqC z t (a * 32 + b) 0))) (Star (rowA 3 1 (.slice (some ⟨g3, 0, none⟩) (TB.length + 1) cap3) (TB.length + 1) (tbI TB ++ [.int .i64 (t : Int)])) R)))) := Lib.hid (by
                have h := H3.out
                rw [← s0]; exact h)
              have S0 := Lib.hid (congrArg List.length s0)
              clear s0 H3 H6 HROW3
              have STC := Lib.hid (fun (v6 : Value) (P : List Pgr) => stable_star SQ.out (stable_star (stable_row 41 3 v6 P.length (pgCells P)) (stable_star (stable_row 3 1 (.slice (some ⟨g3, 0, none⟩) (TB.length + 1) cap3) (TB.length + 1) (tbI TB ++ [.int .i64 (t : Int)])) HR.out)))
              have STD := Lib.hid (stable_star SQ.out (stable_star (stable_row 3 1 (.slice (some ⟨g3, 0, none⟩) (TB.length + 1) cap3) (TB.length + 1) (tbI TB ++ [.int .i64 (t : Int)])) HR.out))
              go_loopg [6, 12] 33 (fun n v6 v12 wr => ∃ (c : Nat) (o6 : Option Addr) (c6 : Nat), c ≤ 32 ∧ n = 33 - c ∧ v6 = .slice o6 (PB ++ rqC z t (a * 32 + b) c).length c6 ∧ v12 = .int .i64 (c : Int) ∧ Own w0 wr (Star (rpA rp rb fi z.L z.s) (Star (rowA 41 3 (.slice o6 (PB ++ rqC z t (a * 32 + b) c).length c6) (PB ++ rqC z t (a * 32 + b) c).length (pgCells (PB ++ rqC z t (a * 32 + b) c))) (Star (rowA 3 1 (.slice (some ⟨g3, 0, none⟩) (TB.length + 1) cap3) (TB.length + 1) (tbI TB ++ [.int .i64 (t : Int)])) R))))
              case atStart => exact ⟨0, o6, c6, by omega, rfl, by rw [← S0.out], rfl, H3b.out⟩
              case round =>
                clear H3b S0
                obtain ⟨c, o6, c6, hc, rfl, rfl, rfl, ho⟩ := hrel
                have H := Lib.hid ho
                clear ho
                by_cases hc2 : c < 32
                · have e5 : (c : Int) < 32 := by omega
                  have e6 : IntKind.i64.wrap ((c : Int) + 1) = (c : Int) + 1 := wrapI _ (by omega) (by omega)
                  have N1 := Lib.hid (NX.out t 0 g b c HT.out hc2 _ _ (by exact stable_star (stable_row _ _ _ _ _) (stable_star (stable_row _ _ _ _ _) HR.out)) H.out)
                  have lp4 := rqC_len z t (a * 32 + b) c
                  cases hk : kid z t c with
                  | none =>
                    rw [hk] at N1
                    have N1b : RowKit.Hid (Calls Tryz.prog 36 #[.pointer (some ⟨rp, 0, none⟩), .int .i64 (t : Int), .int .i64 (c : Int)] wr fun e w' => e = .returned (.int .i64 (-1)) ∧ Own w0 w' (Star (rpA rp rb fi z.L z.s) (Star (rowA 41 3 (.slice o6 (PB ++ rqC z t (a * 32 + b) c).length c6) (PB ++ rqC z t (a * 32 + b) c).length (pgCells (PB ++ rqC z t (a * 32 + b) c))) (Star (rowA 3 1 (.slice (some ⟨g3, 0, none⟩) (TB.length + 1) cap3) (TB.length + 1) (tbI TB ++ [.int .i64 (t : Int)])) R)))) := Lib.hid N1.out
                    clear N1
                    have q1 : rqC z t (a * 32 + b) (c + 1) = rqC z t (a * 32 + b) c := by rw [rqC, hk]; exact List.append_nil _
                    have U1 := Lib.hid q1
                    clear q1 hk
                    go_wp2_with (go_at_call 36; refine N1b.out.mono ?_; rintro e w2 ⟨rfl, h2⟩; have H2 := Lib.hid h2; clear h2)
                    go_roundg (33 - (c + 1))
                    case measure => omega
                    case rel => exact ⟨c + 1, o6, c6, by omega, rfl, by rw [U1.out, List.length_append], by go_num, by rw [U1.out]; exact H2.out⟩
                  | some f =>
                    rw [hk] at N1
                    have N1b : RowKit.Hid (Calls Tryz.prog 36 #[.pointer (some ⟨rp, 0, none⟩), .int .i64 (t : Int), .int .i64 (c : Int)] wr fun e w' => e = .returned (.int .i64 (f : Int)) ∧ Own w0 w' (Star (rpA rp rb fi z.L z.s) (Star (rowA 41 3 (.slice o6 (PB ++ rqC z t (a * 32 + b) c).length c6) (PB ++ rqC z t (a * 32 + b) c).length (pgCells (PB ++ rqC z t (a * 32 + b) c))) (Star (rowA 3 1 (.slice (some ⟨g3, 0, none⟩) (TB.length + 1) cap3) (TB.length + 1) (tbI TB ++ [.int .i64 (t : Int)])) R)))) := Lib.hid N1.out
                    clear N1
                    have q1 : PB ++ rqC z t (a * 32 + b) (c + 1) = (PB ++ rqC z t (a * 32 + b) c) ++ [⟨(a * 32 + b) * 32 + c, T z t c % 32, f⟩] := by rw [rqC, hk]; simp only [List.append_assoc]
                    have U1 := Lib.hid q1
                    have n3 : ¬ (f : Int) < 0 := by omega
                    have n4 : (0 : Int) ≤ (f : Int) := by omega
                    have ht := hw.lt HT.out
                    have hhi := hw.sz.hi
                    have LD := Lib.hid (fun (w1 : World) (h : Own w0 w1 (Star (rpA rp rb fi z.L z.s) (Star (rowA 41 3 (.slice o6 (PB ++ rqC z t (a * 32 + b) c).length c6) (PB ++ rqC z t (a * 32 + b) c).length (pgCells (PB ++ rqC z t (a * 32 + b) c))) (Star (rowA 3 1 (.slice (some ⟨g3, 0, none⟩) (TB.length + 1) cap3) (TB.length + 1) (tbI TB ++ [.int .i64 (t : Int)])) R)))) => o_rld (by exact h) (by exact stable_star (stable_row _ _ _ _ _) (stable_star (stable_row _ _ _ _ _) HR.out)) t c (by omega) hc2)
                    obtain ⟨m, hm⟩ : ∃ m : Nat, T z t c = (m : Int) := by
                      rcases hw.ch t 0 g b HT.out c hc2 with h | ⟨g', b', h, _⟩
                      · exact ⟨0, h⟩
                      · exact ⟨_, h⟩
                    have lp5 : (PB ++ rqC z t (a * 32 + b) c).length ≤ a * 1024 + b * 32 + c := by rw [List.length_append]; omega
                    obtain ⟨PC, hPC⟩ : ∃ l, PB ++ rqC z t (a * 32 + b) c = l := ⟨_, rfl⟩
                    rw [hPC] at N1b U1 lp5
                    rw [hPC]
                    have LDb : RowKit.Hid (∀ w1, Own w0 w1 (Star (rpA rp rb fi z.L z.s) (Star (rowA 41 3 (.slice o6 PC.length c6) (PC).length (pgCells (PC))) (Star (rowA 3 1 (.slice (some ⟨g3, 0, none⟩) (TB.length + 1) cap3) (TB.length + 1) (tbI TB ++ [.int .i64 (t : Int)])) R))) → Calls Tryz.prog 37 #[.pointer (some ⟨rp, 0, none⟩), .int .i64 (t : Int), .int .i64 (c : Int)] w1 fun e w' => e = .returned (.int .u64 (m : Int)) ∧ Own w0 w' (Star (rpA rp rb fi z.L z.s) (Star (rowA 41 3 (.slice o6 PC.length c6) (PC).length (pgCells (PC))) (Star (rowA 3 1 (.slice (some ⟨g3, 0, none⟩) (TB.length + 1) cap3) (TB.length + 1) (tbI TB ++ [.int .i64 (t : Int)])) R)))) := Lib.hid (by have h := LD.out; rw [hm, hPC] at h; exact h)
                    rw [hm] at U1
                    clear hPC H lp4 LD hk q1 ht hhi hm
                    go_upto_region 20 with (go_at_call 36; refine N1b.out.mono ?_; rintro e w5 ⟨rfl, h2⟩; have H5 := Lib.hid h2; clear h2)
                    have w1 : IntKind.i64.wrap (1024 * (a : Int)) = 1024 * (a : Int) := wrapI _ (by omega) (by omega)
                    have w2 : IntKind.i64.wrap (32 * (b : Int)) = 32 * (b : Int) := wrapI _ (by omega) (by omega)
                    have w3 : IntKind.i64.wrap (1024 * (a : Int) + 32 * (b : Int)) = 1024 * (a : Int) + 32 * (b : Int) := wrapI _ (by omega) (by omega)
                    have w4 : IntKind.i64.wrap (1024 * (a : Int) + 32 * (b : Int) + (c : Int)) = 1024 * (a : Int) + 32 * (b : Int) + (c : Int) := wrapI _ (by omega) (by omega)
                    have w5 : IntKind.u64.wrap ((m : Int) % 32) = (m : Int) % 32 := wrapU _ (by omega) (by omega)
                    have w6 : IntKind.u64.wrap (Int.tmod (m : Int) 32) = (m : Int) % 32 := by rw [Int.tmod_eq_emod_of_nonneg (by omega)]; exact w5
                    have w7 : Int.tmod (m : Int) 32 = (m : Int) % 32 := Int.tmod_eq_emod_of_nonneg (by omega)
                    go_wp2_with (first | (go_at_call 37; refine (LDb.out _ H5.out).mono ?_; rintro e w6' ⟨rfl, h6⟩; have H6 := Lib.hid h6; clear h6) | (at_builtin; have H7 := Lib.hid (H6.out.gr (STC.out _ PC) ((Gr.refl _).alloc (Nat.le_refl _) (.cells #[.int .i64 (1024 * (a : Int) + 32 * (b : Int) + (c : Int)), .int .u64 ((m : Int) % 32), .int .i64 (f : Int)] 41))); refine wpList_append_lies _ rfl _ _ _ rfl 0 41 i1 (.agg #[.int .i64 0, .int .u64 0, .int .i64 0]) 3 24 Tryz.underlying36 hi1 hy0 hy1 hy2 rfl (by omega) (.slice o6 PC.length c6) PC.length (pgCells PC) rfl H7.out.right.row ⟨_, 0, none⟩ 1 1 [.int .i64 (1024 * (a : Int) + 32 * (b : Int) + (c : Int)), .int .u64 ((m : Int) % 32), .int .i64 (f : Int)] rfl rfl (World.news_of_block (cs := #[.int .i64 (1024 * (a : Int) + 32 * (b : Int) + (c : Int)), .int .u64 ((m : Int) % 32), .int .i64 (f : Int)]) (blk_new _ _)) (by simp [Value.oneCell']) (by omega) (by unfold maxLen; omega) (by omega) (by omega) (w6'.heap.size + 1) (by simp) ?_; intro g9 cap9 w9 hown8 hgrow8 hat8 hlt8; have H9 := Lib.hid ((H7.out.swap2.grown (g := g9) STD.out hown8 rfl hgrow8 (hat8.elim .inl (fun e => .inr (by simp; omega))) hlt8).swap2); clear hown8 hgrow8 hat8 hlt8 H7))
                    go_roundg (33 - (c + 1))
                    case measure => omega
                    case rel => exact ⟨c + 1, some ⟨g9, 0, none⟩, cap9, by omega, rfl, by rw [U1.out, List.length_append]; rfl, by go_num, by rw [U1.out, pgCells_add, List.length_append]; have h := H9.out; rw [show 1024 * (a : Int) + 32 * (b : Int) + (c : Int) = (((a * 32 + b) * 32 + c : Nat) : Int) by omega] at h; exact h⟩
                · obtain rfl : c = 32 := by omega
                  rw [← R1.out, ← tbI_add, show TB.length + 1 = (TB ++ [t]).length by simp, ← R2.out] at H
                  go_wp2_with fail
                  go_roundg (33 - (b + 1))
                  case measure => omega
                  case rel => exact ⟨b + 1, o6, c6, some ⟨g3, 0, none⟩, cap3, by omega, rfl, by rw [R1.out, List.length_append], by rw [R2.out, List.length_append]; rfl, by go_num, H.out⟩
          · obtain rfl : b = 32 := by omega
            rw [← Q1.out, ← Q2.out] at H
            go_wp2_with fail
            go_roundg (33 - (a + 1))
            case measure => omega
            case rel => exact ⟨a + 1, o6, c6, o7, c7, by omega, rfl, by rw [Q1.out], by rw [Q2.out], by go_num, H.out⟩
    · obtain rfl : a = 32 := by omega
      go_wp2_with fail
      go_ret2
      exact ⟨o6, c6, o7, c7, rfl, H.out⟩
end Go.Proofs.YtbcnibnkojnpiaaGreat.P
namespace Go.Proofs.YtbcnibnkojnpiaaGreat.P
open Go.RowKit Go.MuLone Go.Maps
theorem rqC_mem (z : Sp) (t n : Nat) (p : Pgr) : ∀ c, p ∈ rqC z t n c ↔ ∃ k g, k < c ∧ kid z t k = some g ∧ p = ⟨n * 32 + k, T z t k % 32, g⟩
  | 0 => by
    constructor
    · intro h; cases h
    · rintro ⟨k, g, h, _⟩; omega
  | c + 1 => by
    rw [rqC, List.mem_append, rqC_mem z t n p c]
    constructor
    · rintro (⟨k, g, h1, h2, h3⟩ | h)
      · exact ⟨k, g, by omega, h2, h3⟩
      · cases hk : kid z t c with
        | none => rw [hk] at h; cases h
        | some g => rw [hk] at h; exact ⟨c, g, by omega, hk, List.mem_singleton.1 h⟩
    · rintro ⟨k, g, h1, h2, h3⟩
      rcases Nat.lt_or_ge k c with h | h
      · exact .inl ⟨k, g, h, h2, h3⟩
      · obtain rfl : k = c := by omega
        exact .inr (by rw [h2]; exact List.mem_singleton.2 h3)
theorem rqB_mem (z : Sp) (t n : Nat) (p : Pgr) : ∀ c, p ∈ rqB z t n c ↔ ∃ k g, k < c ∧ kid z t k = some g ∧ p ∈ rqC z g (n * 32 + k) 32
  | 0 => by
    constructor
    · intro h; cases h
    · rintro ⟨k, g, h, _⟩; omega
  | c + 1 => by
    rw [rqB, List.mem_append, rqB_mem z t n p c]
    constructor
    · rintro (⟨k, g, h1, h2, h3⟩ | h)
      · exact ⟨k, g, by omega, h2, h3⟩
      · cases hk : kid z t c with
        | none => rw [hk] at h; cases h
        | some g => rw [hk] at h; exact ⟨c, g, by omega, hk, h⟩
    · rintro ⟨k, g, h1, h2, h3⟩
      rcases Nat.lt_or_ge k c with h | h
      · exact .inl ⟨k, g, h, h2, h3⟩
      · obtain rfl : k = c := by omega
        exact .inr (by rw [h2]; exact h3)
theorem rqA_mem (z : Sp) (r : Nat) (p : Pgr) : ∀ c, p ∈ rqA z r c ↔ ∃ k g, k < c ∧ kid z r k = some g ∧ p ∈ rqB z g k 32
  | 0 => by
    constructor
    · intro h; cases h
    · rintro ⟨k, g, h, _⟩; omega
  | c + 1 => by
    rw [rqA, List.mem_append, rqA_mem z r p c]
    constructor
    · rintro (⟨k, g, h1, h2, h3⟩ | h)
      · exact ⟨k, g, by omega, h2, h3⟩
      · cases hk : kid z r c with
        | none => rw [hk] at h; cases h
        | some g => rw [hk] at h; exact ⟨c, g, by omega, hk, h⟩
    · rintro ⟨k, g, h1, h2, h3⟩
      rcases Nat.lt_or_ge k c with h | h
      · exact .inl ⟨k, g, h, h2, h3⟩
      · obtain rfl : k = c := by omega
        exact .inr (by rw [h2]; exact h3)
/-- A page of the list: its three indexes, its tables, its entry. -/
theorem page_mem (z : Sp) (r : Nat) (p : Pgr) : p ∈ rqA z r 32 ↔ ∃ a b c g t f, a < 32 ∧ b < 32 ∧ c < 32 ∧ kid z r a = some g ∧ kid z g b = some t ∧ kid z t c = some f ∧ p = ⟨(a * 32 + b) * 32 + c, T z t c % 32, f⟩ := by
  rw [rqA_mem]
  constructor
  · rintro ⟨a, g, h1, h2, h3⟩
    obtain ⟨b, t, k1, k2, k3⟩ := (rqB_mem _ _ _ _ _).1 h3
    obtain ⟨c, f, l1, l2, l3⟩ := (rqC_mem _ _ _ _ _).1 k3
    exact ⟨a, b, c, g, t, f, h1, k1, l1, h2, k2, l2, l3⟩
  · rintro ⟨a, b, c, g, t, f, h1, k1, l1, h2, k2, l2, l3⟩
    exact ⟨a, g, h1, h2, (rqB_mem _ _ _ _ _).2 ⟨b, t, k1, k2, (rqC_mem _ _ _ _ _).2 ⟨c, f, l1, l2, l3⟩⟩⟩
end Go.Proofs.YtbcnibnkojnpiaaGreat.P
