/- Stage 12: ProgSpoilt. No condition. -/
import Derived.Test.YtdlglnoffpnonaaPV
import Derived.Laws.IdiomStrings
set_option linter.unusedVariables false
set_option linter.unusedSimpArgs false
set_option maxRecDepth 100000
namespace Go.Proofs.Ytdlglnoffpnonaa.P
open Go.RowKit Go.MuLone Go.Maps
def oneB : ByteArray := ⟨#[120]⟩
theorem more_size (S : ByteArray) : (S ++ oneB).size = S.size + 1 := by rw [ByteArray.size_append]; rfl
theorem oneB_pos : 0 < oneB.size := by decide
theorem bytes_made (w : World) (s : ByteArray) : ∃ (w' : World) (g c : Nat), (convert 9 55 (.string s)).run Try.prog w = .ok (.slice (some ⟨g, 0, none⟩) s.size c) w' ∧ Gr w w' ∧ w.heap.size ≤ g ∧ (∀ j, j < s.size → w'.cell? ⟨g, j, none⟩ = some (.int .u8 ((s.data.toList.getD j 0).toNat : Int)) ∧ w'.frozen? ⟨g, j, none⟩ = false) := by
  refine ⟨_, _, _, run_bytes_of_string w _ _ 5 s Try.underlying9 Try.underlying55 Try.underlying5, Below.alloc (Below.drew (Below.refl _ _)) (Nat.le_refl _) _, Nat.le_refl _, fun j hj => ⟨?_, ?_⟩⟩
  · have hj2 : j < s.data.size := hj
    have h2 := (World.cell?_alloc_mark w.drew (bytesRow s (grownCap w s.size 0 5)) 5 ((bytesRow s (grownCap w s.size 0 5)).size, (bytesRow s (grownCap w s.size 0 5)).size + 1) j).trans (bytesRow_at s _ j hj2)
    refine Eq.trans h2 ?_
    simp only [List.getD, Array.getElem?_toList, Array.getElem?_eq_getElem hj2, Option.getD_some]
  · have h := blk_new w.drew (.cells (bytesRow s (grownCap w s.size 0 5)) 5 ((bytesRow s (grownCap w s.size 0 5)).size, (bytesRow s (grownCap w s.size 0 5)).size + 1))
    unfold World.frozen?
    have h2 : w.drew.heap.size = w.heap.size := rfl
    rw [h2] at h
    rw [h]
    have hj2 : j < s.data.size := hj
    have h3 : j < (bytesRow s (grownCap w s.size 0 5)).size := by unfold bytesRow; rw [Array.size_append, Array.size_map]; omega
    show (decide (_ ≤ j) && decide (j < _)) = false
    rw [decide_eq_false (by omega), Bool.false_and]
theorem bytes_back (w : World) (g c n : Nat) (l : List UInt8) (hn : l.length = n) (hc : ∀ j, j < n → w.cell? ⟨g, j, none⟩ = some (.int .u8 ((l.getD j 0).toNat : Int))) : (convert 55 9 (.slice (some ⟨g, 0, none⟩) n c)).run Try.prog w = .ok (.string ⟨l.toArray⟩) w := by
  subst hn
  refine run_convert_bytes_back w _ _ 5 ⟨g, 0, none⟩ c l Try.underlying55 Try.underlying5 Try.underlying9 (fun j hj => ?_)
  have := hc j hj
  rw [List.getD_eq_getElem?_getD, List.getElem?_eq_getElem hj] at this
  have ha : (⟨g, 0, none⟩ : Addr).add j = ⟨g, j, none⟩ := by
    unfold Addr.add
    split <;> simp_all
  rw [ha]
  simpa using this
/-- A byte put in a row of bytes. -/
theorem bytes_set {w : World} {g P : Nat} {s : ByteArray} (X : Nat) (hX : X < 256) (hP : P < s.size) (hc : ∀ j, j < s.size → w.cell? ⟨g, j, none⟩ = some (.int .u8 ((s.data.toList.getD j 0).toNat : Int)) ∧ w.frozen? ⟨g, j, none⟩ = false) :
    ∀ j, j < s.size → (w.setCell ⟨g, P, none⟩ (.int .u8 (X : Int))).cell? ⟨g, j, none⟩ = some (.int .u8 (((s.data.toList.set P (UInt8.ofNat X)).getD j 0).toNat : Int)) := by
  intro j hj
  have hl : s.data.toList.length = s.size := by simp
  by_cases e : j = P
  · subst e
    rw [World.cell?_setCell_same' w ⟨g, j, none⟩ _ (by rw [(hc j hj).1]; rfl), List.getD_eq_getElem?_getD, List.getElem?_set_self (by omega)]
    show _ = some (Value.int .u8 ((UInt8.ofNat X).toNat : Int))
    rw [UInt8.toNat_ofNat', Nat.mod_eq_of_lt hX]
  · rw [World.cell?_setCell_other (w := w) (a := ⟨g, P, none⟩) (b := ⟨g, j, none⟩) (h := by intro h; injection h with _ h _; exact e h.symm), (hc j hj).1, List.getD_eq_getElem?_getD, List.getD_eq_getElem?_getD, List.getElem?_set_ne (Ne.symm e)]
theorem u8_ne (b X : Nat) (rv : Int) (hb : b < 256) (h0 : rv ≠ 0) (h1 : -256 < rv) (h2 : rv < 256) (hX : (X : Int) = ((b : Int) + rv % 256) % 256) : X ≠ b := by omega
theorem c_dec_no {s : ByteArray} (hs : s.size ≤ 4096) (h : decOK s = false) (w : World) : Calls Try.prog 11 #[.string s] w fun e w' => e = .returned (.tuple #[.agg #[.int .i64 0, .string ⟨#[]⟩, .string ⟨#[]⟩, .int .i64 0], .int .i64 6]) ∧ Gr w w' := by
  have := c_decode s (by unfold maxLen; omega) w
  unfold decP decE at this
  rw [h] at this
  exact this
set_option maxHeartbeats 3200000 in
theorem l_spoilt12 (x : Pg) (a v : Int) (ha : i64 a) (hv : i64 v) (hx1 : x.tx.size ≤ maxLen) (hx2 : x.da.size ≤ maxLen) (w : World) :
    Calls Try.prog 6 #[pgV x, .int .i64 a, .int .i64 v] w fun e w' => e = .returned (.bool true) ∧ Gr w w' := by
  have CE := Lib.hid (fun w => c_encode x hx1 hx2 w)
  unfold encV encE at CE
  obtain ⟨m, hm⟩ : ∃ m, mayP x = m := ⟨_, rfl⟩
  cases m with
  | false =>
    rw [hm] at CE
    obtain ⟨en, tx, da, bs⟩ := x
    have CE2 : RowKit.Hid (∀ w, Calls Try.prog 9 #[.agg #[.int .i64 en, .string tx, .string da, .int .i64 bs]] w fun e w' => e = .returned (.tuple #[.string ⟨#[]⟩, .int .i64 6]) ∧ Gr w w') := Lib.hid CE.out
    clear CE hm
    show Calls Try.prog 6 #[.agg #[.int .i64 en, .string tx, .string da, .int .i64 bs], .int .i64 a, .int .i64 v] w _
    go_enter Try.func6, Try.ntmps6
    go_upto_region 1 with fail
    have BX0 := Lib.hid (blk_new w (.cells #[.int .i64 en, .string tx, .string da, .int .i64 bs] 23))
    have G0 := Lib.hid ((Gr.refl w).alloc (Nat.le_refl _) (.cells #[.int .i64 en, .string tx, .string da, .int .i64 bs] 23))
    obtain ⟨wa, hwa⟩ : ∃ wa, w.alloc (.cells #[.int .i64 en, .string tx, .string da, .int .i64 bs] 23) = wa := ⟨_, rfl⟩
    rw [hwa] at BX0 G0
    rw [hwa]
    clear hwa
    obtain ⟨xb, hxb⟩ : ∃ n, w.heap.size = n := ⟨_, rfl⟩
    rw [hxb] at BX0
    rw [hxb]
    clear hxb
    go_upto_region 2 with (go_at_call 7; refine (c_shown12 _).mono ?_; rintro e w1 ⟨rfl, g1⟩; have BX1 := Lib.hid (blk_gr g1 BX0.out); have G1 := Lib.hid (gtrans G0.out g1); clear g1)
    clear BX0 G0
    go_wp2_with (first
      | (refine wpList_load_row rfl 23 _ rfl _ rfl 23 _ (0, 0) _ BX1.out Try.underlying23 rfl pg_info ?_)
      | (go_at_call 9; refine (CE2.out _).mono ?_; rintro e w2 ⟨rfl, g2⟩; have G2 := Lib.hid (gtrans G1.out g2); clear g2))
    go_ret
    exact ⟨rfl, G2.out⟩
  | true =>
    have hsz := enc_size x
    have mi := may_iff.1 hm
    have hsb : (encP x).size ≤ 2368 ∧ 36 ≤ (encP x).size := by have m1 := mi.1; have m10 := mi.2.2.2.2.2.2.2.2.2; omega
    have dm := dec_more hm oneB_pos
    have DL := Lib.hid (fun w => c_dec_no (s := (encP x).extract 0 ((encP x).size - 1)) (by rw [ByteArray.size_extract]; omega) (dec_less hm) w)
    have DS : RowKit.Hid (∀ (s : ByteArray) (i : Nat), s.size ≤ 4096 → (i < 4 ∨ (20 ≤ i ∧ i < 32)) → s.data.toList[i]? ≠ (encP x).data.toList[i]? → ∀ w, Calls Try.prog 11 #[.string s] w fun e w' => e = .returned (.tuple #[.agg #[.int .i64 0, .string ⟨#[]⟩, .string ⟨#[]⟩, .int .i64 0], .int .i64 6]) ∧ Gr w w') := Lib.hid (fun s i hs hi hne w => c_dec_no hs (dec_spoilt hi hne) w)
    rw [hm] at CE
    obtain ⟨S, hS⟩ : ∃ S, encP x = S := ⟨_, rfl⟩
    rw [cond_true, cond_true, hS] at CE
    rw [hS] at dm DL DS hsb
    obtain ⟨s1, s2⟩ := hsb
    have DM : RowKit.Hid (∀ w, Calls Try.prog 11 #[.string (S ++ ⟨#[120]⟩)] w fun e w' => e = .returned (.tuple #[.agg #[.int .i64 0, .string ⟨#[]⟩, .string ⟨#[]⟩, .int .i64 0], .int .i64 6]) ∧ Gr w w') := Lib.hid (fun w => c_dec_no (s := S ++ oneB) (by rw [more_size]; omega) dm w)
    clear hsz mi hS hm hx1 hx2
    obtain ⟨en, tx, da, bs⟩ := x
    have CE2 : RowKit.Hid (∀ w, Calls Try.prog 9 #[.agg #[.int .i64 en, .string tx, .string da, .int .i64 bs]] w fun e w' => e = .returned (.tuple #[.string S, .int .i64 0]) ∧ Gr w w') := Lib.hid CE.out
    clear CE
    have l1 : ¬ (S.size : Int) < 32 := by omega
    have l2 : IntKind.i64.wrap ((S.size : Int) - 1) = ((S.size - 1 : Nat) : Int) := by rw [wrapI _ (by omega) (by omega)]; omega
    have l3 : 0 ≤ ((S.size - 1 : Nat) : Int) := by omega
    have l4 : ((S.size - 1 : Nat) : Int) ≤ (S.size : Int) := by omega
    have l5 : ((S.size - 1 : Nat) : Int).toNat = S.size - 1 := by omega
    show Calls Try.prog 6 #[.agg #[.int .i64 en, .string tx, .string da, .int .i64 bs], .int .i64 a, .int .i64 v] w _
    go_enter Try.func6, Try.ntmps6
    go_upto_region 1 with fail
    have BX0 := Lib.hid (blk_new w (.cells #[.int .i64 en, .string tx, .string da, .int .i64 bs] 23))
    have G0 := Lib.hid ((Gr.refl w).alloc (Nat.le_refl _) (.cells #[.int .i64 en, .string tx, .string da, .int .i64 bs] 23))
    obtain ⟨wa, hwa⟩ : ∃ wa, w.alloc (.cells #[.int .i64 en, .string tx, .string da, .int .i64 bs] 23) = wa := ⟨_, rfl⟩
    rw [hwa] at BX0 G0
    rw [hwa]
    clear hwa
    obtain ⟨xb, hxb⟩ : ∃ n, w.heap.size = n := ⟨_, rfl⟩
    rw [hxb] at BX0
    rw [hxb]
    clear hxb
    go_upto_region 2 with (go_at_call 7; refine (c_shown12 _).mono ?_; rintro e w1 ⟨rfl, g1⟩; have BX1 := Lib.hid (blk_gr g1 BX0.out); have G1 := Lib.hid (gtrans G0.out g1); clear g1)
    clear BX0 G0
    go_upto_region 8 with (first
      | (refine wpList_load_row rfl 23 _ rfl _ rfl 23 _ (0, 0) _ BX1.out Try.underlying23 rfl pg_info ?_)
      | (go_at_call 9; refine (CE2.out _).mono ?_; rintro e w2 ⟨rfl, g2⟩; have G2 := Lib.hid (gtrans G1.out g2); clear g2)
      | (go_at_call 11; refine (DM.out _).mono ?_; rintro e w3 ⟨rfl, g3⟩; have G3 := Lib.hid (gtrans G2.out g3); clear g3))
    have G3b := Lib.hid (G3.out.alloc G3.out.size (.cells #[.int .i64 0, .string ⟨#[]⟩, .string ⟨#[]⟩, .int .i64 0] 23))
    generalize (World.alloc w3 _) = w3b at *
    clear DM G3
    go_upto_region 9 with (go_at_call 11; refine (DL.out _).mono ?_; rintro e w4 ⟨rfl, g4⟩; have G4 := Lib.hid (gtrans G3b.out g4); clear g4)
    have G4b := Lib.hid (G4.out.alloc G4.out.size (.cells #[.int .i64 0, .string ⟨#[]⟩, .string ⟨#[]⟩, .int .i64 0] 23))
    generalize (World.alloc w4 _) = w4b at *
    clear DL G4
    obtain ⟨q, hq⟩ : ∃ q, a.tmod 32 = q := ⟨_, rfl⟩
    have hqb : -32 < q ∧ q < 32 := by
      have h1 := Int.tmod_lt_of_pos a (show (0 : Int) < 32 by decide)
      have h2 := Int.lt_tmod_of_pos a (show (0 : Int) < 32 by decide)
      omega
    obtain ⟨rv, hrv⟩ : ∃ q, v.tmod 256 = q := ⟨_, rfl⟩
    have hrb : -256 < rv ∧ rv < 256 := by
      have h1 := Int.tmod_lt_of_pos v (show (0 : Int) < 256 by decide)
      have h2 := Int.lt_tmod_of_pos v (show (0 : Int) < 256 by decide)
      omega
    have n1 : IntKind.i64.wrap q = q := wrapI _ (by omega) (by omega)
    have n2 : IntKind.i64.wrap rv = rv := wrapI _ (by omega) (by omega)
    have n3 : IntKind.i64.wrap (q + 32) = q + 32 := wrapI _ (by omega) (by omega)
    obtain ⟨P, hP, hP2⟩ : ∃ P : Nat, P < 32 ∧ ((q < 0 ∧ q + 32 = (P : Int)) ∨ (¬ q < 0 ∧ q = (P : Int))) := by
      by_cases h : q < 0
      · exact ⟨(q + 32).toNat, by omega, .inl ⟨h, by omega⟩⟩
      · exact ⟨q.toNat, by omega, .inr ⟨h, by omega⟩⟩
    have HV := Lib.hid hrb
    clear hqb hrb ha hv
    by_cases h0 : rv = 0
    · subst h0
      rcases hP2 with ⟨h1, h2⟩ | ⟨h1, h2⟩
      · subst_vars
        by_cases h4 : 4 ≤ (P : Int)
        · by_cases h20 : (P : Int) < 20
          all_goals
            go_wp2_with fail
            go_ret
            exact ⟨rfl, G4b.out⟩
        · go_wp2_with fail
          go_ret
          exact ⟨rfl, G4b.out⟩
      · by_cases h4 : 4 ≤ (P : Int)
        · by_cases h20 : (P : Int) < 20
          all_goals
            go_wp2_with fail
            go_ret
            exact ⟨rfl, G4b.out⟩
        · go_wp2_with fail
          go_ret
          exact ⟨rfl, G4b.out⟩
    · by_cases hm : 4 ≤ P ∧ P < 20
      · have m1 : 4 ≤ (P : Int) := by omega
        have m2 : (P : Int) < 20 := by omega
        rcases hP2 with ⟨h1, h2⟩ | ⟨h1, h2⟩
        all_goals
          go_wp2_with fail
          go_ret
          exact ⟨rfl, G4b.out⟩
      · have hi : P < 4 ∨ (20 ≤ P ∧ P < 32) := by omega
        obtain ⟨w5, g, c, kc, g5, hg, hcells⟩ := bytes_made w4b S
        have G5 := Lib.hid (gtrans G4b.out g5)
        have HG := Lib.hid (Nat.le_trans G4b.out.size hg)
        have c0 := (hcells P (by omega)).1
        have f0 := (hcells P (by omega)).2
        obtain ⟨B, hB⟩ : ∃ B, (S.data.toList.getD P 0).toNat = B := ⟨_, rfl⟩
        have hBb : B < 256 := by rw [← hB]; exact UInt8.toNat_lt _
        rw [hB] at c0
        obtain ⟨X, hX⟩ : ∃ X : Nat, (X : Int) = ((B : Int) + rv % 256) % 256 := ⟨(((B : Int) + rv % 256) % 256).toNat, by omega⟩
        have hX256 : X < 256 := by omega
        have hXB : X ≠ B := u8_ne B X rv hBb h0 HV.out.1 HV.out.2 hX
        have u1 : IntKind.u8.wrap rv = rv % 256 := by rw [IntKind.wrap_u8]
        have u2 : IntKind.u8.wrap ((B : Int) + rv % 256) = (X : Int) := by rw [IntKind.wrap_u8, hX]
        have HBK := Lib.hid (bytes_back (w5.setCell ⟨g, P, none⟩ (.int .u8 (X : Int))) g c S.size (S.data.toList.set P (UInt8.ofNat X)) (by rw [List.length_set]; simp) (bytes_set X hX256 (by omega) hcells))
        have hne : (⟨(S.data.toList.set P (UInt8.ofNat X)).toArray⟩ : ByteArray).data.toList[P]? ≠ S.data.toList[P]? := by
          have hl : S.data.toList.length = S.size := by simp
          show (S.data.toList.set P (UInt8.ofNat X))[P]? ≠ _
          rw [List.getElem?_set_self (by omega)]
          intro e
          apply hXB
          rw [← hB, List.getD_eq_getElem?_getD, ← e]
          show X = (UInt8.ofNat X).toNat
          rw [UInt8.toNat_ofNat', Nat.mod_eq_of_lt hX256]
        have DD : RowKit.Hid (∀ w, Calls Try.prog 11 #[.string ⟨(S.data.toList.set P (UInt8.ofNat X)).toArray⟩] w fun e w' => e = .returned (.tuple #[.agg #[.int .i64 0, .string ⟨#[]⟩, .string ⟨#[]⟩, .int .i64 0], .int .i64 6]) ∧ Gr w w') := Lib.hid (fun w => DS.out _ P (by show (S.data.toList.set P (UInt8.ofNat X)).toArray.size ≤ 4096; simp; omega) hi hne w)
        generalize (⟨(S.data.toList.set P (UInt8.ofNat X)).toArray⟩ : ByteArray) = S2 at *
        clear hcells hB hX hXB hne HV DS g5 hg
        have p1 : (P : Int) < (S.size : Int) := by omega
        have p2 : 0 ≤ (P : Int) := by omega
        have p3 : (P : Int).toNat = P := by omega
        rcases hP2 with ⟨h1, h2⟩ | ⟨h1, h2⟩ <;> rcases hi with h4 | ⟨h4, h5⟩
        all_goals
          first
            | (have m1 : ¬ 4 ≤ (P : Int) := by omega)
            | (have m1 : 4 ≤ (P : Int) := by omega
               have m2 : ¬ (P : Int) < 20 := by omega)
          go_upto_region 16 with fail
          have kb := HBK.out
          have G6 := Lib.hid (gset (p := ⟨g, P, none⟩) G5.out HG.out (.int .u8 (X : Int)))
          generalize (World.setCell _ _ _) = w6 at *
          go_wp2_with (go_at_call 11; refine (DD.out _).mono ?_; rintro e w7 ⟨rfl, g7⟩; have G7 := Lib.hid (gtrans G6.out g7); clear g7)
          go_ret
          exact ⟨rfl, G7.out.alloc G7.out.size _⟩
end Go.Proofs.Ytdlglnoffpnonaa.P
