/- Stage 10: the document's pool: Take, Give, New. No condition. -/
import Derived.Test.YtklkgjaljfkjbaaF11
set_option linter.unusedVariables false
namespace Go.Proofs.Ytklkgjaljfkjbaa.P
open Go.RowKit Go.MuLone Go.Maps
theorem q_take (rp ib rb vb first : Nat) (L H : List Bool) (s : List UInt8) (t : Int) (w : World) (h : RPO w rp ib rb vb first H s t) (hr : Rel first L H) :
    Calls Try.prog 14 #[.pointer (some ⟨rp, 0, none⟩)] w (RPP rp ib rb vb first (takeH L H first) (takeS L first s) t (.tuple #[.int .i64 (takeN L first), .int .i64 (takeE L first)]) w) := by
  have c1 := blk_cell h.1 1 (v := .int .i64 first) rfl
  have hfl := h.2.2.2.2.2.2
  have hfl2 := h.2.2.2.2.2.1
  have hge := nextL_ge L (L.length - first) first
  have hle := nextL_le L (L.length - first) first
  have his := nextL_is L (L.length - first) first
  have hnot := nextL_not L (L.length - first) first
  have hB : takeB L first = decide (nextL L first (L.length - first) < L.length) := rfl
  have hM : takeB L first = true → takeN L first = (nextL L first (L.length - first) : Nat) ∧ takeE L first = 0 ∧ takeH L H first = H.set (nextL L first (L.length - first)) false ∧ takeS L first s = clearS L.length s (nextL L first (L.length - first) : Nat) := fun q => by
    unfold takeN takeE takeH takeS; rw [q]; exact ⟨rfl, rfl, rfl, rfl⟩
  have hM0 : takeB L first = false → takeN L first = 0 ∧ takeE L first = 4 ∧ takeH L H first = H ∧ takeS L first s = s := fun q => by
    unfold takeN takeE takeH takeS; rw [q]; exact ⟨rfl, rfl, rfl, rfl⟩
  have HX := Lib.hid h
  have HR := Lib.hid hr
  have c0 := blk_cell h.1 0 (v := .pointer (some ⟨rb, 0, none⟩)) rfl
  have c2 := blk_cell h.1 2 (v := .slice (some ⟨ib, 0, none⟩) H.length H.length) rfl
  have HG := Lib.hid (fun (j : Nat) (hj : j < H.length) => blk_cell h.2.1 j (had_get H j hj))
  have hf := fun j => blk_frozen h.2.1 j
  have hlen : L.length = H.length := hr.1
  have HSET := Lib.hid (fun (j : Nat) => h.set j true)
  rw [hlen] at hge hle his hnot hB hM
  clear h hr
  generalize nextL L first (H.length - first) = m at *
  obtain ⟨N, hN⟩ : ∃ N, N = H.length := ⟨_, rfl⟩
  have HN := Lib.hid hN
  rw [← hN] at c2 hfl hfl2 hle his hB hM
  clear hN hlen
  have HB := Lib.hid hB
  have HM := Lib.hid hM
  have HM0 := Lib.hid hM0
  have HIS := Lib.hid his
  have HNOT := Lib.hid hnot
  clear hB hM hM0 his hnot
  generalize takeN L first = tN at *
  generalize takeE L first = tE at *
  generalize takeH L H first = tH at *
  generalize takeS L first s = tS at *
  go_enter Try.func14, Try.ntmps14
  go_wp2_with fail
  go_loopw [4] (fun vf wr => ∃ j : Nat, first ≤ j ∧ j ≤ m ∧ vf = .int .i64 j ∧ wr = w) (fun vf _ => m - (intOf vf).toNat)
  case atStart => exact ⟨first, Nat.le_refl _, hge, rfl, rfl⟩
  case round =>
    obtain ⟨j, hj1, hj2, rfl, rfl⟩ := hrel
    by_cases hlt : j < m
    · have hjN : j < N := by omega
      have dl : decide (j < N) = true := decide_eq_true hjN
      have cj := HG.out j (by rw [← HN.out]; exact hjN)
      rw [HR.out.at j hj1, HNOT.out j hj1 hlt] at cj
      go_wp2_with fail
      go_roundw
      case rel => exact ⟨j + 1, by omega, by omega, by go_num, by first | rfl | trivial⟩
      case measure => simp [intOf]; omega
    · obtain rfl : j = m := by omega
      by_cases hjN : j < N
      · have dl : decide (j < N) = true := decide_eq_true hjN
        have hb : takeB L first = true := by rw [HB.out]; exact dl
        obtain ⟨e1, e2, e3, e4⟩ := HM.out hb
        have cj := HG.out j (by rw [← HN.out]; exact hjN)
        rw [HR.out.at j hj1, HIS.out (by omega)] at cj
        have fj := hf j
        have HP := Lib.hid (HSET.out j)
        subst e1; subst e2; subst e3; subst e4
        have HC := Lib.hid (fun w' (k : Ch (fun x => x = rb ∨ x = vb) (wr.setCell ⟨ib, j, none⟩ (.bool true)) w') => (show Ch (fun x => x = ib ∨ x = rb ∨ x = vb) wr w' from (Ch.setCell (S := fun x => x = ib ∨ x = rb ∨ x = vb) (Ch.refl _ wr) (.inl (.inl rfl)) _).trans (k.mono (fun x hx => .inr hx))))
        have cs0 := blk_cell (HP.out).1 0 (v := .pointer (some ⟨rb, 0, none⟩)) rfl
        have hl : (H.set j (!true)).length = H.length := List.length_set
        have HQ := q_clear rp ib rb vb first (H.set j (!true)) s t (wr.setCell ⟨ib, j, none⟩ (.bool true)) HP.out j (by rw [hl, ← HN.out]; exact hjN)
        rw [hl, ← HN.out] at HQ
        clear hl hb dl
        have dl : decide (j < N) = true := decide_eq_true hjN
        go_wp2_with fail
        refine HQ.mono ?_; rintro e w2 ⟨rfl, h2, h3⟩
        have H2 := Lib.hid h2
        have H3 := Lib.hid h3
        clear h2 h3
        go_wp2_with fail
        go_ret2
        exact ⟨rfl, H2.out, HC.out _ H3.out⟩
      · have dl : decide (j < N) = false := decide_eq_false hjN
        have hb : takeB L first = false := by rw [HB.out]; exact dl
        obtain ⟨e1, e2, e3, e4⟩ := HM0.out hb
        subst e1; subst e2; subst e3; subst e4
        clear hb
        go_wp2_with fail
        go_ret2
        exact ⟨rfl, HX.out, Ch.refl _ _⟩
theorem q_give (rp ib rb vb first : Nat) (L H : List Bool) (s : List UInt8) (t : Int) (w : World) (h : RPO w rp ib rb vb first H s t) (hr : Rel first L H) (k : Int) :
    Calls Try.prog 16 #[.pointer (some ⟨rp, 0, none⟩), .int .i64 k] w (RPP rp ib rb vb first (giveH L H first k) (giveS L first k s) t (.int .i64 (giveE L first k)) w) := by
  have CT := q_taken rp ib rb vb first L H s t w h hr k
  have HX := Lib.hid h
  cases hb : tknB L first k with
  | false =>
    have e1 : giveE L first k = 1 := by unfold giveE; rw [hb]; rfl
    have e2 : giveH L H first k = H := by unfold giveH; rw [hb]; rfl
    have e3 : giveS L first k s = s := by unfold giveS; rw [hb]; rfl
    rw [e1, e2, e3]
    rw [hb] at CT
    clear e1 e2 e3 hb h hr
    go_enter Try.func16, Try.ntmps16
    go_wp2_with (go_at_call 22; refine CT.mono ?_; rintro e w' ⟨rfl, rfl⟩)
    go_ret
    exact ⟨rfl, HX.out, Ch.refl _ _⟩
  | true =>
    have hb2 := hb
    unfold tknB at hb2
    simp only [Bool.and_eq_true, decide_eq_true_eq] at hb2
    obtain ⟨⟨b1, b2⟩, b3⟩ := hb2
    obtain ⟨j, rfl⟩ : ∃ j : Nat, k = (j : Int) := ⟨k.toNat, by omega⟩
    have e1 : giveE L first j = 0 := by unfold giveE; rw [hb]; rfl
    have e2 : giveH L H first j = H.set j (!false) := by unfold giveH; rw [hb, Int.toNat_natCast]; rfl
    have e3 : giveS L first j s = clearS H.length s j := by unfold giveS; rw [hb, hr.1, Int.toNat_natCast]; rfl
    rw [e1, e2, e3]
    rw [hb] at CT
    have hjN : j < H.length := by rw [← hr.1]; omega
    have HP := Lib.hid (h.set j false)
    have c0 := blk_cell h.1 0 (v := .pointer (some ⟨rb, 0, none⟩)) rfl
    have c2 := blk_cell h.1 2 (v := .slice (some ⟨ib, 0, none⟩) H.length H.length) rfl
    have cj := blk_cell h.2.1 j (had_get H j hjN)
    have fj := blk_frozen h.2.1 j
    have cs0 := blk_cell (HP.out).1 0 (v := .pointer (some ⟨rb, 0, none⟩)) rfl
    have hl : (H.set j (!false)).length = H.length := List.length_set
    have HQ := q_clear rp ib rb vb first (H.set j (!false)) s t (w.setCell ⟨ib, j, none⟩ (.bool false)) HP.out j (by rw [hl]; exact hjN)
    rw [hl] at HQ
    have HC := Lib.hid (fun w' (k : Ch (fun x => x = rb ∨ x = vb) (w.setCell ⟨ib, j, none⟩ (.bool false)) w') => (show Ch (fun x => x = ib ∨ x = rb ∨ x = vb) w w' from (Ch.setCell (S := fun x => x = ib ∨ x = rb ∨ x = vb) (Ch.refl _ w) (.inl (.inl rfl)) _).trans (k.mono (fun x hx => .inr hx))))
    have hN : H.length ≤ 256 := h.2.2.2.2.2.1
    clear e1 e2 e3 hb h hr hl b1 b2 b3
    generalize H.length = N at *
    go_enter Try.func16, Try.ntmps16
    go_wp2_with (go_at_call 22; refine CT.mono ?_; rintro e w' ⟨rfl, rfl⟩)
    refine HQ.mono ?_; rintro e w2 ⟨rfl, h2, h3⟩
    have H2 := Lib.hid h2
    have H3 := Lib.hid h3
    clear h2 h3
    go_wp2_with fail
    go_ret
    exact ⟨rfl, H2.out, HC.out _ H3.out⟩
theorem q_new_no (rb vb fr : Nat) (first : Int) (s : List UInt8) (t : Int) (w : World) (h : RMemO w rb vb s t) (hs : s.length = fr * 256) (hf : ¬ (0 ≤ first ∧ first ≤ fr)) :
    Calls Try.prog 11 #[.pointer (some ⟨rb, 0, none⟩), .int .i64 first] w fun e w' => e = .returned (.pointer none) ∧ w' = w := by
  have c0 := blk_cell h.1 0 (v := .slice (some ⟨vb, 0, none⟩) s.length s.length) rfl
  have hl := h.2.2.2
  have hd : ((s.length : Nat) : Int) / 256 = (fr : Int) := by omega
  have hc : first < 0 ∨ (0 ≤ first ∧ (fr : Int) < first) := by omega
  clear h hf hs
  generalize s.length = N at *
  rcases hc with h1 | ⟨h0, h1⟩
  · go_enter Try.func11, Try.ntmps11
    go_wp2_with fail
    go_ret
    exact ⟨rfl, rfl⟩
  · have d1 : decide (first < 0) = false := decide_eq_false (by omega)
    have d2 : decide ((fr : Int) < first) = true := decide_eq_true h1
    go_enter Try.func11, Try.ntmps11
    go_wp2_with fail
    go_ret
    exact ⟨rfl, rfl⟩
theorem q_new (rb vb fr first : Nat) (s : List UInt8) (t : Int) (w : World) (h : RMemO w rb vb s t) (hs : s.length = fr * 256) (hf : first ≤ fr) (hne : vb ≠ rb) :
    Calls Try.prog 11 #[.pointer (some ⟨rb, 0, none⟩), .int .i64 (first : Int)] w fun e w' => ∃ rp ib, e = .returned (.pointer (some ⟨rp, 0, none⟩)) ∧ RPO w' rp ib rb vb first (List.replicate fr true) s t ∧ w.heap.size ≤ rp ∧ w.heap.size ≤ ib ∧ Gr w w' := by
  have c0 := blk_cell h.1 0 (v := .slice (some ⟨vb, 0, none⟩) s.length s.length) rfl
  have hl := h.2.2.2
  have hd : ((s.length : Nat) : Int) / 256 = (fr : Int) := by omega
  have hfr : fr ≤ 256 := by omega
  have hmk := mk_bools fr (by omega)
  have HX := Lib.hid h
  have HS := Lib.hid hs
  clear h hs
  obtain ⟨N, hN⟩ : ∃ N, N = s.length := ⟨_, rfl⟩
  rw [← hN] at c0 hl hd
  clear hN
  have d1 : decide (fr < first) = false := decide_eq_false (by omega)
  go_enter Try.func11, Try.ntmps11
  go_wp2_with fail
  go_ret
  have hA := blk_alloc (.cells #[.pointer (some ⟨rb, 0, none⟩), .int .i64 first, .slice (some ⟨w.heap.size, 0, none⟩) fr fr] 48) (blk_new w (.cells (hadB (List.replicate fr true)) 4))
  have hB := blk_new (w.alloc (.cells (hadB (List.replicate fr true)) 4)) (.cells #[.pointer (some ⟨rb, 0, none⟩), .int .i64 first, .slice (some ⟨w.heap.size, 0, none⟩) fr fr] 48)
  have hsz : (w.alloc (.cells (hadB (List.replicate fr true)) 4)).heap.size = w.heap.size + 1 := by simp
  rw [hsz] at hB
  have hal : Gr w ((w.alloc (.cells (hadB (List.replicate fr true)) 4)).alloc (.cells #[.pointer (some ⟨rb, 0, none⟩), .int .i64 first, .slice (some ⟨w.heap.size, 0, none⟩) fr fr] 48)) := ((Gr.refl w).alloc (Nat.le_refl _) _).alloc (by omega) _
  have hR := HX.out.keep (S := fun _ => False) (Ch.of_gr hal) (fun h => h) (fun h => h)
  have l1 : rb < w.heap.size := blk_lt HX.out.1
  have l2 : vb < w.heap.size := blk_lt HX.out.2.2.1
  have hn : (List.replicate fr true).length = fr := List.length_replicate
  refine ⟨w.heap.size + 1, w.heap.size, by simp, ⟨by rw [hn]; exact hB, hA, hR, ⟨by omega, by omega, by omega, by omega, by omega⟩, by rw [hn]; exact HS.out, by rw [hn]; exact hfr, by rw [hn]; exact hf⟩, by omega, Nat.le_refl _, hal⟩
end Go.Proofs.Ytklkgjaljfkjbaa.P
