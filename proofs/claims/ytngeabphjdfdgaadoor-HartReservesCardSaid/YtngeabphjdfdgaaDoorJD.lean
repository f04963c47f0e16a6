/- Stage 5: an lr and two sc, reckoned; plain. No condition. -/
import Derived.Test.YtngeabphjdfdgaaDoorJB
set_option linter.unusedVariables false
set_option linter.unusedSimpArgs false
set_option maxRecDepth 100000
namespace Go.Proofs.YtngeabphjdfdgaaDoor.P
open Go.RowKit Go.MuLone Go.Proofs.YtngeabphjdfdgaaDoor.W
theorem sub_put_same (s : List UInt8) (a : Nat) (x : List UInt8) (h : a + x.length ≤ s.length) : ((putL s a x).drop a).take x.length = x := by
  apply List.ext_getElem?
  intro i
  rw [List.getElem?_take]
  by_cases hi : i < x.length
  · rw [if_pos hi, List.getElem?_drop, putL_get s a x h (a + i), if_neg (by omega), if_pos (by omega), show a + i - a = i by omega]
  · rw [if_neg hi, List.getElem?_eq_none (by omega)]
theorem store_back {s : List UInt8} (a v : Int) (h0 : 0 ≤ a) (h : a + 8 ≤ s.length) (hv : word v) : loadV (storeS s a 8 v) a 8 = v := by
  obtain ⟨e1, e2⟩ := storeS_in (s := s) a 8 v (.inr (.inr (.inr rfl))) h0 h
  have t1 : a.toNat + (bytesF v 8).data.toList.length ≤ s.length := by rw [e2]; omega
  rw [e1]
  unfold loadV
  rw [if_pos (sized_t (.inr (.inr (.inr rfl)))), if_pos (inB_t (by rw [putL_len _ _ _ t1]; exact h))]
  have e : subB (putL s a.toNat (bytesF v 8).data.toList) a.toNat (8 : Int).toNat = bytesF v 8 := by
    unfold subB
    have := sub_put_same s a.toNat (bytesF v 8).data.toList t1
    rw [e2] at this; rw [this]
  rw [e, of_bytes v 8 hv]
  rfl
theorem low_see {s : List UInt8} (h : LowT s) : SeeS s s := ⟨h, h, rfl⟩
theorem step_at {s : List UInt8} (h : LowT s) {H : HS} (hH : H.ok) (x : Int) (hp : H.pc % 4 = 0) (hl : H.pc < 256) (hx : loadV s (768 + H.pc) 4 = x) (hd : decE x = 0) (D : DS)
    (hD : doF 8 s 0 (insF x).op (insF x).rd ((H.set 0 0).X (insF x).a) ((H.set 0 0).X (insF x).b) (w64 (insF x).i) H.pc { H.set 0 0 with pc := w64 (H.pc + 4) } = D) (hk : D.e.k = 0) : stepF 8 s 0 H = ⟨D.A.set 0 0, D.e, D.s⟩ := by
  have hb : (decide (H.pc % 4 = 0) && decide (H.pc < limA 3)) = true := by rw [Bool.and_eq_true, decide_eq_true_eq, decide_eq_true_eq]; exact ⟨hp, hl⟩
  have h1 : rchB 8 s 0 H.pc 4 3 = true := by rw [low_rch h 4 hH.2.1 (.inr (.inr rfl))]; exact hb
  have h2 : rchV 8 s 0 H.pc 4 3 = 768 + H.pc := low_rchV h hH.2.1 (.inr (.inr rfl)) hb
  unfold stepF
  rw [h1, if_pos rfl, h2, hx, if_pos hd, hD, if_pos hk]
def rsC : Nat → Int := fun k => [268480943, 407974447, 407974703].getD k 0
def rsS : List UInt8 := codS rsC 3
theorem rs_low : LowT rsS := ⟨by decide +kernel, by decide +kernel⟩
theorem rs_1 : loadV rsS 768 4 = 268480943 := by decide +kernel
theorem rs_2 : loadV rsS 772 4 = 407974447 := by decide +kernel
theorem rs_3 : loadV rsS 776 4 = 407974703 := by decide +kernel
theorem rs_z : ∀ k : Fin 32, loadV rsS (1024 + 8 * (k.val : Int)) 8 = 0 := by decide +kernel
theorem ri_1 : decE 268480943 = 0 ∧ (insF 268480943).op = 77 ∧ (insF 268480943).rd = 3 ∧ (insF 268480943).a = 1 := by decide +kernel
theorem ri_2 : decE 407974447 = 0 ∧ (insF 407974447).op = 78 ∧ (insF 407974447).rd = 4 ∧ (insF 407974447).a = 2 ∧ (insF 407974447).b = 5 := by decide +kernel
theorem ri_3 : decE 407974703 = 0 ∧ (insF 407974703).op = 78 ∧ (insF 407974703).rd = 6 ∧ (insF 407974703).a = 2 ∧ (insF 407974703).b = 5 := by decide +kernel
def rsH (A B : Nat) (v : Int) : HS := ⟨upX (upX (upX (fun _ => 0) 1 (256 + 8 * (A : Int))) 2 (256 + 8 * (B : Int))) 5 v, 0, false, 0⟩
theorem rsH_ok {A B : Nat} (hA : A < 32) (hB : B < 32) {v : Int} (hv : Go.Proofs.YtngeabphjdfdgaaDoor.P.u64 v) : (rsH A B v).ok := by
  refine ⟨?_, u64_lit0, u64_lit0⟩
  exact upX_ok (upX_ok (upX_ok (fun _ _ => u64_lit0) 1 ⟨by omega, by omega⟩) 2 ⟨by omega, by omega⟩) 5 hv
theorem do_77 (s : List UInt8) (rd : Nat) (a b m pc : Int) (A : HS) : doF 8 s 0 77 rd a b m pc A = lrF 8 s 0 rd a 8 A := rfl
theorem do_78 (s : List UInt8) (rd : Nat) (a b m pc : Int) (A : HS) : doF 8 s 0 78 rd a b m pc A = scF 8 s 0 rd a 8 b A := rfl
theorem page1 {s : List UInt8} (h : LowT s) (k : Nat) (hk : k < 32) {acc : Int} (hacc : acc = 1 ∨ acc = 2) : rchB 8 s 0 (256 + 8 * (k : Int)) 8 acc = true ∧ rchV 8 s 0 (256 + 8 * (k : Int)) 8 acc = 1024 + 8 * (k : Int) := by
  have hu : Go.Proofs.YtngeabphjdfdgaaDoor.P.u64 (256 + 8 * (k : Int)) := ⟨by omega, by omega⟩
  have h3 : acc = 1 ∨ acc = 2 ∨ acc = 3 := by omega
  have hl : 512 ≤ limA acc := by rcases hacc with rfl | rfl <;> decide
  have hb : (decide ((256 + 8 * (k : Int)) % 8 = 0) && decide (256 + 8 * (k : Int) < limA acc)) = true := by rw [Bool.and_eq_true, decide_eq_true_eq, decide_eq_true_eq]; exact ⟨by omega, by omega⟩
  refine ⟨(low_rch h 8 hu h3).trans hb, (low_rchV h hu h3 hb).trans (by omega)⟩
/-- What the three steps come to. -/
theorem rs_run (A B : Nat) (hA : A < 32) (hB : B < 32) (v : Int) (hv : word v) : ∃ R1 R2 R3 : RS, stepF 8 rsS 0 (rsH A B v) = R1 ∧ stepF 8 R1.s 0 R1.H = R2 ∧ stepF 8 R2.s 0 R2.H = R3 ∧
    R1.e.k = 0 ∧ R2.e.k = 0 ∧ R3.e.k = 0 ∧ R3.H.X 4 = (if A = B then 0 else 1) ∧ R3.H.X 6 = 1 ∧ R3.H.hd = false ∧ loadV R3.s (1024 + 8 * (B : Int)) 8 = (if A = B then v else 0) := by
  have ok0 := rsH_ok hA hB (u64_of_word hv)
  obtain ⟨L, hL⟩ : ∃ L, sgnF (loadV rsS (1024 + 8 * (A : Int)) 8) (8 * 8) = L := ⟨_, rfl⟩
  have p1 := page1 rs_low A hA (acc := 1) (.inl rfl)
  obtain ⟨H1, hH1⟩ : ∃ H1 : HS, H1 = (({ ((({ (rsH A B v).set 0 0 with pc := w64 (0 + 4) } : HS)).set 3 L) with hd := true, at_ := 1024 + 8 * (A : Int) } : HS)).set 0 0 := ⟨_, rfl⟩
  have s1 : stepF 8 rsS 0 (rsH A B v) = ⟨H1, e0, rsS⟩ := by
    rw [hH1]
    refine step_at rs_low ok0 268480943 rfl (show (0 : Int) < 256 by decide) rs_1 ri_1.1 ⟨_, e0, rsS⟩ ?_ rfl
    rw [ri_1.2.1, ri_1.2.2.1, ri_1.2.2.2, do_77, show ((rsH A B v).set 0 0).X 1 = 256 + 8 * (A : Int) from rfl]
    unfold lrF
    rw [p1.1, if_pos rfl, p1.2, hL]
    rfl
  have ok1 : H1.ok := by have := step_ok (by decide : 8 ≤ 256) rsS 0 ok0; rw [s1] at this; exact this
  have x12 : (H1.set 0 0).X 2 = 256 + 8 * (B : Int) := by rw [hH1]; rfl
  have x15 : (H1.set 0 0).X 5 = v := by rw [hH1]; rfl
  have pc1 : H1.pc = 4 := by rw [hH1]; rfl
  have hd1 : H1.hd = true := by rw [hH1]; rfl
  have at1 : H1.at_ = 1024 + 8 * (A : Int) := by rw [hH1]; rfl
  clear hH1
  have p2 := page1 rs_low B hB (acc := 2) (.inr rfl)
  have two : ∀ (R2 : RS), stepF 8 rsS 0 H1 = R2 → R2.e.k = 0 → LowT R2.s → R2.H.ok → R2.H.pc = 8 → R2.H.hd = false → (R2.H.set 0 0).X 2 = 256 + 8 * (B : Int) → loadV R2.s 776 4 = 407974703 → R2.H.X 4 = (if A = B then 0 else 1) → loadV R2.s (1024 + 8 * (B : Int)) 8 = (if A = B then v else 0) → ∃ R1 R2 R3 : RS, stepF 8 rsS 0 (rsH A B v) = R1 ∧ stepF 8 R1.s 0 R1.H = R2 ∧ stepF 8 R2.s 0 R2.H = R3 ∧
      R1.e.k = 0 ∧ R2.e.k = 0 ∧ R3.e.k = 0 ∧ R3.H.X 4 = (if A = B then 0 else 1) ∧ R3.H.X 6 = 1 ∧ R3.H.hd = false ∧ loadV R3.s (1024 + 8 * (B : Int)) 8 = (if A = B then v else 0) := by
    intro R2 e2 k2 low2 ok2 pc2 hd2 x2 l2 x4 lv
    have p3 := page1 low2 B hB (acc := 2) (.inr rfl)
    have s3 : stepF 8 R2.s 0 R2.H = ⟨(({ ((({ R2.H.set 0 0 with pc := w64 (R2.H.pc + 4) } : HS)).set 6 1) with hd := false, at_ := 0 } : HS)).set 0 0, e0, R2.s⟩ := by
      refine step_at low2 ok2 407974703 (by rw [pc2]; rfl) (by rw [pc2]; decide) (by rw [pc2]; exact l2) ri_3.1 ⟨_, e0, R2.s⟩ ?_ rfl
      rw [ri_3.2.1, ri_3.2.2.1, ri_3.2.2.2.1, ri_3.2.2.2.2, do_78, x2]
      unfold scF
      rw [p3.1, if_pos rfl]
      rw [if_neg (by show ¬ (R2.H.hd && _) = true; rw [hd2, Bool.false_and]; decide)]
    exact ⟨_, R2, _, s1, e2, s3, rfl, k2, rfl, x4, rfl, rfl, lv⟩
  have s2 : stepF 8 rsS 0 H1 = (if A = B then ⟨(({ ((({ H1.set 0 0 with pc := w64 (H1.pc + 4) } : HS)).set 4 0) with hd := false, at_ := 0 } : HS)).set 0 0, ⟨0, 1024 + 8 * (B : Int), true⟩, storeS rsS (1024 + 8 * (B : Int)) 8 v⟩ else ⟨(({ ((({ H1.set 0 0 with pc := w64 (H1.pc + 4) } : HS)).set 4 1) with hd := false, at_ := 0 } : HS)).set 0 0, e0, rsS⟩) := by
    by_cases hAB : A = B
    · rw [if_pos hAB]
      refine step_at rs_low ok1 407974447 (by rw [pc1]; rfl) (by rw [pc1]; decide) (by rw [pc1]; exact rs_2) ri_2.1 ⟨_, ⟨0, 1024 + 8 * (B : Int), true⟩, storeS rsS (1024 + 8 * (B : Int)) 8 v⟩ ?_ rfl
      rw [ri_2.2.1, ri_2.2.2.1, ri_2.2.2.2.1, ri_2.2.2.2.2, do_78, x12, x15]
      unfold scF
      rw [p2.1, if_pos rfl, p2.2]
      rw [if_pos (by show (H1.hd && decide (H1.at_ = _)) = true; rw [hd1, at1, hAB]; simp)]
    · rw [if_neg hAB]
      refine step_at rs_low ok1 407974447 (by rw [pc1]; rfl) (by rw [pc1]; decide) (by rw [pc1]; exact rs_2) ri_2.1 ⟨_, e0, rsS⟩ ?_ rfl
      rw [ri_2.2.1, ri_2.2.2.1, ri_2.2.2.2.1, ri_2.2.2.2.2, do_78, x12, x15]
      unfold scF
      rw [p2.1, if_pos rfl, p2.2]
      rw [if_neg (by show ¬ (H1.hd && decide (H1.at_ = _)) = true; rw [hd1, at1, decide_eq_false (by omega)]; decide)]
  have ok2 := step_ok (by decide : 8 ≤ 256) rsS 0 ok1
  have low2 := (two_step (low_see rs_low) ok1).2.2.1.ls
  by_cases hAB : A = B
  · rw [if_pos hAB] at s2
    rw [s2] at ok2 low2
    have hst : (1024 + 8 * (B : Int)) + 8 ≤ (rsS.length : Int) := by rw [rs_low.1]; omega
    obtain ⟨e1, e2⟩ := storeS_in (s := rsS) (1024 + 8 * (B : Int)) 8 v (.inr (.inr (.inr rfl))) (by omega) hst
    have t1 : (1024 + 8 * (B : Int)).toNat + (bytesF v 8).data.toList.length ≤ rsS.length := by rw [e2]; omega
    refine two _ s2 rfl low2 ok2 (by simp only; rw [show ∀ (q : HS) (z : Int), (q.set 0 z).pc = q.pc from fun _ _ => rfl]; simp only [HS.set, pc1]; decide) rfl x12 ?_ (by rw [if_pos hAB]; rfl) (by rw [if_pos hAB]; exact store_back _ _ (by omega) hst hv)
    rw [← rs_3]
    refine loadV_take (k := 1024) ?_ (by rw [rs_low.1]; decide) ?_ _ _ (by decide) (by decide) (by decide)
    · rw [e1, putL_len _ _ _ t1, rs_low.1]; decide
    · rw [e1]; exact put_take_low _ _ _ _ t1 (by omega)
  · rw [if_neg hAB] at s2
    rw [s2] at ok2 low2
    exact two _ s2 rfl low2 ok2 (by simp only; rw [show ∀ (q : HS) (z : Int), (q.set 0 z).pc = q.pc from fun _ _ => rfl]; simp only [HS.set, pc1]; decide) rfl x12 rs_3 (by rw [if_neg hAB]; rfl) (by rw [if_neg hAB]; exact rs_z ⟨B, hB⟩)
end Go.Proofs.YtngeabphjdfdgaaDoor.P
