/- Stage 11: In. No condition. -/
import Derived.Test.YtbcnibnkojnpiaaEI
set_option linter.unusedVariables false
set_option linter.unusedSimpArgs false
set_option maxRecDepth 100000
namespace Go.Proofs.Ytbcnibnkojnpiaa.P
open Go.RowKit Go.MuLone Go.Maps
variable {w0 w : World} {pb b first : Nat} {z : Sp} {R : Asn}
abbrev poolB (xq pb : Nat) : Asn := blkA xq (.cells #[.pointer (some ⟨pb, 0, none⟩)] 26)
theorem getV_size (s : List UInt8) (p k : Int) (hk : 0 ≤ k) : ((getV s p k).size : Int) ≤ k := by
  unfold getV
  rw [if_neg (by omega)]
  split
  · show (((s.drop p.toNat).take k.toNat).toArray.size : Int) ≤ k
    rw [List.size_toArray, List.length_take]; omega
  · show ((#[] : Array UInt8).size : Int) ≤ k
    simp; omega
theorem piece_bd (a n from_ : Int) (h : from_ < n) : from_ < pieceI a n from_ ∧ pieceI a n from_ ≤ n ∧ pieceI a n from_ ≤ from_ + 256 := by
  unfold pieceI
  have : 0 ≤ IntKind.u64.wrap (a + from_) % 256 ∧ IntKind.u64.wrap (a + from_) % 256 < 256 := by omega
  omega
theorem chunkX_inv {X : Type} {rd : X → Sp} {root at_ n acc : Int} {f : Int → Int → Int → X → X} {Ok : Int → X → Prop} (hf : ∀ x p a c, Ok a x → 0 ≤ a → a < c → c ≤ n → c ≤ a + 256 → Ok c (f p a c x)) :
    ∀ (F : Nat) (from_ : Int) (x : X), 0 ≤ from_ → from_ ≤ n → Ok from_ x → ∃ c, c ≤ n ∧ Ok c (chunkX rd root at_ n acc f F from_ x).1
  | 0, from_, x, _, h1, h2 => ⟨from_, h1, h2⟩
  | F + 1, from_, x, h0, h1, h2 => by
    rw [chunkX]
    by_cases hl : n ≤ from_
    · rw [decide_eq_true hl, cond_true]; exact ⟨from_, h1, h2⟩
    · rw [decide_eq_false hl, cond_false]
      obtain ⟨b1, b2, b3⟩ := piece_bd at_ n from_ (by omega)
      cases decide (walkR (rd x).L.length (rd x).s root (IntKind.u64.wrap (at_ + from_)) acc = 0)
      · exact ⟨from_, h1, h2⟩
      · exact chunkX_inv hf F _ _ (by omega) b2 (hf x _ from_ _ h2 h0 b1 b2 b3)
set_option maxHeartbeats 1000000 in
theorem o_in1 {xq bb : Nat} {l : List UInt8} (h : Own w0 w (Star (plA pb b first z.L z.s) (Star (Star (poolB xq pb) (bldA bb l)) R))) (hR : Stable R) (p a c : Int) (hp : u64 p) (ha : 0 ≤ a) (hc : a < c) (hc2 : c ≤ 4096) (hl : (l.length : Int) ≤ a) :
    Calls Try.prog 45 #[.int .u64 p, .int .i64 a, .int .i64 c, .pointer (some ⟨xq, 0, none⟩), .pointer (some ⟨bb, 0, none⟩)] w fun e w' => e = .returned (.tuple #[]) ∧ Own w0 w' (Star (plA pb b first z.L z.s) (Star (Star (poolB xq pb) (bldA bb (l ++ (getV z.s p (c - a)).data.toList))) R)) := by
  have SB := stable_star (stable_star (stable_blk xq (.cells #[.pointer (some ⟨pb, 0, none⟩)] 26)) (stable_bld bb l)) hR
  have c0 := blk_cell (h.mono (fun F h => star_assoc (star_swap2 h))).blk 0 (v := .pointer (some ⟨pb, 0, none⟩)) rfl
  have k1 : IntKind.i64.wrap (c - a) = c - a := wrapI _ (by omega) (by omega)
  have hsz := getV_size z.s p (c - a) (by omega)
  obtain ⟨V, hV⟩ : ∃ V, getV z.s p (c - a) = V := ⟨_, rfl⟩
  obtain ⟨E, hE⟩ : ∃ V, getR z.s p (c - a) = V := ⟨_, rfl⟩
  rw [hV] at hsz ⊢
  have G := Lib.hid (o_pget h SB p (c - a) E hp (by omega) V hV hE)
  have WS : RowKit.Hid (∀ w, Own w0 w (Star (plA pb b first z.L z.s) (Star (Star (poolB xq pb) (bldA bb l)) R)) → Calls Try.prog 47 #[.pointer (some ⟨bb, 0, none⟩), .string V] w fun e w' => e = .returned (.tuple #[.int .i64 V.size, .nilIface]) ∧ Own w0 w' (Star (plA pb b first z.L z.s) (Star (Star (poolB xq pb) (bldA bb (l ++ V.data.toList))) R))) := Lib.hid (fun w h => by
    have h2 : Own w0 w (Star (bldA bb l) (Star (plA pb b first z.L z.s) (Star (poolB xq pb) R))) := h.mono (fun F h => st3 (star_mono_r (fun F h => star_assoc h) h))
    refine (o_bwrite h2 (stable_star (stable_pl _ _ _ _ _) (stable_star (stable_blk _ _) hR)) V (by omega)).mono ?_
    rintro e w' ⟨rfl, h3⟩
    exact ⟨rfl, h3.mono (fun F h => star_mono_r (fun F h => star_unassoc h) (bk3 h))⟩)
  have H0 := Lib.hid h
  clear h hR SB hp ha hc hc2 hl hV hE hsz
  go_enter Try.func45, Try.ntmps45
  go_wp2_with (first
    | (go_at_call 25; refine (o_pmem H0.out).mono ?_; rintro e wm ⟨rfl, rfl⟩)
    | (go_at_call 46; refine G.out.mono ?_; rintro e w2 ⟨rfl, h2⟩; have H2 := Lib.hid h2; clear h2)
    | (go_at_call 47; refine (WS.out _ H2.out).mono ?_; rintro e w3 ⟨rfl, h3⟩; have H3 := Lib.hid h3; clear h3))
  go_end0
  exact ⟨rfl, H3.out⟩
theorem cbd_in (w0 : World) (pb b fi xq bb : Nat) (z : Sp) (n : Int) (hn : n ≤ 4096) : Cbd (X := List UInt8) (fun _ => z) (fun x => Star (poolB xq pb) (bldA bb x)) (fun a x => (x.length : Int) ≤ a) pb b fi n (fun p a c x => x ++ (getV z.s p (c - a)).data.toList) 45 #[.pointer (some ⟨xq, 0, none⟩), .pointer (some ⟨bb, 0, none⟩)] w0 := by
  refine ⟨fun x => stable_star (stable_blk _ _) (stable_bld _ _), ?_, ?_, ?_⟩
  · intro x p a c h1 h2 h3 h4 h5
    have := getV_size z.s p (c - a) (by omega)
    show ((x ++ (getV z.s p (c - a)).data.toList).length : Int) ≤ c
    have e2 : (getV z.s p (c - a)).data.toList.length = (getV z.s p (c - a)).size := Array.length_toList
    rw [List.length_append]
    omega
  · intro p a c w; simp [go_sem]
  · intro x p a c w R hR hk hp h0 h1 h2 h3 h
    exact o_in1 h hR p a c hp h0 h1 (by omega) hk
theorem o_in_bad (h : Own w0 w (Star (plA pb b first z.L z.s) R)) (hR : Stable R) (r a n : Int) (hr : i64 r) (hbad : movedBad first z r n = true) :
    Calls Try.prog 14 #[.pointer (some ⟨pb, 0, none⟩), .int .i64 r, .int .u64 a, .int .i64 n] w fun e w' => e = .returned (.tuple #[.string ⟨#[]⟩, .int .i64 1]) ∧ Own w0 w' (Star (plA pb b first z.L z.s) R) := by
  have SP := stable_star (stable_pl pb b first z.L z.s) hR
  have K1 := h.alloc SP (.cells #[.pointer (some ⟨pb, 0, none⟩)] 26)
  have SB := stable_star (stable_blk w.heap.size (.cells #[.pointer (some ⟨pb, 0, none⟩)] 26)) hR
  obtain ⟨tk, htk⟩ : ∃ t, tknB z.L first r = t := ⟨_, rfl⟩
  have TK := Lib.hid (o_ptaken K1.swap2 SB r hr tk htk)
  unfold movedBad at hbad
  rw [htk] at hbad
  clear h hR SP SB hr htk K1
  rcases (show tk = false ∨ (tk = true ∧ n < 0) ∨ (tk = true ∧ ¬ n < 0 ∧ 4096 < n) by
    cases tk
    · exact .inl rfl
    · simp only [Bool.not_true, Bool.false_or, Bool.or_eq_true, decide_eq_true_eq] at hbad
      rcases hbad with e | e
      · exact .inr (.inl ⟨rfl, e⟩)
      · exact .inr (.inr ⟨rfl, by omega, e⟩)) with rfl | ⟨rfl, e⟩ | ⟨rfl, e, e2⟩
  all_goals
    clear hbad
    go_enter Try.func14, Try.ntmps14
    go_wp2_with (go_at_call 23; refine TK.out.mono ?_; rintro e w2 ⟨rfl, h2⟩; have H2 := Lib.hid h2; clear h2)
    go_ret2
    exact ⟨rfl, H2.out.drop2⟩
set_option maxHeartbeats 1600000 in
theorem o_in_go (h : Own w0 w (Star (plA pb b first z.L z.s) R)) (hR : Stable R) (r a n : Int) (hr : i64 r) (ha : u64 a) (hbad : movedBad first z r n = false) (l : List UInt8) (E : Int) (hx : inX z r a n = (l, E)) :
    Calls Try.prog 14 #[.pointer (some ⟨pb, 0, none⟩), .int .i64 r, .int .u64 a, .int .i64 n] w fun e w' => e = .returned (.tuple #[.string (bif decide (E = 0) then ⟨l.toArray⟩ else ⟨#[]⟩), .int .i64 E]) ∧ Own w0 w' (Star (plA pb b first z.L z.s) R) := by
  have hb : tknB z.L first r = true ∧ ¬ n < 0 ∧ ¬ 4096 < n := by
    unfold movedBad at hbad
    cases q : tknB z.L first r
    · rw [q] at hbad; cases hbad
    · rw [q] at hbad
      simp only [Bool.not_true, Bool.false_or, Bool.or_eq_false_iff, decide_eq_false_iff_not] at hbad
      exact ⟨rfl, hbad⟩
  obtain ⟨htk, e1, e2⟩ := hb
  have SP := stable_star (stable_pl pb b first z.L z.s) hR
  have K1 := h.alloc SP (.cells #[.pointer (some ⟨pb, 0, none⟩)] 26)
  have SB := stable_star (stable_blk w.heap.size (.cells #[.pointer (some ⟨pb, 0, none⟩)] 26)) hR
  have TK := Lib.hid (o_ptaken K1.swap2 SB r hr true htk)
  have HR := Lib.hid hR
  have HSP := Lib.hid (stable_pl pb b first z.L z.s)
  have HSB := Lib.hid SB
  have CH : RowKit.Hid (∀ (w : World) (xq bb : Nat), Own w0 w (Star (plA pb b first z.L z.s) (Star (Star (poolB xq pb) (bldA bb [])) R)) → Calls Try.prog 44 #[.pointer (some ⟨pb, 0, none⟩), .int .i64 r, .int .u64 a, .int .i64 n, .int .i64 1, .func (.func 45) #[] #[.pointer (some ⟨xq, 0, none⟩), .pointer (some ⟨bb, 0, none⟩)]] w fun e w' =>
      e = .returned (.int .i64 E) ∧ Own w0 w' (Star (plA pb b first z.L z.s) (Star (Star (poolB xq pb) (bldA bb l)) R))) := Lib.hid (fun w xq bb h => by
    refine (o_chunks (cbd_in w0 pb b first xq bb z n (by omega)) [] r a 1 w R hR (by simp) ⟨by omega, by omega⟩ hr ha h).mono ?_
    unfold inX at hx
    rw [hx]
    exact fun e w' h => h)
  have hll : l.length ≤ 100000 := by
    obtain ⟨c, hc, hk⟩ := chunkX_inv (rd := fun _ : List UInt8 => z) (root := r) (at_ := a) (n := n) (acc := 1) (f := fun p a c x => x ++ (getV z.s p (c - a)).data.toList) (Ok := fun a (x : List UInt8) => (x.length : Int) ≤ a) (cbd_in w0 pb b first 0 0 z n (by omega)).okd (n.toNat + 1) 0 [] (by decide) (by omega) (by simp)
    unfold inX at hx
    rw [hx] at hk
    have hk : (l.length : Int) ≤ c := hk
    omega
  obtain ⟨S, hS⟩ : ∃ S, (bif decide (E = 0) then (⟨l.toArray⟩ : ByteArray) else ⟨#[]⟩) = S := ⟨_, rfl⟩
  have hS1 : E = 0 → S = ⟨l.toArray⟩ := fun e => by rw [← hS, decide_eq_true e]; rfl
  have hS2 : E ≠ 0 → S = ⟨#[]⟩ := fun e => by rw [← hS, decide_eq_false e]; rfl
  rw [hS]
  clear hS
  have BS : RowKit.Hid (∀ (w : World) (xq bb : Nat), Own w0 w (Star (plA pb b first z.L z.s) (Star (Star (poolB xq pb) (bldA bb l)) R)) → Calls Try.prog 48 #[.pointer (some ⟨bb, 0, none⟩)] w fun e w' => e = .returned (.string ⟨l.toArray⟩) ∧ Own w0 w' (Star (plA pb b first z.L z.s) R)) := Lib.hid (fun w xq bb h => by
    have h2 : Own w0 w (Star (bldA bb l) (Star (plA pb b first z.L z.s) (Star (poolB xq pb) R))) := h.mono (fun F h => st3 (star_mono_r (fun F h => star_assoc h) h))
    refine (o_bstring h2 (stable_star (stable_pl _ _ _ _ _) (stable_star (stable_blk _ _) hR)) hll).mono ?_
    rintro e w' ⟨rfl, h3⟩
    exact ⟨rfl, h3.drop2⟩)
  clear h hR SP SB hr ha htk K1 hx hll hbad
  go_enter Try.func14, Try.ntmps14
  go_upto_region 3 with (go_at_call 23; refine TK.out.mono ?_; rintro e w2 ⟨rfl, h2⟩; have H2 := Lib.hid h2; clear h2)
  clear TK
  generalize w.heap.size = xq at *
  go_upto_region 4 with fail
  have A1 := H2.out.alloc (stable_star HSP.out HSB.out) (.cells #[.pointer none, .slice none 0 0] 76)
  have A2 : RowKit.Hid (Own w0 (w2.alloc (.cells #[.pointer none, .slice none 0 0] 76)) (Star (plA pb b first z.L z.s) (Star (Star (poolB xq pb) (bldA w2.heap.size [])) R))) := Lib.hid (A1.mono (fun F h => by
    obtain ⟨F1, F2, hb1, hb2, hd, s1, s2⟩ := h
    have hb3 : bldA w2.heap.size [] (w2.alloc (.cells #[.pointer none, .slice none 0 0] 76)) F1 := ⟨hb1.1, _, _, .inl rfl, hb1.2, ⟨rfl, .inl ⟨rfl, rfl⟩⟩, by simp [Value.ownBlock], fun q hq => (by cases hq), fun _ => rfl⟩
    -- bb, pool, xq, R
    have h1 : Star (bldA w2.heap.size []) (Star (plA pb b first z.L z.s) (Star (poolB xq pb) R)) _ F := ⟨F1, F2, hb3, hb2, hd, s1, s2⟩
    exact star_mono_r (fun F h => star_unassoc (star_swap2 h)) (star_swap2 h1)))
  clear A1 H2
  have c0 := blk_cell (A2.out.mono (fun F h => star_assoc (star_swap2 h))).blk 0 (v := .pointer (some ⟨pb, 0, none⟩)) rfl
  generalize (World.alloc w2 _) = w3 at *
  generalize w2.heap.size = bb at *
  have E3 := Lib.hid (CH.out w3 xq bb A2.out)
  clear CH
  by_cases h0 : E = 0
  · subst h0
    obtain rfl := hS1 rfl
    go_wp2_with (first
      | (go_at_call 44; refine E3.out.mono ?_; rintro e w4 ⟨rfl, h4⟩; have H4 := Lib.hid h4; clear h4)
      | (go_at_call 48; refine (BS.out _ xq bb H4.out).mono ?_; rintro e w5 ⟨rfl, h5⟩; have H5 := Lib.hid h5; clear h5))
    go_ret2
    exact ⟨rfl, H5.out⟩
  · have hwb2 : (E != 0) = true := by simpa using h0
    obtain rfl := hS2 h0
    go_wp2_with (go_at_call 44; refine E3.out.mono ?_; rintro e w4 ⟨rfl, h4⟩; have H4 := Lib.hid h4; clear h4)
    go_ret2
    exact ⟨rfl, H4.out.drop2⟩
end Go.Proofs.Ytbcnibnkojnpiaa.P
