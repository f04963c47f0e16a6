/- Stage 6: the document's disk among other objects; its Of and New. No condition. -/
import Derived.Test.YtgaibknhdaeidaaGreatI8
import Derived.Test.YtgaibknhdaeidaaGreatE2
set_option linter.unusedVariables false
set_option maxRecDepth 50000
namespace Go.Proofs.YtgaibknhdaeidaaGreat.P
open Go.RowKit
/-- The document's disk at r, all its blocks in F. -/
def rdk (r : Nat) (z : DState) : Asn := fun w F => WZ z ∧ ∃ sb wb, RDiskO w r sb wb z ∧ ∀ x, (x = r ∨ x = sb ∨ wb = some x) → F x
theorem stable_rdk (r : Nat) (z : DState) : Stable (rdk r z) := by
  rintro w w' F G ⟨h1, sb, wb, h2, h3⟩ hc hd
  exact ⟨h1, sb, wb, h2.keep hc (hd _ (h3 _ (.inl rfl))) (hd _ (h3 _ (.inr (.inl rfl)))) (fun x hx => hd _ (h3 _ (.inr (.inr hx)))), h3⟩
theorem RDiskO.lts {w : World} {d sb : Nat} {wb : Option Nat} {z : DState} (h : RDiskO w d sb wb z) : ∀ x, (x = d ∨ x = sb ∨ wb = some x) → x < w.heap.size := by
  obtain ⟨sc, wo, wc, hb, hs, hw, hwb, hr⟩ := h
  rintro x (rfl | rfl | rfl)
  · exact blk_lt hb
  · exact ownsRow_lt hs
  · exact (hw.lt x hwb).2
theorem own_base {w : World} {base : Nat} {e : TypeId} {size : Nat} {v : Value} {n : Nat} {xs : List Value} (h : w.ownsRow base e size v n xs) : w.ownsRow 0 e size v n xs := by
  obtain ⟨h1, h2 | ⟨g, cap, cur, rfl, hb, hr⟩⟩ := h
  · exact ⟨h1, .inl h2⟩
  · exact ⟨h1, .inr ⟨g, cap, cur, rfl, Nat.zero_le _, hr⟩⟩
def MadeRD (l : List ByteArray) (w : World) (e : Ending) (w' : World) : Prop := ∃ d, ∃ F : Nat → Prop, e = .returned (.pointer (some ⟨d, 0, none⟩)) ∧ rdk d (newZ l) w' F ∧ (∀ x, F x → w.heap.size ≤ x ∧ x < w'.heap.size) ∧ Gr w w'
/-- Out of its blocks. -/
theorem made_rd {l : List ByteArray} {w w' : World} {d g c : Nat} (hz : WZ (newZ l)) (hb : w'.heap[d]? = some (.cells #[.slice (some ⟨g, 0, none⟩) l.length c, .slice none 0 0, .int .i64 (-1), .bool false] 46))
    (hr : w'.ownsRow 0 9 1 (.slice (some ⟨g, 0, none⟩) l.length c) l.length (strs l)) (hd : w.heap.size ≤ d) (hg : w.heap.size ≤ g) (hne : g ≠ d) (gr : Gr w w') : MadeRD l w (.returned (.pointer (some ⟨d, 0, none⟩))) w' := by
  refine ⟨d, fun x => x = d ∨ x = g, rfl, ⟨hz, g, none, ⟨c, none, 0, hb, hr, ⟨rfl, .inl ⟨rfl, rfl⟩⟩, rfl, hne, by simp, by simp⟩, fun x hx => ?_⟩, fun x hx => ?_, gr⟩
  · rcases hx with hx | hx | hx
    · exact .inl hx
    · exact .inr hx
    · cases hx
  · have := blk_lt hb
    have := ownsRow_lt hr
    rcases hx with hx | hx <;> omega
set_option maxHeartbeats 1600000 in
theorem e_of (w : World) (o : Option Addr) (c : Nat) (A : List ByteArray) (hA : RowS w o A) (hn : okRow A = true) :
    Calls Tryz.prog 25 #[.slice o A.length c] w (MadeRD A w) := by
  unfold okRow at hn
  simp only [Bool.and_eq_true, decide_eq_true_eq] at hn
  obtain ⟨⟨h1, h2⟩, hall⟩ := hn
  have h64 : ∀ x ∈ A, x.size = 64 := fun x hx => of_decide_eq_true (List.all_eq_true.1 hall x hx)
  have CM := Lib.hid (e_takes (A.length : Int) w)
  rw [show (decide (48 ≤ (A.length : Int)) && decide ((A.length : Int) ≤ 544)) = true by rw [Bool.and_eq_true, decide_eq_true_eq, decide_eq_true_eq]; omega] at CM
  have HA := Lib.hid hA
  have H64 := Lib.hid h64
  have HZ := Lib.hid (newZ_wz A h1 h2)
  obtain ⟨i0, hi0, hz0, hz1, hz2⟩ := info_parts strInfo
  obtain ⟨sb, off, ho, _⟩ := hA 0 _ (List.getElem?_eq_getElem (show 0 < A.length by omega))
  have hcs : ∀ j u, (strs A)[j]? = some u → w.cell? ⟨sb, off + j, none⟩ = some u := fun j u hu => by
    unfold strs at hu
    rw [List.getElem?_map] at hu
    cases hs : A[j]? with
    | none => rw [hs] at hu; cases hu
    | some s =>
      rw [hs] at hu
      injection hu with hu
      obtain ⟨b2, o2, e2, h2⟩ := hA j s hs
      rw [ho] at e2
      injection e2 with e2
      injection e2 with e2 e3
      subst e2; subst e3; rw [h2, ← hu]
  have HCS := Lib.hid hcs
  have HLS := Lib.hid (strs_length A)
  clear hA h64 hall hcs
  subst ho
  obtain ⟨n, hnn⟩ : ∃ n, n = A.length := ⟨_, rfl⟩
  have HN := Lib.hid hnn
  rw [← hnn] at CM h1 h2
  rw [show A.length = n from hnn.symm]
  clear hnn
  go_enter Tryz.func25, Tryz.ntmps25
  go_wp2_with fail
  refine CM.out.mono ?_
  rintro e w' ⟨rfl, h9⟩
  subst h9
  go_wp2_with fail
  go_loop [3, 4] (fun v3 v4 => ∃ k : Nat, k ≤ n ∧ v4 = .int .i64 k ∧ v3 = .bool true) (fun _ v4 => n - (intOf v4).toNat)
  case atStart => exact ⟨0, Nat.zero_le _, rfl, rfl⟩
  case round =>
    obtain ⟨k, hk, rfl, rfl⟩ := hrel
    by_cases hlt : k < n
    · have dl : decide (k < n) = true := decide_eq_true hlt
      have hx : A[k]? = some (A[k]'(by have := HN.out; omega)) := List.getElem?_eq_getElem _
      have hs : (A[k]'(by have := HN.out; omega)).size = 64 := H64.out _ (List.getElem_mem _)
      have hc := HCS.out k (.string (A[k]'(by have := HN.out; omega))) (by unfold strs; rw [List.getElem?_map, hx]; rfl)
      generalize A[k]'_ = x at *
      have hs4 : (x.size : Int) = 64 := by omega
      clear hs hx
      go_wp2_with fail
      go_round
      case rel => exact ⟨k + 1, by omega, by go_num, rfl⟩
      case measure => simp [intOf]; omega
    · obtain rfl : k = n := by omega
      have dl : decide (k < k) = false := decide_eq_false (by omega)
      go_wp2_with (at_builtin; refine wpList_append_grows _ rfl _ _ 22 rfl 9 i0 (.string ⟨#[]⟩) 1 16 Tryz.underlying22 hi0 hz0 hz1 hz2 rfl (by decide) none 0 0 [] rfl (by simp) rfl (by intro b _ j u h; simp at h) ⟨sb, off, none⟩ k c (strs A) rfl (by rw [HLS.out, HN.out]; omega) (fun j u h => by rw [Addr.add_lit]; exact calloc _ (HCS.out j u h)) (strs_one A) (by omega) (by unfold maxLen; omega) (by omega) ?_; intro v' w1 hown hgrow; obtain ⟨g, cap, rfl, hbg, hlt1⟩ := hown.form (by omega); have HOWN := Lib.hid hown; have HGROW := Lib.hid hgrow; have hb1 := (Ch.of_grown hgrow).blk (blk_new _ _) (fun e => by cases e); have z0 := blk_frozen hb1 0; have d0 := blk_cell hb1 0 rfl; have HB1 := Lib.hid hb1; clear hown hgrow hb1)
      go_ret
      have hg0 : Gr w' (w'.alloc (.cells #[.slice none 0 0, .slice none 0 0, .int .i64 (-1), .bool false] 46)) := Below.alloc (Below.refl _ _) (Nat.le_refl _) _
      have hg1 := HGROW.out
      have h5 := HOWN.out
      rw [Nat.zero_add] at *
      have hHN := HN.out
      have hg2 : Gr w' w1 := gtrans hg0 ⟨hg1.os, hg1.tape, hg1.output, hg1.size, fun k hk => hg1.block k hk (fun e => by cases e)⟩
      simp only [World.size_alloc] at hbg
      refine made_rd (g := g) (c := cap) HZ.out ?_ ?_ (Nat.le_refl _) (by omega) (by omega) (hg2.setCell (Nat.le_refl _) _)
      · rw [blk_set HB1.out 0 _, ← hHN]; rfl
      · rw [List.nil_append] at h5
        have h6 : w1.ownsRow 0 9 1 (.slice (some ⟨g, 0, none⟩) k cap) k (strs A) := own_base h5
        rw [hHN] at h6
        exact ownsRow_ch (S := (· = w'.heap.size)) h6 (Ch.setCell (S := (· = w'.heap.size)) (Ch.refl _ w1) (p := ⟨w'.heap.size, 0, none⟩) (.inl rfl) _) (fun x hx e => by injection hx with hx; have : g = x := hx; omega)
end Go.Proofs.YtgaibknhdaeidaaGreat.P
