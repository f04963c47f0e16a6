/- Stage 6: slices.Clone of any row of texts; Of. No condition. -/
import Derived.Test.YtipnmffcfloglaaI5
set_option linter.unusedVariables false
namespace Go.Proofs.Ytipnmffcfloglaa.P
open Go.RowKit
def CloneR (l : List ByteArray) (w : World) (e : Ending) (w' : World) : Prop := ∃ g cap, e = .returned (.slice (some ⟨g, 0, none⟩) l.length cap) ∧ w'.ownsRow 0 9 1 (.slice (some ⟨g, 0, none⟩) l.length cap) l.length (strs l) ∧ w.heap.size ≤ g ∧ Gr w w'
set_option maxHeartbeats 1600000 in
theorem c_clone2 (w : World) (o : Option Addr) (c : Nat) (l : List ByteArray) (hn : 1 ≤ l.length) (hn2 : l.length ≤ 1000000) (hc : RowS w o l) :
    Calls Try.prog 35 #[.slice o l.length c] w (CloneR l w) := by
  obtain ⟨i0, hi, hz0, hz1, hz2⟩ := info_parts strInfo
  obtain ⟨sb, off, ho, _⟩ := hc 0 _ (List.getElem?_eq_getElem hn)
  have hcs : ∀ j u, (strs l)[j]? = some u → w.cell? ⟨sb, off + j, none⟩ = some u := fun j u hu => by
    unfold strs at hu
    rw [List.getElem?_map] at hu
    cases hs : l[j]? with
    | none => rw [hs] at hu; cases hu
    | some s =>
      rw [hs] at hu
      injection hu with hu
      obtain ⟨b2, o2, e2, h2⟩ := hc j s hs
      rw [ho] at e2
      injection e2 with e2
      injection e2 with e2 e3
      subst e2; subst e3; rw [h2, ← hu]
  subst ho
  have HC := Lib.hid hcs
  have HLS := Lib.hid (strs_length l)
  clear hcs hc
  obtain ⟨n, hln⟩ : ∃ n, n = l.length := ⟨_, rfl⟩
  have HL := Lib.hid hln
  rw [← hln] at hn hn2
  rw [show l.length = n from hln.symm]
  clear hln
  have hq : ∀ (w : World) (a : Addr) (n c : Nat), (binOp .eql 37 (.slice (some a) n c) (.slice none 0 0)).run Try.prog w = .ok (.bool false) w := fun w a n c => Go.Lib.run_eql_slice_nil w _ _ (some a) n c 0 0 Try.underlying37
  go_enter Try.func35, Try.ntmps35
  go_wp2_with (at_builtin; refine wpList_append_grows _ rfl _ _ 37 rfl 9 i0 (.string ⟨#[]⟩) 1 16 Try.underlying37 hi hz0 hz1 hz2 rfl (by decide) (some ⟨w.heap.size, 0, none⟩) 0 0 [] rfl (by simp) rfl (by intro b _ j u h; simp at h) ⟨sb, off, none⟩ n c (strs l) rfl (by rw [HLS.out, HL.out]; omega) (fun j u h => by rw [Addr.add_lit]; exact calloc _ (HC.out j u h)) (strs_one l) (by omega) (by unfold maxLen; omega) (by omega) ?_; intro v' w1 hown hgrow)
  go_ret
  have hg0 : Gr w (w.alloc (.cells #[] 9)) := Below.alloc (Below.refl _ _) (Nat.le_refl _) _
  have hg1 : Gr (w.alloc (.cells #[] 9)) w1 := ⟨hgrow.os, hgrow.tape, hgrow.output, hgrow.size, fun k hk => hgrow.block k hk (fun e => by cases e)⟩
  obtain ⟨h1, ⟨rfl, h2⟩ | ⟨g, cap, cur, rfl, hb, hr⟩⟩ := hown
  · omega
  · rw [Nat.zero_add] at *
    have hHL := HL.out
    subst hHL
    exact ⟨g, cap, rfl, ⟨h1, .inr ⟨g, cap, cur, rfl, Nat.zero_le _, hr⟩⟩, by have := hg0.size; omega, gtrans hg0 hg1⟩
set_option maxHeartbeats 1600000 in
theorem c_of (w : World) (o : Option Addr) (c : Nat) (A : List ByteArray) (h1 : 48 ≤ A.length) (h2 : A.length ≤ 544) (hA : RowS w o A) (h64 : ∀ s ∈ A, s.size = 64) :
    Calls Try.prog 18 #[.slice o A.length c] w (MadeD A w) := by
  have CC := Lib.hid (fun w' (g : Gr w w') => c_clone2 w' o c A (by omega) (by omega) (hA.gr g))
  have HA := Lib.hid hA
  have H64 := Lib.hid h64
  have HZ := Lib.hid (newZ_wz A h1 h2)
  clear hA h64
  have hb : (decide (48 ≤ (A.length : Int)) && decide ((A.length : Int) ≤ 544)) = true := by
    rw [Bool.and_eq_true, decide_eq_true_eq, decide_eq_true_eq]; omega
  have CM := c_may (A.length : Int) w
  rw [hb] at CM
  have HM := Lib.hid CM
  clear hb CM
  obtain ⟨n, hn⟩ : ∃ n, n = A.length := ⟨_, rfl⟩
  have HN := Lib.hid hn
  rw [← hn] at h1 h2 HM CC
  rw [show A.length = n from hn.symm]
  clear hn
  go_enter Try.func18, Try.ntmps18
  go_wp2_with fail
  refine HM.out.mono ?_
  rintro e w' ⟨rfl, h9⟩
  subst h9
  go_wp2_with fail
  go_loop [12] (fun v => ∃ k : Nat, k ≤ n ∧ v = .int .i64 k) (fun v => n - (intOf v).toNat)
  case atStart => exact ⟨0, Nat.zero_le _, rfl⟩
  case round =>
    obtain ⟨k, hk, rfl⟩ := hrel
    by_cases hlt : k < n
    · have dl : decide (k < n) = true := decide_eq_true hlt
      have hx : A[k]? = some (A[k]'(by have := HN.out; omega)) := List.getElem?_eq_getElem _
      have hs : (A[k]'(by have := HN.out; omega)).size = 64 := H64.out _ (List.getElem_mem _)
      obtain ⟨b, off, rfl, hc⟩ := HA.out k _ hx
      generalize A[k]'_ = x at *
      have hs2 : ((x.size : Int) == 64) = true := by rw [beq_iff_eq]; omega
      have hs3 : ((x.size : Int) != 64) = false := by rw [bne_eq_false_iff_eq]; omega
      have hs4 : (x.size : Int) = 64 := by omega
      clear hs hx hs2 hs3
      go_wp2_with fail
      go_round
      case rel => exact ⟨k + 1, by omega, by go_num⟩
      case measure => simp [intOf]; omega
    · obtain rfl : k = n := by omega
      have dl : decide (k < k) = false := decide_eq_false (by omega)
      go_wp2_with fail
      refine (CC.out _ (Gr.refl _)).mono ?_
      rintro e w2 ⟨g, cap, rfl, hown, hge, hgr⟩
      have HOWN := Lib.hid hown
      have HGE := Lib.hid hge
      have HGR := Lib.hid hgr
      clear hown hge hgr
      rw [← HN.out]
      go_wp2_with fail
      go_ret2
      have hrow : (w2.alloc (.cells #[.slice (some ⟨g, 0, none⟩) k cap, .slice none 0 0, .bool false, .bool false, .int .i64 0] 61)).ownsRow 0 9 1 (.slice (some ⟨g, 0, none⟩) A.length cap) A.length (strs A) := HOWN.out.alloc _
      have hl := ownsRow_lt HOWN.out
      refine ⟨w2.heap.size, fun x => x = w2.heap.size ∨ x = g, rfl, ⟨HZ.out, g, none, ⟨cap, none, 0, ?_, hrow, ⟨rfl, .inl ⟨rfl, rfl⟩⟩, rfl, by omega, by simp, by simp⟩, fun x hx => ?_⟩, fun x hx => ?_, HGR.out.alloc HGR.out.size _⟩
      · have := blk_new w2 (.cells #[.slice (some ⟨g, 0, none⟩) k cap, .slice none 0 0, .bool false, .bool false, .int .i64 0] 61)
        rw [this, HN.out]; rfl
      · rcases hx with hx | hx | hx
        · exact .inl hx
        · exact .inr hx
        · cases hx
      · have := HGR.out.size
        have := HGE.out
        rcases hx with hx | hx
        · simp [hx]; omega
        · simp [hx]; omega
end Go.Proofs.Ytipnmffcfloglaa.P
