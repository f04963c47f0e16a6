/- Stage 4: calls of a memory with the document's beside it; the example. No condition. -/
import Derived.Test.YtkooinjaafeomaaK5
set_option linter.unusedVariables false
namespace Go.Proofs.Ytkooinjaafeomaa.P
open Go.RowKit Go.MuLone
/-- Three words in a block. -/
theorem words3 {w : World} {B : Nat} {a0 v0 a1 v1 a2 v2 : Int} {T : TypeId} (h : w.heap[B]? = some (.cells #[.int .u64 a0, .int .u64 v0, .int .u64 a1, .int .u64 v1, .int .u64 a2, .int .u64 v2] T)) (k0 : u64 a0 ∧ u64 v0) (k1 : u64 a1 ∧ u64 v1) (k2 : u64 a2 ∧ u64 v2) :
    WActs w B 0 3 (fun i => match i with | 0 => ⟨a0, v0⟩ | 1 => ⟨a1, v1⟩ | _ => ⟨a2, v2⟩) := by
  intro i hi
  have h3 : i = 0 ∨ i = 1 ∨ i = 2 := by omega
  rcases h3 with rfl | rfl | rfl
  · exact ⟨k0, blk_cell h 0 rfl, blk_cell h 1 rfl⟩
  · exact ⟨k1, blk_cell h 2 rfl, blk_cell h 3 rfl⟩
  · exact ⟨k2, blk_cell h 4 rfl, blk_cell h 5 rfl⟩
theorem n3v : walkV 8 sShown 0 1287 2 = 0 := by decide +kernel
theorem n4v : walkV 8 sShown 0 1024 1 = 0 := by decide +kernel
theorem sShown_eq : stW (fun i => match i with | 0 => ⟨0, 1025⟩ | 1 => ⟨256, 2049⟩ | _ => ⟨552, 3091⟩) 3 = sShown := rfl
theorem pw_leaf {w0 w : World} {b rb vb : Nat} {s : List UInt8} (h : PW w0 w b rb vb s) (r a v x : Int) (ha : u64 a) (hr : i64 r) (hv : leafV 8 s r a = v) (hx : leafR 8 s r a = x) :
    Calls Try.prog 17 #[.pointer (some ⟨b, 0, none⟩), .int .i64 r, .int .u64 a] w fun e w' => e = .returned (.tuple #[.int .u64 v, .int .i64 x]) ∧ PW w0 w' b rb vb s := by
  obtain ⟨g, S, t, t', h2, h3⟩ := h
  obtain ⟨hc, hb, hr', hv', y, hy, hs, hM, hR⟩ := h2
  refine (c_leaf b y 8 s t w hM r a v x ha hr hv hx).mono ?_
  rintro e w' ⟨rfl, y', t2, hM', hK⟩
  exact ⟨rfl, PW.step g h3 (px_left hc hb hr' hv' hy hs hR hM' hK)⟩
theorem pw_walk {w0 w : World} {b rb vb : Nat} {s : List UInt8} (h : PW w0 w b rb vb s) (r a acc v x : Int) (ha : u64 a) (hr : i64 r) (hv : walkV 8 s r a acc = v) (hx : walkR 8 s r a acc = x) :
    Calls Try.prog 19 #[.pointer (some ⟨b, 0, none⟩), .int .i64 r, .int .u64 a, .int .i64 acc] w fun e w' => e = .returned (.tuple #[.int .u64 v, .int .i64 x]) ∧ PW w0 w' b rb vb s := by
  obtain ⟨g, S, t, t', h2, h3⟩ := h
  obtain ⟨hc, hb, hr', hv', y, hy, hs, hM, hR⟩ := h2
  refine (c_walk b y 8 s t w hM r a acc v x ha hr hv hx).mono ?_
  rintro e w' ⟨rfl, y', t2, hM', hK⟩
  exact ⟨rfl, PW.step g h3 (px_left hc hb hr' hv' hy hs hR hM' hK)⟩
theorem n_kleaf (r a : Int) (w : World) : Calls Try.prog 17 #[.pointer none, .int .i64 r, .int .u64 a] w fun e w' => e = .returned (.tuple #[.int .u64 0, .int .i64 1]) ∧ w' = w := by
  by_cases h : r < 0
  · go_enter Try.func17, Try.ntmps17
    go_wp2
    go_step3
    go_wp2_with (go_at_call 26; refine (n_frames _).mono ?_; rintro e w' ⟨rfl, rfl⟩)
    try rw [Exit.noGoto_ret]
    go_ret2
    exact ⟨rfl, rfl⟩
  · have h0 : decide (r < 0) = false := decide_eq_false h
    have h1 : 0 ≤ r := by omega
    go_enter Try.func17, Try.ntmps17
    go_wp2
    go_step3
    go_wp2_with (go_at_call 26; refine (n_frames _).mono ?_; rintro e w' ⟨rfl, rfl⟩)
    try rw [Exit.noGoto_ret]
    go_ret2
    exact ⟨rfl, rfl⟩
theorem n_kwalk (r a acc : Int) (w : World) : Calls Try.prog 19 #[.pointer none, .int .i64 r, .int .u64 a, .int .i64 acc] w fun e w' => e = .returned (.tuple #[.int .u64 0, .int .i64 1]) ∧ w' = w := by
  rcases needed_in acc with hn | hn
  · exact c_walk_acc _ r a acc hn w
  · have C := c_needed acc
    have d0 : (neededI acc == 0) = false := by rcases hn with h | h | h <;> rw [h] <;> rfl
    generalize neededI acc = n at *
    clear hn
    go_enter Try.func19, Try.ntmps19
    go_wp2_with (first
      | (go_at_call 31; refine (C _).mono ?_; rintro e w' ⟨rfl, rfl⟩)
      | (go_at_call 17; refine (n_kleaf _ _ _).mono ?_; rintro e w' ⟨rfl, rfl⟩))
    go_ret2
    exact ⟨rfl, rfl⟩
set_option maxRecDepth 100000 in
set_option maxHeartbeats 1600000 in
theorem c_kshown (w : World) : Calls Try.prog 9 #[] w fun e w' => e = .returned (.bool true) ∧ Gr w w' := by
  go_enter Try.func9, Try.ntmps9
  go_wp2_with fail
  have hu : (w.alloc (.cells #[.int .u64 0, .int .u64 1025, .int .u64 256, .int .u64 2049, .int .u64 552, .int .u64 3091] 53)).heap[w.heap.size]? = some (.cells #[.int .u64 0, .int .u64 1025, .int .u64 256, .int .u64 2049, .int .u64 552, .int .u64 3091] 53) := blk_new w _
  have hg : Gr w (w.alloc (.cells #[.int .u64 0, .int .u64 1025, .int .u64 256, .int .u64 2049, .int .u64 552, .int .u64 3091] 53)) := Below.alloc (Below.refl _ _) (Nat.le_refl _) _
  refine (c_memory _ _ 3 3 w.heap.size 0 (fun i => match i with | 0 => ⟨0, 1025⟩ | 1 => ⟨256, 2049⟩ | _ => ⟨552, 3091⟩) (by decide) (fun _ => ⟨rfl, blk_lt hu⟩) (words3 hu ⟨⟨by decide, by decide⟩, ⟨by decide, by decide⟩⟩ ⟨⟨by decide, by decide⟩, ⟨by decide, by decide⟩⟩ ⟨⟨by decide, by decide⟩, ⟨by decide, by decide⟩⟩)).mono ?_; rintro e w1 ⟨b, rb, vb, rfl, h⟩
  rw [sShown_eq] at h
  have H := Lib.hid (PW.up hg h)
  clear h hu hg
  go_wp2_with fail
  refine (pw_walk H.out 0 1287 1 775 0 ⟨by decide, by decide⟩ ⟨by decide, by decide⟩ n2 n1).mono ?_; rintro e w2 ⟨rfl, h⟩
  have H2 := Lib.hid h; clear h
  go_wp2_with fail
  refine (pw_walk H2.out 0 1287 2 0 3 ⟨by decide, by decide⟩ ⟨by decide, by decide⟩ n3v n3).mono ?_; rintro e w3 ⟨rfl, h⟩
  have H3 := Lib.hid h; clear h
  go_wp2_with fail
  refine (pw_walk H3.out 0 1024 1 0 3 ⟨by decide, by decide⟩ ⟨by decide, by decide⟩ n4v n4).mono ?_; rintro e w4 ⟨rfl, h⟩
  have H4 := Lib.hid h; clear h
  go_wp2_with fail
  refine (pw_leaf H4.out 0 1280 552 0 ⟨by decide, by decide⟩ ⟨by decide, by decide⟩ n6 n5).mono ?_; rintro e w5 ⟨rfl, h⟩
  have H5 := Lib.hid h; clear h
  go_wp2_with fail
  go_ret
  exact ⟨rfl, H5.out.1⟩
end Go.Proofs.Ytkooinjaafeomaa.P
