/- Stage 7: Open. No condition. -/
import Derived.Test.YtgaibknhdaeidaaA20
set_option linter.unusedVariables false
set_option maxRecDepth 50000
namespace Go.Proofs.Ytgaibknhdaeidaa.P
open Go.RowKit
theorem fold_size (q : Int) : ∀ (l : List (Int × ByteArray)) (s : ByteArray), (∀ x ∈ l, x.2.size = 64) → s.size = 64 → (l.foldl (stepR q) s).size = 64
  | [], s, _, h => h
  | x :: l, s, hl, h => by
    rw [List.foldl_cons]
    refine fold_size q l _ (fun y hy => hl y (List.mem_cons_of_mem _ hy)) ?_
    unfold stepR
    cases decide (x.1 = q) with
    | true => exact hl x (List.mem_cons_self ..)
    | false => exact h
theorem read_size {z : DState} (hz : SZ z) {i : Int} (h : readR z i = 0) : (readB z i).size = 64 := by
  unfold readR at h
  unfold readB
  cases ho : z.off with
  | true => rw [ho] at h; cases h
  | false =>
    rw [ho] at h
    cases hh : hasB z i with
    | false => rw [hh] at h; cases h
    | true =>
      show (readS z i.toNat).size = 64
      unfold readS
      refine fold_size _ _ _ hz.2 ?_
      unfold hasB at hh
      rw [Bool.and_eq_true, decide_eq_true_eq, decide_eq_true_eq] at hh
      rw [List.getElem?_eq_getElem (by omega)]
      exact hz.1 _ (List.getElem_mem _)
theorem parse_some {s : ByteArray} {most : Int} {hs : List Int} (h : parseH s most = some hs) : hs.length ≤ 30 ∧ ∀ i ∈ hs, -1 < i ∧ i < most := by
  unfold parseH at h
  by_cases h30 : 30 < byteN s 0
  · rw [if_pos h30] at h; cases h
  · rw [if_neg h30] at h
    by_cases hg : goodH most (-1) (rdHomes s (byteN s 0)) = true
    · rw [if_pos hg] at h
      by_cases e : s = headF (rdHomes s (byteN s 0))
      · rw [if_pos e] at h
        injection h with h
        rw [← h]
        exact ⟨by rw [rdHomes_len]; omega, fun i hi => good_mem hg i hi⟩
      · rw [if_neg e] at h; cases h
    · rw [if_neg hg] at h; cases h
theorem mk_map (w : World) : (Instr.makeMap 62 none).run Try.prog w = .ok (.map (some w.heap.size)) (w.alloc (.map #[] 0)) := run_makeMap _ _
def openQ (z : DState) : Int × DState := bif decide (readR z 1 = 0) then (match parseH (readB z 1) ((z.safe.length : Int) - 32) with | none => (6, z) | some hs => redoF hs z) else (readR z 1, z)
def OpenP (w0 : World) (d : Nat) (R : Asn) (q : Int × DState) (e : Ending) (w' : World) : Prop :=
  (q.1 = 0 → ∃ l mb, e = .returned (.tuple #[.pointer (some ⟨l, 0, none⟩), .int .i64 0]) ∧ Own w0 w' (DL d q.2 l mb [] false R)) ∧ (q.1 ≠ 0 → e = .returned (.tuple #[.pointer none, .int .i64 q.1]) ∧ Own w0 w' (Star (dsk d q.2) R))
theorem own_newlog {w0 w : World} {d : Nat} {z : DState} {R : Asn} (h : Own w0 w (Star (dsk d z) R)) (hs : Stable R) :
    Own w0 ((w.alloc (.map #[] 0)).alloc (.cells #[.pointer (some ⟨d, 0, none⟩), .map (some w.heap.size), .bool false] 64)) (DL d z (w.heap.size + 1) w.heap.size [] false R) := by
  have g1 : Gr w (w.alloc (.map #[] 0)) := (Gr.refl _).alloc (Nat.le_refl _) _
  have hsz : (w.alloc (.map #[] 0)).heap.size = w.heap.size + 1 := by simp
  have g2 : Gr w ((w.alloc (.map #[] 0)).alloc (.cells #[.pointer (some ⟨d, 0, none⟩), .map (some w.heap.size), .bool false] 64)) := g1.alloc g1.size _
  have hb := blk_new (w.alloc (.map #[] 0)) (.cells #[.pointer (some ⟨d, 0, none⟩), .map (some w.heap.size), .bool false] 64)
  rw [hsz] at hb
  have hm := (World.ownsMap_made w Try.prog 3 secElem).alloc (.cells #[.pointer (some ⟨d, 0, none⟩), .map (some w.heap.size), .bool false] 64)
  have h1 := h.add (stable_star (stable_dsk _ _) hs) g2 (A := lgA (w.heap.size + 1) d w.heap.size [] false) ⟨fun x => x = w.heap.size + 1 ∨ x = w.heap.size, ⟨.inl rfl, .inr rfl, by omega, trivial, hb, hm⟩, fun x hx => by
    have := blk_lt hb
    rcases hx with hx | hx <;> omega⟩
  exact h1.swap2
set_option maxHeartbeats 1600000 in
theorem o_open {w0 w : World} {d : Nat} {z : DState} {R : Asn} (h : Own w0 w (Star (dsk d z) R)) (hs : Stable R) (hz : SZ z) (hw : z.wait.length ≤ 2000000000000) :
    Calls Try.prog 12 #[.pointer (some ⟨d, 0, none⟩)] w (OpenP w0 d R (openQ z)) := by
  have HN := Lib.hid (own_newlog h hs)
  have hmk := mk_map w
  have hwz := own_wz h
  have hmost : (z.safe.length : Int) - 32 ≤ 512 := by have := hwz.2.1; omega
  have CR : Hid (∀ l mb wr, Own w0 wr (DL d z l mb [] false R) → Calls Try.prog 30 #[.pointer (some ⟨d, 0, none⟩), .int .i64 1] wr fun e w2 => e = .returned (.tuple #[.string (readB z 1), .int .i64 (readR z 1)]) ∧ Own w0 w2 (DL d z l mb [] false R)) :=
    Lib.hid (fun l mb wr ho => own_r ho hs 1 (by omega))
  clear h hwz
  unfold openQ
  by_cases hr : readR z 1 = 0
  · have hsz := read_size hz hr
    rw [decide_eq_true hr, cond_true]
    rw [hr] at CR
    cases hp : parseH (readB z 1) ((z.safe.length : Int) - 32) with
    | none =>
      have CF : Hid (∀ l mb wr, Own w0 wr (DL d z l mb [] false R) → Calls Try.prog 31 #[.pointer (some ⟨l, 0, none⟩), .string (readB z 1)] wr fun e w2 => (∃ o n c, e = .returned (.tuple #[.slice o n c, .bool false])) ∧ Own w0 w2 (DL d z l mb [] false R)) :=
        Lib.hid (fun l mb wr ho => (o_fromHead ho hs _ hsz).mono (by
          rintro e w2 ⟨o, n, c, rfl, g, _⟩
          rw [hp]
          exact ⟨⟨o, n, c, rfl⟩, ho.gr (stable_dl _ _ _ _ _ _ hs) g⟩))
      clear hs hz hsz hp hr
      generalize readB z 1 = s at *
      go_enter Try.func12, Try.ntmps12
      go_upto_region 4 with fail
      generalize (World.alloc (World.alloc w _) _) = w4 at *
      generalize w.heap.size = mb at *
      go_wp2_with (first
        | (go_at_call 30; refine (CR.out _ _ _ HN.out).mono ?_; rintro e w1 ⟨rfl, h1⟩; have H1 := Lib.hid h1; clear h1)
        | (go_at_call 31; refine (CF.out _ _ _ H1.out).mono ?_; rintro e w2 ⟨⟨o, n, c, rfl⟩, h2⟩; have H2 := Lib.hid h2; clear h2))
      refine bodyPost_ret (results_tmp2 rfl _ _ _) rfl ⟨fun h => absurd h (show ¬ ((6 : Int) = 0) by omega), fun _ => ⟨rfl, H2.out.drop2⟩⟩
    | some hs' =>
      obtain ⟨hl, hb⟩ := parse_some hp
      have CF : Hid (∀ l mb wr, Own w0 wr (DL d z l mb [] false R) → Calls Try.prog 31 #[.pointer (some ⟨l, 0, none⟩), .string (readB z 1)] wr fun e w2 => ∃ o c, e = .returned (.tuple #[.slice o hs'.length c, .bool true]) ∧ Own w0 w2 (DL d z l mb [] false (Star (rowIA o hs') R))) :=
        Lib.hid (fun l mb wr ho => (o_fromHead ho hs _ hsz).mono (by
          rintro e w2 ⟨o, n, c, rfl, g, hall⟩
          obtain ⟨rfl, hrow, hnew⟩ := hall hs' hp
          rw [hp]
          refine ⟨o, c, rfl, ?_⟩
          exact (ho.add (stable_dl _ _ _ _ _ _ hs) g (A := rowIA o hs') ⟨fun x => ∃ off, o = some ⟨x, off, none⟩, ⟨hrow, fun b off e => ⟨off, e⟩⟩, fun x hx => by
            obtain ⟨off, e⟩ := hx
            exact hnew x off e⟩).rot3'))
      have CD : Hid (∀ o c l mb wr, Own w0 wr (DL d z l mb [] false (Star (rowIA o hs') R)) → Calls Try.prog 32 #[.pointer (some ⟨l, 0, none⟩), .slice o hs'.length c] wr fun e w2 => e = .returned (.int .i64 (redoF hs' z).1) ∧ Own w0 w2 (DL d (redoF hs' z).2 l mb [] false R)) :=
        Lib.hid (fun o c l mb wr ho => (o_redo o c hs' ho hs hl (fun i hi => by have := hb i hi; omega) hw).mono (by
          rintro e w2 ⟨rfl, k⟩
          exact ⟨rfl, own_drop k⟩))
      clear hs hz hsz hp hr hl hb
      generalize readB z 1 = s at *
      show Calls _ _ _ _ (OpenP w0 d R (redoF hs' z))
      generalize hq : redoF hs' z = q at *
      obtain ⟨q1, q2⟩ := q
      clear hq
      generalize hs'.length = n at *
      dsimp only at CD
      by_cases k0 : q1 = 0
      · subst k0
        go_enter Try.func12, Try.ntmps12
        go_upto_region 4 with fail
        generalize (World.alloc (World.alloc w _) _) = w4 at *
        generalize w.heap.size = mb at *
        go_wp2_with (first
          | (go_at_call 30; refine (CR.out _ _ _ HN.out).mono ?_; rintro e w1 ⟨rfl, h1⟩; have H1 := Lib.hid h1; clear h1)
          | (go_at_call 31; refine (CF.out _ _ _ H1.out).mono ?_; rintro e w2 ⟨o, c, rfl, h2⟩; have H2 := Lib.hid h2; clear h2)
          | (go_at_call 32; refine (CD.out _ _ _ _ _ H2.out).mono ?_; rintro e w3 ⟨rfl, h3⟩; have H3 := Lib.hid h3; clear h3))
        refine bodyPost_ret (results_tmp2 rfl _ _ _) rfl ⟨fun _ => ⟨_, _, rfl, H3.out⟩, fun h => absurd rfl h⟩
      · go_enter Try.func12, Try.ntmps12
        go_upto_region 4 with fail
        generalize (World.alloc (World.alloc w _) _) = w4 at *
        generalize w.heap.size = mb at *
        go_wp2_with (first
          | (go_at_call 30; refine (CR.out _ _ _ HN.out).mono ?_; rintro e w1 ⟨rfl, h1⟩; have H1 := Lib.hid h1; clear h1)
          | (go_at_call 31; refine (CF.out _ _ _ H1.out).mono ?_; rintro e w2 ⟨o, c, rfl, h2⟩; have H2 := Lib.hid h2; clear h2)
          | (go_at_call 32; refine (CD.out _ _ _ _ _ H2.out).mono ?_; rintro e w3 ⟨rfl, h3⟩; have H3 := Lib.hid h3; clear h3))
        refine bodyPost_ret (results_tmp2 rfl _ _ _) rfl ⟨fun h => absurd h k0, fun _ => ⟨rfl, H3.out.drop2⟩⟩
  · rw [decide_eq_false hr, cond_false]
    clear hs hz
    generalize readR z 1 = rr at *
    generalize readB z 1 = s at *
    go_enter Try.func12, Try.ntmps12
    go_upto_region 4 with fail
    generalize (World.alloc (World.alloc w _) _) = w4 at *
    generalize w.heap.size = mb at *
    go_wp2_with (go_at_call 30; refine (CR.out _ _ _ HN.out).mono ?_; rintro e w1 ⟨rfl, h1⟩; have H1 := Lib.hid h1; clear h1)
    refine bodyPost_ret (results_tmp2 rfl _ _ _) rfl ⟨fun h => absurd h hr, fun _ => ⟨rfl, H1.out.drop2⟩⟩
end Go.Proofs.Ytgaibknhdaeidaa.P
