/- Stage 7: a commit made again. No condition. -/
import Derived.Test.YtgaibknhdaeidaaA19
set_option linter.unusedVariables false
set_option maxRecDepth 50000
namespace Go.Proofs.Ytgaibknhdaeidaa.P
open Go.RowKit
def redoL : Nat → List Int → DState → Int × DState
  | _, [], z => (0, z)
  | k, i :: l, z => bif decide (readR z (2 + (k : Int)) = 0) then thenE (stepD z (.wr (32 + i) (readB z (2 + (k : Int))))) (redoL (k + 1) l) else (readR z (2 + (k : Int)), z)
def redoF (hs : List Int) (z : DState) : Int × DState := bif decide (hs.length = 0) then (0, z) else thenE (redoL 0 hs z) (fun z => thenE (stepD z .fl) (exec (pointOps [])))
theorem own_r {w0 w : World} {d : Nat} {z : DState} {l mb : Nat} {st : List (Int × ByteArray)} {dead : Bool} {R : Asn} (h : Own w0 w (DL d z l mb st dead R)) (hs : Stable R) (i : Int) (hl : z.wait.length ≤ 4000000000000) :
    Calls Try.prog 30 #[.pointer (some ⟨d, 0, none⟩), .int .i64 i] w fun e w' => e = .returned (.tuple #[.string (readB z i), .int .i64 (readR z i)]) ∧ Own w0 w' (DL d z l mb st dead R) :=
  o_read h (stable_star (stable_lg _ _ _ _ _) hs) i hl
theorem redo_at {k : Nat} {i : Int} {hs : List Int} (h : hs[k]? = some i) : hs.drop k = i :: hs.drop (k + 1) := by
  obtain ⟨hk, e⟩ := List.getElem?_eq_some_iff.1 h
  rw [List.drop_eq_getElem_cons hk, e]
set_option maxHeartbeats 1600000 in
theorem o_redo {w0 w : World} {d : Nat} {z : DState} {l mb : Nat} {st : List (Int × ByteArray)} {dead : Bool} {R : Asn} (o : Option Addr) (c : Nat) (hs : List Int) (h : Own w0 w (DL d z l mb st dead (Star (rowIA o hs) R))) (hsR : Stable R) (hl : hs.length ≤ 30) (hb : ∀ i ∈ hs, 0 ≤ i ∧ i < 65536) (hw : z.wait.length ≤ 2000000000000) :
    Calls Try.prog 32 #[.pointer (some ⟨l, 0, none⟩), .slice o hs.length c] w (EO w0 (fun z => DL d z l mb st dead (Star (rowIA o hs) R)) (redoF hs z)) := by
  have hs2 : Stable (Star (rowIA o hs) R) := stable_star (stable_rowI _ _) hsR
  unfold redoF
  by_cases h0 : hs.length = 0
  · rw [decide_eq_true h0, cond_true, h0]
    have H := Lib.hid h
    clear h
    go_enter Try.func32, Try.ntmps32
    go_wp2
    go_ret
    exact ⟨rfl, H.out⟩
  · rw [decide_eq_false h0, cond_false]
    have CR : Hid (∀ z' i wr, z'.wait.length ≤ z.wait.length + 30 → Own w0 wr (DL d z' l mb st dead (Star (rowIA o hs) R)) → Calls Try.prog 30 #[.pointer (some ⟨d, 0, none⟩), .int .i64 i] wr fun e w2 => e = .returned (.tuple #[.string (readB z' i), .int .i64 (readR z' i)]) ∧ Own w0 w2 (DL d z' l mb st dead (Star (rowIA o hs) R))) :=
      Lib.hid (fun z' i wr hz ho => own_r ho hs2 i (by omega))
    have CW : Hid (∀ z' i s wr, z'.wait.length ≤ z.wait.length + 30 → Own w0 wr (DL d z' l mb st dead (Star (rowIA o hs) R)) → Calls Try.prog 52 #[.pointer (some ⟨d, 0, none⟩), .int .i64 i, .string s] wr fun e w2 => e = .returned (.int .i64 (stepD z' (.wr i s)).1) ∧ Own w0 w2 (DL d (stepD z' (.wr i s)).2 l mb st dead (Star (rowIA o hs) R))) :=
      Lib.hid (fun z' i s wr hz ho => own_w ho hs2 i s (by omega))
    have CF : Hid (∀ z' wr, z'.wait.length ≤ z.wait.length + 30 → Own w0 wr (DL d z' l mb st dead (Star (rowIA o hs) R)) → Calls Try.prog 53 #[.pointer (some ⟨d, 0, none⟩)] wr fun e w2 => e = .returned (.int .i64 (stepD z' .fl).1) ∧ Own w0 w2 (DL d (stepD z' .fl).2 l mb st dead (Star (rowIA o hs) R))) :=
      Lib.hid (fun z' wr hz ho => own_f ho hs2 (by omega))
    have CP : Hid (∀ z' wr, z'.wait.length ≤ z.wait.length + 31 → Own w0 wr (DL d z' l mb st dead (Star (rowIA o hs) R)) → Calls Try.prog 54 #[.pointer (some ⟨l, 0, none⟩), .slice none 0 0] wr (EO w0 (fun z => DL d z l mb st dead (Star (rowIA o hs) R)) (exec (pointOps []) z'))) :=
      Lib.hid (fun z' wr hz ho => o_point ho hs2 none 0 [] (rowI_nil _ _) (by simp) (fun i hi => by cases hi) (by omega))
    have HB := Lib.hid (fun k i (e : hs[k]? = some i) => hb i (List.mem_of_getElem? e))
    have HG : Hid (∀ k, k < hs.length → ∃ i, hs[k]? = some i) := Lib.hid (fun k h => ⟨_, List.getElem?_eq_getElem h⟩)
    have HD : Hid (hs.drop hs.length = []) := Lib.hid (List.drop_eq_nil_of_le (Nat.le_refl _))
    have H0 := Lib.hid h
    obtain ⟨q0, hq0⟩ : ∃ q, q = thenE (redoL 0 hs z) (fun z => thenE (stepD z .fl) (exec (pointOps []))) := ⟨_, rfl⟩
    rw [← hq0]
    have HQ := Lib.hid hq0
    clear h hb hq0
    generalize hn : hs.length = n at *
    clear hn
    have hn0 : ((n : Int) == 0) = false := by simp; omega
    go_enter Try.func32, Try.ntmps32
    go_wp2_with fail
    go_loopw [15] (fun v wr => ∃ (k : Nat) (z' : DState), k ≤ n ∧ v = .int .i64 k ∧ redoL 0 hs z = redoL k (hs.drop k) z' ∧ z'.wait.length ≤ z.wait.length + k ∧ Own w0 wr (DL d z' l mb st dead (Star (rowIA o hs) R))) (fun v _ => n - (intOf v).toNat)
    case atStart => exact ⟨0, z, Nat.zero_le _, rfl, rfl, by omega, H0.out⟩
    case round =>
      obtain ⟨k, z', hk, rfl, he, hzw, hh⟩ := hrel
      have HH := Lib.hid hh
      have c0 := hh.ldisk
      by_cases hlt : k < n
      · have dl : decide (k < n) = true := decide_eq_true hlt
        obtain ⟨i, hi⟩ := HG.out k hlt
        obtain ⟨b1, o1, rfl, ca1⟩ := hh.right.right.left.get.choose_spec.1 k i hi
        obtain ⟨i0, i1⟩ := HB.out k i hi
        rw [redo_at hi] at he
        have he2 : redoL 0 hs z = bif decide (readR z' (2 + (k : Int)) = 0) then thenE (stepD z' (.wr (32 + i) (readB z' (2 + (k : Int))))) (redoL (k + 1) (hs.drop (k + 1))) else (readR z' (2 + (k : Int)), z') := he
        have HE := Lib.hid he2
        have CR2 := Lib.hid (CR.out z' (2 + (k : Int)) wr (by omega) HH.out)
        have CW2 := Lib.hid (fun s w1 => CW.out z' (32 + i) s w1 (by omega))
        have HZW := step_wait z' (.wr (32 + i) (readB z' (2 + (k : Int))))
        clear hh he he2 hi
        generalize readB z' (2 + (k : Int)) = rb at *
        generalize readR z' (2 + (k : Int)) = rr at *
        by_cases hr : rr = 0
        · subst hr
          generalize hq : stepD z' (.wr (32 + i) rb) = q at *
          obtain ⟨q1, q2⟩ := q
          dsimp only at *
          have CW3 := Lib.hid (CW2.out rb)
          have HQ3 := Lib.hid hq
          clear hq
          by_cases hk0 : q1 = 0
          · subst hk0
            go_wp2_with (first
              | (go_at_call 30; refine CR2.out.mono ?_; rintro e w1 ⟨rfl, h1⟩; have H1 := Lib.hid h1; have c1 := h1.ldisk; clear h1)
              | (go_at_call 52; refine (CW3.out _ H1.out).mono ?_; rintro e w2 ⟨rfl, h2⟩; rw [HQ3.out] at h2; have H2 := Lib.hid h2; clear h2; rw [HQ3.out]))
            go_roundw
            case rel => exact ⟨k + 1, q2, by omega, by go_num, by rw [HE.out]; rfl, by omega, H2.out⟩
            case measure => simp [intOf]; omega
          · go_wp2_with (first
              | (go_at_call 30; refine CR2.out.mono ?_; rintro e w1 ⟨rfl, h1⟩; have H1 := Lib.hid h1; have c1 := h1.ldisk; clear h1)
              | (go_at_call 52; refine (CW3.out _ H1.out).mono ?_; rintro e w2 ⟨rfl, h2⟩; rw [HQ3.out] at h2; have H2 := Lib.hid h2; clear h2; rw [HQ3.out]))
            go_ret
            have e9 : q0 = (q1, q2) := by
              rw [HQ.out, HE.out]
              show thenE (thenE (q1, q2) _) _ = _
              rw [thenE_no (a := (q1, q2)) hk0, thenE_no (a := (q1, q2)) hk0]
            rw [e9]
            exact ⟨rfl, H2.out⟩
        · go_wp2_with (go_at_call 30; refine CR2.out.mono ?_; rintro e w1 ⟨rfl, h1⟩; have H1 := Lib.hid h1; have c1 := h1.ldisk; clear h1)
          go_ret
          have e9 : q0 = (rr, z') := by
            rw [HQ.out, HE.out, decide_eq_false hr, cond_false, thenE_no (a := (rr, z')) hr]
          rw [e9]
          exact ⟨rfl, H1.out⟩
      · obtain rfl : k = n := by omega
        rw [HD.out] at he
        have e9 : q0 = thenE (stepD z' .fl) (exec (pointOps [])) := by rw [HQ.out, he]; rfl
        have HE := Lib.hid e9
        have CF2 := Lib.hid (CF.out z' wr (by omega) HH.out)
        have HZW := step_wait z' .fl
        clear he e9 hh
        generalize hq : stepD z' .fl = q at *
        obtain ⟨q1, q2⟩ := q
        dsimp only at *
        have CP2 := Lib.hid (fun w1 => CP.out q2 w1 (by omega))
        by_cases hk0 : q1 = 0
        · subst hk0
          go_wp2_with (first
            | (go_at_call 53; refine CF2.out.mono ?_; rintro e w1 ⟨rfl, h1⟩; have H1 := Lib.hid h1; clear h1)
            | (go_at_call 54; refine (CP2.out _ H1.out).mono ?_; rintro e w2 ⟨rfl, h2⟩; have H2 := Lib.hid h2; clear h2))
          go_ret
          rw [HE.out]
          exact ⟨rfl, H2.out⟩
        · go_wp2_with (go_at_call 53; refine CF2.out.mono ?_; rintro e w1 ⟨rfl, h1⟩; have H1 := Lib.hid h1; clear h1)
          go_ret
          rw [HE.out, thenE_no (a := (q1, q2)) hk0]
          exact ⟨rfl, H1.out⟩
end Go.Proofs.Ytgaibknhdaeidaa.P
namespace Go.Proofs.Ytgaibknhdaeidaa.P
open Go.RowKit
theorem fold_size (q : Int) : ∀ (l : List (Int × ByteArray)) (s : ByteArray), (∀ x ∈ l, x.2.size = 64) → s.size = 64 → (l.foldl (stepR q) s).size = 64
  | [], s, _, h => h
  | x :: l, s, hl, h => by
    rw [List.foldl_cons]
    refine fold_size q l _ (fun y hy => hl y (List.mem_cons_of_mem _ hy)) ?_
    unfold stepR
    cases decide (x.1 = q) with
    | true => exact hl x (List.mem_cons_self ..)
    | false => exact h
theorem read_size {z : DState} (hz : SZ z) {i : Int} (h : readR z i = 0) : (readB z i).size = 64 := by
  unfold readR at h
  unfold readB
  cases ho : z.off with
  | true => rw [ho] at h; cases h
  | false =>
    rw [ho] at h
    cases hh : hasB z i with
    | false => rw [hh] at h; cases h
    | true =>
      show (readS z i.toNat).size = 64
      unfold readS
      refine fold_size _ _ _ hz.2 ?_
      unfold hasB at hh
      rw [Bool.and_eq_true, decide_eq_true_eq, decide_eq_true_eq] at hh
      rw [List.getElem?_eq_getElem (by omega)]
      exact hz.1 _ (List.getElem_mem _)
theorem parse_some {s : ByteArray} {most : Int} {hs : List Int} (h : parseH s most = some hs) : hs.length ≤ 30 ∧ ∀ i ∈ hs, -1 < i ∧ i < most := by
  unfold parseH at h
  by_cases h30 : 30 < byteN s 0
  · rw [if_pos h30] at h; cases h
  · rw [if_neg h30] at h
    by_cases hg : goodH most (-1) (rdHomes s (byteN s 0)) = true
    · rw [if_pos hg] at h
      by_cases e : s = headF (rdHomes s (byteN s 0))
      · rw [if_pos e] at h
        injection h with h
        rw [← h]
        exact ⟨by rw [rdHomes_len]; omega, fun i hi => good_mem hg i hi⟩
      · rw [if_neg e] at h; cases h
    · rw [if_neg hg] at h; cases h
theorem mk_map (w : World) : (Instr.makeMap 62 none).run Try.prog w = .ok (.map (some w.heap.size)) (w.alloc (.map #[] 0)) := run_makeMap _ _
def openQ (z : DState) : Int × DState := bif decide (readR z 1 = 0) then (match parseH (readB z 1) ((z.safe.length : Int) - 32) with | none => (6, z) | some hs => redoF hs z) else (readR z 1, z)
def OpenP (w0 : World) (d : Nat) (R : Asn) (q : Int × DState) (e : Ending) (w' : World) : Prop :=
  (q.1 = 0 → ∃ l mb, e = .returned (.tuple #[.pointer (some ⟨l, 0, none⟩), .int .i64 0]) ∧ Own w0 w' (DL d q.2 l mb [] false R)) ∧ (q.1 ≠ 0 → e = .returned (.tuple #[.pointer none, .int .i64 q.1]) ∧ Own w0 w' (Star (dsk d q.2) R))
theorem own_newlog {w0 w : World} {d : Nat} {z : DState} {R : Asn} (h : Own w0 w (Star (dsk d z) R)) (hs : Stable R) :
    Own w0 ((w.alloc (.map #[] 0)).alloc (.cells #[.pointer (some ⟨d, 0, none⟩), .map (some w.heap.size), .bool false] 64)) (DL d z (w.heap.size + 1) w.heap.size [] false R) := by
  have g1 : Gr w (w.alloc (.map #[] 0)) := (Gr.refl _).alloc (Nat.le_refl _) _
  have hsz : (w.alloc (.map #[] 0)).heap.size = w.heap.size + 1 := by simp
  have g2 : Gr w ((w.alloc (.map #[] 0)).alloc (.cells #[.pointer (some ⟨d, 0, none⟩), .map (some w.heap.size), .bool false] 64)) := g1.alloc g1.size _
  have hb := blk_new (w.alloc (.map #[] 0)) (.cells #[.pointer (some ⟨d, 0, none⟩), .map (some w.heap.size), .bool false] 64)
  rw [hsz] at hb
  have hm := (World.ownsMap_made w Try.prog 3 secElem).alloc (.cells #[.pointer (some ⟨d, 0, none⟩), .map (some w.heap.size), .bool false] 64)
  have h1 := h.add (stable_star (stable_dsk _ _) hs) g2 (A := lgA (w.heap.size + 1) d w.heap.size [] false) ⟨fun x => x = w.heap.size + 1 ∨ x = w.heap.size, ⟨.inl rfl, .inr rfl, by omega, trivial, hb, hm⟩, fun x hx => by
    have := blk_lt hb
    rcases hx with hx | hx <;> omega⟩
  exact h1.swap2
set_option maxHeartbeats 1600000 in
theorem o_open {w0 w : World} {d : Nat} {z : DState} {R : Asn} (h : Own w0 w (Star (dsk d z) R)) (hs : Stable R) (hz : SZ z) (hw : z.wait.length ≤ 2000000000000) :
    Calls Try.prog 12 #[.pointer (some ⟨d, 0, none⟩)] w (OpenP w0 d R (openQ z)) := by
  have HN := Lib.hid (own_newlog h hs)
  have hmk := mk_map w
  have hwz := own_wz h
  have hmost : (z.safe.length : Int) - 32 ≤ 512 := by have := hwz.2.1; omega
  have CR : Hid (∀ l mb wr, Own w0 wr (DL d z l mb [] false R) → Calls Try.prog 30 #[.pointer (some ⟨d, 0, none⟩), .int .i64 1] wr fun e w2 => e = .returned (.tuple #[.string (readB z 1), .int .i64 (readR z 1)]) ∧ Own w0 w2 (DL d z l mb [] false R)) :=
    Lib.hid (fun l mb wr ho => own_r ho hs 1 (by omega))
  clear h hwz
  unfold openQ
  by_cases hr : readR z 1 = 0
  · have hsz := read_size hz hr
    rw [decide_eq_true hr, cond_true]
    rw [hr] at CR
    cases hp : parseH (readB z 1) ((z.safe.length : Int) - 32) with
    | none =>
      have CF : Hid (∀ l mb wr, Own w0 wr (DL d z l mb [] false R) → Calls Try.prog 31 #[.pointer (some ⟨l, 0, none⟩), .string (readB z 1)] wr fun e w2 => (∃ o n c, e = .returned (.tuple #[.slice o n c, .bool false])) ∧ Own w0 w2 (DL d z l mb [] false R)) :=
        Lib.hid (fun l mb wr ho => (o_fromHead ho hs _ hsz).mono (by
          rintro e w2 ⟨o, n, c, rfl, g, _⟩
          rw [hp]
          exact ⟨⟨o, n, c, rfl⟩, ho.gr (stable_dl _ _ _ _ _ _ hs) g⟩))
      clear hs hz hsz hp hr
      generalize readB z 1 = s at *
      go_enter Try.func12, Try.ntmps12
      go_upto_region 4 with fail
      generalize (World.alloc (World.alloc w _) _) = w4 at *
      generalize w.heap.size = mb at *
      go_wp2_with (first
        | (go_at_call 30; refine (CR.out _ _ _ HN.out).mono ?_; rintro e w1 ⟨rfl, h1⟩; have H1 := Lib.hid h1; clear h1)
        | (go_at_call 31; refine (CF.out _ _ _ H1.out).mono ?_; rintro e w2 ⟨⟨o, n, c, rfl⟩, h2⟩; have H2 := Lib.hid h2; clear h2))
      refine bodyPost_ret (results_tmp2 rfl _ _ _) rfl ⟨fun h => absurd h (show ¬ ((6 : Int) = 0) by omega), fun _ => ⟨rfl, H2.out.drop2⟩⟩
    | some hs' =>
      obtain ⟨hl, hb⟩ := parse_some hp
      have CF : Hid (∀ l mb wr, Own w0 wr (DL d z l mb [] false R) → Calls Try.prog 31 #[.pointer (some ⟨l, 0, none⟩), .string (readB z 1)] wr fun e w2 => ∃ o c, e = .returned (.tuple #[.slice o hs'.length c, .bool true]) ∧ Own w0 w2 (DL d z l mb [] false (Star (rowIA o hs') R))) :=
        Lib.hid (fun l mb wr ho => (o_fromHead ho hs _ hsz).mono (by
          rintro e w2 ⟨o, n, c, rfl, g, hall⟩
          obtain ⟨rfl, hrow, hnew⟩ := hall hs' hp
          rw [hp]
          refine ⟨o, c, rfl, ?_⟩
          exact (ho.add (stable_dl _ _ _ _ _ _ hs) g (A := rowIA o hs') ⟨fun x => ∃ off, o = some ⟨x, off, none⟩, ⟨hrow, fun b off e => ⟨off, e⟩⟩, fun x hx => by
            obtain ⟨off, e⟩ := hx
            exact hnew x off e⟩).rot3'))
      have CD : Hid (∀ o c l mb wr, Own w0 wr (DL d z l mb [] false (Star (rowIA o hs') R)) → Calls Try.prog 32 #[.pointer (some ⟨l, 0, none⟩), .slice o hs'.length c] wr fun e w2 => e = .returned (.int .i64 (redoF hs' z).1) ∧ Own w0 w2 (DL d (redoF hs' z).2 l mb [] false R)) :=
        Lib.hid (fun o c l mb wr ho => (o_redo o c hs' ho hs hl (fun i hi => by have := hb i hi; omega) hw).mono (by
          rintro e w2 ⟨rfl, k⟩
          exact ⟨rfl, own_drop k⟩))
      clear hs hz hsz hp hr hl hb
      generalize readB z 1 = s at *
      show Calls _ _ _ _ (OpenP w0 d R (redoF hs' z))
      generalize hq : redoF hs' z = q at *
      obtain ⟨q1, q2⟩ := q
      clear hq
      generalize hs'.length = n at *
      dsimp only at CD
      by_cases k0 : q1 = 0
      · subst k0
        go_enter Try.func12, Try.ntmps12
        go_upto_region 4 with fail
        generalize (World.alloc (World.alloc w _) _) = w4 at *
        generalize w.heap.size = mb at *
        go_wp2_with (first
          | (go_at_call 30; refine (CR.out _ _ _ HN.out).mono ?_; rintro e w1 ⟨rfl, h1⟩; have H1 := Lib.hid h1; clear h1)
          | (go_at_call 31; refine (CF.out _ _ _ H1.out).mono ?_; rintro e w2 ⟨o, c, rfl, h2⟩; have H2 := Lib.hid h2; clear h2)
          | (go_at_call 32; refine (CD.out _ _ _ _ _ H2.out).mono ?_; rintro e w3 ⟨rfl, h3⟩; have H3 := Lib.hid h3; clear h3))
        refine bodyPost_ret (results_tmp2 rfl _ _ _) rfl ⟨fun _ => ⟨_, _, rfl, H3.out⟩, fun h => absurd rfl h⟩
      · go_enter Try.func12, Try.ntmps12
        go_upto_region 4 with fail
        generalize (World.alloc (World.alloc w _) _) = w4 at *
        generalize w.heap.size = mb at *
        go_wp2_with (first
          | (go_at_call 30; refine (CR.out _ _ _ HN.out).mono ?_; rintro e w1 ⟨rfl, h1⟩; have H1 := Lib.hid h1; clear h1)
          | (go_at_call 31; refine (CF.out _ _ _ H1.out).mono ?_; rintro e w2 ⟨o, c, rfl, h2⟩; have H2 := Lib.hid h2; clear h2)
          | (go_at_call 32; refine (CD.out _ _ _ _ _ H2.out).mono ?_; rintro e w3 ⟨rfl, h3⟩; have H3 := Lib.hid h3; clear h3))
        refine bodyPost_ret (results_tmp2 rfl _ _ _) rfl ⟨fun h => absurd h k0, fun _ => ⟨rfl, H3.out.drop2⟩⟩
  · rw [decide_eq_false hr, cond_false]
    clear hs hz
    generalize readR z 1 = rr at *
    generalize readB z 1 = s at *
    go_enter Try.func12, Try.ntmps12
    go_upto_region 4 with fail
    generalize (World.alloc (World.alloc w _) _) = w4 at *
    generalize w.heap.size = mb at *
    go_wp2_with (go_at_call 30; refine (CR.out _ _ _ HN.out).mono ?_; rintro e w1 ⟨rfl, h1⟩; have H1 := Lib.hid h1; clear h1)
    refine bodyPost_ret (results_tmp2 rfl _ _ _) rfl ⟨fun h => absurd h hr, fun _ => ⟨rfl, H1.out.drop2⟩⟩
end Go.Proofs.Ytgaibknhdaeidaa.P
namespace Go.Proofs.Ytgaibknhdaeidaa.P
open Go.RowKit
def sA : ByteArray := secF ⟨#[97]⟩
def sB : ByteArray := secF ⟨#[98]⟩
def z0E : DState := newZ (List.replicate 48 z64)
def stE : List (Int × ByteArray) := [(0, sA), (5, sB)]
def q1E : Int × DState := exec (commitOps stE) (powZ z0E 4)
def z3E : DState := crashZ q1E.2 1
def q4E : Int × DState := openQ z3E
theorem ex_new (n : Nat) (h : 48 ≤ n) : openQ (newZ (List.replicate n z64)) = (0, newZ (List.replicate n z64)) := by
  have hl : (newZ (List.replicate n z64)).safe.length = n := List.length_replicate
  have hr : readR (newZ (List.replicate n z64)) 1 = 0 := by
    unfold readR hasB
    rw [hl, decide_eq_true (by omega : (0 : Int) ≤ 1), decide_eq_true (by omega : (1 : Int) < n)]; rfl
  have hb : readB (newZ (List.replicate n z64)) 1 = z64 := by
    unfold readB hasB
    rw [hl, decide_eq_true (by omega : (0 : Int) ≤ 1), decide_eq_true (by omega : (1 : Int) < n)]
    show ((List.replicate n z64)[1]?).getD ⟨#[]⟩ = z64
    rw [List.getElem?_replicate, if_pos (by omega)]; rfl
  unfold openQ
  rw [hr, hb, parse_nil]; rfl
theorem ex_sets : setSt (setR false 48 [] 0 sA) [] 0 sA = [(0, sA)] ∧ setSt (setR false 48 [(0, sA)] 5 sB) [(0, sA)] 5 sB = stE := by
  have h1 : sA.size = 64 := secF_size _
  have h2 : sB.size = 64 := secF_size _
  constructor
  · have : setR false 48 [] 0 sA = 0 := by unfold setR; rw [decide_eq_true h1]; rfl
    rw [this]; rfl
  · have : setR false 48 [(0, sA)] 5 sB = 0 := by unfold setR; rw [decide_eq_true h2]; rfl
    rw [this]; rfl
theorem ex_commit : q1E.1 = 7 := by decide +kernel
theorem ex_open : q4E.1 = 0 := by decide +kernel
theorem ex_get : getB false q4E.2 [] 0 = sA ∧ getB false q4E.2 [] 5 = sB := by decide +kernel
theorem ex_size : (∀ s ∈ z3E.safe, s.size = 64) ∧ z3E.wait = [] := by
  refine ⟨by decide +kernel, rfl⟩
theorem ex_wait : q1E.2.wait.length ≤ 100 ∧ q4E.2.wait.length ≤ 100 := by decide +kernel
end Go.Proofs.Ytgaibknhdaeidaa.P
namespace Go.Proofs.Ytgaibknhdaeidaa.P
open Go.RowKit
abbrev ptr (b : Nat) : Value := .pointer (some ⟨b, 0, none⟩)
theorem o_open_ok {w0 w : World} {d : Nat} {z : DState} {R : Asn} (h : Own w0 w (Star (dsk d z) R)) (hs : Stable R) (hz : SZ z) (hw : z.wait.length ≤ 2000000000000) (q : DState) (hq : openQ z = (0, q)) :
    Calls Try.prog 12 #[ptr d] w fun e w' => ∃ l mb, e = .returned (.tuple #[ptr l, .int .i64 0]) ∧ Own w0 w' (DL d q l mb [] false R) :=
  (o_open h hs hz hw).mono fun e w' k => by
    rw [hq] at k
    exact k.1 rfl
theorem zE_len : z0E.safe.length = 48 := List.length_replicate
theorem ex_set1 {w0 w : World} {d l mb : Nat} (h : Own w0 w (DL d z0E l mb [] false emp)) : Calls Try.prog 24 #[ptr l, .int .i64 0, .string sA] w fun e w' => (∃ r, e = .returned (.int .i64 r)) ∧ Own w0 w' (DL d z0E l mb [(0, sA)] false emp) :=
  (o_set h stable_emp 0 sA (by simp)).mono (by
    rintro e w' ⟨rfl, k⟩
    rw [zE_len, ex_sets.1] at k
    exact ⟨⟨_, rfl⟩, k⟩)
theorem ex_set2 {w0 w : World} {d l mb : Nat} (h : Own w0 w (DL d z0E l mb [(0, sA)] false emp)) : Calls Try.prog 24 #[ptr l, .int .i64 5, .string sB] w fun e w' => (∃ r, e = .returned (.int .i64 r)) ∧ Own w0 w' (DL d z0E l mb stE false emp) :=
  (o_set h stable_emp 5 sB (by simp)).mono (by
    rintro e w' ⟨rfl, k⟩
    rw [zE_len, ex_sets.2] at k
    exact ⟨⟨_, rfl⟩, k⟩)
theorem ex_power {w0 w : World} {d l mb : Nat} (h : Own w0 w (DL d z0E l mb stE false emp)) : Calls Try.prog 16 #[ptr d, .int .i64 4] w fun e w' => e = .returned (.tuple #[]) ∧ Own w0 w' (DL d (powZ z0E 4) l mb stE false emp) :=
  o_power h (stable_star (stable_lg _ _ _ _ _) stable_emp) 4 (by omega)
theorem ex_comm {w0 w : World} {d l mb : Nat} (h : Own w0 w (DL d (powZ z0E 4) l mb stE false emp)) : Calls Try.prog 14 #[ptr l] w fun e w' => e = .returned (.int .i64 7) ∧ Own w0 w' (DL d q1E.2 l mb [] true emp) :=
  (o_commit h stable_emp (by decide) (by decide) (fun x hx => by
    rcases List.mem_cons.1 hx with e | e
    · rw [e]; decide
    · rcases List.mem_cons.1 e with e | e
      · rw [e]; decide
      · cases e) (by show 0 ≤ _; omega)).mono (by
    rintro e w' ⟨rfl, k⟩
    have k2 : Own w0 w' (DL d q1E.2 l mb [] (!decide (q1E.1 = 0)) emp) := k
    rw [ex_commit] at k2
    exact ⟨congrArg (fun x => Ending.returned (.int .i64 x)) ex_commit, k2⟩)
theorem ex_crash {w0 w : World} {d l mb : Nat} (h : Own w0 w (DL d q1E.2 l mb [] true emp)) : Calls Try.prog 17 #[ptr d, .int .u64 1] w fun e w' => e = .returned (.tuple #[]) ∧ Own w0 w' (DL d z3E l mb [] true emp) :=
  o_crash h (stable_star (stable_lg _ _ _ _ _) stable_emp) 1 ⟨by omega, by omega⟩ (by have := ex_wait.1; omega)
abbrev RE (l d mb : Nat) : Asn := Star (lgA l d mb [] true) emp
theorem stable_RE (l d mb : Nat) : Stable (RE l d mb) := stable_star (stable_lg _ _ _ _ _) stable_emp
theorem ex_open2 {w0 w : World} {d l mb : Nat} (h : Own w0 w (DL d z3E l mb [] true emp)) : Calls Try.prog 12 #[ptr d] w fun e w' => ∃ m mc, e = .returned (.tuple #[ptr m, .int .i64 0]) ∧ Own w0 w' (DL d q4E.2 m mc [] false (RE l d mb)) :=
  o_open_ok h (stable_RE l d mb) ⟨ex_size.1, fun x hx => by rw [ex_size.2] at hx; cases hx⟩ (by rw [ex_size.2]; simp) q4E.2 (by
    show q4E = _
    rw [← ex_open])
theorem ex_get0 {w0 w : World} {d l mb m mc : Nat} (h : Own w0 w (DL d q4E.2 m mc [] false (RE l d mb))) : Calls Try.prog 20 #[ptr m, .int .i64 0] w fun e w' => (∃ r, e = .returned (.tuple #[.string (secF ⟨#[97]⟩), .int .i64 r])) ∧ Own w0 w' (DL d q4E.2 m mc [] false (RE l d mb)) :=
  (o_get h (stable_RE l d mb) 0 (by have := ex_wait.2; omega)).mono (by
    rintro e w' ⟨rfl, k⟩
    rw [ex_get.1]
    exact ⟨⟨_, rfl⟩, k⟩)
theorem ex_get5 {w0 w : World} {d l mb m mc : Nat} (h : Own w0 w (DL d q4E.2 m mc [] false (RE l d mb))) : Calls Try.prog 20 #[ptr m, .int .i64 5] w fun e w' => (∃ r, e = .returned (.tuple #[.string (secF ⟨#[98]⟩), .int .i64 r])) ∧ Own w0 w' (DL d q4E.2 m mc [] false (RE l d mb)) :=
  (o_get h (stable_RE l d mb) 5 (by have := ex_wait.2; omega)).mono (by
    rintro e w' ⟨rfl, k⟩
    rw [ex_get.2]
    exact ⟨⟨_, rfl⟩, k⟩)
theorem ex_sec (b : UInt8) (w : World) : Calls Try.prog 26 #[.string ⟨#[b]⟩] w fun e w' => e = .returned (.string (secF ⟨#[b]⟩)) ∧ Gr w w' := c_sector _ (by show 1 ≤ _; omega) w
theorem ex_szE : SZ z0E := sz_new 48
set_option maxHeartbeats 3200000 in
theorem c_shown7 (w : World) : Calls Try.prog 10 #[] w fun e w' => e = .returned (.bool true) ∧ Gr w w' := by
  have CN := Lib.hid (o_new (Own.start (Gr.refl w)) stable_emp 48 (by omega) (by omega))
  go_enter Try.func10, Try.ntmps10
  go_upto_region 4 with (go_at_call 11; refine CN.out.mono ?_; rintro e w1 ⟨d, rfl, h1⟩; have H1 := Lib.hid h1; clear h1)
  go_upto_region 7 with (go_at_call 12; refine (o_open_ok H1.out stable_emp ex_szE (by show 0 ≤ _; omega) z0E (ex_new 48 (by omega))).mono ?_; rintro e w2 ⟨l, mb, rfl, h2⟩; have H2 := Lib.hid h2; clear h2)
  go_upto_region 8 with (first
    | (go_at_call 26; refine (ex_sec 97 _).mono ?_; rintro e w3 ⟨rfl, g3⟩; have H3 := Lib.hid (H2.out.gr (stable_dl _ _ _ _ _ _ stable_emp) g3); clear g3)
    | (go_at_call 24; refine (ex_set1 H3.out).mono ?_; rintro e w4 ⟨⟨r4, rfl⟩, h4⟩; have H4 := Lib.hid h4; clear h4))
  go_upto_region 9 with (first
    | (go_at_call 26; refine (ex_sec 98 _).mono ?_; rintro e w5 ⟨rfl, g5⟩; have H5 := Lib.hid (H4.out.gr (stable_dl _ _ _ _ _ _ stable_emp) g5); clear g5)
    | (go_at_call 24; refine (ex_set2 H5.out).mono ?_; rintro e w6 ⟨⟨r6, rfl⟩, h6⟩; have H6 := Lib.hid h6; clear h6))
  go_upto_region 10 with (go_at_call 23; refine (o_staged H6.out).mono ?_; rintro e w7 ⟨rfl, rfl⟩)
  go_upto_region 11 with (go_at_call 16; refine (ex_power H6.out).mono ?_; rintro e w8 ⟨rfl, h8⟩; have H8 := Lib.hid h8; clear h8)
  go_upto_region 12 with (go_at_call 14; refine (ex_comm H8.out).mono ?_; rintro e w9 ⟨rfl, h9⟩; have H9 := Lib.hid h9; clear h9)
  go_upto_region 13 with (go_at_call 17; refine (ex_crash H9.out).mono ?_; rintro e w10 ⟨rfl, h10⟩; have H10 := Lib.hid h10; clear h10)
  go_upto_region 16 with (go_at_call 12; refine (ex_open2 H10.out).mono ?_; rintro e w11 ⟨m, mc, rfl, h11⟩; have H11 := Lib.hid h11; clear h11)
  go_upto_region 17 with (go_at_call 20; refine (ex_get0 H11.out).mono ?_; rintro e w12 ⟨⟨r12, rfl⟩, h12⟩; have H12 := Lib.hid h12; clear h12)
  go_upto_region 18 with (go_at_call 20; refine (ex_get5 H12.out).mono ?_; rintro e w13 ⟨⟨r13, rfl⟩, h13⟩; have H13 := Lib.hid h13.sub; clear h13)
  go_wp2_with (first
    | (go_at_call 26; first | (refine (ex_sec 97 _).mono ?_; rintro e w14 ⟨rfl, g14⟩; have H14 := Lib.hid (gtrans H13.out g14); clear g14) | (refine (ex_sec 98 _).mono ?_; rintro e w15 ⟨rfl, g15⟩; have H15 := Lib.hid (gtrans H14.out g15); clear g15)))
  go_ret
  exact ⟨rfl, H15.out⟩
end Go.Proofs.Ytgaibknhdaeidaa.P
