/- Stage 2: the numbers of whatever text, as plain functions. No condition. -/
import Derived.Test.YthcfobefpknjeaaDoorNH
import Derived.Shelf.Vars
import Derived.Shelf.GgClosure.StringsIndexFunc
set_option linter.unusedVariables false
set_option linter.unusedSimpArgs false
set_option maxRecDepth 100000
namespace Go.Proofs.YthcfobefpknjeaaDoor.P
open Go.RowKit
def EV1 (w : World) (g : Nat) : Prop := ∃ m, w.cell? ⟨g, 0, none⟩ = some m ∧ (m = .nilIface ∨ ∃ te pe, m = .iface te pe)
def EV (w : World) : Prop := EV1 w 5 ∧ EV1 w 6
theorem EV1.gr {w w' : World} {n : Nat} (h : EV1 w n) (g : Gr w w') : EV1 w' n := by
  obtain ⟨m, hm, hk⟩ := h
  exact ⟨m, kcell g hm, hk⟩
theorem EV.gr {w w' : World} (h : EV w) (g : Gr w w') : EV w' := ⟨h.1.gr g, h.2.gr g⟩
theorem gSyn : Tryd.prog.globalNamed "strconv.ErrSyntax" = some 5 := by kernel_rfl
theorem gRan : Tryd.prog.globalNamed "strconv.ErrRange" = some 6 := by kernel_rfl
theorem ev_var {w : World} {n : String} {g : Nat} {tp : TypeId} {p : Value} (hg : Tryd.prog.globalNamed n = some g) (h : w.var? Tryd.prog n = some #[.iface tp p]) : EV1 w g :=
  ⟨_, World.var?_cell hg h 0, .inr ⟨tp, p, rfl⟩⟩
theorem c_pbad (u : ByteArray) (hl : u.size ≤ 100) (h : ∀ v, Lib.parseIntB 64 u.data.toList ≠ .ok v) (w : World) (hE : EV w) : Calls Tryd.prog 69 #[.string u, .int .i64 10, .int .i64 64] w fun e w' => ∃ v p, e = .returned (.tuple #[.int .i64 v, .iface 123 (.pointer (some p))]) ∧ Gr w w' := by
  obtain ⟨⟨m, hm, hk⟩, ⟨m2, hm2, hk2⟩⟩ := hE
  cases hp : Lib.parseIntB 64 u.data.toList with
  | ok v => exact absurd hp (h v)
  | «syntax» =>
    refine (sh_strconv_ParseInt_10_at64_bad u (by omega) (hp.trans rfl) m w hm hk).mono ?_
    rintro e w' ⟨N, rfl, _, _, b⟩
    exact ⟨_, _, rfl, b⟩
  | range =>
    refine (sh_strconv_ParseInt_10_at64_range u (by omega) hp m2 w hm2 hk2).mono ?_
    rintro e w' ⟨N, rfl, _, _, b⟩
    exact ⟨_, _, rfl, b⟩
def fromN (s : ByteArray) : Nat := (Lib.idxFunc insN true s).toNat
def restN (s : ByteArray) : ByteArray := s.extract (fromN s) s.size
def toN (t : ByteArray) : Nat := if Lib.idxFunc outN true t = -1 then t.size else (Lib.idxFunc outN true t).toNat
def numN (s : ByteArray) : ByteArray := (restN s).extract 0 (toN (restN s))
def nextN (s : ByteArray) : ByteArray := (restN s).extract (toN (restN s)) (restN s).size
/-- The first number of a text, and what is behind it. -/
def stepN (s : ByteArray) : Option (Int × ByteArray) :=
  if Lib.idxFunc insN true s = -1 then none else
  match Lib.parseIntB 64 (numN s).data.toList with
  | .ok v => some (v, nextN s)
  | _ => none
def numsF (s : ByteArray) : Int × Int × Int :=
  match stepN s with
  | none => (0, 0, 0)
  | some (v0, s1) => match stepN s1 with
    | none => (v0, 0, 0)
    | some (v1, s2) => match stepN s2 with
      | none => (v0, v1, 0)
      | some (v2, _) => (v0, v1, v2)
theorem toN_le (t : ByteArray) : toN t ≤ t.size := by
  unfold toN
  rcases Lib.idxFunc_range outN true t with h | ⟨h1, h2⟩
  · rw [if_pos h]; exact Nat.le_refl _
  · rw [if_neg (by omega)]; omega
theorem from_le (s : ByteArray) (h : ¬ Lib.idxFunc insN true s = -1) : Lib.idxFunc insN true s = (fromN s : Int) ∧ fromN s ≤ s.size := by
  unfold fromN
  rcases Lib.idxFunc_range insN true s with h' | ⟨h1, h2⟩
  · exact absurd h' h
  · omega
theorem rest_size (s : ByteArray) : (restN s).size ≤ s.size := by unfold restN; rw [ByteArray.size_extract]; omega
theorem num_size (s : ByteArray) : (numN s).size ≤ s.size := by have := rest_size s; unfold numN; rw [ByteArray.size_extract]; omega
theorem next_size (s : ByteArray) : (nextN s).size ≤ s.size := by have := rest_size s; unfold nextN; rw [ByteArray.size_extract]; omega
theorem to_is (t : ByteArray) : Lib.idxFunc outN true t = (toN t : Int) ∨ (Lib.idxFunc outN true t = -1 ∧ toN t = t.size) := by
  unfold toN
  rcases Lib.idxFunc_range outN true t with h | ⟨h1, h2⟩
  · exact .inr ⟨h, by rw [if_pos h]⟩
  · exact .inl (by rw [if_neg (by omega)]; omega)
theorem step_some {s s' : ByteArray} {v : Int} (hl : s.size ≤ 100) (h : stepN s = some (v, s')) : NumS s (restN s) (numN s) s' (fromN s) (toN (restN s)) (Lib.idxFunc outN true (restN s)) v ∧ s'.size ≤ 100 := by
  unfold stepN at h
  by_cases hi : Lib.idxFunc insN true s = -1
  · rw [if_pos hi] at h; cases h
  · rw [if_neg hi] at h
    obtain ⟨a, b⟩ := from_le s hi
    have r := rest_size s
    have n := num_size s
    have x := next_size s
    cases hp : Lib.parseIntB 64 (numN s).data.toList with
    | ok u =>
      rw [hp] at h
      injection h with h
      injection h with h1 h2
      subst h1 h2
      exact ⟨⟨a, b, rfl, rfl, toN_le _, to_is _, rfl, hp, rfl, hl, by omega, by omega⟩, by omega⟩
    | «syntax» => rw [hp] at h; cases h
    | range => rw [hp] at h; cases h
theorem step_none {s : ByteArray} (hl : s.size ≤ 100) (h : stepN s = none) : Lib.idxFunc insN true s = -1 ∨ (BadN s (restN s) (numN s) (fromN s) (toN (restN s)) (Lib.idxFunc outN true (restN s)) ∧ (numN s).size ≤ 100 ∧ ∀ v, Lib.parseIntB 64 (numN s).data.toList ≠ .ok v) := by
  unfold stepN at h
  by_cases hi : Lib.idxFunc insN true s = -1
  · exact .inl hi
  · rw [if_neg hi] at h
    obtain ⟨a, b⟩ := from_le s hi
    have r := rest_size s
    have n := num_size s
    refine .inr ⟨⟨a, b, rfl, rfl, toN_le _, to_is _, rfl, hl, by omega, by omega⟩, by omega, fun v hp => ?_⟩
    rw [hp] at h
    cases h
def seq3 {α : Type} (a b c d : α) (k : Nat) : α := if k = 0 then a else if k = 1 then b else if k = 2 then c else d
theorem s3_0 {α : Type} (a b c d : α) : seq3 a b c d 0 = a := rfl
theorem s3_1 {α : Type} (a b c d : α) : seq3 a b c d 1 = b := rfl
theorem s3_2 {α : Type} (a b c d : α) : seq3 a b c d 2 = c := rfl
theorem s3_3 {α : Type} (a b c d : α) : seq3 a b c d 3 = d := rfl
theorem c_numX (S T U : Nat → ByteArray) (a b : Nat → Nat) (r V : Nat → Int) (m : Nat) (hm : m ≤ 3) (HS : ∀ k, k < m → NumS (S k) (T k) (U k) (S (k + 1)) (a k) (b k) (r k) (V k)) (w : World)
    (hend : m = 3 ∨ Lib.idxFunc insN true (S m) = -1 ∨ (m < 3 ∧ ∃ t u a b r, BadN (S m) t u a b r ∧ ∀ w1, Gr w w1 → Calls Tryd.prog 69 #[.string u, .int .i64 10, .int .i64 64] w1 fun e w' => ∃ v p, e = .returned (.tuple #[.int .i64 v, .iface 123 (.pointer (some p))]) ∧ Gr w1 w'))
    (s : ByteArray) (hs : S 0 = s) (v0 v1 v2 : Int) (h0 : (if 0 < m then V 0 else 0) = v0) (h1 : (if 1 < m then V 1 else 0) = v1) (h2 : (if 2 < m then V 2 else 0) = v2) (hN : numsF s = (v0, v1, v2)) :
    Calls Tryd.prog 54 #[.string s] w fun e w' => e = .returned (.agg #[.int .i64 (numsF s).1, .int .i64 (numsF s).2.1, .int .i64 (numsF s).2.2]) ∧ Gr w w' := by
  have := c_numbersE S T U a b r V m hm HS w hend
  unfold rowC at this
  rw [hs, h0, h1, h2] at this
  rw [hN]
  exact this
theorem c_nums (s : ByteArray) (hl : s.size ≤ 100) (w : World) (hE : EV w) : Calls Tryd.prog 54 #[.string s] w fun e w' => e = .returned (.agg #[.int .i64 (numsF s).1, .int .i64 (numsF s).2.1, .int .i64 (numsF s).2.2]) ∧ Gr w w' := by
  have bad : ∀ (x : ByteArray) (m : Nat), m < 3 → x.size ≤ 100 → stepN x = none → ∀ S : Nat → ByteArray, S m = x → (m = 3 ∨ Lib.idxFunc insN true (S m) = -1 ∨ (m < 3 ∧ ∃ t u a b r, BadN (S m) t u a b r ∧ ∀ w1, Gr w w1 → Calls Tryd.prog 69 #[.string u, .int .i64 10, .int .i64 64] w1 fun e w' => ∃ v p, e = .returned (.tuple #[.int .i64 v, .iface 123 (.pointer (some p))]) ∧ Gr w1 w')) := by
    intro x m hm hx hn S hS
    rw [hS]
    rcases step_none hx hn with h | ⟨h, hu, hv⟩
    · exact .inr (.inl h)
    · exact .inr (.inr ⟨hm, _, _, _, _, _, h, fun w1 g => c_pbad _ hu hv w1 (hE.gr g)⟩)
  cases h0 : stepN s with
  | none => exact c_numX (fun _ => s) (fun _ => s) (fun _ => s) (fun _ => 0) (fun _ => 0) (fun _ => 0) (fun _ => 0) 0 (by decide) (fun k hk => absurd hk (Nat.not_lt_zero _)) w (bad s 0 (by decide) hl h0 (fun _ => s) rfl) s rfl 0 0 0 rfl rfl rfl (by unfold numsF; rw [h0])
  | some p0 =>
    obtain ⟨v0, s1⟩ := p0
    obtain ⟨n0, l1⟩ := step_some hl h0
    cases h1 : stepN s1 with
    | none =>
      exact c_numX (seq3 s s1 s1 s1) (fun _ => restN s) (fun _ => numN s) (fun _ => fromN s) (fun _ => toN (restN s)) (fun _ => Lib.idxFunc outN true (restN s)) (fun _ => v0) 1 (by decide) (fun k hk => by obtain rfl : k = 0 := (by omega); exact n0) w (bad s1 1 (by decide) l1 h1 (seq3 s s1 s1 s1) rfl) s rfl v0 0 0 rfl rfl rfl (by unfold numsF; rw [h0]; simp only [h1])
    | some p1 =>
      obtain ⟨v1, s2⟩ := p1
      obtain ⟨n1, l2⟩ := step_some l1 h1
      have two : ∀ (x : ByteArray) k, k < 2 → NumS (seq3 s s1 s2 x k) (seq3 (restN s) (restN s1) (restN s1) (restN s1) k) (seq3 (numN s) (numN s1) (numN s1) (numN s1) k) (seq3 s s1 s2 x (k + 1)) (seq3 (fromN s) (fromN s1) (fromN s1) (fromN s1) k) (seq3 (toN (restN s)) (toN (restN s1)) (toN (restN s1)) (toN (restN s1)) k) (seq3 (Lib.idxFunc outN true (restN s)) (Lib.idxFunc outN true (restN s1)) (Lib.idxFunc outN true (restN s1)) (Lib.idxFunc outN true (restN s1)) k) (seq3 v0 v1 v1 v1 k) := by
        intro x k hk
        have : k = 0 ∨ k = 1 := by omega
        rcases this with rfl | rfl
        · simp only [s3_0, s3_1, s3_2, s3_3, Nat.zero_add, Nat.reduceAdd]; exact n0
        · simp only [s3_0, s3_1, s3_2, s3_3, Nat.zero_add, Nat.reduceAdd]; exact n1
      cases h2 : stepN s2 with
      | none => exact c_numX (seq3 s s1 s2 s2) (seq3 (restN s) (restN s1) (restN s1) (restN s1)) (seq3 (numN s) (numN s1) (numN s1) (numN s1)) (seq3 (fromN s) (fromN s1) (fromN s1) (fromN s1)) (seq3 (toN (restN s)) (toN (restN s1)) (toN (restN s1)) (toN (restN s1))) (seq3 (Lib.idxFunc outN true (restN s)) (Lib.idxFunc outN true (restN s1)) (Lib.idxFunc outN true (restN s1)) (Lib.idxFunc outN true (restN s1))) (seq3 v0 v1 v1 v1) 2 (by decide) (two s2) w (bad s2 2 (by decide) l2 h2 (seq3 s s1 s2 s2) rfl) s rfl v0 v1 0 rfl rfl rfl (by unfold numsF; rw [h0]; simp only [h1, h2])
      | some p2 =>
        obtain ⟨v2, s3⟩ := p2
        obtain ⟨n2, l3⟩ := step_some l2 h2
        refine c_numX (seq3 s s1 s2 s3) (seq3 (restN s) (restN s1) (restN s2) (restN s2)) (seq3 (numN s) (numN s1) (numN s2) (numN s2)) (seq3 (fromN s) (fromN s1) (fromN s2) (fromN s2)) (seq3 (toN (restN s)) (toN (restN s1)) (toN (restN s2)) (toN (restN s2))) (seq3 (Lib.idxFunc outN true (restN s)) (Lib.idxFunc outN true (restN s1)) (Lib.idxFunc outN true (restN s2)) (Lib.idxFunc outN true (restN s2))) (seq3 v0 v1 v2 v2) 3 (by decide) (fun k hk => ?_) w (.inl rfl) s rfl v0 v1 v2 rfl rfl rfl (by unfold numsF; rw [h0]; simp only [h1, h2])
        have : k = 0 ∨ k = 1 ∨ k = 2 := by omega
        rcases this with rfl | rfl | rfl
        · simp only [s3_0, s3_1, s3_2, s3_3, Nat.zero_add, Nat.reduceAdd]; exact n0
        · simp only [s3_0, s3_1, s3_2, s3_3, Nat.zero_add, Nat.reduceAdd]; exact n1
        · simp only [s3_0, s3_1, s3_2, s3_3, Nat.zero_add, Nat.reduceAdd]; exact n2
end Go.Proofs.YthcfobefpknjeaaDoor.P
