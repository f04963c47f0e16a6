/- Stage 6: one disk in new memory; the example at the head of each law. No condition. -/
import Derived.Test.YtgaibknhdaeidaaGreatH1
import Derived.Deep.RegionHeld3
set_option linter.unusedVariables false
set_option maxRecDepth 50000
namespace Go.Proofs.YtgaibknhdaeidaaGreat.P
open Go.RowKit
/-- One disk in memory that is new since w0. -/
def SS (w0 w : World) (d : Nat) (z : DState) : Prop := DD w d z (fun x => w0.heap.size ≤ x) ∧ Gr w0 w
theorem DD.mono {w : World} {d : Nat} {z : DState} {F G : Nat → Prop} (h : DD w d z F) (hs : ∀ x, F x → G x) : DD w d z G := by
  obtain ⟨h1, sb, wb, h2, h3⟩ := h
  exact ⟨h1, sb, wb, h2, fun x hx => hs x (h3 x hx)⟩
theorem SS.out {w0 w w' : World} {d : Nat} {z z' : DState} (h : SS w0 w d z) (ho : DOut w w' d z' (fun x => w0.heap.size ≤ x)) : SS w0 w' d z' := by
  obtain ⟨F', h1, h2, h3⟩ := ho
  refine ⟨h1.mono (fun x hx => ?_), gr_ch h.2 h3 (fun x hx => hx)⟩
  rcases (h2 x hx).1 with e | e
  · exact e
  · have := h.2.size; omega
theorem SS.gr {w0 w w' : World} {d : Nat} {z : DState} (h : SS w0 w d z) (g : Gr w w') : SS w0 w' d z := ⟨h.1.gr g, gtrans h.2 g⟩
theorem s_new (w0 w : World) (g : Gr w0 w) (n : Nat) (h1 : 48 ≤ n) (h2 : n ≤ 544) : Calls Tryz.prog 20 #[.int .i64 (n : Int)] w fun e w' => ∃ d, e = .returned (.tuple #[.pointer (some ⟨d, 0, none⟩), .int .i64 0]) ∧ SS w0 w' d (newZ (List.replicate n z64)) := by
  refine (w_new n h1 h2 w).mono ?_
  rintro e w' ⟨d, F, rfl, h3, h4, h5⟩
  exact ⟨d, rfl, h3.mono (fun x hx => Nat.le_trans g.size (h4 x hx).1), gtrans g h5⟩
theorem s_write (w0 w : World) (d : Nat) (z : DState) (h : SS w0 w d z) (i : Int) (s : ByteArray) (hl : z.wait.length ≤ 4000000000000) :
    Calls Tryz.prog 56 #[.pointer (some ⟨d, 0, none⟩), .int .i64 i, .string s] w fun e w' => e = .returned (.int .i64 (writeR z i s)) ∧ SS w0 w' d (writeZ z i s) :=
  (w_write w d z _ h.1 i s hl).mono fun e w' h' => ⟨h'.1, h.out h'.2⟩
theorem s_read (w0 w : World) (d : Nat) (z : DState) (h : SS w0 w d z) (i : Int) (hl : z.wait.length ≤ 4000000000000) :
    Calls Tryz.prog 28 #[.pointer (some ⟨d, 0, none⟩), .int .i64 i] w fun e w' => e = .returned (.tuple #[.string (readB z i), .int .i64 (readR z i)]) ∧ SS w0 w' d z :=
  (w_read w d z _ h.1 i hl).mono fun e w' h' => ⟨h'.1, h.gr h'.2⟩
theorem s_flush (w0 w : World) (d : Nat) (z : DState) (h : SS w0 w d z) (hl : z.wait.length ≤ 4000000000000) :
    Calls Tryz.prog 57 #[.pointer (some ⟨d, 0, none⟩)] w fun e w' => e = .returned (.int .i64 (flushR z)) ∧ SS w0 w' d (flushZ z) :=
  (w_flush w d z _ h.1 hl).mono fun e w' h' => ⟨h'.1, h.out h'.2⟩
theorem s_crash (w0 w : World) (d : Nat) (z : DState) (h : SS w0 w d z) (K : Int) (hK : u64 K) (hl : z.wait.length ≤ 4000000000000) :
    Calls Tryz.prog 10 #[.pointer (some ⟨d, 0, none⟩), .int .u64 K] w fun e w' => e = .returned (.tuple #[]) ∧ SS w0 w' d (crashZ z K) :=
  (w_crash w d z _ h.1 K hK hl).mono fun e w' h' => ⟨h'.1, h.out h'.2⟩
theorem s_power (w0 w : World) (d : Nat) (z : DState) (h : SS w0 w d z) (k : Int) (hk : k ≤ 9223372036854775807) :
    Calls Tryz.prog 8 #[.pointer (some ⟨d, 0, none⟩), .int .i64 k] w fun e w' => e = .returned (.tuple #[]) ∧ SS w0 w' d (powZ z k) :=
  (w_power w d z _ h.1 k hk).mono fun e w' h' => ⟨h'.1, h.out h'.2⟩
def ImgP (w0 : World) (d : Nat) (z : DState) (w : World) (e : Ending) (w' : World) : Prop := ∃ g cap, e = .returned (.slice (some ⟨g, 0, none⟩) z.safe.length cap) ∧ w'.ownsRow 0 9 1 (.slice (some ⟨g, 0, none⟩) z.safe.length cap) z.safe.length (strs z.safe) ∧ w.heap.size ≤ g ∧ SS w0 w' d z
theorem s_image (w0 w : World) (d : Nat) (z : DState) (h : SS w0 w d z) : Calls Tryz.prog 14 #[.pointer (some ⟨d, 0, none⟩)] w (ImgP w0 d z w) :=
  (w_image w d z _ h.1).mono fun e w' ⟨g, cap, h1, h2, h3, h4⟩ => ⟨g, cap, h1, h2, h3, h.gr h4⟩
def secA : ByteArray := secF ⟨#[97]⟩
def secB : ByteArray := secF ⟨#[98]⟩
def secC : ByteArray := secF ⟨#[99]⟩
theorem secs : (∀ w : World, Calls Tryz.prog 22 #[.string ⟨#[97]⟩] w fun e w' => e = .returned (.string secA) ∧ Gr w w') ∧ (∀ w : World, Calls Tryz.prog 22 #[.string ⟨#[98]⟩] w fun e w' => e = .returned (.string secB) ∧ Gr w w') ∧ (∀ w : World, Calls Tryz.prog 22 #[.string ⟨#[99]⟩] w fun e w' => e = .returned (.string secC) ∧ Gr w w') :=
  ⟨fun w => c_sector _ (by decide) w, fun w => c_sector _ (by decide) w, fun w => c_sector _ (by decide) w⟩
def n0 : DState := newZ (List.replicate 48 z64)
def n1 : DState := writeZ n0 3 secA
def n2 : DState := writeZ n1 3 secB
def n3 : DState := crashZ n2 1
def n4 : DState := powZ n3 1
def n5 : DState := writeZ n4 4 secC
def n6 : DState := flushZ n5
def n7 : DState := crashZ n6 1
theorem shown_facts : readB n2 3 = secB ∧ readB n3 3 = secA ∧ writeR n4 4 secC = 0 ∧ flushR n5 = 7 ∧ readR n6 4 = 7 ∧ n7.safe.length = 48 ∧ n7.safe[4]? = some secC := by decide +kernel
theorem shown_lens : n0.wait.length ≤ 4000000000000 ∧ n1.wait.length ≤ 4000000000000 ∧ n2.wait.length ≤ 4000000000000 ∧ n3.wait.length ≤ 4000000000000 ∧ n4.wait.length ≤ 4000000000000 ∧ n5.wait.length ≤ 4000000000000 ∧ n6.wait.length ≤ 4000000000000 := by decide +kernel
end Go.Proofs.YtgaibknhdaeidaaGreat.P
namespace Go.Proofs.YtgaibknhdaeidaaGreat.P
open Go.RowKit
theorem cell_drew6 {w : World} {p : Addr} {v : Value} (h : w.cell? p = some v) : w.drew.cell? p = some v := h
theorem gr_drew6 {a b : World} (h : Gr a b) : Gr a b.drew := Gr.drewN h 1
end Go.Proofs.YtgaibknhdaeidaaGreat.P
