/- Stage 5: what a step comes to, plain; a hart's copies in memory. No condition. -/
import Derived.Test.YtngeabphjdfdgaaGreatDoorHO
import Derived.Test.YtngeabphjdfdgaaGreatDoorHN
import Derived.Test.YtngeabphjdfdgaaGreatDoorDV
import Derived.Laws.Rows
import Derived.Laws.CopyOwn
import Derived.Laws.ResultCell
set_option linter.unusedVariables false
set_option linter.unusedSimpArgs false
set_option maxRecDepth 100000
namespace Go.Proofs.YtngeabphjdfdgaaGreatDoor.P
open Go.RowKit Go.MuLone Go.Proofs.YtngeabphjdfdgaaGreatDoor.W
theorem st3 {A B C D : Asn} {w : World} {F : Nat → Prop} (h : Star A (Star B (Star C D)) w F) : Star C (Star A (Star B D)) w F := star_swap2 (star_mono_r (fun F h => star_swap2 h) h)
theorem st4 {A B C D E : Asn} {w : World} {F : Nat → Prop} (h : Star A (Star B (Star C (Star D E))) w F) : Star D (Star A (Star B (Star C E))) w F := star_swap2 (star_mono_r (fun F h => st3 h) h)
theorem st5 {A B C D E G : Asn} {w : World} {F : Nat → Prop} (h : Star A (Star B (Star C (Star D (Star E G)))) w F) : Star E (Star A (Star B (Star C (Star D G)))) w F := star_swap2 (star_mono_r (fun F h => st4 h) h)
theorem st6 {A B C D E G I : Asn} {w : World} {F : Nat → Prop} (h : Star A (Star B (Star C (Star D (Star E (Star G I))))) w F) : Star G (Star A (Star B (Star C (Star D (Star E I))))) w F := star_swap2 (star_mono_r (fun F h => st5 h) h)
theorem bk3 {A B C D : Asn} {w : World} {F : Nat → Prop} (h : Star C (Star A (Star B D)) w F) : Star A (Star B (Star C D)) w F := star_mono_r (fun F h => star_swap2 h) (star_swap2 h)
theorem bk4 {A B C D E : Asn} {w : World} {F : Nat → Prop} (h : Star D (Star A (Star B (Star C E))) w F) : Star A (Star B (Star C (Star D E))) w F := star_mono_r (fun F h => bk3 h) (star_swap2 h)
theorem bk5 {A B C D E G : Asn} {w : World} {F : Nat → Prop} (h : Star E (Star A (Star B (Star C (Star D G)))) w F) : Star A (Star B (Star C (Star D (Star E G)))) w F := star_mono_r (fun F h => bk4 h) (star_swap2 h)
theorem bk6 {A B C D E G I : Asn} {w : World} {F : Nat → Prop} (h : Star G (Star A (Star B (Star C (Star D (Star E I))))) w F) : Star A (Star B (Star C (Star D (Star E (Star G I))))) w F := star_mono_r (fun F h => bk5 h) (star_swap2 h)
/-- The instruction that a word is. -/
def insF (x : Int) : InS := ⟨(decK x : Int), (fitD (fmT (decK x)) x).toNat, (fitA (fmT (decK x)) x).toNat, (fitB (fmT (decK x)) (resB (decK x)) x).toNat, fitI (fmT (decK x)) x⟩
theorem ins_of {x : Int} (hx : u32 x) (h : decE x = 0) : decV x = .agg #[.int .i64 (insF x).op, .int .i64 ((insF x).rd : Int), .int .i64 ((insF x).a : Int), .int .i64 ((insF x).b : Int), .int .i64 (insF x).i] ∧ (insF x).rd < 32 ∧ (insF x).a < 32 ∧ (insF x).b < 32 ∧ 1 ≤ (insF x).op ∧ (insF x).op ≤ 87 := by
  have h0 : decK x ≠ 0 := by unfold decE at h; split at h; · cases h
                             · assumption
  have hk : 1 ≤ decK x ∧ decK x < 88 := by rcases decK_cases x with ⟨e, _⟩ | ⟨h1, h2, _⟩; · exact absurd e h0
                                           · exact ⟨h1, h2⟩
  obtain ⟨x0, x1⟩ := hx
  have hd : 0 ≤ fitD (fmT (decK x)) x ∧ fitD (fmT (decK x)) x < 32 := by unfold fitD; split <;> omega
  have ha : 0 ≤ fitA (fmT (decK x)) x ∧ fitA (fmT (decK x)) x < 32 := by unfold fitA; split <;> omega
  have hb : 0 ≤ fitB (fmT (decK x)) (resB (decK x)) x ∧ fitB (fmT (decK x)) (resB (decK x)) x < 32 := by
    unfold fitB
    split
    · omega
    · split
      · cases resB (decK x)
        · rw [cond_false]; omega
        · rw [cond_true]; omega
      · omega
  unfold decV insF
  rw [if_neg h0]
  refine ⟨?_, ?_, ?_, ?_, ?_, ?_⟩
  · simp only [Int.toNat_of_nonneg hd.1, Int.toNat_of_nonneg ha.1, Int.toNat_of_nonneg hb.1, iv]
  · simp only; omega
  · simp only; omega
  · simp only; omega
  · simp only; omega
  · simp only; omega
structure RS where
  H : HS
  e : EvS
  s : List UInt8
/-- What a step comes to, at a root that is a frame. -/
def stepF (fr : Nat) (s : List UInt8) (r : Int) (H : HS) : RS :=
  if rchB fr s r H.pc 4 3 = true then
    (if decE (loadV s (rchV fr s r H.pc 4 3) 4) = 0 then
      (if (doF fr s r (insF (loadV s (rchV fr s r H.pc 4 3) 4)).op (insF (loadV s (rchV fr s r H.pc 4 3) 4)).rd ((H.set 0 0).X (insF (loadV s (rchV fr s r H.pc 4 3) 4)).a) ((H.set 0 0).X (insF (loadV s (rchV fr s r H.pc 4 3) 4)).b) (w64 (insF (loadV s (rchV fr s r H.pc 4 3) 4)).i) H.pc { H.set 0 0 with pc := w64 (H.pc + 4) }).e.k = 0 then
        ⟨(doF fr s r (insF (loadV s (rchV fr s r H.pc 4 3) 4)).op (insF (loadV s (rchV fr s r H.pc 4 3) 4)).rd ((H.set 0 0).X (insF (loadV s (rchV fr s r H.pc 4 3) 4)).a) ((H.set 0 0).X (insF (loadV s (rchV fr s r H.pc 4 3) 4)).b) (w64 (insF (loadV s (rchV fr s r H.pc 4 3) 4)).i) H.pc { H.set 0 0 with pc := w64 (H.pc + 4) }).A.set 0 0,
         (doF fr s r (insF (loadV s (rchV fr s r H.pc 4 3) 4)).op (insF (loadV s (rchV fr s r H.pc 4 3) 4)).rd ((H.set 0 0).X (insF (loadV s (rchV fr s r H.pc 4 3) 4)).a) ((H.set 0 0).X (insF (loadV s (rchV fr s r H.pc 4 3) 4)).b) (w64 (insF (loadV s (rchV fr s r H.pc 4 3) 4)).i) H.pc { H.set 0 0 with pc := w64 (H.pc + 4) }).e,
         (doF fr s r (insF (loadV s (rchV fr s r H.pc 4 3) 4)).op (insF (loadV s (rchV fr s r H.pc 4 3) 4)).rd ((H.set 0 0).X (insF (loadV s (rchV fr s r H.pc 4 3) 4)).a) ((H.set 0 0).X (insF (loadV s (rchV fr s r H.pc 4 3) 4)).b) (w64 (insF (loadV s (rchV fr s r H.pc 4 3) 4)).i) H.pc { H.set 0 0 with pc := w64 (H.pc + 4) }).s⟩
      else ⟨H.set 0 0,
         (doF fr s r (insF (loadV s (rchV fr s r H.pc 4 3) 4)).op (insF (loadV s (rchV fr s r H.pc 4 3) 4)).rd ((H.set 0 0).X (insF (loadV s (rchV fr s r H.pc 4 3) 4)).a) ((H.set 0 0).X (insF (loadV s (rchV fr s r H.pc 4 3) 4)).b) (w64 (insF (loadV s (rchV fr s r H.pc 4 3) 4)).i) H.pc { H.set 0 0 with pc := w64 (H.pc + 4) }).e,
         (doF fr s r (insF (loadV s (rchV fr s r H.pc 4 3) 4)).op (insF (loadV s (rchV fr s r H.pc 4 3) 4)).rd ((H.set 0 0).X (insF (loadV s (rchV fr s r H.pc 4 3) 4)).a) ((H.set 0 0).X (insF (loadV s (rchV fr s r H.pc 4 3) 4)).b) (w64 (insF (loadV s (rchV fr s r H.pc 4 3) 4)).i) H.pc { H.set 0 0 with pc := w64 (H.pc + 4) }).s⟩)
    else ⟨H.set 0 0, ⟨3, 0, false⟩, s⟩)
  else ⟨H.set 0 0, ⟨4, H.pc, false⟩, s⟩
theorem do_all {w0 w : World} {sb mb rb b fr : Nat} {r : Int} {s : List UInt8} {I : InS} {x y m : Int} {A : HS} {R : Asn} (h : Own w0 w (cxA sb mb rb b fr r s I x y m A e0 R)) (hR : Stable R) (hr : i64 r) (hrd : I.rd < 32) (hx : word x) (hy : word y) (hm : word m) (pc : Int) (hpc : u64 pc) (hT : PT w0) (hop : 1 ≤ I.op ∧ I.op ≤ 87) :
    Calls Tryz.prog 21 #[.pointer (some ⟨sb, 0, none⟩), .pointer (some ⟨b, 0, none⟩), .int .i64 r, .int .u64 pc] w fun e' w' => e' = .returned (.tuple #[]) ∧ DoneP w0 sb mb rb b fr r I x y m R (doF fr s r I.op I.rd x y m pc A) w' := by
  obtain ⟨op, rd, i1, i2, im⟩ := I
  simp only at hop hrd ⊢
  by_cases h1 : op ≤ 2
  · exact do_1 h hR hr hrd hx hy hm pc hpc (by omega)
  by_cases h2 : op = 3
  · exact do_3 h hR hr hrd hx hy hm pc hpc h2
  by_cases h3 : op = 4
  · exact do_4 h hR hr hrd hx hy hm pc hpc h3
  by_cases h4 : op ≤ 10
  · exact do_5 h hR hr hrd hx hy hm pc hpc (by omega)
  by_cases h5 : op ≤ 21
  · exact do_11 h hR hr hrd hx hy hm pc hpc (by omega)
  by_cases h6 : op ≤ 34
  · exact do_22 h hR hr hrd hx hy hm pc hpc hT (by omega)
  by_cases h7 : op ≤ 62
  · exact do_35 h hR hr hrd hx hy hm pc hpc (by omega)
  by_cases h8 : op ≤ 65
  · exact do_63 h hR hr hrd hx hy hm pc hpc (by omega)
  · exact do_66 h hR hr hrd hx hy hm pc hpc (by omega)
theorem hC_info (H : HS) : (Tryz.prog.info? 27).map (·.size) = some (hC H).size := by
  rw [hC_size]; kernel_rfl
theorem ldH {w : World} {g : Nat} {H : HS} (hg : w.heap[g]? = some (.cells (hC H) 27)) : (loadVar 27 ⟨g, 0, none⟩).run Tryz.prog w = .ok (.agg (hC H)) w :=
  run_loadVar_row w g 27 27 _ (0, 0) _ hg Tryz.underlying27 rfl (hC_info H)
def HZ : HS := ⟨fun _ => 0, 0, false, 0⟩
def evC (e : EvS) : Array Value := #[.int .i64 e.k, .int .u64 e.ad, .bool e.wr]
/-- The prologue of a step: five new blocks. -/
theorem step_in {w0 w : World} {b fr : Nat} {s : List UInt8} {R : Asn} (h : Own w0 w (Star (memA b fr s) R)) (hR : Stable R) (r : Int) (H : HS) :
    Own w0 (((((w.alloc (.cells #[.pointer (some ⟨b, 0, none⟩)] 31)).alloc (.cells #[.int .i64 r] 3)).alloc (.cells (hC H) 27)).alloc (.cells #[.int .u64 0, .int .u64 0, .int .u64 0, .int .u64 0, .int .u64 0, .int .u64 0, .int .u64 0, .int .u64 0, .int .u64 0, .int .u64 0, .int .u64 0, .int .u64 0, .int .u64 0, .int .u64 0, .int .u64 0, .int .u64 0, .int .u64 0, .int .u64 0, .int .u64 0, .int .u64 0, .int .u64 0, .int .u64 0, .int .u64 0, .int .u64 0, .int .u64 0, .int .u64 0, .int .u64 0, .int .u64 0, .int .u64 0, .int .u64 0, .int .u64 0, .int .u64 0, .int .u64 0, .bool false, .int .u64 0] 27)).alloc (.cells #[.int .i64 0, .int .u64 0, .bool false] 36))
      (Star (memA b fr s) (boxA w.heap.size (w.heap.size + 1) b r (Star (blkA (w.heap.size + 1 + 1) (.cells (hC H) 27)) (Star (blkA (w.heap.size + 1 + 1 + 1) (.cells (hC HZ) 27)) (Star (blkA (w.heap.size + 1 + 1 + 1 + 1) (.cells (evC e0) 36)) R))))) := by
  have S0 := stable_mem b fr s
  have h1 := (h.alloc (stable_star S0 hR) (.cells #[.pointer (some ⟨b, 0, none⟩)] 31)).swap2
  have S1 := stable_star (stable_blk w.heap.size (.cells #[.pointer (some ⟨b, 0, none⟩)] 31)) hR
  have h2 := (h1.alloc (stable_star S0 S1) (.cells #[.int .i64 r] 3)).swap2
  rw [World.size_alloc] at h2
  have S2 := stable_star (stable_blk (w.heap.size + 1) (.cells #[.int .i64 r] 3)) S1
  have h3 := (h2.alloc (stable_star S0 S2) (.cells (hC H) 27)).swap2
  rw [World.size_alloc, World.size_alloc] at h3
  have S3 := stable_star (stable_blk (w.heap.size + 1 + 1) (.cells (hC H) 27)) S2
  have h4 := (h3.alloc (stable_star S0 S3) (.cells (hC HZ) 27)).swap2
  rw [World.size_alloc, World.size_alloc, World.size_alloc] at h4
  have S4 := stable_star (stable_blk (w.heap.size + 1 + 1 + 1) (.cells (hC HZ) 27)) S3
  have h5 := (h4.alloc (stable_star S0 S4) (.cells (evC e0) 36)).swap2
  rw [World.size_alloc, World.size_alloc, World.size_alloc, World.size_alloc] at h5
  refine h5.mono (fun F hF => star_mono_r (fun F h => ?_) hF)
  have k1 := st5 h
  have k2 := star_mono_r (fun F h => st4 h) k1
  have k3 := star_mono_r (fun F h => star_mono_r (fun F h => st3 h) h) k2
  exact star_mono_r (fun F h => star_mono_r (fun F h => star_mono_r (fun F h => star_swap2 h) h) h) k3
end Go.Proofs.YtngeabphjdfdgaaGreatDoor.P
