/- Stage 5: the document's example. No condition. -/
import Derived.Test.YtngeabphjdfdgaaGreatDoorID
import Derived.Deep.MidRow
import Derived.Deep.QuietTactic
set_option linter.unusedVariables false
set_option linter.unusedSimpArgs false
set_option maxRecDepth 100000
namespace Go.Proofs.YtngeabphjdfdgaaGreatDoor.P
open Go.RowKit Go.MuLone Go.Proofs.YtngeabphjdfdgaaGreatDoor.W
theorem u64_0 : Go.Proofs.YtngeabphjdfdgaaGreatDoor.P.u64 0 := ⟨by decide, by decide⟩
theorem u64_8 : Go.Proofs.YtngeabphjdfdgaaGreatDoor.P.u64 8 := ⟨by decide, by decide⟩
theorem hz_ok : HZ.ok := ⟨fun _ _ => u64_0, u64_0, u64_0⟩
theorem wpList_build1 {P : Program} {ops : Array Oper} {rest : List Oper} {o : Oper} {a : Act} {w : World} {Q : Exit → Act → World → Prop} (hg : o.guard = none) (t : TypeId) (k : Nat) (x : Operand) (ho : o.op = .build t #[(k, x)]) (v : Value) (hx : a.eval x = v)
    (cells : Array Value) (hb : P.built t [(k, v)] = some cells) (h : wpList P ops Q rest (a.put o.dst (.agg cells)) w) : wpList P ops Q (o :: rest) a w := by
  have hb2 : P.built t ((#[(k, x)] : Array (Nat × Operand)).map fun (i, x) => (i, a.eval x)).toList = some cells := by
    simp only [List.map_toArray, List.map_cons, List.map_nil, hx]
    exact hb
  exact wpList_plain hg fun _ hK => by
    refine wp_build t _ ho (by rw [hb2]; rfl) ?_
    rw [hb2]
    exact hK _ _ h
theorem built_world (o : Option Addr) (n c : Nat) : Tryz.prog.built 29 [(2, .slice o n c)] = some (wC (.slice none 0 0) (.slice none 0 0) (.slice o n c) HZ) := by kernel_rfl
theorem wC_info (a v c : Value) (H : HS) : (Tryz.prog.info? 29).map (·.size) = some (wC a v c H).size := by rw [wC_size]; kernel_rfl
theorem wC_all1 (oa ov oc : Option Addr) (na ca nv cv nc cc : Nat) (H : HS) : (wC (.slice oa na ca) (.slice ov nv cv) (.slice oc nc cc) H).all (·.oneCell') = true := by simp [wC, hC, xC, Value.oneCell']
theorem star_assoc {A B C : Asn} {w : World} {F : Nat → Prop} (h : Star (Star A B) C w F) : Star A (Star B C) w F := by
  obtain ⟨F1, F2, ⟨G1, G2, a, b, hd1, s1, s2⟩, c, hd, t1, t2⟩ := h
  exact ⟨G1, fun x => G2 x ∨ F2 x, a, ⟨G2, F2, b, c, fun x hx hy => hd x (s2 x hx) hy, fun x h => .inl h, fun x h => .inr h⟩, fun x hx hy => hy.elim (hd1 x hx) (hd x (s1 x hx)), fun x hx => t1 x (s1 x hx), fun x hx => hx.elim (fun e => t1 x (s2 x e)) (t2 x)⟩
theorem wC_range {w : World} {B : Nat} {a v c : Value} {H : HS} (h : w.heap[B]? = some (.cells (wC a v c H) 29)) : w.rangeAt B 3 (hC H).toList := fun j x hx => blk_cell h (3 + j) (by
  have : (wC a v c H)[3 + j]? = ([a, v, c] ++ (hC H).toList)[3 + j]? := by unfold wC; exact List.getElem?_toArray
  rw [this, List.getElem?_append_right (by show 3 ≤ 3 + j; omega), show 3 + j - [a, v, c].length = j by show 3 + j - 3 = j; omega]
  exact hx)
theorem wpList_load_w {ops : Array Oper} {rest : List Oper} {o : Oper} {a : Act} {w : World} {Q : Exit → Act → World → Prop} (hgd : o.guard = none) (x : Operand) (ho : o.op = .load 27 x) (B : Nat) (hx : a.eval x = .pointer (some ⟨B, 3, none⟩)) {a0 v0 c0 : Value} {H : HS}
    (hg : w.heap[B]? = some (.cells (wC a0 v0 c0 H) 29)) (h : wpList Tryz.prog ops Q rest (a.put o.dst (.agg (hC H))) w) : wpList Tryz.prog ops Q (o :: rest) a w :=
  wpList_load_mid hgd 27 x ho B 3 hx (hC H).toList _ (wC_range hg) Tryz.underlying27 rfl (by rw [show (hC H).toList.length = 35 from rfl]; kernel_rfl) h
theorem step_to {w0 w : World} {b : Nat} {R : Asn} {exS : List UInt8} (h : Own w0 w (Star (memA b 8 exS) R)) (hR : Stable R) (hT : PT w0) (hF : FT w0) (H : HS) (hH : H.ok) (S : RS) (hs : stepF 8 exS 0 H = S) (k ad : Int) (wr : Bool) (h1 : S.e.k = k ∧ S.e.ad = ad ∧ S.e.wr = wr) (h2 : S.s = exS) :
    Calls Tryz.prog 7 #[.pointer (some ⟨b, 0, none⟩), .int .i64 0, .agg (hC H)] w fun e w' => e = .returned (.tuple #[.agg (hC S.H), .agg #[.int .i64 k, .int .u64 ad, .bool wr], .int .i64 0]) ∧ Own w0 w' (Star (memA b 8 exS) R) := by
  have := o_step h hR 0 (by decide) (by decide) H hH hT hF
  rw [hs, h2] at this
  have e : evV S.e = .agg #[.int .i64 k, .int .u64 ad, .bool wr] := by unfold evV; rw [h1.1, h1.2.1, h1.2.2]
  rw [e] at this
  exact this
theorem ev_fresh {w : World} {o : Obj} {Z2 cs : Array Value} {T2 : TypeId} : (((w.alloc o).alloc (.cells Z2 T2)).setRow w.heap.size cs).heap[w.heap.size + 1]? = some (.cells Z2 T2) := by
  rw [setRow_other _ _ _ _ (by omega)]
  exact blk_new' _ _ _ (by rw [World.size_alloc])
theorem ev_info3 (x y z : Value) : (Tryz.prog.info? 36).map (·.size) = some (#[x, y, z] : Array Value).size := by kernel_rfl
theorem ev_all3 (k a : Int) (wr : Bool) : (#[.int .i64 k, .int .u64 a, .bool wr] : Array Value).all (·.oneCell') = true := by simp [Value.oneCell']
/-- A hart and an event are laid in new blocks. -/
theorem own_he {w0 w : World} {A R : Asn} {Z1 Z2 c1 c2 : Array Value} {T1 T2 : TypeId} (h : Own w0 w (Star A R)) (hA : Stable A) (hR : Stable R) : Own w0 ((((w.alloc (.cells Z1 T1)).alloc (.cells Z2 T2)).setRow w.heap.size c1).setRow (w.heap.size + 1) c2) (Star A (Star (blkA w.heap.size (.cells c1 T1)) (Star (blkA (w.heap.size + 1) (.cells c2 T2)) R))) := by
  have S1 := stable_star hA hR
  have k1 := h.alloc S1 (.cells Z1 T1)
  have k2 := k1.alloc (stable_star (stable_blk _ _) S1) (.cells Z2 T2)
  rw [World.size_alloc] at k2
  have k3 := k2.swap2.setRow (stable_star (stable_blk _ _) S1) c1
  have k4 := k3.swap2.setRow (stable_star (stable_blk _ _) S1) c2
  exact k4.mono (fun F h => star_mono_r (fun F h => star_swap2 h) (st3 h))
theorem own_h2e {w0 w w4 : World} {R : Asn} {Z1 Z2 c1 : Array Value} {T1 T2 : TypeId} (hW : ((w.alloc (.cells Z1 T1)).alloc (.cells Z2 T2)).setRow w.heap.size c1 = w4) (h : Own w0 w R) (hR : Stable R) : Own w0 w4 (Star (blkA (w.heap.size + 1) (.cells Z2 T2)) (Star (blkA w.heap.size (.cells c1 T1)) R)) := by
  subst hW
  have k1 := h.alloc hR (.cells Z1 T1)
  have k2 := k1.alloc (stable_star (stable_blk _ _) hR) (.cells Z2 T2)
  rw [World.size_alloc] at k2
  exact (k2.swap2.setRow (stable_star (stable_blk _ _) hR) c1).swap2
theorem own_turn {w0 w : World} {E H A R : Asn} (h : Own w0 w (Star E (Star H (Star A R)))) : Own w0 w (Star A (Star H (Star E R))) := h.mono (fun F h => star_mono_r (fun F h => star_swap2 h) (st3 h))
def exW : Array Value := #[.int .u32 5243027, .int .u32 41219, .int .u32 115]
set_option maxHeartbeats 6400000 in
theorem shown5_g (exS : List UInt8) (hS : wrdS (codS exC (min 3 64)) exC exC (min 0 0) = exS) (exR1 exR2 exR3 : RS) (g1 : stepF 8 exS 0 HZ = exR1) (g2 : stepF 8 exS 0 exR1.H = exR2) (g3 : stepF 8 exS 0 { exR1.H with pc := 8 } = exR3)
    (ex_1 : exR1.e.k = 0 ∧ exR1.e.ad = 0 ∧ exR1.e.wr = false ∧ exR1.H.X 1 = 5 ∧ exR1.s = exS) (ex_2 : exR2.e.k = 5 ∧ exR2.e.ad = 5 ∧ exR2.e.wr = false ∧ exR2.H.pc = 4 ∧ exR2.s = exS) (ex_3 : exR3.e.k = 1 ∧ exR3.e.ad = 0 ∧ exR3.e.wr = false ∧ exR3.H.pc = 8 ∧ exR3.s = exS) (exR1_ok : exR1.H.ok)
    (w : World) (hT : PT w) (hF : FT w) : Calls Tryz.prog 5 #[] w fun e w' => e = .returned (.bool true) ∧ Gr w w' := by
  have K0 : RowKit.Hid (Own w (((w.alloc (.cells #[.int .u32 5243027, .int .u32 41219, .int .u32 115] 49)).alloc (.cells #[.slice none 0 0, .slice none 0 0, .slice none 0 0, .int .u64 0, .int .u64 0, .int .u64 0, .int .u64 0, .int .u64 0, .int .u64 0, .int .u64 0, .int .u64 0, .int .u64 0, .int .u64 0, .int .u64 0, .int .u64 0, .int .u64 0, .int .u64 0, .int .u64 0, .int .u64 0, .int .u64 0, .int .u64 0, .int .u64 0, .int .u64 0, .int .u64 0, .int .u64 0, .int .u64 0, .int .u64 0, .int .u64 0, .int .u64 0, .int .u64 0, .int .u64 0, .int .u64 0, .int .u64 0, .int .u64 0, .int .u64 0, .int .u64 0, .bool false, .int .u64 0] 29)).setRow (w.heap.size + 1) (wC (.slice none 0 0) (.slice none 0 0) (.slice (some ⟨w.heap.size, 0, none⟩) 3 3) HZ)) (Star (blkA (w.heap.size + 1) (.cells (wC (.slice none 0 0) (.slice none 0 0) (.slice (some ⟨w.heap.size, 0, none⟩) 3 3) HZ) 29)) (Star (blkA w.heap.size (.cells exW 49)) emp))) := Lib.hid (by
    have k1 := (Own.start (Gr.refl w)).alloc stable_emp (.cells exW 49)
    have k2 := k1.alloc (stable_star (stable_blk _ _) stable_emp) (.cells #[.slice none 0 0, .slice none 0 0, .slice none 0 0, .int .u64 0, .int .u64 0, .int .u64 0, .int .u64 0, .int .u64 0, .int .u64 0, .int .u64 0, .int .u64 0, .int .u64 0, .int .u64 0, .int .u64 0, .int .u64 0, .int .u64 0, .int .u64 0, .int .u64 0, .int .u64 0, .int .u64 0, .int .u64 0, .int .u64 0, .int .u64 0, .int .u64 0, .int .u64 0, .int .u64 0, .int .u64 0, .int .u64 0, .int .u64 0, .int .u64 0, .int .u64 0, .int .u64 0, .int .u64 0, .int .u64 0, .int .u64 0, .int .u64 0, .bool false, .int .u64 0] 29)
    rw [World.size_alloc] at k2
    exact k2.setRow (stable_star (stable_blk _ _) stable_emp) _)
  have S0 := Lib.hid (stable_star (stable_blk (w.heap.size + 1) (.cells (wC (.slice none 0 0) (.slice none 0 0) (.slice (some ⟨w.heap.size, 0, none⟩) 3 3) HZ) 29)) (stable_star (stable_blk w.heap.size (.cells exW 49)) stable_emp))
  go_enter Tryz.func5, Tryz.ntmps5
  go_upto_region 2 with (first
    | (refine wpList_build1 rfl _ _ _ rfl _ rfl _ (built_world _ _ _) ?_)
    | (refine wpList_store_row rfl 29 _ _ rfl _ _ rfl rfl 29 _ (blk_new' _ _ _ (by rw [World.size_alloc])) (wC_info _ _ _ _) rfl (wC_all1 _ _ _ _ _ _ _ _ _ _) ?_))
  generalize (World.setRow _ _ _) = w1 at *
  generalize w.heap.size + 1 = ib at *
  generalize w.heap.size = cb at *
  have CM := Lib.hid (c_made5 w1 none none (some ⟨cb, 0, none⟩) 0 0 0 0 3 3 0 0 0 0 cb 0 exC exC exC HZ (by decide) (by decide) (by decide) (fun h => absurd h (by decide)) (fun i h => absurd h (by omega)) (fun h => absurd h (by decide)) (fun i h => absurd h (by omega)) (fun _ => ⟨rfl, blk_lt K0.out.right.blk⟩) (fun i hi => by
    have h3 := K0.out.right.blk
    rcases (by omega : i = 0 ∨ i = 1 ∨ i = 2) with rfl | rfl | rfl
    · exact ⟨⟨by decide, by decide⟩, blk_cell h3 0 rfl⟩
    · exact ⟨⟨by decide, by decide⟩, blk_cell h3 1 rfl⟩
    · exact ⟨⟨by decide, by decide⟩, blk_cell h3 2 rfl⟩))
  rw [hS] at CM
  have EX1 := Lib.hid ex_1
  have EX2 := Lib.hid ex_2
  have EX3 := Lib.hid ex_3
  have OK1 := Lib.hid exR1_ok
  have G1 := Lib.hid g1
  have G2 := Lib.hid g2
  have G3 := Lib.hid g3
  clear ex_1 ex_2 ex_3 exR1_ok g1 g2 g3 hS
  go_upto_region 3 with (first
    | (refine wpList_load_row rfl 29 _ rfl _ rfl 29 _ (0, 0) _ K0.out.blk Tryz.underlying29 rfl (wC_info _ _ _ _) ?_)
    | (go_at_call 6; refine CM.out.mono ?_; rintro e w2 ⟨b, rb, rfl, h2⟩; have K1 := Lib.hid ((K0.out.under S0.out h2).mono (fun F h => star_assoc h)); clear h2))
  clear CM
  have S1 := Lib.hid (stable_star (stable_star (stable_rm rb 8 exS) stable_emp) S0.out)
  have K2 : RowKit.Hid (Own w w2 (Star (memA b 8 exS) _)) := K1
  have C1 := Lib.hid (step_to K2.out S1.out hT hF HZ hz_ok exR1 G1.out 0 0 false ⟨EX1.out.1, EX1.out.2.1, EX1.out.2.2.1⟩ EX1.out.2.2.2.2)
  have I1 := Lib.hid K2.out.right.right.blk
  clear K0 K1
  go_upto_region 4 with (first
    | (refine wpList_load_w rfl _ rfl _ rfl I1.out ?_)
    | (go_at_call 7; refine C1.out.mono ?_; rintro e w3 ⟨rfl, h3⟩; have K3 := Lib.hid h3; clear h3)
    | (refine wpList_store_row rfl 27 _ _ rfl _ _ rfl rfl 27 _ (blk_alloc _ (blk_new _ _)) (hC_info _) rfl (hC_all1 _) ?_; generalize hW : (World.setRow _ _ _) = wa; have Ka := Lib.hid (own_h2e (c1 := hC exR1.H) hW K3.out (stable_star (stable_mem b 8 exS) S1.out)); clear hW; generalize w3.heap.size + 1 = e1 at *; generalize w3.heap.size = h1 at *)
    | (refine wpList_store_row rfl 36 _ _ rfl _ _ rfl rfl 36 _ Ka.out.blk (ev_info3 _ _ _) rfl (ev_all3 _ _ _) ?_; have Kb := Lib.hid (Ka.out.setRow (stable_star (stable_blk h1 (.cells (hC exR1.H) 27)) (stable_star (stable_mem b 8 exS) S1.out)) #[.int .i64 0, .int .u64 0, .bool false]); generalize (World.setRow _ _ _) = w4 at *))
  have K4 := Lib.hid (own_turn Kb.out)
  clear Ka Kb
  have S4 := Lib.hid (stable_star (stable_blk h1 (.cells (hC exR1.H) 27)) (stable_star (stable_blk e1 (.cells #[.int .i64 0, .int .u64 0, .bool false] 36)) S1.out))
  have C2 := Lib.hid (step_to K4.out S4.out hT hF exR1.H OK1.out exR2 G2.out 5 5 false ⟨EX2.out.1, EX2.out.2.1, EX2.out.2.2.1⟩ EX2.out.2.2.2.2)
  have I4 := Lib.hid K4.out.right.blk
  clear K3 C1 K2 I1
  go_upto_region 5 with (first
    | (refine wpList_load_row rfl 27 _ rfl _ rfl 27 _ (0, 0) _ I4.out Tryz.underlying27 rfl (hC_info _) ?_)
    | (go_at_call 7; refine C2.out.mono ?_; rintro e w5 ⟨rfl, h5⟩; have K5 := Lib.hid h5; clear h5)
    | (refine wpList_store_row rfl 27 _ _ rfl _ _ rfl rfl 27 _ (blk_alloc _ (blk_new _ _)) (hC_info _) rfl (hC_all1 _) ?_; generalize hW : (World.setRow _ _ _) = wb; have Kc := Lib.hid (own_h2e (c1 := hC exR2.H) hW K5.out (stable_star (stable_mem b 8 exS) S4.out)); clear hW; generalize w5.heap.size + 1 = e2 at *; generalize w5.heap.size = h2 at *)
    | (refine wpList_store_row rfl 36 _ _ rfl _ _ rfl rfl 36 _ Kc.out.blk (ev_info3 _ _ _) rfl (ev_all3 _ _ _) ?_; have Kd := Lib.hid (Kc.out.setRow (stable_star (stable_blk h2 (.cells (hC exR2.H) 27)) (stable_star (stable_mem b 8 exS) S4.out)) #[.int .i64 5, .int .u64 5, .bool false]); generalize (World.setRow _ _ _) = w6 at *))
  have K6 := Lib.hid (own_turn Kd.out)
  clear Kc Kd
  have k7 := K6.out.mono (fun F h => st4 h)
  have c32 := blk_cell k7.blk 32 (v := .int .u64 exR1.H.pc) rfl
  have f32 := blk_frozen k7.blk 32
  have S6 := stable_star (stable_mem b 8 exS) (stable_star (stable_blk h2 (.cells (hC exR2.H) 27)) (stable_star (stable_blk e2 (.cells #[.int .i64 5, .int .u64 5, .bool false] 36)) (stable_star (stable_blk e1 (.cells #[.int .i64 0, .int .u64 0, .bool false] 36)) S1.out)))
  have K8 : RowKit.Hid (Own w (w6.setCell ⟨h1, 32, none⟩ (.int .u64 8)) (Star (memA b 8 exS) (Star (blkA h1 (.cells (hC { exR1.H with pc := 8 }) 27)) (Star (blkA h2 (.cells (hC exR2.H) 27)) (Star (blkA e2 (.cells #[.int .i64 5, .int .u64 5, .bool false] 36)) (Star (blkA e1 (.cells #[.int .i64 0, .int .u64 0, .bool false] 36)) _)))))) := Lib.hid (k7.set S6 32 (.int .u64 8)).swap2
  clear K4 K5 K6 k7 C2 I4 S6
  go_upto_region 6 with fail
  clear c32 f32
  generalize (World.setCell w6 _ _) = w7 at *
  have S8 := Lib.hid (stable_star (stable_blk h1 (.cells (hC { exR1.H with pc := 8 }) 27)) (stable_star (stable_blk h2 (.cells (hC exR2.H) 27)) (stable_star (stable_blk e2 (.cells #[.int .i64 5, .int .u64 5, .bool false] 36)) (stable_star (stable_blk e1 (.cells #[.int .i64 0, .int .u64 0, .bool false] 36)) S1.out))))
  have C3 := Lib.hid (step_to K8.out S8.out hT hF { exR1.H with pc := 8 } ⟨OK1.out.1, u64_8, OK1.out.2.2⟩ exR3 G3.out 1 0 false ⟨EX3.out.1, EX3.out.2.1, EX3.out.2.2.1⟩ EX3.out.2.2.2.2)
  have I8 := Lib.hid K8.out.right.blk
  go_upto_region 7 with (first
    | (refine wpList_load_row rfl 27 _ rfl _ rfl 27 _ (0, 0) _ I8.out Tryz.underlying27 rfl (hC_info _) ?_)
    | (go_at_call 7; refine C3.out.mono ?_; rintro e w8 ⟨rfl, h8⟩; have K9 := Lib.hid h8; clear h8)
    | (refine wpList_store_row rfl 27 _ _ rfl _ _ rfl rfl 27 _ (blk_alloc _ (blk_new _ _)) (hC_info _) rfl (hC_all1 _) ?_; generalize hW : (World.setRow _ _ _) = wc; have Ke := Lib.hid (own_h2e (c1 := hC exR3.H) hW K9.out (stable_star (stable_mem b 8 exS) S8.out)); clear hW; generalize w8.heap.size + 1 = e3 at *; generalize w8.heap.size = h3 at *)
    | (refine wpList_store_row rfl 36 _ _ rfl _ _ rfl rfl 36 _ Ke.out.blk (ev_info3 _ _ _) rfl (ev_all3 _ _ _) ?_; have Kf := Lib.hid (Ke.out.setRow (stable_star (stable_blk h3 (.cells (hC exR3.H) 27)) (stable_star (stable_mem b 8 exS) S8.out)) #[.int .i64 1, .int .u64 0, .bool false]); generalize (World.setRow _ _ _) = w9 at *))
  have K10 := Lib.hid (own_turn Kf.out)
  clear Ke Kf
  clear K8 K9 C3 I8
  have q1 : exR1.H.X 1 = 5 := EX1.out.2.2.2.1
  have a1 := K10.out.right.right.right
  have x1 := blk_cell a1.blk 1 (v := .int .u64 5) (by rw [← q1]; rfl)
  have x2 := blk_cell a1.right.blk 32 (v := .int .u64 4) (by rw [← EX2.out.2.2.2.1]; rfl)
  have x3 := blk_cell K10.out.right.blk 32 (v := .int .u64 8) (by rw [← EX3.out.2.2.2.1]; rfl)
  have y0 := blk_cell a1.right.right.right.blk 0 (v := .int .i64 0) rfl
  have y1 := blk_cell a1.right.right.right.blk 1 (v := .int .u64 0) rfl
  have y2 := blk_cell a1.right.right.right.blk 2 (v := .bool false) rfl
  have z0 := blk_cell a1.right.right.blk 0 (v := .int .i64 5) rfl
  have z1 := blk_cell a1.right.right.blk 1 (v := .int .u64 5) rfl
  have z2 := blk_cell a1.right.right.blk 2 (v := .bool false) rfl
  have v0 := blk_cell K10.out.right.right.blk 0 (v := .int .i64 1) rfl
  have v1 := blk_cell K10.out.right.right.blk 1 (v := .int .u64 0) rfl
  have v2 := blk_cell K10.out.right.right.blk 2 (v := .bool false) rfl
  clear a1 q1
  go_wp2_with fail
  go_ret
  exact ⟨rfl, K10.out.sub⟩
theorem l_shown5 (w : World) (hT : PT w) (hF : FT w) : Calls Tryz.prog 5 #[] w fun e w' => e = .returned (.bool true) ∧ Gr w w' :=
  shown5_g exS rfl exR1 exR2 exR3 rfl rfl rfl ex_1 ex_2 ex_3 ⟨ex_ok.1, ex_ok.2.1, ex_ok.2.2⟩ w hT hF
end Go.Proofs.YtngeabphjdfdgaaGreatDoor.P
