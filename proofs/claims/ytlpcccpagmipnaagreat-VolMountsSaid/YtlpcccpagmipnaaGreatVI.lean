/- Stage 8: a file of an inode. No condition. -/
import Derived.Test.YtlpcccpagmipnaaGreatVB
import Derived.Laws.CopyRow
set_option linter.unusedVariables false
set_option linter.unusedSimpArgs false
set_option maxRecDepth 100000
namespace Go.Proofs.YtlpcccpagmipnaaGreat.P
open Go.RowKit Go.ChangeMaps Go.MapKept
section
variable {w0 w : World} {d : Nat} {z : DState} {l ml : Nat} {st : List (Int × ByteArray)} {D mb n : Nat} {rows : List (Int × ByteArray)} {R : Asn}
theorem nums_one (l : List Nat) : ∀ v ∈ nums l, v.oneCell' = true := fun v hv => by
  obtain ⟨y, _, rfl⟩ := List.mem_map.1 hv
  rfl
theorem ino_cell {x : Ino} (hx : x.pl.length = 6) (j : Nat) (hj : j < 6) : (inoL x).toArray[3 + j]? = some (.int .i64 ((x.pl.getD j 0 : Nat) : Int)) := by
  rw [List.getElem?_toArray]
  unfold inoL
  rw [List.getElem?_append_right (by simp)]
  have := nums_at x.pl j (by omega)
  simpa using this
theorem file_copy {w : World} {F Z : Nat} {x : Ino} (hx : x.pl.length = 6) (hF : w.heap[F]? = some (.cells (filL ⟨x, List.replicate 37 0⟩).toArray 137)) (hZ : w.heap[Z]? = some (.cells (inoL x).toArray 132)) :
    (Builtin.copy_ #[77, 77] 3 #[.slice (some ⟨F, 9, none⟩) 5 37, .slice (some ⟨Z, 3, none⟩) 6 6]).run Tryz.prog w = .ok (goInt 5) (w.setRow F (filL ⟨x, x.pl.take 5 ++ List.replicate 32 0⟩).toArray) := by
  have h5 : (nums (x.pl.take 5)).length = 5 := by rw [nums_len, List.length_take, hx]; rfl
  have := run_copy_row (P := Tryz.prog) w 77 77 3 3 F 9 5 37 ⟨Z, 3, none⟩ 6 6 (filL ⟨x, List.replicate 37 0⟩).toArray 137 (nums (x.pl.take 5)) Tryz.underlying77 (by kernel_rfl) hF (by rw [h5]; rfl) (fun j v hv => by
    have hj : j < 5 := by rw [← h5]; exact (List.getElem?_eq_some_iff.1 hv).1
    have h6 := nums_at (x.pl.take 5) j (by rw [List.length_take, hx]; omega)
    rw [hv] at h6
    have hc := blk_cell hZ (3 + j) (ino_cell hx j (by omega))
    rw [Addr.add_mid, hc, h6]
    rw [List.getD_eq_getElem?_getD, List.getD_eq_getElem?_getD, List.getElem?_take_of_lt hj]) (by rw [h5, List.size_toArray, fil_len hx (by rw [List.length_replicate])]; omega) (nums_one _)
  rw [fil_copy x hx, h5] at this
  exact this
set_option maxHeartbeats 6400000 in
theorem c_vfile (h : Own w0 w (VX d z l ml st D mb rows R)) (hs : Stable R) (hz : LI z n) (hst : okSt (n + 32) st) (x : Ino) (hx : x.pl.length = 6) (hi : x.pl.getD 5 0 < n) :
    Calls Tryz.prog 70 #[.pointer (some ⟨D, 0, none⟩), .agg (inoL x).toArray] w fun e w' => e = .returned (.agg (filL (fileV rows z st x)).toArray) ∧ Own w0 w' (VX d z l ml st D mb rows R) := by
  have hs1 : Stable (Star (ik w.heap.size x) R) := stable_star (stable_blk _ _) hs
  have h1 : Own w0 (w.alloc (.cells (inoL x).toArray 132)) (VX d z l ml st D mb rows (Star (ik w.heap.size x) R)) := h.box4 (stable_vx hs) _
  have HS : Hid (∀ (A B : Nat × Obj), Stable (Star (blkA A.1 A.2) (Star (blkA B.1 B.2) R))) := Lib.hid (fun A B => stable_star (stable_blk _ _) (stable_star (stable_blk _ _) hs))
  have HS1 := Lib.hid hs1
  have H1 := Lib.hid h1
  have HX6 := Lib.hid hx
  have HB2 : Hid (∀ wx, Own w0 wx (VX d z l ml st D mb rows (Star (ik w.heap.size x) R)) → Own w0 (wx.alloc (.cells (filL f0).toArray 137)) (VX d z l ml st D mb rows (Star (fk wx.heap.size f0) (Star (ik w.heap.size x) R)))) := Lib.hid (fun wx hw => hw.box4 (stable_vx hs1) _)
  have HI1 := Lib.hid (ino_infoX x hx)
  have HFI : Hid (∀ l : List Nat, l.length = 37 → (Tryz.prog.info? 137).map (·.size) = some (filL ⟨x, l⟩).toArray.size ∧ (filL ⟨x, l⟩).toArray.all (·.oneCell') = true ∧ (filL f0).toArray.size = (filL ⟨x, l⟩).toArray.size) := Lib.hid (fun l hl => ⟨fil_infoX (f := ⟨x, l⟩) hx hl, fil_one _, by rw [List.size_toArray, List.size_toArray, fil_len (f := ⟨x, l⟩) hx hl]; rfl⟩)
  have HBT := Lib.hid (built_file x hx)
  have HCC : Hid (∀ {wx : World} {F Z : Nat}, wx.heap[F]? = some (.cells (filL ⟨x, List.replicate 37 0⟩).toArray 137) → wx.heap[Z]? = some (.cells (inoL x).toArray 132) → (Builtin.copy_ #[77, 77] 3 #[.slice (some ⟨F, 9, none⟩) 5 37, .slice (some ⟨Z, 3, none⟩) 6 6]).run Tryz.prog wx = .ok (goInt 5) (wx.setRow F (filL ⟨x, x.pl.take 5 ++ List.replicate 32 0⟩).toArray)) := Lib.hid (fun h1 h2 => file_copy hx h1 h2)
  have H37 : Hid ((List.replicate 37 0 : List Nat).length = 37 ∧ (x.pl.take 5 ++ List.replicate 32 0).length = 37 ∧ ∀ L k, k ≤ 32 → (allK x L k).length = 37) := Lib.hid ⟨by rw [List.length_replicate], by rw [List.length_append, List.length_take, List.length_replicate, hx]; rfl, fun L k hk => allK_len x hx L k hk⟩
  have HC8 : Hid ((inoL x).toArray[8]? = some (.int .i64 ((x.pl.getD 5 0 : Nat) : Int))) := Lib.hid (ino_cell hx 5 (by omega))
  have HST := Lib.hid hs
  have CG : Hid (∀ wx (A B C : Nat × Obj), Own w0 wx (VX d z l ml st D mb rows (Star (blkA A.1 A.2) (Star (blkA B.1 B.2) (Star (blkA C.1 C.2) R)))) → Calls Tryz.prog 72 #[.pointer (some ⟨D, 0, none⟩), .int .i64 ((x.pl.getD 5 0 : Nat) : Int)] wx fun e w' => e = .returned (.agg (bcL (rowL rows z st (x.pl.getD 5 0)))) ∧ Own w0 w' (VX d z l ml st D mb rows (Star (blkA A.1 A.2) (Star (blkA B.1 B.2) (Star (blkA C.1 C.2) R))))) := Lib.hid (fun wx A B C ho => c_vget ho (stable_star (stable_blk _ _) (stable_star (stable_blk _ _) (stable_star (stable_blk _ _) hs))) hz hst _ hi)
  have hll := (rowL_len h hz hst hi).1
  have HC1 := Lib.hid (bc_info _ hll)
  have HC2 := Lib.hid (bcL_all1 (rowL rows z st (x.pl.getD 5 0)))
  have HC3 : Hid ((bcL zL).size = (bcL (rowL rows z st (x.pl.getD 5 0))).size) := Lib.hid (by rw [bcL_size, bcL_size, hll]; rfl)
  have HLL := Lib.hid hll
  have HSET : Hid (∀ L k, k < 32 → (filL ⟨x, allK x L k⟩).toArray.setIfInBounds (9 + (5 + k)) (.int .i64 (b2 L (2 * k) : Int)) = (filL ⟨x, allK x L (k + 1)⟩).toArray) := Lib.hid (fun L k hk => by
    rw [fil_set x hx _ (5 + k) _ (by rw [allK_len x hx L k (by omega)]; omega), allK_set x hx L k hk])
  have HFV : Hid (fileV rows z st x = ⟨x, bif decide (x.pl.getD 5 0 = 0) then x.pl.take 5 ++ List.replicate 32 0 else allK x (rowL rows z st (x.pl.getD 5 0)) 32⟩) := Lib.hid rfl
  have hA0 : Hid (allK x (rowL rows z st (x.pl.getD 5 0)) 0 = x.pl.take 5 ++ List.replicate 32 0) := Lib.hid rfl
  have hi512 : x.pl.getD 5 0 < 512 := by have := hz.hi; omega
  clear h hs hs1 h1 hx hll hi hst hz
  generalize fileV rows z st x = FV at *
  generalize rowL rows z st (x.pl.getD 5 0) = L at *
  generalize x.pl.getD 5 0 = p at *
  go_enter Tryz.func70, Tryz.ntmps70
  go_upto_region 1 with (refine wpList_alloc_blk rfl 137 (filL f0).toArray rfl (fil_zero _) ?_)
  have H2 := Lib.hid (HB2.out _ H1.out)
  clear HB2
  generalize (w.alloc _) = wA at *
  generalize w.heap.size = Z at *
  generalize (wA.alloc _) = wB at *
  generalize wA.heap.size = RZ at *
  clear H1
  obtain ⟨r1, r2, r3⟩ := HFI.out _ H37.out.1
  have H3 := Lib.hid (H2.out.box4 (stable_vx (stable_star (stable_blk _ _) HS1.out)) (.cells (filL f0).toArray 137))
  have H4 := Lib.hid ((H3.out.out4.setRow (stable_vx (stable_star (stable_blk _ _) HS1.out)) (filL ⟨x, List.replicate 37 0⟩).toArray).in4)
  go_upto_region 2 with (first
    | (refine wpList_load_row rfl _ _ rfl Z rfl _ (inoL x).toArray (0, 0) _ H2.out.swapR.out4.blk Tryz.underlying132 rfl HI1.out ?_)
    | (refine wpList_build1 rfl _ _ _ rfl _ rfl _ HBT.out ?_)
    | (refine wpList_alloc_blk rfl 137 (filL f0).toArray rfl (fil_zero _) ?_)
    | (refine wpList_store_row rfl _ _ _ rfl wB.heap.size (filL ⟨x, List.replicate 37 0⟩).toArray rfl rfl _ _ H3.out.out4.blk r1 r3 r2 ?_))
  generalize (World.setRow _ _ _) = wC at *
  generalize wB.heap.size = F at *
  clear H2 H3 r1 r2 r3
  have H4d := Lib.hid (H4.out.drew (stable_vx (stable_star (stable_blk _ _) (stable_star (stable_blk _ _) HS1.out))))
  have HCP := Lib.hid (HCC.out H4d.out.out4.blk (H4d.out.swapR.unbox4.swapR.out4.blk))
  have H5 := Lib.hid ((H4d.out.out4.setRow (stable_vx (stable_star (stable_blk _ _) HS1.out)) (filL ⟨x, x.pl.take 5 ++ List.replicate 32 0⟩).toArray).in4)
  go_still_tail 4, (by kernel_rfl)
  go_upto_region 3 with (refine wpList_copy rfl _ _ 77 77 rfl _ _ rfl rfl HCP.out ?_)
  generalize (World.setRow _ _ _) = wD at *
  clear H4 H4d HCP HBT HCC
  have cz := blk_cell H5.out.out4.right.out4.right.out4.blk 8 HC8.out
  obtain ⟨s1, s2, s3⟩ := HFI.out _ H37.out.2.1
  by_cases hp : p = 0
  · subst hp
    have H9 := Lib.hid ((H5.out.swapR.out4.setRow (stable_vx (stable_star (stable_blk _ _) HS1.out)) (filL ⟨x, x.pl.take 5 ++ List.replicate 32 0⟩).toArray).in4)
    have HFE : Hid (FV = ⟨x, x.pl.take 5 ++ List.replicate 32 0⟩) := Lib.hid HFV.out
    generalize x.pl.take 5 ++ List.replicate 32 0 = A1 at *
    go_wp2_with (first
      | (refine wpList_load_row rfl _ _ rfl F rfl _ (filL ⟨x, A1⟩).toArray (0, 0) _ H5.out.out4.blk Tryz.underlying137 rfl s1 ?_)
      | (refine wpList_store_row rfl _ _ _ rfl RZ (filL ⟨x, A1⟩).toArray rfl rfl _ _ H5.out.swapR.out4.blk s1 s3 s2 ?_))
    refine bodyPost_ret (results_cell_row rfl _ _ RZ _ (filL ⟨x, A1⟩).toArray (0, 0) _ rfl H9.out.out4.blk Tryz.underlying137 rfl s1) rfl ?_
    exact ⟨by rw [HFE.out], H9.out.unbox4.unbox4.unbox4⟩
  · have hpb : ((p : Int) != 0) = true := by simpa using hp
    have hp2 : ¬ (p : Int) = 0 := by omega
    have HFE : Hid (FV = ⟨x, allK x L 32⟩) := Lib.hid (by rw [HFV.out, decide_eq_false hp]; rfl)
    have CG2 := Lib.hid (CG.out wD (F, .cells (filL ⟨x, x.pl.take 5 ++ List.replicate 32 0⟩).toArray 137) (RZ, .cells (filL f0).toArray 137) (Z, .cells (inoL x).toArray 132) H5.out)
    rw [← hA0.out] at CG2
    have HBX : Hid (∀ wx, Own w0 wx (VX d z l ml st D mb rows (Star (fk F ⟨x, allK x L 0⟩) (Star (fk RZ f0) (Star (ik Z x) R)))) → Own w0 (wx.alloc (.cells (bcL zL) 83)) (VX d z l ml st D mb rows (Star (bk wx.heap.size zL) (Star (fk F ⟨x, allK x L 0⟩) (Star (fk RZ f0) (Star (ik Z x) R))))) ∧ Own w0 ((wx.alloc (.cells (bcL zL) 83)).setRow wx.heap.size (bcL L)) (VX d z l ml st D mb rows (Star (bk wx.heap.size L) (Star (fk F ⟨x, allK x L 0⟩) (Star (fk RZ f0) (Star (ik Z x) R)))))) := Lib.hid (fun wx hw => ⟨hw.box4 (stable_vx (stable_star (stable_blk _ _) (stable_star (stable_blk _ _) HS1.out))) _, ((hw.box4 (stable_vx (stable_star (stable_blk _ _) (stable_star (stable_blk _ _) HS1.out))) _).out4.setRow (stable_vx (stable_star (stable_blk _ _) (stable_star (stable_blk _ _) HS1.out))) _).in4⟩)
    clear CG HFV hp H5 hA0 s1 s2 s3
    generalize x.pl.take 5 ++ List.replicate 32 0 = A1 at *
    go_upto_region 6 with (first
      | (go_at_call 72; refine CG2.out.mono ?_; rintro e w2 ⟨rfl, h2⟩; have H2 := Lib.hid h2; clear h2)
      | (refine wpList_alloc_blk rfl 83 (bcL zL) rfl (blk_zero _) ?_)
      | (refine wpList_store_row rfl _ _ _ rfl w2.heap.size (bcL L) rfl rfl _ _ (HBX.out _ H2.out).1.out4.blk HC1.out HC3.out HC2.out ?_))
    have H3 := Lib.hid (HBX.out _ H2.out).2
    clear CG2 cz HBX hpb
    generalize (World.setRow _ _ _) = w3 at *
    generalize w2.heap.size = G at *
    go_wp2_with fail
    go_loopw [24] (fun v wr => ∃ k : Nat, k ≤ 32 ∧ v = .int .i64 k ∧ Own w0 wr (VX d z l ml st D mb rows (Star (bk G L) (Star (fk F ⟨x, allK x L k⟩) (Star (fk RZ f0) (Star (ik Z x) R)))))) (fun v _ => 32 - (intOf v).toNat)
    case atStart => exact ⟨0, by omega, rfl, H3.out⟩
    case round =>
      obtain ⟨k, hk, rfl, ho⟩ := hrel
      have HO := Lib.hid ho
      clear ho H3 H2
      by_cases hlt : k < 32
      · have dl : decide (k < 32) = true := decide_eq_true hlt
        have k4 : (k : Int) < 32 := by omega
        have CN := Lib.hid (c_number HO.out.out4 HLL.out 0 64 64 (2 * k) (by omega) (by omega) (by omega))
        rw [Nat.zero_add] at CN
        have e4 : 2 * (k : Int) = ((2 * k : Nat) : Int) := by omega
        rw [← e4] at CN
        have hsz : (filL ⟨x, allK x L k⟩).toArray.size = 46 := by rw [List.size_toArray, fil_len (f := ⟨x, allK x L k⟩) HX6.out (H37.out.2.2 _ _ hk)]
        obtain ⟨v0, hv0⟩ : ∃ v, (filL ⟨x, allK x L k⟩).toArray[9 + (5 + k)]? = some v := ⟨_, Array.getElem?_eq_getElem (by rw [hsz]; omega)⟩
        have hF := HO.out.swapR.out4.blk
        have cF := blk_cell hF (9 + (5 + k)) hv0
        have zF := blk_frozen hF (9 + (5 + k))
        have HP := Lib.hid (HO.out.swapR.out4.put8 (stable_vx (stable_star (stable_blk _ _) (stable_star (stable_blk _ _) HS1.out))) (9 + (5 + k)) (.int .i64 (b2 L (2 * k) : Int)) _ (HSET.out L k hlt)).in4.swapR
        have k5 : (5 + (k : Int)).toNat = 5 + k := by omega
        have k6 : 5 + (k : Int) < 37 := by omega
        have k7 : 0 ≤ 5 + (k : Int) := by omega
        clear e4 hF hsz hv0
        generalize b2 L (2 * k) = bv at *
        go_wp2_with (go_at_call 104; refine CN.out.mono ?_; rintro e w' ⟨rfl, hw'⟩; rw [hw']; clear hw' w')
        go_roundw
        case rel => exact ⟨k + 1, by omega, by go_num, HP.out⟩
        case measure => simp [intOf]; omega
      · obtain rfl : k = 32 := by omega
        obtain ⟨s1, s2, s3⟩ := HFI.out _ (H37.out.2.2 L 32 (by omega))
        have H6 := Lib.hid HO.out.unbox4
        have H9 := Lib.hid ((H6.out.swapR.out4.setRow (stable_vx (stable_star (stable_blk _ _) HS1.out)) (filL ⟨x, allK x L 32⟩).toArray).in4)
        generalize allK x L 32 = A2 at *
        go_wp2_with (first
          | (refine wpList_load_row rfl _ _ rfl F rfl _ (filL ⟨x, A2⟩).toArray (0, 0) _ H6.out.out4.blk Tryz.underlying137 rfl s1 ?_)
          | (refine wpList_store_row rfl _ _ _ rfl RZ (filL ⟨x, A2⟩).toArray rfl rfl _ _ H6.out.swapR.out4.blk s1 s3 s2 ?_))
        refine bodyPost_ret (results_cell_row rfl _ _ RZ _ (filL ⟨x, A2⟩).toArray (0, 0) _ rfl H9.out.out4.blk Tryz.underlying137 rfl s1) rfl ?_
        exact ⟨by rw [HFE.out], H9.out.unbox4.unbox4.unbox4⟩
end
end Go.Proofs.YtlpcccpagmipnaaGreat.P
namespace Go.Proofs.YtlpcccpagmipnaaGreat.P
open Go.RowKit Go.ChangeMaps Go.MapKept
/-- The indirect sector, k numbers of it. -/
def indK (f : Fil) : Nat → List UInt8
  | 0 => zL
  | k + 1 => put2 (indK f k) (2 * k) (f.all.getD (5 + k) 0)
theorem indK_len (f : Fil) : ∀ k, k ≤ 32 → (indK f k).length = 64
  | 0, _ => rfl
  | k + 1, hk => by
    have ih := indK_len f k (by omega)
    unfold indK
    rw [put2_len _ (by rw [ih]; omega), ih]
def pI (f : Fil) : Ino := { f.ino with pl := f.all.take 5 ++ [f.ino.pl.getD 5 0] }
theorem pI_len {f : Fil} (h : f.all.length = 37) : (pI f).pl.length = 6 := by
  show (f.all.take 5 ++ [f.ino.pl.getD 5 0]).length = 6
  rw [List.length_append, List.length_take, h]; rfl
theorem fil_copy2 (f : Fil) (hx : f.ino.pl.length = 6) (h37 : f.all.length = 37) : ((filL f).toArray.toList.take 3 ++ nums (f.all.take 5) ++ (filL f).toArray.toList.drop (3 + (nums (f.all.take 5)).length)).toArray = (filL ⟨pI f, f.all⟩).toArray := by
  congr 1
  have h5 : (f.all.take 5).length = 5 := by rw [List.length_take, h37]; rfl
  rw [nums_len, h5]
  show (filL f).take 3 ++ _ ++ (filL f).drop 8 = _
  obtain ⟨⟨kd, lk, sz, pl⟩, al⟩ := f
  dsimp only at *
  obtain ⟨a, b, c, d, e, g, rfl⟩ := six hx
  unfold filL pI inoL
  rw [nums_app]
  simp [nums]
theorem fil_at {f : Fil} (hx : f.ino.pl.length = 6) (j : Nat) (hj : j < f.all.length) : (filL f).toArray[9 + j]? = some (.int .i64 ((f.all.getD j 0 : Nat) : Int)) := by
  rw [List.getElem?_toArray]
  unfold filL
  rw [List.getElem?_append_right (by rw [inoL_len hx]; omega), inoL_len hx, show 9 + j - 9 = j by omega]
  exact nums_at f.all j hj
theorem file_copy2 {w : World} {F : Nat} {f : Fil} (hx : f.ino.pl.length = 6) (h37 : f.all.length = 37) (hF : w.heap[F]? = some (.cells (filL f).toArray 137)) :
    (Builtin.copy_ #[77, 77] 3 #[.slice (some ⟨F, 3, none⟩) 5 6, .slice (some ⟨F, 9, none⟩) 37 37]).run Tryz.prog w = .ok (goInt 5) (w.setRow F (filL ⟨pI f, f.all⟩).toArray) := by
  have h5 : (nums (f.all.take 5)).length = 5 := by rw [nums_len, List.length_take, h37]; rfl
  have := run_copy_row (P := Tryz.prog) w 77 77 3 3 F 3 5 6 ⟨F, 9, none⟩ 37 37 (filL f).toArray 137 (nums (f.all.take 5)) Tryz.underlying77 (by kernel_rfl) hF (by rw [h5]; rfl) (fun j v hv => by
    have hj : j < 5 := by rw [← h5]; exact (List.getElem?_eq_some_iff.1 hv).1
    have h6 := nums_at (f.all.take 5) j (by rw [List.length_take, h37]; omega)
    rw [hv] at h6
    have hc := blk_cell hF (9 + j) (fil_at hx j (by omega))
    rw [Addr.add_mid, hc, h6]
    rw [List.getD_eq_getElem?_getD, List.getD_eq_getElem?_getD, List.getElem?_take_of_lt hj]) (by rw [h5, List.size_toArray, fil_len hx h37]; omega) (nums_one _)
  rw [fil_copy2 f hx h37, h5] at this
  exact this
def okF (f : Fil) : Prop := f.ino.pl.length = 6 ∧ f.all.length = 37 ∧ okI (pI f) ∧ ∀ k, k < 37 → f.all.getD k 0 < 65536
def putF1 (rows : List (Int × ByteArray)) (f : Fil) : List (Int × ByteArray) := bif decide (f.ino.pl.getD 5 0 = 0) then rows else putS ((f.ino.pl.getD 5 0 : Nat) : Int) ⟨(indK f 32).toArray⟩ rows
def putF (rows : List (Int × ByteArray)) (z : DState) (st : List (Int × ByteArray)) (k : Nat) (f : Fil) : List (Int × ByteArray) := putR (putF1 rows f) z st k (pI f)
theorem putS_le8 (i : Int) (s : ByteArray) : ∀ l : List (Int × ByteArray), (putS i s l).length ≤ l.length + 1
  | [] => Nat.le_refl _
  | a :: l => by
    rw [putS]
    split
    · have := putS_le8 i s l; simp only [List.length_cons]; omega
    · split
      · simp only [List.length_cons]; omega
      · simp only [List.length_cons]; omega
section
variable {w0 w : World} {d : Nat} {z : DState} {l ml : Nat} {st : List (Int × ByteArray)} {D mb n : Nat} {rows : List (Int × ByteArray)} {R : Asn}
set_option maxHeartbeats 6400000 in
theorem c_vputFile (h : Own w0 w (VX d z l ml st D mb rows R)) (hs : Stable R) (hz : LI z n) (hst : okSt (n + 32) st) (hn : rows.length ≤ 1000) (k : Nat) (hk : k < 32) (f : Fil) (hf : okF f) (hi : f.ino.pl.getD 5 0 < n) :
    Calls Tryz.prog 81 #[.pointer (some ⟨D, 0, none⟩), .int .i64 (k : Int), .agg (filL f).toArray] w fun e w' => e = .returned (.tuple #[]) ∧ Own w0 w' (VX d z l ml st D mb (putF rows z st k f) R) := by
  obtain ⟨hx, h37, hok, h65⟩ := hf
  have hhi := hz.hi
  have hs1 : Stable (Star (fk w.heap.size f) R) := stable_star (stable_blk _ _) hs
  have h1 : Own w0 (w.alloc (.cells (filL f).toArray 137)) (VX d z l ml st D mb rows (Star (fk w.heap.size f) R)) := h.box4 (stable_vx hs) _
  have H1d := Lib.hid (h1.drew (stable_vx hs1))
  have HCP := Lib.hid (file_copy2 hx h37 H1d.out.out4.blk)
  have H2 : Hid (Own w0 _ (VX d z l ml st D mb rows (Star (fk w.heap.size ⟨pI f, f.all⟩) R))) := Lib.hid ((H1d.out.out4.setRow (stable_vx hs) (filL ⟨pI f, f.all⟩).toArray).in4)
  have hp5 : (pI f).pl.getD 5 0 = f.ino.pl.getD 5 0 := by
    show (f.all.take 5 ++ [f.ino.pl.getD 5 0]).getD 5 0 = _
    rw [List.getD_eq_getElem?_getD, List.getElem?_append_right (by rw [List.length_take, h37]; decide), List.length_take, h37]; rfl
  have HC8 : Hid ((filL ⟨pI f, f.all⟩).toArray[8]? = some (.int .i64 ((f.ino.pl.getD 5 0 : Nat) : Int))) := Lib.hid (by
    have := ino_cell (pI_len h37) 5 (by omega)
    rw [hp5] at this
    rw [← this, List.getElem?_toArray, List.getElem?_toArray]
    unfold filL
    rw [List.getElem?_append_left (by rw [inoL_len (pI_len h37)]; omega)])
  have HCA : Hid (∀ j, j < 37 → (filL ⟨pI f, f.all⟩).toArray[9 + j]? = some (.int .i64 ((f.all.getD j 0 : Nat) : Int))) := Lib.hid (fun j hj => fil_at (f := ⟨pI f, f.all⟩) (pI_len h37) j (by rw [h37]; exact hj))
  have HLD : Hid (∀ {wx : World} {F : Nat}, wx.heap[F]? = some (.cells (filL ⟨pI f, f.all⟩).toArray 137) → wx.rangeAt F 0 (inoL (pI f))) := Lib.hid (fun hF j v hv => by
    rw [Nat.zero_add]
    refine blk_cell hF j ?_
    rw [List.getElem?_toArray]
    unfold filL
    rw [List.getElem?_append_left ((List.getElem?_eq_some_iff.1 hv).1)]
    exact hv)
  have HIL : Hid ((inoL (pI f)).length = 9) := Lib.hid (inoL_len (pI_len h37))
  have HPI : Hid (∀ wx rows', rows'.length ≤ 100000 → Own w0 wx (VX d z l ml st D mb rows' R) → Calls Tryz.prog 76 #[.pointer (some ⟨D, 0, none⟩), .int .i64 (k : Int), .agg (inoL (pI f)).toArray] wx fun e w' => e = .returned (.tuple #[]) ∧ Own w0 w' (VX d z l ml st D mb (putR rows' z st k (pI f)) R)) := Lib.hid (fun wx rows' hr ho => c_vputInode ho hs hz hst hr k hk (pI f) hok)
  have HPN : Hid (∀ j wx G F, j < 32 → Own w0 wx (VX d z l ml st D mb rows (Star (bk G (indK f j)) (Star (fk F ⟨pI f, f.all⟩) R))) → Calls Tryz.prog 115 #[.slice (some ⟨G, 0, none⟩) 64 64, .int .i64 ((2 * j : Nat) : Int), .int .i64 ((f.all.getD (5 + j) 0 : Nat) : Int)] wx fun e w' => e = .returned (.tuple #[]) ∧ Own w0 w' (VX d z l ml st D mb rows (Star (bk G (indK f (j + 1))) (Star (fk F ⟨pI f, f.all⟩) R)))) := Lib.hid (fun j wx G F hj ho => (c_putNumber ho.out4 (stable_vx (stable_star (stable_blk _ _) hs)) (indK_len f j (by omega)) 0 64 64 (2 * j) (f.all.getD (5 + j) 0) (by omega) (by omega) (by omega) (by omega) (h65 _ (by omega))).mono (by
    rintro e w' ⟨rfl, k2⟩
    rw [Nat.zero_add] at k2
    exact ⟨rfl, k2.in4⟩))
  have HPU : Hid (∀ wx G F, Own w0 wx (VX d z l ml st D mb rows (Star (bk G (indK f 32)) (Star (fk F ⟨pI f, f.all⟩) R))) → Calls Tryz.prog 80 #[.pointer (some ⟨D, 0, none⟩), .int .i64 ((f.ino.pl.getD 5 0 : Nat) : Int), .agg (bcL (indK f 32))] wx fun e w' => e = .returned (.tuple #[]) ∧ Own w0 w' (VX d z l ml st D mb (putS ((f.ino.pl.getD 5 0 : Nat) : Int) ⟨(indK f 32).toArray⟩ rows) (Star (fk F ⟨pI f, f.all⟩) R))) := Lib.hid (fun wx G F ho => c_vput ho.unbox4 (stable_star (stable_blk _ _) hs) (by omega) _ (by omega) ⟨(indK f 32).toArray⟩ (by
    show (List.toArray _).size = 64
    rw [List.size_toArray, indK_len f 32 (Nat.le_refl _)]))
  have HST := Lib.hid hs
  have HLN := Lib.hid (bc_info _ (indK_len f 32 (Nat.le_refl _)))
  have hlen : (putS ((f.ino.pl.getD 5 0 : Nat) : Int) ⟨(indK f 32).toArray⟩ rows).length ≤ 100000 := by
    have := putS_le8 ((f.ino.pl.getD 5 0 : Nat) : Int) ⟨(indK f 32).toArray⟩ rows
    omega
  have HF1 : Hid (putF rows z st k f = putR (bif decide (f.ino.pl.getD 5 0 = 0) then rows else putS ((f.ino.pl.getD 5 0 : Nat) : Int) ⟨(indK f 32).toArray⟩ rows) z st k (pI f)) := Lib.hid rfl
  clear h hs h1 hx h37 hok h65 hz hst hp5 hs1
  generalize putF rows z st k f = RF at *
  generalize f.ino.pl.getD 5 0 = p at *
  go_enter Tryz.func81, Tryz.ntmps81
  go_upto_region 1 with fail
  generalize World.alloc w _ = wA at *
  generalize w.heap.size = F at *
  go_still_tail 5, (by kernel_rfl)
  go_upto_region 2 with (refine wpList_copy rfl _ _ 77 77 rfl _ _ rfl rfl HCP.out ?_)
  generalize (World.setRow _ _ _) = wB at *
  clear HCP H1d
  have cz := blk_cell H2.out.out4.blk 8 HC8.out
  by_cases hp : p = 0
  · subst hp
    rw [decide_eq_true rfl, cond_true] at HF1
    have HPJ := Lib.hid (fun wx ho => HPI.out wx rows (by omega) ho)
    have hLM := HLD.out H2.out.out4.blk
    clear HPN HPU hlen
    go_wp2_with (first
      | (refine wpList_load_mid rfl _ _ rfl F 0 rfl (inoL (pI f)) _ hLM Tryz.underlying132 rfl (by rw [HIL.out]; exact ino_info) ?_)
      | (go_at_call 76; refine (HPJ.out _ H2.out.unbox4).mono ?_; rintro e w5 ⟨rfl, h5⟩; have H5 := Lib.hid h5; clear h5))
    refine bodyPost_end (results_none rfl _ _ _) rfl ?_
    exact ⟨rfl, by rw [HF1.out]; exact H5.out⟩
  · have hp2 : ¬ (p : Int) = 0 := by omega
    have hpb : ((p : Int) != 0) = true := by simpa using hp
    rw [decide_eq_false hp, cond_false] at HF1
    have HPJ := Lib.hid (fun wx ho => HPI.out wx _ hlen ho)
    clear HPI hlen hp
    have H3 : Hid (Own w0 (wB.alloc (.cells (bcL zL) 83)) (VX d z l ml st D mb rows (Star (bk wB.heap.size (indK f 0)) (Star (fk F ⟨pI f, f.all⟩) R)))) := Lib.hid (H2.out.box4 (stable_vx (stable_star (stable_blk _ _) HST.out)) _)
    go_upto_region 5 with (refine wpList_alloc_blk rfl 83 (bcL zL) rfl (blk_zero _) ?_)
    clear cz H2
    generalize wB.heap.size = G at *
    generalize wB.alloc _ = wC at *
    go_wp2_with fail
    go_loopw [21] (fun v wr => ∃ j : Nat, j ≤ 32 ∧ v = .int .i64 j ∧ Own w0 wr (VX d z l ml st D mb rows (Star (bk G (indK f j)) (Star (fk F ⟨pI f, f.all⟩) R)))) (fun v _ => 32 - (intOf v).toNat)
    case atStart => exact ⟨0, by omega, rfl, H3.out⟩
    case round =>
      obtain ⟨j, hj, rfl, ho⟩ := hrel
      have HO := Lib.hid ho
      clear ho H3
      by_cases hlt : j < 32
      · have dl : decide (j < 32) = true := decide_eq_true hlt
        have k4 : (j : Int) < 32 := by omega
        have HOd := Lib.hid (HO.out.drew (stable_vx (stable_star (stable_blk _ _) (stable_star (stable_blk _ _) HST.out))))
        have CN := Lib.hid (HPN.out j _ G F hlt HOd.out)
        have e4 : 2 * (j : Int) = ((2 * j : Nat) : Int) := by omega
        rw [← e4] at CN
        have cA := blk_cell HO.out.swapR.out4.blk (9 + (5 + j)) (HCA.out (5 + j) (by omega))
        have k5 : (5 + (j : Int)).toNat = 5 + j := by omega
        have k6 : 5 + (j : Int) < 37 := by omega
        have k7 : 0 ≤ 5 + (j : Int) := by omega
        have k8 : IntKind.i64.wrap (5 + (j : Int)) = 5 + (j : Int) := IntWalk.i64_in _ (by omega)
        have k9 : IntKind.i64.wrap (2 * (j : Int)) = 2 * (j : Int) := IntWalk.i64_in _ (by omega)
        clear e4
        generalize f.all.getD (5 + j) 0 = av at *
        go_upto_region 8 with fail
        go_still_tail 8, (by kernel_rfl)
        go_wp2_with (go_at_call 115; refine CN.out.mono ?_; rintro e w5 ⟨rfl, h5⟩; have H5 := Lib.hid h5; clear h5)
        go_roundw
        case rel => exact ⟨j + 1, by omega, by go_num, H5.out⟩
        case measure => simp [intOf]; omega
      · obtain rfl : j = 32 := by omega
        have CU := Lib.hid (HPU.out _ _ _ HO.out)
        have e6 := HO.out.out4.blk
        generalize indK f 32 = LI at *
        go_upto_region 11 with (first
          | (refine wpList_load_row rfl _ _ rfl G rfl _ (bcL LI) (0, 0) _ e6 Tryz.underlying83 rfl HLN.out ?_)
          | (go_at_call 80; refine CU.out.mono ?_; rintro e w6 ⟨rfl, h6⟩; have H6 := Lib.hid h6; clear h6))
        have hLM := HLD.out H6.out.out4.blk
        go_wp2_with (first
          | (refine wpList_load_mid rfl _ _ rfl F 0 rfl (inoL (pI f)) _ hLM Tryz.underlying132 rfl (by rw [HIL.out]; exact ino_info) ?_)
          | (go_at_call 76; refine (HPJ.out _ H6.out.unbox4).mono ?_; rintro e w7 ⟨rfl, h7⟩; have H7 := Lib.hid h7; clear h7))
        refine bodyPost_end (results_none rfl _ _ _) rfl ?_
        exact ⟨rfl, by rw [HF1.out]; exact H7.out⟩
end
end Go.Proofs.YtlpcccpagmipnaaGreat.P
namespace Go.Proofs.YtlpcccpagmipnaaGreat.P
open Go.RowKit Go.ChangeMaps Go.MapKept
abbrev uk (B : Nat) (L : List UInt8) : Asn := blkA B (.cells (bcL L) 84)
theorem setB_len (L : List UInt8) (i : Nat) (b : Bool) : (setB L i b).length = L.length := by unfold setB; rw [List.length_set]
/-- What is used, and the file's sectors, once k sectors from c on are given back. -/
def shK (L : List UInt8) (a : List Nat) (c : Nat) : Nat → List UInt8 × List Nat
  | 0 => (L, a)
  | k + 1 => (setB (shK L a c k).1 (a.getD (c + k) 0) false, (shK L a c k).2.set (c + k) 0)
theorem shK_len (L : List UInt8) (a : List Nat) (c : Nat) : ∀ k, (shK L a c k).1.length = L.length ∧ (shK L a c k).2.length = a.length
  | 0 => ⟨rfl, rfl⟩
  | k + 1 => by
    have ih := shK_len L a c k
    unfold shK
    exact ⟨by rw [setB_len, ih.1], by rw [List.length_set, ih.2]⟩
theorem shK_later (L : List UInt8) (a : List Nat) (c : Nat) : ∀ k j, c + k ≤ j → (shK L a c k).2.getD j 0 = a.getD j 0
  | 0, j, _ => rfl
  | k + 1, j, hj => by
    have ih := shK_later L a c k j (by omega)
    unfold shK
    rw [List.getD_eq_getElem?_getD, List.getElem?_set_ne (by omega), ← List.getD_eq_getElem?_getD]
    exact ih
def shF (L : List UInt8) (f : Fil) (size : Nat) : List UInt8 × Fil :=
  bif !decide (f.ino.pl.getD 5 0 = 0) && decide (cntN size ≤ 5) then (setB (shK L f.all (cntN size) (cntN f.ino.size - cntN size)).1 (f.ino.pl.getD 5 0) false, ⟨{ f.ino with size := size, pl := f.ino.pl.set 5 0 }, (shK L f.all (cntN size) (cntN f.ino.size - cntN size)).2⟩)
  else ((shK L f.all (cntN size) (cntN f.ino.size - cntN size)).1, ⟨{ f.ino with size := size }, (shK L f.all (cntN size) (cntN f.ino.size - cntN size)).2⟩)
theorem fil_set5 (f : Fil) (hx : f.ino.pl.length = 6) (v : Nat) : (filL f).toArray.setIfInBounds 8 (.int .i64 (v : Int)) = (filL ⟨{ f.ino with pl := f.ino.pl.set 5 v }, f.all⟩).toArray := by
  obtain ⟨⟨kd, lk, sz, pl⟩, al⟩ := f
  dsimp only at *
  obtain ⟨a, b, c, d, e, g, rfl⟩ := six hx
  rw [List.setIfInBounds_toArray]
  rfl
theorem fil_setS (f : Fil) (v : Nat) : (filL f).toArray.setIfInBounds 2 (.int .i64 (v : Int)) = (filL ⟨{ f.ino with size := v }, f.all⟩).toArray := by
  rw [List.setIfInBounds_toArray]
  rfl
theorem fil_cell8 {f : Fil} (hx : f.ino.pl.length = 6) : (filL f).toArray[8]? = some (.int .i64 ((f.ino.pl.getD 5 0 : Nat) : Int)) := by
  obtain ⟨⟨kd, lk, sz, pl⟩, al⟩ := f
  dsimp only at *
  obtain ⟨a, b, c, d, e, g, rfl⟩ := six hx
  rfl
theorem fil_cell2 (f : Fil) : (filL f).toArray[2]? = some (.int .i64 (f.ino.size : Int)) := rfl
section
variable {w0 w : World} {d : Nat} {z : DState} {l ml : Nat} {st : List (Int × ByteArray)} {D mb n : Nat} {rows : List (Int × ByteArray)} {R : Asn}
theorem cnt_le (s : Nat) (h : s ≤ 2368) : cntN s ≤ 37 := by unfold cntN; omega
set_option maxHeartbeats 6400000 in
theorem c_vshrink {F : Nat} {f : Fil} (h : Own w0 w (VX d z l ml st D mb rows (Star (fk F f) R))) (hs : Stable R) (hz : LI z n) (hst : okSt (n + 32) st) (hn : rows.length ≤ 1000) (hx : f.ino.pl.length = 6) (h37 : f.all.length = 37) (hsz : f.ino.size ≤ 2368) (size : Nat) (hle : size ≤ f.ino.size) (ha : ∀ j, j < cntN f.ino.size → f.all.getD j 0 < 512) (hp5 : f.ino.pl.getD 5 0 < 512) :
    Calls Tryz.prog 82 #[.pointer (some ⟨D, 0, none⟩), .pointer (some ⟨F, 0, none⟩), .int .i64 (size : Int)] w fun e w' => e = .returned (.tuple #[]) ∧ Own w0 w' (VX d z l ml st D mb (putS 0 ⟨(shF (rowL rows z st 0) f size).1.toArray⟩ rows) (Star (fk F (shF (rowL rows z st 0) f size).2) R)) := by
  have hll := (rowL_len h hz hst (i := 0) (by have := hz.lo; omega)).1
  have hsF : Stable (Star (fk F f) R) := stable_star (stable_blk _ _) hs
  have CU := Lib.hid (c_used h hsF hz hst)
  have hc1 := cnt_le f.ino.size hsz
  have hc2 : cntN size ≤ cntN f.ino.size := by unfold cntN; omega
  have SR : Hid (∀ g : Fil, Stable (Star (fk F g) R)) := Lib.hid (fun g => stable_star (stable_blk _ _) hs)
  have SU : Hid (∀ U L, Stable (Star (uk U L) R)) := Lib.hid (fun U L => stable_star (stable_blk _ _) hs)
  have CC1 := Lib.hid (fun wx => c_count size (by omega) wx)
  have CC2 := Lib.hid (fun wx => c_count f.ino.size (by omega) wx)
  have HBX : Hid (∀ wx, Own w0 wx (VX d z l ml st D mb rows (Star (fk F f) R)) → Own w0 (wx.alloc (.cells (bcL zL) 84)) (VX d z l ml st D mb rows (Star (uk wx.heap.size zL) (Star (fk F f) R))) ∧ Own w0 ((wx.alloc (.cells (bcL zL) 84)).setRow wx.heap.size (bcL (rowL rows z st 0))) (VX d z l ml st D mb rows (Star (uk wx.heap.size (rowL rows z st 0)) (Star (fk F f) R)))) := Lib.hid (fun wx hw => ⟨hw.box4 (stable_vx hsF) _, ((hw.box4 (stable_vx hsF) _).out4.setRow (stable_vx hsF) _).in4⟩)
  have HC1 : Hid ((Tryz.prog.info? 84).map (·.size) = some (bcL (rowL rows z st 0)).size) := Lib.hid (by rw [bcL_size, hll]; exact bits_info)
  have HC2 := Lib.hid (bcL_all1 (rowL rows z st 0))
  have HC3 : Hid ((bcL zL).size = (bcL (rowL rows z st 0)).size) := Lib.hid (by rw [bcL_size, bcL_size, hll]; rfl)
  have HLEN : Hid (∀ k, (shK (rowL rows z st 0) f.all (cntN size) k).1.length = 64 ∧ (shK (rowL rows z st 0) f.all (cntN size) k).2.length = 37) := Lib.hid (fun k => by
    have := shK_len (rowL rows z st 0) f.all (cntN size) k
    rw [hll, h37] at this
    exact this)
  have HLAT : Hid (∀ k, (shK (rowL rows z st 0) f.all (cntN size) k).2.getD (cntN size + k) 0 = f.all.getD (cntN size + k) 0) := Lib.hid (fun k => shK_later _ _ _ k _ (Nat.le_refl _))
  have HSU : Hid (∀ k, shK (rowL rows z st 0) f.all (cntN size) (k + 1) = (setB (shK (rowL rows z st 0) f.all (cntN size) k).1 (f.all.getD (cntN size + k) 0) false, (shK (rowL rows z st 0) f.all (cntN size) k).2.set (cntN size + k) 0)) := Lib.hid (fun k => rfl)
  have HSH : Hid (shF (rowL rows z st 0) f size = bif !decide (f.ino.pl.getD 5 0 = 0) && decide (cntN size ≤ 5) then (setB (shK (rowL rows z st 0) f.all (cntN size) (cntN f.ino.size - cntN size)).1 (f.ino.pl.getD 5 0) false, ⟨{ f.ino with size := size, pl := f.ino.pl.set 5 0 }, (shK (rowL rows z st 0) f.all (cntN size) (cntN f.ino.size - cntN size)).2⟩) else ((shK (rowL rows z st 0) f.all (cntN size) (cntN f.ino.size - cntN size)).1, ⟨{ f.ino with size := size }, (shK (rowL rows z st 0) f.all (cntN size) (cntN f.ino.size - cntN size)).2⟩)) := Lib.hid rfl
  have HA := Lib.hid ha
  have HX := Lib.hid hx
  have HS := Lib.hid hs
  have HPU : Hid (∀ wx L g, L.length = 64 → Own w0 wx (VX d z l ml st D mb rows (Star (fk F g) R)) → Calls Tryz.prog 80 #[.pointer (some ⟨D, 0, none⟩), .int .i64 0, .agg (bcL L)] wx fun e w' => e = .returned (.tuple #[]) ∧ Own w0 w' (VX d z l ml st D mb (putS 0 ⟨L.toArray⟩ rows) (Star (fk F g) R))) := Lib.hid (fun wx L g hL ho => c_vput ho (stable_star (stable_blk _ _) hs) (by omega) 0 (by omega) ⟨L.toArray⟩ (by
    show (List.toArray _).size = 64
    rw [List.size_toArray, hL]))
  have H0' : shK (rowL rows z st 0) f.all (cntN size) 0 = (rowL rows z st 0, f.all) := rfl
  have H00 := Lib.hid H0'
  clear h hs hsF hx h37 ha hll hz hst H0'
  generalize rowL rows z st 0 = L0 at *
  generalize hshk : shK L0 f.all (cntN size) = SK at *
  clear hshk
  generalize shF L0 f size = SF at *
  go_enter Tryz.func82, Tryz.ntmps82
  go_upto_region 1 with (first
    | (go_at_call 60; refine CU.out.mono ?_; rintro e w2 ⟨rfl, h2⟩; have H2 := Lib.hid h2; clear h2)
    | (refine wpList_alloc_blk rfl 84 (bcL zL) rfl (bits_zero _) ?_)
    | (refine wpList_store_row rfl _ _ _ rfl w2.heap.size (bcL L0) rfl rfl _ _ (HBX.out _ H2.out).1.out4.blk HC1.out HC3.out HC2.out ?_))
  have H3 := Lib.hid (HBX.out _ H2.out).2
  clear CU HBX
  generalize (World.setRow _ _ _) = w3 at *
  generalize w2.heap.size = U at *
  clear H2
  go_wp2_with (go_at_call 78; refine (CC1.out _).mono ?_; rintro e w' ⟨rfl, hw'⟩; rw [hw']; clear hw' w')
  generalize cntN size = c at *
  generalize cntN f.ino.size = m at *
  have H30 : Hid (Own w0 w3 (VX d z l ml st D mb rows (Star (uk U (SK 0).1) (Star (fk F ⟨f.ino, (SK 0).2⟩) R)))) := Lib.hid (by rw [H00.out]; exact H3.out)
  clear H3 H00
  go_loopw [7] (fun v wr => ∃ k : Nat, c + k ≤ m ∧ v = .int .i64 ((c + k : Nat) : Int) ∧ Own w0 wr (VX d z l ml st D mb rows (Star (uk U (SK k).1) (Star (fk F ⟨f.ino, (SK k).2⟩) R)))) (fun v _ => m - (intOf v).toNat)
  case atStart => exact ⟨0, by omega, rfl, H30.out⟩
  case round =>
    obtain ⟨k, hk, rfl, ho⟩ := hrel
    have HO := Lib.hid ho
    clear ho H30
    have hFb := HO.out.swapR.out4.blk
    have c2 := blk_cell hFb 2 (fil_cell2 ⟨f.ino, (SK k).2⟩)
    by_cases hlt : c + k < m
    · have dl : decide (c + k < m) = true := decide_eq_true hlt
      have hav := HA.out (c + k) hlt
      have cA := blk_cell hFb (9 + (c + k)) (fil_at (f := ⟨f.ino, (SK k).2⟩) HX.out (c + k) (by rw [(HLEN.out k).2]; omega))
      have zA := blk_frozen hFb (9 + (c + k))
      have hlat := HLAT.out k
      change Hid (Own w0 wr (VX d z l ml st D mb rows (Star (uk U (SK k).1) (Star (fk F ⟨f.ino, (SK k).2⟩) R)))) at HO
      rw [hlat] at cA
      have HSU2 := Lib.hid (HSU.out k)
      clear hlat hFb
      have CS := Lib.hid (c_bset HO.out.out4 (stable_vx (SR.out _)) (HLEN.out k).1 (f.all.getD (c + k) 0) hav false)
      have HQ : Hid (∀ wx, Own w0 wx (Star (uk U (setB (SK k).1 (f.all.getD (c + k) 0) false)) (VX d z l ml st D mb rows (Star (fk F ⟨f.ino, (SK k).2⟩) R))) → (∃ v, wx.cell? ⟨F, 9 + (c + k), none⟩ = some v) ∧ wx.frozen? ⟨F, 9 + (c + k), none⟩ = false ∧ Own w0 (wx.setCell ⟨F, 9 + (c + k), none⟩ (.int .i64 0)) (VX d z l ml st D mb rows (Star (uk U (SK (k + 1)).1) (Star (fk F ⟨f.ino, (SK (k + 1)).2⟩) R)))) := Lib.hid (fun wx hw => by
        have h1 := hw.in4.swapR.out4
        refine ⟨⟨_, blk_cell h1.blk (9 + (c + k)) (fil_at (f := ⟨f.ino, (SK k).2⟩) HX.out (c + k) (by rw [(HLEN.out k).2]; omega))⟩, blk_frozen h1.blk _, ?_⟩
        have h2 := (h1.put8 (stable_vx (SU.out _ _)) (9 + (c + k)) (.int .i64 ((0 : Nat) : Int)) _ (fil_set f.ino HX.out (SK k).2 (c + k) 0 (by rw [(HLEN.out k).2]; omega))).in4.swapR
        rw [HSU2.out]
        exact h2)
      have k5 : ((c + k : Nat) : Int) < 37 := by omega
      have k6 : (0 : Int) ≤ ((c + k : Nat) : Int) := by omega
      generalize f.all.getD (c + k) 0 = av at *
      obtain ⟨q, hq⟩ : ∃ q, q = c + k := ⟨_, rfl⟩
      have HQE := Lib.hid hq
      rw [← hq] at cA zA HQ dl k5 k6 hlt ⊢
      clear hq
      go_upto_region 5 with (first
        | (go_at_call 78; refine (CC2.out _).mono ?_; rintro e w' ⟨rfl, hw'⟩; rw [hw']; clear hw' w')
        | (go_at_call 86; refine CS.out.mono ?_; rintro e w5 ⟨rfl, h5⟩; have H5 := Lib.hid h5; clear h5))
      clear cA zA c2
      obtain ⟨⟨vA, cA⟩, zA, h6⟩ := HQ.out _ H5.out
      have H6 := Lib.hid h6
      clear h6
      go_wp2_with fail
      go_roundw
      case rel => exact ⟨k + 1, by have := HQE.out; omega, by rw [show c + (k + 1) = q + 1 by rw [HQE.out]; omega]; go_num, H6.out⟩
      case measure => simp [intOf]; omega
    · obtain ⟨hkm⟩ : Nonempty (m = c + k) := ⟨by omega⟩
      have HKM : Hid (m - c = k) := Lib.hid (by omega)
      rw [HKM.out] at HSH
      have dl : decide (c + k < m) = false := decide_eq_false (by omega)
      have cp := blk_cell hFb 8 (fil_cell8 (f := ⟨f.ino, (SK k).2⟩) HX.out)
      have hL1 := (HLEN.out k).1
      dsimp only at cp
      by_cases hA : f.ino.pl.getD 5 0 ≠ 0 ∧ c ≤ 5
      · have HSE : Hid (SF = (setB (SK k).1 (f.ino.pl.getD 5 0) false, ⟨{ f.ino with size := size, pl := f.ino.pl.set 5 0 }, (SK k).2⟩)) := Lib.hid (by
          rw [HSH.out, decide_eq_false hA.1, decide_eq_true hA.2]; rfl)
        have CSp := Lib.hid (c_bset HO.out.out4 (stable_vx (SR.out _)) hL1 (f.ino.pl.getD 5 0) hp5 false)
        have HBI : Hid ((Tryz.prog.info? 84).map (·.size) = some (bcL (setB (SK k).1 (f.ino.pl.getD 5 0) false)).size) := Lib.hid (by rw [bcL_size, setB_len, hL1]; exact bits_info)
        have HLB : Hid ((setB (SK k).1 (f.ino.pl.getD 5 0) false).length = 64) := Lib.hid (by rw [setB_len, hL1])
        have HQ : Hid (∀ wx, Own w0 wx (Star (uk U (setB (SK k).1 (f.ino.pl.getD 5 0) false)) (VX d z l ml st D mb rows (Star (fk F ⟨f.ino, (SK k).2⟩) R))) → (∃ v, wx.cell? ⟨F, 8, none⟩ = some v) ∧ (∃ v, wx.cell? ⟨F, 2, none⟩ = some v) ∧ wx.frozen? ⟨F, 8, none⟩ = false ∧ wx.frozen? ⟨F, 2, none⟩ = false ∧ Own w0 ((wx.setCell ⟨F, 8, none⟩ (.int .i64 0)).setCell ⟨F, 2, none⟩ (.int .i64 (size : Int))) (VX d z l ml st D mb rows (Star (uk U (setB (SK k).1 (f.ino.pl.getD 5 0) false)) (Star (fk F ⟨{ f.ino with size := size, pl := f.ino.pl.set 5 0 }, (SK k).2⟩) R)))) := Lib.hid (fun wx hw => by
          have h1 := hw.in4.swapR.out4
          refine ⟨⟨_, blk_cell h1.blk 8 (fil_cell8 (f := ⟨f.ino, (SK k).2⟩) HX.out)⟩, ⟨_, blk_cell h1.blk 2 (fil_cell2 ⟨f.ino, (SK k).2⟩)⟩, blk_frozen h1.blk _, blk_frozen h1.blk _, ?_⟩
          have h2 := h1.put8 (stable_vx (SU.out _ _)) 8 (.int .i64 ((0 : Nat) : Int)) _ (fil_set5 ⟨f.ino, (SK k).2⟩ HX.out 0)
          exact (h2.put8 (stable_vx (SU.out _ _)) 2 (.int .i64 (size : Int)) _ (fil_setS _ size)).in4.swapR)
        obtain ⟨hp1, hp2⟩ := hA
        have hpn : ¬ ((f.ino.pl.getD 5 0 : Nat) : Int) = 0 := by omega
        have hc5 : (c : Int) ≤ 5 := by omega
        have HSB : Hid (∀ L g, Stable (VX d z l ml st D mb rows (Star (uk U L) (Star (fk F g) R)))) := Lib.hid (fun L g => stable_vx (stable_star (stable_blk _ _) (SR.out g)))
        have HPX0 := Lib.hid (fun wx g (ho : Own w0 wx (VX d z l ml st D mb rows (Star (uk U (setB (SK k).1 (f.ino.pl.getD 5 0) false)) (Star (fk F g) R)))) => HPU.out wx _ g HLB.out ho.unbox4)
        clear HSH HPU hp1 hL1 hFb HLB
        generalize f.ino.pl.getD 5 0 = pv at *
        generalize setB (SK k).1 pv false = LB at *
        go_upto_region 9 with (first
          | (go_at_call 78; refine (CC2.out _).mono ?_; rintro e w' ⟨rfl, hw'⟩; rw [hw']; clear hw' w')
          | (go_at_call 78; refine (CC1.out _).mono ?_; rintro e w' ⟨rfl, hw'⟩; rw [hw']; clear hw' w')
          | (go_at_call 86; refine CSp.out.mono ?_; rintro e w5 ⟨rfl, h5⟩; have H5 := Lib.hid h5; clear h5))
        clear cp c2
        obtain ⟨⟨v8, c8⟩, ⟨v2, c22⟩, z8, z2, h6⟩ := HQ.out _ H5.out
        have H6 := Lib.hid h6
        clear h6
        go_upto_region 11 with fail
        clear c8 c22 z8 z2 H5
        generalize (World.setCell _ _ _) = wS at *
        have HPX := Lib.hid (HPX0.out _ _ H6.out)
        clear HPX0
        go_wp2_with (first
          | (refine wpList_load_row rfl _ _ rfl U rfl _ (bcL LB) (0, 0) _ H6.out.out4.blk Tryz.underlying84 rfl HBI.out ?_)
          | (go_at_call 80; refine HPX.out.mono ?_; rintro e w9 ⟨rfl, h9⟩; have H9 := Lib.hid h9; clear h9))
        refine bodyPost_end (results_none rfl _ _ _) rfl ?_
        exact ⟨rfl, by rw [HSE.out]; exact H9.out⟩
      · have HSE : Hid (SF = ((SK k).1, ⟨{ f.ino with size := size }, (SK k).2⟩)) := Lib.hid (by
          rw [HSH.out]
          have : (!decide (f.ino.pl.getD 5 0 = 0) && decide (c ≤ 5)) = false := by
            rw [Bool.and_eq_false_iff]
            by_cases e : f.ino.pl.getD 5 0 = 0
            · exact .inl (by rw [decide_eq_true e]; rfl)
            · exact .inr (decide_eq_false (fun e2 => hA ⟨e, e2⟩))
          rw [this]; rfl)
        have HBI : Hid ((Tryz.prog.info? 84).map (·.size) = some (bcL (SK k).1).size) := Lib.hid (by rw [bcL_size, hL1]; exact bits_info)
        have H6 := Lib.hid ((HO.out.swapR.out4.put8 (stable_vx (SU.out _ _)) 2 (.int .i64 (size : Int)) _ (fil_setS ⟨f.ino, (SK k).2⟩ size)).in4.swapR)
        have z2 := blk_frozen hFb 2
        have HPX0 := Lib.hid (HPU.out _ _ _ hL1 H6.out.unbox4)
        clear HPU hL1 hFb HSH
        by_cases hp : f.ino.pl.getD 5 0 = 0
        · rw [hp] at cp
          clear hA hp
          go_upto_region 11 with (first
            | (go_at_call 78; refine (CC2.out _).mono ?_; rintro e w' ⟨rfl, hw'⟩; rw [hw']; clear hw' w')
            | (go_at_call 78; refine (CC1.out _).mono ?_; rintro e w' ⟨rfl, hw'⟩; rw [hw']; clear hw' w'))
          clear cp c2 z2
          generalize (World.setCell _ _ _) = wS at *
          have HPX := Lib.hid HPX0.out
          clear HPX0
          go_wp2_with (first
            | (refine wpList_load_row rfl _ _ rfl U rfl _ (bcL (SK k).1) (0, 0) _ H6.out.out4.blk Tryz.underlying84 rfl HBI.out ?_)
            | (go_at_call 80; refine HPX.out.mono ?_; rintro e w9 ⟨rfl, h9⟩; have H9 := Lib.hid h9; clear h9))
          refine bodyPost_end (results_none rfl _ _ _) rfl ?_
          exact ⟨rfl, by rw [HSE.out]; exact H9.out⟩
        · have hc5 : ¬ (c : Int) ≤ 5 := by
            intro e
            exact hA ⟨hp, by omega⟩
          have hc6 : 5 < (c : Int) := by omega
          have hpn : ¬ ((f.ino.pl.getD 5 0 : Nat) : Int) = 0 := by omega
          clear hA
          generalize f.ino.pl.getD 5 0 = pv at *
          go_upto_region 11 with (first
            | (go_at_call 78; refine (CC2.out _).mono ?_; rintro e w' ⟨rfl, hw'⟩; rw [hw']; clear hw' w')
            | (go_at_call 78; refine (CC1.out _).mono ?_; rintro e w' ⟨rfl, hw'⟩; rw [hw']; clear hw' w'))
          clear cp c2 z2
          generalize (World.setCell _ _ _) = wS at *
          have HPX := Lib.hid HPX0.out
          clear HPX0
          go_wp2_with (first
            | (refine wpList_load_row rfl _ _ rfl U rfl _ (bcL (SK k).1) (0, 0) _ H6.out.out4.blk Tryz.underlying84 rfl HBI.out ?_)
            | (go_at_call 80; refine HPX.out.mono ?_; rintro e w9 ⟨rfl, h9⟩; have H9 := Lib.hid h9; clear h9))
          refine bodyPost_end (results_none rfl _ _ _) rfl ?_
          exact ⟨rfl, by rw [HSE.out]; exact H9.out⟩
end
end Go.Proofs.YtlpcccpagmipnaaGreat.P
namespace Go.Proofs.YtlpcccpagmipnaaGreat.P
open Go.RowKit Go.ChangeMaps Go.MapKept
/-- The first free home sector from 9 on. -/
def freeF (L : List UInt8) (hm : Nat) : Option Nat := (List.range hm).find? (fun j => decide (9 ≤ j) && !usedB L j)
theorem freeF_some {L : List UInt8} {hm i : Nat} (h : freeF L hm = some i) : 9 ≤ i ∧ i < hm ∧ usedB L i = false ∧ ∀ j, 9 ≤ j → j < i → usedB L j = true := by
  unfold freeF at h
  rw [List.find?_range_eq_some] at h
  obtain ⟨h1, h2, h3⟩ := h
  rw [Bool.and_eq_true, Bool.not_eq_true'] at h1
  refine ⟨of_decide_eq_true h1.1, List.mem_range.1 h2, h1.2, fun j h9 hj => ?_⟩
  have := h3 j hj
  rw [decide_eq_true h9, Bool.true_and, Bool.not_not] at this
  exact this
theorem freeF_none {L : List UInt8} {hm : Nat} (h : freeF L hm = none) (j : Nat) (h9 : 9 ≤ j) (hj : j < hm) : usedB L j = true := by
  unfold freeF at h
  rw [List.find?_range_eq_none] at h
  have := h j hj
  rw [decide_eq_true h9, Bool.true_and, Bool.not_not] at this
  exact this
def takF (L : List UInt8) (hm : Nat) : Nat × Bool × List UInt8 := match freeF L hm with
  | some i => (i, true, setB L i true)
  | none => (0, false, L)
theorem c_btake {w0 w : World} {B : Nat} {L : List UInt8} {R : Asn} (h : Own w0 w (Star (uk B L) R)) (hs : Stable R) (hl : L.length = 64) (hm : Nat) (h512 : hm ≤ 512) (h9 : 9 ≤ hm) :
    Calls Tryz.prog 114 #[.pointer (some ⟨B, 0, none⟩), .int .i64 (hm : Int)] w fun e w' => e = .returned (.tuple #[.int .i64 ((takF L hm).1 : Int), .bool (takF L hm).2.1]) ∧ Own w0 w' (Star (uk B (takF L hm).2.2) R) := by
  unfold takF
  cases hf : freeF L hm with
  | some i =>
    obtain ⟨h1, h2, h3, h4⟩ := freeF_some hf
    exact c_btake_some h hs hl hm i h512 h1 h2 h3 h4
  | none =>
    refine (c_btake_none h hl hm h512 h9 (fun j => freeF_none hf j)).mono ?_
    rintro e w' ⟨rfl, rfl⟩
    exact ⟨rfl, h⟩
/-- What stands at a place, what is used and whether all went well, once a sector is taken for it. -/
def oneF (hm v : Nat) (L : List UInt8) (b : Bool) : Nat × List UInt8 × Bool := bif decide (v = 0) && b then ((takF L hm).1, (takF L hm).2.2, (takF L hm).2.1) else (v, L, b)
abbrev okb (B : Nat) (b : Bool) : Asn := blkA B (.cells #[.bool b] 4)
theorem setIf_self {cs : Array Value} {q : Nat} {v : Value} (h : cs[q]? = some v) : cs.setIfInBounds q v = cs := by
  apply Array.ext_getElem?
  intro i
  rw [Array.getElem?_setIfInBounds]
  split
  · rename_i e
    subst e
    split
    · exact h.symm
    · rename_i h2
      rw [Array.getElem?_eq_none (by omega)] at h
      cases h
  · rfl
/-- What the closure reads beside. -/
structure OneX (w0 : World) (P D l hm : Nat) (X : Asn) : Prop where
  st : Stable X
  f : ∀ wx, Own w0 wx X → wx.cell? ⟨P, 0, none⟩ = some (.pointer (some ⟨D, 0, none⟩)) ∧ wx.cell? ⟨D, 0, none⟩ = some (.pointer (some ⟨l, 0, none⟩)) ∧ Calls Tryz.prog 16 #[.pointer (some ⟨l, 0, none⟩)] wx fun e w' => e = .returned (.int .i64 (hm : Int)) ∧ w' = wx
  lo : 9 ≤ hm
  hi : hm ≤ 512
set_option maxHeartbeats 3200000 in
theorem c_one {w0 w : World} {F U B P D l hm q v : Nat} {cs : Array Value} {T : TypeId} {L : List UInt8} {b : Bool} {X : Asn} (h : Own w0 w (Star (blkA F (.cells cs T)) (Star (uk U L) (Star (okb B b) X)))) (hX : OneX w0 P D l hm X) (hl : L.length = 64) (hcs : cs[q]? = some (.int .i64 (v : Int))) :
    Calls Tryz.prog 113 #[.pointer (some ⟨F, q, none⟩), .pointer (some ⟨B, 0, none⟩), .pointer (some ⟨U, 0, none⟩), .pointer (some ⟨P, 0, none⟩)] w fun e w' => e = .returned (.tuple #[]) ∧ Own w0 w' (Star (blkA F (.cells (cs.setIfInBounds q (.int .i64 ((oneF hm v L b).1 : Int))) T)) (Star (uk U (oneF hm v L b).2.1) (Star (okb B (oneF hm v L b).2.2) X))) := by
  have cI := blk_cell h.blk q hcs
  have cB := blk_cell h.right.right.blk 0 (v := .bool b) rfl
  have zI := blk_frozen h.blk q
  have zB := blk_frozen h.right.right.blk 0
  have hst : Stable (Star (okb B b) X) := stable_star (stable_blk _ _) hX.st
  by_cases hv : v = 0 ∧ b = true
  · obtain ⟨rfl, rfl⟩ := hv
    have HO : Hid (oneF hm 0 L true = ((takF L hm).1, (takF L hm).2.2, (takF L hm).2.1)) := Lib.hid rfl
    rw [HO.out]
    dsimp only
    obtain ⟨cP, cD, CH0⟩ := hX.f _ h.right.right.right
    have CH := Lib.hid CH0
    have CT := Lib.hid (c_btake h.swap2 (stable_star (stable_blk _ _) hst) hl hm hX.hi hX.lo)
    have HQ : Hid (∀ wx, Own w0 wx (Star (uk U (takF L hm).2.2) (Star (blkA F (.cells cs T)) (Star (okb B true) X))) → (wx.cell? ⟨F, q, none⟩ = some (.int .i64 ((0 : Nat) : Int)) ∧ wx.cell? ⟨B, 0, none⟩ = some (.bool true) ∧ wx.frozen? ⟨F, q, none⟩ = false ∧ wx.frozen? ⟨B, 0, none⟩ = false) ∧ (∃ c, (wx.setCell ⟨F, q, none⟩ (.int .i64 ((takF L hm).1 : Int))).cell? ⟨B, 0, none⟩ = some c) ∧ (wx.setCell ⟨F, q, none⟩ (.int .i64 ((takF L hm).1 : Int))).frozen? ⟨B, 0, none⟩ = false ∧ Own w0 ((wx.setCell ⟨F, q, none⟩ (.int .i64 ((takF L hm).1 : Int))).setCell ⟨B, 0, none⟩ (.bool (takF L hm).2.1)) (Star (blkA F (.cells (cs.setIfInBounds q (.int .i64 ((takF L hm).1 : Int))) T)) (Star (uk U (takF L hm).2.2) (Star (okb B (takF L hm).2.1) X)))) := Lib.hid (fun wx hw => by
      have h1 := hw.swap2
      have h2 := h1.put8 (stable_star (stable_blk _ _) hst) q (.int .i64 ((takF L hm).1 : Int)) _ rfl
      have h3 := h2.rot3.put8 (stable_star (stable_blk _ _) (stable_star (stable_blk _ _) hX.st)) 0 (.bool (takF L hm).2.1) #[.bool (takF L hm).2.1] rfl
      exact ⟨⟨blk_cell h1.blk q hcs, blk_cell h1.right.right.blk 0 rfl, blk_frozen h1.blk q, blk_frozen h1.right.right.blk 0⟩, ⟨_, blk_cell h2.right.right.blk 0 rfl⟩, blk_frozen h2.right.right.blk 0, h3.rot3'⟩)
    clear h hst hX hl hcs HO zI zB CH0
    generalize takF L hm = TT at *
    go_enter Tryz.func113, Tryz.ntmps113
    go_upto_region 1 with fail
    clear cI cB
    go_wp2_with (first
      | (go_at_call 16; refine CH.out.mono ?_; rintro e w' ⟨rfl, hw'⟩; rw [hw']; clear hw' w')
      | (go_at_call 114; refine CT.out.mono ?_; rintro e w5 ⟨rfl, h5⟩; obtain ⟨⟨cI, cB, zI, zB⟩, ⟨cX, cX2⟩, zX, h6⟩ := HQ.out _ h5; have H6 := Lib.hid h6; clear h6 h5))
    refine bodyPost_end (results_none rfl _ _ _) rfl ?_
    exact ⟨rfl, H6.out⟩
  · have HO : Hid (oneF hm v L b = (v, L, b)) := Lib.hid (by
      unfold oneF
      have : (decide (v = 0) && b) = false := by
        rw [Bool.and_eq_false_iff]
        by_cases e : v = 0
        · exact .inr (by cases b; rfl; exact absurd ⟨e, rfl⟩ hv)
        · exact .inl (decide_eq_false e)
      rw [this]; rfl)
    rw [HO.out]
    dsimp only
    rw [setIf_self hcs]
    have H1 := Lib.hid h
    clear h hst hX hl hcs HO zI zB
    by_cases hv0 : v = 0
    · obtain rfl : b = false := by cases b; rfl; exact absurd ⟨hv0, rfl⟩ hv
      rw [hv0] at cI
      clear hv hv0
      go_enter Tryz.func113, Tryz.ntmps113
      go_wp2_with fail
      refine bodyPost_end (results_none rfl _ _ _) rfl ?_
      exact ⟨rfl, H1.out⟩
    · have hvi : ¬ (v : Int) = 0 := by omega
      clear hv
      go_enter Tryz.func113, Tryz.ntmps113
      go_wp2_with fail
      refine bodyPost_end (results_none rfl _ _ _) rfl ?_
      exact ⟨rfl, H1.out⟩
end Go.Proofs.YtlpcccpagmipnaaGreat.P
namespace Go.Proofs.YtlpcccpagmipnaaGreat.P
open Go.RowKit Go.ChangeMaps Go.MapKept
def grK (hm : Nat) (L : List UInt8) (a : List Nat) : Nat → List Nat × List UInt8 × Bool
  | 0 => (a, L, true)
  | k + 1 => ((grK hm L a k).1.set k (oneF hm ((grK hm L a k).1.getD k 0) (grK hm L a k).2.1 (grK hm L a k).2.2).1, (oneF hm ((grK hm L a k).1.getD k 0) (grK hm L a k).2.1 (grK hm L a k).2.2).2)
theorem takF_len (L : List UInt8) (hm : Nat) : (takF L hm).2.2.length = L.length := by
  unfold takF
  cases freeF L hm with
  | some i => exact setB_len _ _ _
  | none => rfl
theorem oneF_len (hm v : Nat) (L : List UInt8) (b : Bool) : (oneF hm v L b).2.1.length = L.length := by
  unfold oneF
  cases decide (v = 0) && b with
  | true => exact takF_len L hm
  | false => rfl
theorem grK_len (hm : Nat) (L : List UInt8) (a : List Nat) : ∀ k, (grK hm L a k).1.length = a.length ∧ (grK hm L a k).2.1.length = L.length
  | 0 => ⟨rfl, rfl⟩
  | k + 1 => by
    have ih := grK_len hm L a k
    exact ⟨by show (List.set _ _ _).length = _; rw [List.length_set, ih.1], by show (oneF _ _ _ _).2.1.length = _; rw [oneF_len, ih.2]⟩
/-- The file, what is used, and whether there was room. -/
def growF (hm : Nat) (L : List UInt8) (f : Fil) (size : Nat) : Fil × List UInt8 × Bool :=
  bif decide (5 < cntN size) then (⟨{ f.ino with pl := f.ino.pl.set 5 (oneF hm (f.ino.pl.getD 5 0) (grK hm L f.all (cntN size)).2.1 (grK hm L f.all (cntN size)).2.2).1 }, (grK hm L f.all (cntN size)).1⟩, (oneF hm (f.ino.pl.getD 5 0) (grK hm L f.all (cntN size)).2.1 (grK hm L f.all (cntN size)).2.2).2)
  else (⟨f.ino, (grK hm L f.all (cntN size)).1⟩, (grK hm L f.all (cntN size)).2)
abbrev ptA (P D : Nat) : Asn := blkA P (.cells #[.pointer (some ⟨D, 0, none⟩)] 114)
theorem star_out4 {A B C D X R : Asn} {w : World} {F : Nat → Prop} (h : Star A (Star B (Star C (Star D (Star X R)))) w F) : Star X (Star A (Star B (Star C (Star D R)))) w F :=
  star_rot3 (star_mono_r (fun F h => star_mono_r (fun F h => star_rot3 h) h) h)
theorem Own.open4 {w0 w : World} {A B C D X1 X2 X3 X4 R : Asn} (h : Own w0 w (Star A (Star B (Star C (Star D (Star X1 (Star X2 (Star X3 (Star X4 R))))))))) : Own w0 w (Star X4 (Star X2 (Star X1 (Star X3 (Star A (Star B (Star C (Star D R)))))))) := by
  have h1 := h.out4
  have h2 := h1.mono fun F hF => star_mono_r (fun F h => star_out4 h) hF
  have h3 := h2.mono fun F hF => star_mono_r (fun F h => star_mono_r (fun F h => star_out4 h) h) hF
  have h4 := h3.mono fun F hF => star_mono_r (fun F h => star_mono_r (fun F h => star_mono_r (fun F h => star_out4 h) h) h) hF
  have h5 := h4.mono fun F hF => star_mono_r (fun F h => star_mono_r (fun F h => star_swap2 h) h) hF
  exact h5.rot3.mono fun F hF => star_mono_r (fun F h => star_swap2 h) hF
section
variable {w0 w : World} {d : Nat} {z : DState} {l ml : Nat} {st : List (Int × ByteArray)} {D mb n : Nat} {rows : List (Int × ByteArray)} {R : Asn}
set_option maxHeartbeats 6400000 in
theorem c_vgrow {F : Nat} {f : Fil} (h : Own w0 w (VX d z l ml st D mb rows (Star (fk F f) R))) (hs : Stable R) (hz : LI z n) (hst : okSt (n + 32) st) (hn : rows.length ≤ 1000) (hx : f.ino.pl.length = 6) (h37 : f.all.length = 37) (size : Nat) (hsz : size ≤ 2368) :
    Calls Tryz.prog 79 #[.pointer (some ⟨D, 0, none⟩), .pointer (some ⟨F, 0, none⟩), .int .i64 (size : Int)] w fun e w' => e = .returned (.int .i64 (bif (growF n (rowL rows z st 0) f size).2.2 then 0 else 4)) ∧ Own w0 w' (VX d z l ml st D mb (bif (growF n (rowL rows z st 0) f size).2.2 then putS 0 ⟨(growF n (rowL rows z st 0) f size).2.1.toArray⟩ rows else rows) (Star (fk F (bif (growF n (rowL rows z st 0) f size).2.2 then ⟨{ (growF n (rowL rows z st 0) f size).1.ino with size := size }, (growF n (rowL rows z st 0) f size).1.all⟩ else (growF n (rowL rows z st 0) f size).1)) R)) := by
  have hll := (rowL_len h hz hst (i := 0) (by have := hz.lo; omega)).1
  have hsF : Stable (Star (fk F f) R) := stable_star (stable_blk _ _) hs
  have hc1 := cnt_le size hsz
  have HX := Lib.hid hx
  have HP0 : Hid (Own w0 (w.alloc (.cells #[.pointer (some ⟨D, 0, none⟩)] 114)) (VX d z l ml st D mb rows (Star (ptA w.heap.size D) (Star (fk F f) R)))) := Lib.hid (h.box4 (stable_vx hsF) _)
  have hsP : Stable (Star (ptA w.heap.size D) (Star (fk F f) R)) := stable_star (stable_blk _ _) hsF
  have cP := blk_cell HP0.out.out4.blk 0 (v := .pointer (some ⟨D, 0, none⟩)) rfl
  have CU := Lib.hid (c_used HP0.out hsP hz hst)
  have HC1 : Hid ((Tryz.prog.info? 84).map (·.size) = some (bcL (rowL rows z st 0)).size) := Lib.hid (by rw [bcL_size, hll]; exact bits_info)
  have HC2 := Lib.hid (bcL_all1 (rowL rows z st 0))
  have HC3 : Hid ((bcL zL).size = (bcL (rowL rows z st 0)).size) := Lib.hid (by rw [bcL_size, bcL_size, hll]; rfl)
  have CC1 := Lib.hid (fun wx => c_count size (by omega) wx)
  have HLEN : Hid (∀ k, (grK n (rowL rows z st 0) f.all k).1.length = 37 ∧ (grK n (rowL rows z st 0) f.all k).2.1.length = 64) := Lib.hid (fun k => by
    have := grK_len n (rowL rows z st 0) f.all k
    rw [hll, h37] at this
    exact this)
  have HGK : Hid (∀ k, grK n (rowL rows z st 0) f.all (k + 1) = ((grK n (rowL rows z st 0) f.all k).1.set k (oneF n ((grK n (rowL rows z st 0) f.all k).1.getD k 0) (grK n (rowL rows z st 0) f.all k).2.1 (grK n (rowL rows z st 0) f.all k).2.2).1, (oneF n ((grK n (rowL rows z st 0) f.all k).1.getD k 0) (grK n (rowL rows z st 0) f.all k).2.1 (grK n (rowL rows z st 0) f.all k).2.2).2)) := Lib.hid (fun k => rfl)
  have HBX : Hid (∀ wx P, Own w0 wx (VX d z l ml st D mb rows (Star (ptA P D) (Star (fk F f) R))) → Own w0 (wx.alloc (.cells (bcL zL) 84)) (VX d z l ml st D mb rows (Star (uk wx.heap.size zL) (Star (ptA P D) (Star (fk F f) R)))) ∧ Own w0 ((wx.alloc (.cells (bcL zL) 84)).setRow wx.heap.size (bcL (rowL rows z st 0))) (VX d z l ml st D mb rows (Star (uk wx.heap.size (rowL rows z st 0)) (Star (ptA P D) (Star (fk F f) R))))) := Lib.hid (fun wx P hw => ⟨hw.box4 (stable_vx (stable_star (stable_blk _ _) hsF)) _, ((hw.box4 (stable_vx (stable_star (stable_blk _ _) hsF)) _).out4.setRow (stable_vx (stable_star (stable_blk _ _) hsF)) _).in4⟩)
  have HBX2 : Hid (∀ wx P U, Own w0 wx (VX d z l ml st D mb rows (Star (uk U (rowL rows z st 0)) (Star (ptA P D) (Star (fk F f) R)))) → (wx.cell? ⟨P, 0, none⟩ = some (.pointer (some ⟨D, 0, none⟩)) ∧ wx.cell? ⟨D, 2, none⟩ = some (.int .i64 0)) ∧ Own w0 (wx.alloc (.cells #[.bool true] 4)) (Star (fk F f) (Star (uk U (rowL rows z st 0)) (Star (okb wx.heap.size true) (Star (ptA P D) (VX d z l ml st D mb rows R)))))) := Lib.hid (fun wx P U hw => by
    have hs2 : Stable (Star (uk U (rowL rows z st 0)) (Star (ptA P D) (Star (fk F f) R))) := stable_star (stable_blk _ _) (stable_star (stable_blk _ _) hsF)
    have h2 := hw.box4 (stable_vx hs2) (.cells #[.bool true] 4)
    exact ⟨⟨blk_cell hw.swapR.out4.blk 0 rfl, blk_cell (vx_map hw).1 2 rfl⟩, h2.open4⟩)
  have HX1 : Hid (∀ P, OneX w0 P D l n (Star (ptA P D) (VX d z l ml st D mb rows R))) := Lib.hid (fun P => ⟨stable_star (stable_blk _ _) (stable_vx hs), fun wx hw => ⟨blk_cell hw.blk 0 rfl, blk_cell (vx_map hw.right).1 0 rfl, (o_home hw.right).mono (by
    rintro e w' ⟨rfl, rfl⟩
    rw [hz.len]
    exact ⟨ret_i (by omega), rfl⟩)⟩, by have := hz.lo; omega, hz.hi⟩)
  have HS := Lib.hid hs
  have HPU : Hid (∀ wx L g, L.length = 64 → Own w0 wx (VX d z l ml st D mb rows (Star (fk F g) R)) → Calls Tryz.prog 80 #[.pointer (some ⟨D, 0, none⟩), .int .i64 0, .agg (bcL L)] wx fun e w' => e = .returned (.tuple #[]) ∧ Own w0 w' (VX d z l ml st D mb (putS 0 ⟨L.toArray⟩ rows) (Star (fk F g) R))) := Lib.hid (fun wx L g hL ho => c_vput ho (stable_star (stable_blk _ _) hs) (by omega) 0 (by omega) ⟨L.toArray⟩ (by
    show (List.toArray _).size = 64
    rw [List.size_toArray, hL]))
  have HGF : Hid (growF n (rowL rows z st 0) f size = bif decide (5 < cntN size) then (⟨{ f.ino with pl := f.ino.pl.set 5 (oneF n (f.ino.pl.getD 5 0) (grK n (rowL rows z st 0) f.all (cntN size)).2.1 (grK n (rowL rows z st 0) f.all (cntN size)).2.2).1 }, (grK n (rowL rows z st 0) f.all (cntN size)).1⟩, (oneF n (f.ino.pl.getD 5 0) (grK n (rowL rows z st 0) f.all (cntN size)).2.1 (grK n (rowL rows z st 0) f.all (cntN size)).2.2).2) else (⟨f.ino, (grK n (rowL rows z st 0) f.all (cntN size)).1⟩, (grK n (rowL rows z st 0) f.all (cntN size)).2)) := Lib.hid rfl
  have H00 : Hid (grK n (rowL rows z st 0) f.all 0 = (f.all, rowL rows z st 0, true)) := Lib.hid rfl
  clear h hs hsF hsP hx h37 hll hz hst
  generalize rowL rows z st 0 = L0 at *
  generalize growF n L0 f size = GF at *
  generalize grK n L0 f.all = GK at *
  go_enter Tryz.func79, Tryz.ntmps79
  go_upto_region 1 with fail
  generalize w.alloc _ = wa at *
  generalize w.heap.size = P at *
  go_upto_region 2 with (first
    | (go_at_call 60; refine CU.out.mono ?_; rintro e w2 ⟨rfl, h2⟩; have H2 := Lib.hid h2; clear h2)
    | (refine wpList_alloc_blk rfl 84 (bcL zL) rfl (bits_zero _) ?_)
    | (refine wpList_store_row rfl _ _ _ rfl w2.heap.size (bcL L0) rfl rfl _ _ (HBX.out _ _ H2.out).1.out4.blk HC1.out HC3.out HC2.out ?_))
  have H3 := Lib.hid (HBX.out _ _ H2.out).2
  clear CU HBX cP HC1 HC2 HC3 HP0
  generalize (World.setRow _ _ _) = w3 at *
  generalize w2.heap.size = U at *
  clear H2
  obtain ⟨⟨cP, cE⟩, h4⟩ := HBX2.out _ _ _ H3.out
  have H4 := Lib.hid h4
  clear h4
  go_upto_region 5 with fail
  generalize w3.alloc _ = w4 at *
  generalize w3.heap.size = B at *
  clear H3 cP cE HBX2
  go_wp2_with (go_at_call 78; refine (CC1.out _).mono ?_; rintro e w' ⟨rfl, hw'⟩; rw [hw']; clear hw' w')
  generalize cntN size = c at *
  have H40 : Hid (Own w0 w4 (Star (fk F ⟨f.ino, (GK 0).1⟩) (Star (uk U (GK 0).2.1) (Star (okb B (GK 0).2.2) (Star (ptA P D) (VX d z l ml st D mb rows R)))))) := Lib.hid (by rw [H00.out]; exact H4.out)
  clear H4 H00
  go_loopw [25] (fun v wr => ∃ k : Nat, k ≤ c ∧ v = .int .i64 (k : Int) ∧ Own w0 wr (Star (fk F ⟨f.ino, (GK k).1⟩) (Star (uk U (GK k).2.1) (Star (okb B (GK k).2.2) (Star (ptA P D) (VX d z l ml st D mb rows R)))))) (fun v _ => c - (intOf v).toNat)
  case atStart => exact ⟨0, by omega, rfl, H40.out⟩
  case round =>
    obtain ⟨k, hk, rfl, ho⟩ := hrel
    have HO := Lib.hid ho
    clear ho H40
    obtain ⟨hA1, hA2⟩ := HLEN.out k
    by_cases hlt : k < c
    · have dl : decide (k < c) = true := decide_eq_true hlt
      have CO := c_one HO.out (HX1.out P) hA2 (q := 9 + k) (v := (GK k).1.getD k 0) (fil_at (f := ⟨f.ino, (GK k).1⟩) HX.out k (by rw [hA1]; omega))
      rw [fil_set f.ino HX.out (GK k).1 k _ (by rw [hA1]; omega)] at CO
      have HN : Hid (GK (k + 1) = ((GK k).1.set k (oneF n ((GK k).1.getD k 0) (GK k).2.1 (GK k).2.2).1, (oneF n ((GK k).1.getD k 0) (GK k).2.1 (GK k).2.2).2)) := Lib.hid (HGK.out k)
      have CO2 := Lib.hid CO
      clear CO HGK HGF HPU hA1 hA2
      have k5 : (k : Int) < 37 := by omega
      have k6 : (0 : Int) ≤ (k : Int) := by omega
      have n5 : IntKind.i64.wrap ((k : Int) + 1) = (k : Int) + 1 := IntWalk.i64_in _ (by omega)
      go_wp2_with (go_at_call 113; refine CO2.out.mono ?_; rintro e w5 ⟨rfl, h5⟩; have H5 := Lib.hid h5; clear h5)
      go_roundw
      case rel => exact ⟨k + 1, by omega, by go_num, by rw [HN.out]; exact H5.out⟩
      case measure => simp [intOf]; omega
    · obtain rfl : c = k := by omega
      have dl : decide (c < c) = false := decide_eq_false (by omega)
      clear HGK hlt
      by_cases h5 : 5 < c
      · have dl5 : decide (5 < c) = true := decide_eq_true h5
        have h5i : (5 : Int) < (c : Int) := by omega
        rw [dl5, cond_true] at HGF
        have CO := c_one HO.out (HX1.out P) hA2 (q := 8) (v := f.ino.pl.getD 5 0) (fil_cell8 (f := ⟨f.ino, (GK c).1⟩) HX.out)
        rw [fil_set5 ⟨f.ino, (GK c).1⟩ HX.out] at CO
        have HL : Hid ((oneF n (f.ino.pl.getD 5 0) (GK c).2.1 (GK c).2.2).2.1.length = 64) := Lib.hid (by rw [oneF_len, hA2])
        have CO2 := Lib.hid CO
        clear CO HO hA1 hA2
        generalize oneF n (f.ino.pl.getD 5 0) (GK c).2.1 (GK c).2.2 = O at *
        obtain ⟨ov, ol, ob⟩ := O
        dsimp only at *
        go_upto_region 13 with (first
          | (go_at_call 78; refine (CC1.out _).mono ?_; rintro e w' ⟨rfl, hw'⟩; rw [hw']; clear hw' w')
          | (go_at_call 113; refine CO2.out.mono ?_; rintro e w5 ⟨rfl, h5⟩; have H5 := Lib.hid h5; clear h5))
        have HG : Hid (GF = (⟨{ f.ino with pl := f.ino.pl.set 5 ov }, (GK c).1⟩, ol, ob)) := Lib.hid HGF.out
        clear HGF
        have cB := blk_cell H5.out.right.right.blk 0 (v := .bool ob) rfl
        have HD : Hid (∀ (wx : World) (g : Fil) (LB : List UInt8) (b : Bool), Own w0 wx (Star (fk F g) (Star (uk U LB) (Star (okb B b) (Star (ptA P D) (VX d z l ml st D mb rows R))))) → Own w0 wx (VX d z l ml st D mb rows (Star (fk F g) R))) := Lib.hid (fun wx g LB b hw => hw.drop2.drop2.drop2.in4)
        cases hob : ob with
        | false =>
          rw [hob] at cB
          clear HX HX1 HPU
          go_wp2_with fail
          go_ret
          refine ⟨?_, ?_⟩
          · rw [HG.out, hob]; rfl
          · rw [HG.out, hob]; exact HD.out _ _ _ _ H5.out
        | true =>
          rw [hob] at cB
          have c2 := blk_cell H5.out.blk 2 (fil_cell2 ⟨{ f.ino with pl := f.ino.pl.set 5 ov }, (GK c).1⟩)
          have z2 := blk_frozen H5.out.blk 2
          have H6 := Lib.hid (H5.out.put8 (stable_star (stable_blk _ _) (stable_star (stable_blk _ _) (HX1.out P).st)) 2 (.int .i64 (size : Int)) _ (fil_setS ⟨{ f.ino with pl := f.ino.pl.set 5 ov }, (GK c).1⟩ size))
          clear HX HX1
          go_upto_region 16 with fail
          clear cB c2 z2
          generalize (World.setCell _ _ _) = wS at *
          have cP := blk_cell H6.out.right.right.right.blk 0 (v := .pointer (some ⟨D, 0, none⟩)) rfl
          have HBI : Hid ((Tryz.prog.info? 84).map (·.size) = some (bcL ol).size) := Lib.hid (by rw [bcL_size, HL.out]; exact bits_info)
          have HPX := Lib.hid (HPU.out _ _ _ HL.out (HD.out _ _ _ _ H6.out))
          clear HPU
          go_wp2_with (first
            | (refine wpList_load_row rfl _ _ rfl U rfl _ (bcL ol) (0, 0) _ H6.out.right.blk Tryz.underlying84 rfl HBI.out ?_)
            | (go_at_call 80; refine HPX.out.mono ?_; rintro e w9 ⟨rfl, h9⟩; have H9 := Lib.hid h9; clear h9))
          go_ret
          refine ⟨?_, ?_⟩
          · rw [HG.out, hob]; rfl
          · rw [HG.out, hob]; exact H9.out
      · have dl5 : decide (5 < c) = false := decide_eq_false h5
        have h5i : ¬ (5 : Int) < (c : Int) := by omega
        rw [dl5, cond_false] at HGF
        have H5 := HO
        have HL := Lib.hid hA2
        clear HO hA1 hA2
        have HG : Hid (GF = (⟨f.ino, (GK c).1⟩, (GK c).2.1, (GK c).2.2)) := Lib.hid HGF.out
        clear HGF
        have cB := blk_cell H5.out.right.right.blk 0 (v := .bool (GK c).2.2) rfl
        have HD : Hid (∀ (wx : World) (g : Fil) (LB : List UInt8) (b : Bool), Own w0 wx (Star (fk F g) (Star (uk U LB) (Star (okb B b) (Star (ptA P D) (VX d z l ml st D mb rows R))))) → Own w0 wx (VX d z l ml st D mb rows (Star (fk F g) R))) := Lib.hid (fun wx g LB b hw => hw.drop2.drop2.drop2.in4)
        cases hob : (GK c).2.2 with
        | false =>
          rw [hob] at cB
          clear HX HX1 HPU
          go_wp2_with (go_at_call 78; refine (CC1.out _).mono ?_; rintro e w' ⟨rfl, hw'⟩; rw [hw']; clear hw' w')
          go_ret
          refine ⟨?_, ?_⟩
          · rw [HG.out]; dsimp only; rw [hob]; rfl
          · rw [HG.out]; dsimp only; rw [hob]; exact HD.out _ _ _ _ H5.out
        | true =>
          rw [hob] at cB
          have c2 := blk_cell H5.out.blk 2 (fil_cell2 ⟨f.ino, (GK c).1⟩)
          have z2 := blk_frozen H5.out.blk 2
          have H6 := Lib.hid (H5.out.put8 (stable_star (stable_blk _ _) (stable_star (stable_blk _ _) (HX1.out P).st)) 2 (.int .i64 (size : Int)) _ (fil_setS ⟨f.ino, (GK c).1⟩ size))
          clear HX HX1
          go_upto_region 16 with (go_at_call 78; refine (CC1.out _).mono ?_; rintro e w' ⟨rfl, hw'⟩; rw [hw']; clear hw' w')
          clear cB c2 z2
          generalize (World.setCell _ _ _) = wS at *
          have cP := blk_cell H6.out.right.right.right.blk 0 (v := .pointer (some ⟨D, 0, none⟩)) rfl
          have HBI : Hid ((Tryz.prog.info? 84).map (·.size) = some (bcL (GK c).2.1).size) := Lib.hid (by rw [bcL_size, HL.out]; exact bits_info)
          have HPX := Lib.hid (HPU.out _ _ _ HL.out (HD.out _ _ _ _ H6.out))
          clear HPU
          go_wp2_with (first
            | (refine wpList_load_row rfl _ _ rfl U rfl _ (bcL (GK c).2.1) (0, 0) _ H6.out.right.blk Tryz.underlying84 rfl HBI.out ?_)
            | (go_at_call 80; refine HPX.out.mono ?_; rintro e w9 ⟨rfl, h9⟩; have H9 := Lib.hid h9; clear h9))
          go_ret
          refine ⟨?_, ?_⟩
          · rw [HG.out]; dsimp only; rw [hob]; rfl
          · rw [HG.out]; dsimp only; rw [hob]; exact H9.out
end
end Go.Proofs.YtlpcccpagmipnaaGreat.P
open Go.Shelf Go.Proofs
namespace Go.Proofs.YtlpcccpagmipnaaGreat.P
open Go.RowKit Go.ChangeMaps Go.MapKept
def sg_keysB_ren : Go.Shelf.Ren := ⟨fun | 7 => 112 | 10 => 132 | n => n, fun | 23 => 116 | 26 => 3 | 3 => 83 | 28 => 96 | 0 => 0 | 27 => 95 | 33 => 119 | 4 => 4 | n => n, fun | n => n⟩
theorem sg_keysB : Go.Proofs.SlLaysZI.n7 Tryz.prog sg_keysB_ren := {
  mixed := by kernel_rfl
  f7 := ⟨Tryz.f112.name, by decide, Tryz.func112.trans (congrArg some (by kernel_rfl))⟩
  f10 := ⟨Tryz.f132.name, by decide, Tryz.func132.trans (congrArg some (by kernel_rfl))⟩
  t0 := Tryz.underlying0
  a0 := Tryz.isAgg0
  z0 := Tryz.sizeOf0
  v0 := Tryz.zeroValue0
  t4 := Tryz.underlying4
  a4 := Tryz.isAgg4
  z4 := Tryz.sizeOf4
  v4 := Tryz.zeroValue4
  t23 := Tryz.underlying116
  a23 := Tryz.isAgg116
  z23 := Tryz.sizeOf116
  v23 := Tryz.zeroValue116
  t26 := Tryz.underlying3
  a26 := Tryz.isAgg3
  z26 := Tryz.sizeOf3
  v26 := Tryz.zeroValue3
  t27 := Tryz.underlying95
  a27 := Tryz.isAgg95
  z27 := Tryz.sizeOf95
  v27 := Tryz.zeroValue95
  t28 := Tryz.underlying96
  a28 := Tryz.isAgg96
  z28 := Tryz.sizeOf96
  v28 := Tryz.zeroValue96
  t33 := Tryz.underlying119
  a33 := Tryz.isAgg119
  z33 := Tryz.sizeOf119
  v33 := Tryz.zeroValue119 }
theorem c_keysB (mb : Option Nat) (w : World) : Calls Tryz.prog 112 #[.map mb] w fun e w' => e = .returned (.func (.func 132) #[] #[.pointer (some ⟨w.heap.size, 0, none⟩)]) ∧ w' = w.alloc (.cells #[.map mb] 116) :=
  (callsIn_wide (n := 5)).1 (AnyZI.keys_in sg_keysB Fence.wide 5 trivial rfl mb w)
set_option maxHeartbeats 1000000 in
theorem c_sortedB (w : World) (b nn : Nat) (D0 : DataW Nat) (hown : w.ownsMap Tryz.prog 3 blkElem b nn D0) (hmax : Maps.size D0 ≤ 1000) :
    Calls Tryz.prog 47 #[.func (.func 132) #[] #[.pointer (some ⟨w.heap.size, 0, none⟩)]] (w.alloc (.cells #[.map (some b)] 116)) fun e w' => ∃ (v : Value) (ss : List Int), e = .returned v ∧ ss.Perm (intKeys D0) ∧
      w'.ownsRow (w.alloc (.cells #[.map (some b)] 116)).heap.size 3 1 v ss.length ((ss.mergeSort (fun x y => decide (x ≤ y))).map encZ) ∧ (v = .slice none 0 0 ↔ ss = []) ∧ Below (w.alloc (.cells #[.map (some b)] 116)).heap.size (w.alloc (.cells #[.map (some b)] 116)) w' := by
  have hseq : SeqGives Fence.wide 2 Tryz.prog 132 #[.pointer (some ⟨w.heap.size, 0, none⟩)] encZ (fun ss => ss.Perm (intKeys D0)) (Maps.size D0) (w.alloc (.cells #[.map (some b)] 116)) :=
    AnyZI.keys_gives (ρ := sg_keysB_ren) { sg_keysB with } Fence.wide _ trivial rfl (by omega) w.heap.size b nn D0 _ (by simp) (by simp) (hown.alloc _)
  have cS := AnyZI.sorted_in sg_sortedA Fence.wide 5 trivial trivial trivial trivial rfl (by omega) (sg_sortsA _) (enters_of Tryz.func93 (by kernel_rfl) rfl) 132 #[.pointer (some ⟨w.heap.size, 0, none⟩)] trivial (enters_of Tryz.func132 (by kernel_rfl) rfl) _ _ (by unfold maxLen; omega) (by omega) _ hseq
  exact (callsIn_wide (n := 5)).1 cS
end Go.Proofs.YtlpcccpagmipnaaGreat.P
namespace Go.Proofs.YtlpcccpagmipnaaGreat.P
open Go.RowKit Go.ChangeMaps Go.MapKept
abbrev VN (d : Nat) (z : DState) (l ml : Nat) (st : List (Int × ByteArray)) (D : Nat) (R : Asn) : Asn := DL d z l ml st false (Star (drB D l (.map none)) (Star emp R))
theorem stable_vn {d : Nat} {z : DState} {l ml : Nat} {st : List (Int × ByteArray)} {D : Nat} {R : Asn} (hs : Stable R) : Stable (VN d z l ml st D R) := stable_dl _ _ _ _ _ _ (stable_star (stable_blk _ _) (stable_star stable_emp hs))
theorem vn_map {w0 w : World} {d : Nat} {z : DState} {l ml : Nat} {st : List (Int × ByteArray)} {D : Nat} {R : Asn} (h : Own w0 w (VN d z l ml st D R)) : w.heap[D]? = some (.cells #[.pointer (some ⟨l, 0, none⟩), .map none, .int .i64 0] 118) := h.right.right.blk
theorem nil_look (w : World) {i : Int} (hw : (Lit.int .i64 i).wf = true) : (Instr.lookup 116 (.map none) (.int .i64 i) true).run Tryz.prog w = .ok (.tuple #[.agg (bcL zL), .bool false]) w := by
  have h : (Instr.lookup 116 (.map none) (.int .i64 i) true).run Tryz.prog w = .ok (.tuple #[.agg (bcL z64.data.toList), .bool false]) w := by
    have := Maps.look_nil (w := w) true key_int Tryz.underlying116 (blk_zero2 w) (Maps.keyOf_int_mk Tryz.underlying3 hw)
    simpa using this
  exact h
set_option maxHeartbeats 3200000 in
theorem c_vgetN {w0 w : World} {D l d ml n : Nat} {st : List (Int × ByteArray)} {z : DState} {R : Asn} (h : Own w0 w (VN d z l ml st D R)) (hs : Stable R) (hz : LI z n) (hst : okSt (n + 32) st) (i : Nat) (hi : i < n) :
    Calls Tryz.prog 72 #[.pointer (some ⟨D, 0, none⟩), .int .i64 (i : Int)] w fun e w' => e = .returned (.agg (bcL ((getB false z st (i : Int)).data.toList))) ∧ Own w0 w' (VN d z l ml st D R) := by
  have hhi := hz.hi
  have hwt := hz.wt
  obtain ⟨gr0, g64⟩ := get_ok hz hst i hi
  have h1 := h.box4 (stable_vn hs) (.cells (bcL zL) 83)
  have hs1 : Stable (Star (blkA w.heap.size (.cells (bcL zL) 83)) R) := stable_star (stable_blk _ _) hs
  have m1 := vn_map h1
  have c1 := blk_cell m1 1 (v := .map none) rfl
  have HL := Lib.hid (nil_look (w.alloc (.cells (bcL zL) 83)) (i := (i : Int)) (wf_small (by omega) (by omega)))
  have h2 := h1.box4 (stable_vn hs1) (.cells (bcL zL) 83)
  have hs2 := stable_star (stable_blk (w.alloc (.cells (bcL zL) 83)).heap.size (.cells (bcL zL) 83)) hs1
  have HS1 := Lib.hid hs1
  have HS2 := Lib.hid hs2
  have HS0 := Lib.hid hs
  have H1 := Lib.hid h1
  have H2 := Lib.hid h2
  clear h h1 h2 m1 hs1 hs2
  have hl : (getB false z st (i : Int)).data.toList.length = 64 := by rw [← g64]; exact (Go.Lib.size_eq _).symm
  have HC1 := Lib.hid (bc_info _ hl)
  have HC2 := Lib.hid (bcL_all1 (getB false z st (i : Int)).data.toList)
  have HC3 : Hid ((bcL zL).size = (bcL (getB false z st (i : Int)).data.toList).size) := Lib.hid (by rw [bcL_size, bcL_size, hl]; rfl)
  have HD1 := Lib.hid (bc_info zL (by rfl))
  have HD2 := Lib.hid (bcL_all1 zL)
  have H3 : Hid (Own w0 _ (VN d z l ml st D (Star (blkA w.heap.size (.cells (bcL zL) 83)) R))) := Lib.hid ((H2.out.out4.setRow (stable_vn HS1.out) (bcL zL)).right)
  have CG := Lib.hid (o_get H3.out (stable_star (stable_blk _ _) (stable_star stable_emp HS1.out)) (i : Int) (by omega))
  rw [gr0] at CG
  have HCP : Hid (∀ (wx : World) (g : Nat), wx.heap[g]? = some (.cells (bcL zL) 83) → (Builtin.copy_ #[87, 9] 3 #[.slice (some ⟨g, 0, none⟩) 64 64, .string (getB false z st (i : Int))]).run Tryz.prog wx = .ok (goInt 64) (wx.setRow g (bcL (getB false z st (i : Int)).data.toList))) := Lib.hid (fun wx g hg => by
    have := run_copy_str wx 87 9 3 5 g 0 64 64 (getB false z st (i : Int)) zL 83 Tryz.underlying87 (by kernel_rfl) hg 64 (by rw [g64]; rfl) (by decide)
    rw [List.take_of_length_le (by rw [hl]; exact Nat.le_refl _)] at this
    have e : splice zL 0 (getB false z st (i : Int)).data.toList = (getB false z st (i : Int)).data.toList := by
      unfold splice
      rw [List.take_zero, List.nil_append, hl, List.drop_of_length_le (by decide), List.append_nil]
    rw [e] at this
    exact this)
  have HBX : Hid (∀ wx, Own w0 wx (VN d z l ml st D (Star (blkA w.heap.size (.cells (bcL zL) 83)) R)) → wx.heap[D]? = some (.cells #[.pointer (some ⟨l, 0, none⟩), .map none, .int .i64 0] 118) ∧ Own w0 (wx.alloc (.cells (bcL zL) 83)) (VN d z l ml st D (Star (blkA wx.heap.size (.cells (bcL zL) 83)) (Star (blkA w.heap.size (.cells (bcL zL) 83)) R)))) := Lib.hid (fun wx hx => ⟨vn_map hx, hx.box4 (stable_vn HS1.out) _⟩)
  have HFN : Hid (∀ (wx : World) g, Own w0 wx (VN d z l ml st D (Star (blkA g (.cells (bcL zL) 83)) (Star (blkA w.heap.size (.cells (bcL zL) 83)) R))) → Own w0 ((wx.setRow g (bcL (getB false z st (i : Int)).data.toList)).setRow w.heap.size (bcL (getB false z st (i : Int)).data.toList)) (VN d z l ml st D (Star (blkA w.heap.size (.cells (bcL (getB false z st (i : Int)).data.toList) 83)) (Star (blkA g (.cells (bcL (getB false z st (i : Int)).data.toList) 83)) R))) ∧ (wx.setRow g (bcL (getB false z st (i : Int)).data.toList)).heap[g]? = some (.cells (bcL (getB false z st (i : Int)).data.toList) 83) ∧ (wx.setRow g (bcL (getB false z st (i : Int)).data.toList)).heap[w.heap.size]? = some (.cells (bcL zL) 83)) := Lib.hid (fun wx g hx => by
    have k1 := (hx.out4.setRow (stable_vn HS1.out) (bcL (getB false z st (i : Int)).data.toList)).in4
    exact ⟨(k1.swapR.out4.setRow (stable_vn (stable_star (stable_blk _ _) HS0.out)) _).in4, k1.out4.blk, k1.swapR.out4.blk⟩)
  clear hl gr0 g64
  change RowKit.Hid ((Instr.lookup _ _ _ _).run _ _ = .ok (.tuple #[.agg (bcL zL), .bool false]) _) at HL
  show Calls _ _ _ _ (fun e w' => e = .returned (.agg (bcL (getB false z st (i : Int)).data.toList)) ∧ _)
  generalize bcL (getB false z st (i : Int)).data.toList = C at *
  generalize getB false z st (i : Int) = s at *
  go_enter Tryz.func72, Tryz.ntmps72
  go_upto_region 1 with (refine wpList_alloc_blk rfl 83 (bcL zL) rfl (blk_zero _) ?_)
  have HZ : Hid (∀ w, (zeroValue 83).run Tryz.prog w = .ok (.agg (bcL zL)) w) := Lib.hid blk_zero
  generalize bcL zL = Z0 at *
  generalize (World.alloc w _) = w1 at *
  generalize w.heap.size = g4 at *
  go_upto_region 4 with (first
    | (refine wpList_lookup_run rfl _ _ _ _ rfl _ _ _ rfl rfl HL.out ?_)
    | (refine wpList_alloc_blk rfl 83 Z0 rfl (HZ.out _) ?_)
    | (refine wpList_store_row rfl _ _ _ rfl w1.heap.size Z0 rfl rfl _ _ H2.out.out4.blk HD1.out rfl HD2.out ?_))
  obtain ⟨b0, _⟩ := HBX.out _ H3.out
  have d0 := blk_cell b0 0 (v := .pointer (some ⟨l, 0, none⟩)) rfl
  clear b0 c1
  go_upto_region 7 with (go_at_call 106; refine CG.out.mono ?_; rintro e w5 ⟨rfl, h5⟩; have H5 := Lib.hid h5; clear h5)
  obtain ⟨_, h6⟩ := HBX.out _ H5.out
  have HCQ := Lib.hid (HCP.out _ _ h6.out4.blk)
  obtain ⟨h8, e9, e4⟩ := HFN.out _ _ h6
  have H8 := Lib.hid h8
  clear h6 h8 d0
  go_wp2_with (first
    | (refine wpList_alloc_blk rfl 83 Z0 rfl (HZ.out _) ?_)
    | (refine wpList_copy rfl _ _ 87 9 rfl _ _ rfl rfl HCQ.out ?_)
    | (refine wpList_load_row rfl _ _ rfl w5.heap.size rfl _ C (0, 0) _ e9 Tryz.underlying83 rfl HC1.out ?_)
    | (refine wpList_store_row rfl _ _ _ rfl g4 C rfl rfl _ _ e4 HC1.out HC3.out HC2.out ?_))
  refine bodyPost_ret (results_cell_row rfl _ _ g4 _ C (0, 0) _ rfl H8.out.out4.blk Tryz.underlying83 rfl HC1.out) rfl ?_
  exact ⟨rfl, H8.out.unbox4.unbox4⟩
end Go.Proofs.YtlpcccpagmipnaaGreat.P
