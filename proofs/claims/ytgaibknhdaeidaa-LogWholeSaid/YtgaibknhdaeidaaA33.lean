/- Stage 7: all home sectors. No condition. -/
import Derived.Test.YtgaibknhdaeidaaA32
import Derived.Deep.AppendLies
set_option linter.unusedVariables false
set_option maxRecDepth 50000
namespace Go.Proofs.Ytgaibknhdaeidaa.P
open Go.RowKit
def homeL (dead : Bool) (z : DState) (st : List (Int × ByteArray)) (k : Nat) : List ByteArray := (List.range k).map fun (i : Nat) => getB dead z st (i : Int)
theorem homeL_len (dead : Bool) (z : DState) (st : List (Int × ByteArray)) (k : Nat) : (homeL dead z st k).length = k := by unfold homeL; rw [List.length_map, List.length_range]
theorem homeL_succ (dead : Bool) (z : DState) (st : List (Int × ByteArray)) (k : Nat) : strs (homeL dead z st (k + 1)) = strs (homeL dead z st k) ++ [.string (getB dead z st (k : Int))] := by
  unfold homeL strs; rw [List.range_succ, List.map_append, List.map_append]; rfl
abbrev rowV (v : Value) (n : Nat) (L : List ByteArray) : Asn := rowA 9 1 v n (strs L)
theorem own_nilrow {w0 w : World} {d : Nat} {z : DState} {l mb : Nat} {st : List (Int × ByteArray)} {dead : Bool} {R : Asn} (h : Own w0 w (DL d z l mb st dead R)) (hs : Stable R) : Own w0 w (DL d z l mb st dead (Star (rowV (.slice none 0 0) 0 []) R)) :=
  (h.add (stable_dl _ _ _ _ _ _ hs) (Gr.refl _) (A := rowV (.slice none 0 0) 0 []) ⟨fun _ => False, ⟨⟨rfl, .inl ⟨rfl, rfl⟩⟩, fun b hb => by cases hb⟩, fun x hx => hx.elim⟩).rot3'
def HomesP (w0 : World) (d : Nat) (z : DState) (l mb : Nat) (st : List (Int × ByteArray)) (dead : Bool) (R : Asn) (m : Nat) (e : Ending) (w' : World) : Prop :=
  ∃ g c, e = .returned (.slice (some ⟨g, 0, none⟩) m c) ∧ Own w0 w' (DL d z l mb st dead (Star (rowV (.slice (some ⟨g, 0, none⟩) m c) m (homeL dead z st m)) R))
set_option maxHeartbeats 3200000 in
theorem o_homes {w0 w : World} {d : Nat} {z : DState} {l mb : Nat} {st : List (Int × ByteArray)} {dead : Bool} {R : Asn} (h : Own w0 w (DL d z l mb st dead R)) (hs : Stable R) (hl : z.wait.length ≤ 4000000000000) (m : Nat) (hm : z.safe.length = m + 32) :
    Calls Try.prog 15 #[ptr l] w (HomesP w0 d z l mb st dead R m) := by
  have hwz := own_wz h
  have hm1 : 16 ≤ m := by have := hwz.1; omega
  have hm2 : m ≤ 512 := by have := hwz.2.1; omega
  have HH := o_home h
  rw [show ((z.safe.length : Int) - 32) = (m : Int) by omega] at HH
  have CH := Lib.hid HH
  have H0 := Lib.hid (own_nilrow h hs)
  have CG : Hid (∀ v n L i wr, Own w0 wr (DL d z l mb st dead (Star (rowV v n L) R)) → Calls Try.prog 20 #[ptr l, .int .i64 i] wr fun e w' => (∃ r, e = .returned (.tuple #[.string (getB dead z st i), .int .i64 r])) ∧ Own w0 w' (DL d z l mb st dead (Star (rowV v n L) R))) :=
    Lib.hid (fun v n L i wr ho => (o_get ho (stable_star (stable_row _ _ _ _ _) hs) i hl).mono (by
      rintro e w' ⟨rfl, k⟩
      exact ⟨⟨_, rfl⟩, k⟩))
  have HR := Lib.hid hs
  obtain ⟨i0, hi0, hz0, hz1, hz2⟩ := info_parts strInfo
  clear h hwz HH hs hm
  go_enter Try.func15, Try.ntmps15
  go_upto_region 3 with (go_at_call 25; refine CH.out.mono ?_; rintro e w1 ⟨rfl, rfl⟩)
  clear CH
  go_wp2_with fail
  go_loopw [3, 5] (fun v3 v5 wr => ∃ (k : Nat) (o : Option Addr) (c : Nat), k ≤ m ∧ (0 < k → ∃ g, o = some ⟨g, 0, none⟩) ∧ v5 = .int .i64 k ∧ v3 = .slice o k c ∧ Own w0 wr (DL d z l mb st dead (Star (rowV (.slice o k c) k (homeL dead z st k)) R))) (fun _ v _ => m - (intOf v).toNat)
  case atStart => exact ⟨0, none, 0, Nat.zero_le _, fun h => absurd h (by omega), rfl, rfl, H0.out⟩
  case round =>
    obtain ⟨k, o, c, hk, hko, rfl, rfl, hh⟩ := hrel
    have HK := Lib.hid hko
    have HH := Lib.hid hh
    clear hh hko
    by_cases hlt : k < m
    · have dl : decide (k < m) = true := decide_eq_true hlt
      have CG2 := Lib.hid (CG.out (.slice o k c) k (homeL dead z st k) (k : Int) wr HH.out)
      have HS := Lib.hid (homeL_succ dead z st k)
      generalize getB dead z st (k : Int) = s at *
      go_upto_region 7 with (go_at_call 20; refine CG2.out.mono ?_; rintro e w5 ⟨⟨r5, rfl⟩, h5⟩; have H5 := Lib.hid h5; clear h5)
      have H6 := Lib.hid (H5.out.gr (stable_dl _ _ _ _ _ _ (stable_star (stable_row _ _ _ _ _) HR.out)) ((Gr.refl _).alloc (Nat.le_refl _) (.cells #[.string s] 9)))
      have HROW := Lib.hid H6.out.right.right.row
      go_wp2_with (at_builtin; refine wpList_append_lies _ rfl _ _ _ rfl 0 9 i0 (.string ⟨#[]⟩) 1 16 Try.underlying24 hi0 hz0 hz1 hz2 rfl (by omega) (.slice o k c) k (strs (homeL dead z st k)) rfl HROW.out ⟨_, 0, none⟩ 1 1 [.string s] rfl rfl (World.news_of_block (cs := #[.string s]) (blk_new _ _)) (by simp [Value.oneCell']) (by omega) (by unfold maxLen; omega) (by omega) (by omega) (w5.heap.size + 1) (by simp) ?_; intro g2 cap2 w8 hown8 hgrow8 hat8 hlt8; have HO8 := Lib.hid hown8; have HG8 := Lib.hid hgrow8; have HA8 := Lib.hid hat8; have HT8 := Lib.hid hlt8; clear hown8 hgrow8 hat8 hlt8)
      have H9 := Lib.hid (H6.out.rot3.grown (g := g2) (stable_dl _ _ _ _ _ _ HR.out) HO8.out rfl HG8.out (HA8.out.elim .inl (fun e => .inr (by simp; omega))) HT8.out).rot3'
      go_roundw
      case rel => exact ⟨k + 1, _, cap2, by omega, fun _ => ⟨g2, rfl⟩, by go_num, rfl, by rw [rowV, HS.out]; exact H9.out⟩
      case measure => simp [intOf]; omega
    · obtain rfl : k = m := by omega
      obtain ⟨g, rfl⟩ := HK.out (by omega)
      go_wp2_with fail
      go_ret
      exact ⟨g, c, rfl, HH.out⟩
end Go.Proofs.Ytgaibknhdaeidaa.P
