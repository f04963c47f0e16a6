/- Bytes of words and words of bytes: the contracts of word.Bytes, word.Of and the document's. No condition. -/
import Derived.Test.YtlpcccpagmipnaaGreatW1
import Derived.Test.YtlpcccpagmipnaaGreatM
import Derived.LoopN
import Derived.Deep.QuietTactic
import Derived.Laws.BytesArg
set_option linter.unusedVariables false
namespace Go.Proofs.YtlpcccpagmipnaaGreat.W
open Go.RowKit Go.Proofs.YtlpcccpagmipnaaGreat.P
theorem ret_u64 {a b : Int} (h : a = b) : Ending.returned (.int .u64 a) = .returned (.int .u64 b) := by rw [h]
def digits (v : Int) : List Int := [v % 256, v / 256 % 256, v / 65536 % 256, v / 16777216 % 256, v / 4294967296 % 256, v / 1099511627776 % 256, v / 281474976710656 % 256, v / 72057594037927936 % 256]
def clampN (size : Int) : Nat := min (max size 0).toNat 8
def bytesF (v size : Int) : ByteArray := strOfNums ((digits v).take (clampN size))
theorem ret_s {a b : ByteArray} (h : a = b) : Ending.returned (.string a) = .returned (.string b) := by rw [h]
theorem conv8 (w : World) (x0 x1 x2 x3 x4 x5 x6 x7 : Int) (n : Nat) (hn : n ≤ 8) :
    (convert 87 9 (.slice (some ⟨w.heap.size, 0, none⟩) n 8)).run Tryz.prog (w.alloc (.cells #[.int .u8 x0, .int .u8 x1, .int .u8 x2, .int .u8 x3, .int .u8 x4, .int .u8 x5, .int .u8 x6, .int .u8 x7] 217))
      = .ok (.string (strOfNums ([x0, x1, x2, x3, x4, x5, x6, x7].take n))) (w.alloc (.cells #[.int .u8 x0, .int .u8 x1, .int .u8 x2, .int .u8 x3, .int .u8 x4, .int .u8 x5, .int .u8 x6, .int .u8 x7] 217)) := by
  refine run_convert_bytes_arg _ 87 5 Tryz.underlying87 Tryz.underlying5 _ 0 n 8 _ (by simp; omega) ?_ 9 Tryz.underlying9
  intro i hi
  have h8 : i < 8 := by omega
  have e : ([x0, x1, x2, x3, x4, x5, x6, x7].take n).getD i 0 = [x0, x1, x2, x3, x4, x5, x6, x7].getD i 0 := by
    simp only [List.getD_eq_getElem?_getD]; rw [List.getElem?_take_of_lt hi]
  rw [e]
  have hs : i = 0 ∨ i = 1 ∨ i = 2 ∨ i = 3 ∨ i = 4 ∨ i = 5 ∨ i = 6 ∨ i = 7 := by omega
  rcases hs with rfl | rfl | rfl | rfl | rfl | rfl | rfl | rfl <;> go_cell
set_option maxHeartbeats 1600000 in
theorem c_bytes (v s : Int) (hv : word v) (w : World) :
    Calls Tryz.prog 128 #[.int .u64 v, .int .i64 s] w fun e w' => e = .returned (.string (bytesF v s)) ∧ Gr w w' := by
  obtain ⟨v1, v2⟩ := hv
  have hcv := conv8 w
  have e7 : v / 72057594037927936 % 256 = v / 72057594037927936 := by omega
  have H7 := Lib.hid e7
  clear e7
  have hs : s < 0 ∨ s = 0 ∨ s = 1 ∨ s = 2 ∨ s = 3 ∨ s = 4 ∨ s = 5 ∨ s = 6 ∨ s = 7 ∨ s = 8 ∨ 8 < s := by omega
  rcases hs with hs | rfl | rfl | rfl | rfl | rfl | rfl | rfl | rfl | rfl | hs
  · have e : clampN s = 0 := by unfold clampN; omega
    have E := Lib.hid e
    clear e
    go_enter Tryz.func128, Tryz.ntmps128
    go_wp2
    go_rounds 1
    go_ret
    refine ⟨ret_s ?_, by go_grown⟩
    unfold bytesF; rw [E.out]; rfl
  all_goals try (
    go_enter Tryz.func128, Tryz.ntmps128
    go_wp2
    go_rounds 9
    go_ret
    refine ⟨ret_s ?_, by go_grown⟩
    unfold bytesF digits; rw [H7.out]; rfl)
  · have e : clampN s = 8 := by unfold clampN; omega
    have E := Lib.hid e
    clear e
    go_enter Tryz.func128, Tryz.ntmps128
    go_wp2
    go_rounds 9
    go_ret
    refine ⟨ret_s ?_, by go_grown⟩
    unfold bytesF digits; rw [E.out, H7.out]; rfl
theorem conv1 (w : World) (T b : Nat) (x : Int) (hb : b = w.heap.size) :
    (convert 87 9 (.slice (some ⟨b, 0, none⟩) 1 1)).run Tryz.prog (w.alloc (.cells #[.int .u8 x] T))
      = .ok (.string (strOfNums [x])) (w.alloc (.cells #[.int .u8 x] T)) := by
  subst hb
  refine run_convert_bytes_arg _ 87 5 Tryz.underlying87 Tryz.underlying5 _ 0 1 1 _ rfl ?_ 9 Tryz.underlying9
  intro i hi
  obtain rfl : i = 0 := by omega
  go_cell
theorem q2 (v : Int) : v / 256 / 256 = v / 65536 := by omega
theorem q3 (v : Int) : v / 65536 / 256 = v / 16777216 := by omega
theorem q4 (v : Int) : v / 16777216 / 256 = v / 4294967296 := by omega
theorem q5 (v : Int) : v / 4294967296 / 256 = v / 1099511627776 := by omega
theorem q6 (v : Int) : v / 1099511627776 / 256 = v / 281474976710656 := by omega
theorem q7 (v : Int) : v / 281474976710656 / 256 = v / 72057594037927936 := by omega
theorem son_nil (s : ByteArray) : ({ data := #[] } : ByteArray) ++ s = s := by
  apply ByteArray.ext; simp
theorem son_app (a b : List Int) : strOfNums a ++ strOfNums b = strOfNums (a ++ b) := by
  apply ByteArray.ext; simp [strOfNums]
def byteAt (s : ByteArray) (k : Nat) : Int := ((s.data.getD k 0).toNat : Int)
theorem byteAt_bd (s : ByteArray) (k : Nat) : 0 ≤ byteAt s k ∧ byteAt s k < 256 := by
  unfold byteAt; have := (s.data.getD k 0).toNat_lt; omega
theorem byteAt_get (s : ByteArray) (k : Nat) (h : k < s.size) : ((s[k].toNat : Nat) : Int) = byteAt s k := by
  have h2 : k < s.data.size := h
  unfold byteAt; rw [Array.getD_eq_getD_getElem?, Array.getElem?_eq_getElem h2]; rfl
def ofN (s : ByteArray) : Nat → Int
  | 0 => 0
  | k + 1 => ofN s k + byteAt s k * 2 ^ (8 * k)
theorem ofN_bd (s : ByteArray) (k : Nat) : 0 ≤ ofN s k ∧ ofN s k < 2 ^ (8 * k) := by
  induction k with
  | zero => exact ⟨by simp [ofN], by simp [ofN]⟩
  | succ k ih =>
    have b := byteAt_bd s k
    have p := pow_pos (8 * k)
    have e : (2 : Int) ^ (8 * (k + 1)) = 256 * 2 ^ (8 * k) := by rw [Nat.mul_add, pow_split, Int.mul_comm]; rfl
    unfold ofN
    rw [e]
    have m1 : 0 ≤ byteAt s k * 2 ^ (8 * k) := Int.mul_nonneg b.1 (by omega)
    have m2 : byteAt s k * 2 ^ (8 * k) ≤ 255 * 2 ^ (8 * k) := Int.mul_le_mul_of_nonneg_right (by omega) (by omega)
    omega
def ofF (s : ByteArray) : Int := ofN s (min s.size 8)
theorem ofF_word (s : ByteArray) : word (ofF s) := by
  unfold ofF
  have b := ofN_bd s (min s.size 8)
  have : (2 : Int) ^ (8 * min s.size 8) ≤ 2 ^ 64 := pow_le _ _ (by omega)
  exact ⟨b.1, by omega⟩
theorem or_add (v x : Int) (k : Nat) (hk : k < 8) (h0 : 0 ≤ v) (h1 : v < 2 ^ (8 * k)) (x0 : 0 ≤ x) (x1 : x < 256) :
    bits .or .u64 v (IntKind.u64.wrap (x * 2 ^ (8 * k))) = v + x * 2 ^ (8 * k) := by
  have p := pow_pos (8 * k)
  have l : x * 2 ^ (8 * k) ≤ 255 * 2 ^ (8 * k) := Int.mul_le_mul_of_nonneg_right (by omega) (by omega)
  have m : 0 ≤ x * 2 ^ (8 * k) := Int.mul_nonneg x0 (by omega)
  have q : (2 : Int) ^ (8 * k) ≤ 2 ^ 56 := pow_le _ _ (by omega)
  have q' : (2 : Int) ^ 56 = 72057594037927936 := rfl
  rw [q'] at q
  have e : IntKind.u64.wrap (x * 2 ^ (8 * k)) = x * 2 ^ (8 * k) := by rw [wrap_mod]; omega
  rw [e, u64_or _ _ h0 (by omega) m (by omega)]
  obtain ⟨a, rfl⟩ := Int.eq_ofNat_of_zero_le h0
  obtain ⟨b, rfl⟩ := Int.eq_ofNat_of_zero_le x0
  have e2 : ((b : Int) * 2 ^ (8 * k)).toNat = b * 2 ^ (8 * k) := by
    have : ((b : Int) * 2 ^ (8 * k)) = ((b * 2 ^ (8 * k) : Nat) : Int) := by simp
    rw [this, Int.toNat_natCast]
  have h1' : a < 2 ^ (8 * k) := by
    have : ((2 : Int) ^ (8 * k)) = ((2 ^ (8 * k) : Nat) : Int) := by simp
    rw [this] at h1; omega
  rw [e2, Int.toNat_natCast, Nat.or_comm]
  have := Nat.two_pow_add_eq_or_of_lt h1' b
  rw [Nat.mul_comm] at this
  rw [← this]; simp [Int.add_comm]
theorem wrap_byte (s : ByteArray) (k : Nat) : IntKind.u64.wrap (byteAt s k) = byteAt s k := by
  have := byteAt_bd s k; rw [wrap_mod]; omega
set_option maxHeartbeats 800000 in
theorem c_of (s : ByteArray) (hs : s.size ≤ maxLen) (w : World) :
    Calls Tryz.prog 100 #[.string s] w fun e w' => e = .returned (.int .u64 (ofF s)) ∧ w' = w := by
  unfold maxLen at hs
  by_cases h8 : s.size ≤ 8
  · go_enter Tryz.func100, Tryz.ntmps100
    go_wp2
    go_loop [3, 8] (fun v i => ∃ k : Nat, k ≤ s.size ∧ i = .int .i64 k ∧ v = .int .u64 (ofN s k)) (fun _ i => 8 - (intOf i).toNat)
    case atStart => exact ⟨0, by omega, rfl, rfl⟩
    case round =>
      obtain ⟨k, hk, rfl, rfl⟩ := hrel
      have hb := ofN_bd s k
      by_cases hlt : k < s.size
      · have hlt2 : k < s.size := by omega
        have Hor := Lib.hid (or_add (ofN s k) (byteAt s k) k (by omega) hb.1 hb.2 (byteAt_bd s k).1 (byteAt_bd s k).2)
        have Hg := Lib.hid (byteAt_get s k hlt2)
        clear hb
        go_wp2
        go_round
        case rel => exact ⟨k + 1, by omega, by go_num, by rw [Hg.out, wrap_byte s k, Hor.out]; rfl⟩
        case measure => simp [intOf]; omega
      · go_wp2
        go_ret
        obtain rfl : k = s.size := by omega
        exact ⟨ret_u64 (by unfold ofF; congr 1; omega), rfl⟩
  · go_enter Tryz.func100, Tryz.ntmps100
    go_wp2
    go_loop [3, 8] (fun v i => ∃ k : Nat, k ≤ 8 ∧ i = .int .i64 k ∧ v = .int .u64 (ofN s k)) (fun _ i => 8 - (intOf i).toNat)
    case atStart => exact ⟨0, by omega, rfl, rfl⟩
    case round =>
      obtain ⟨k, hk, rfl, rfl⟩ := hrel
      have hb := ofN_bd s k
      by_cases hlt : k < 8
      · have hlt2 : k < s.size := by omega
        have Hor := Lib.hid (or_add (ofN s k) (byteAt s k) k (by omega) hb.1 hb.2 (byteAt_bd s k).1 (byteAt_bd s k).2)
        have Hg := Lib.hid (byteAt_get s k hlt2)
        clear hb
        go_wp2
        go_round
        case rel => exact ⟨k + 1, by omega, by go_num, by rw [Hg.out, wrap_byte s k, Hor.out]; rfl⟩
        case measure => simp [intOf]; omega
      · go_wp2
        go_ret
        obtain rfl : k = 8 := by omega
        exact ⟨ret_u64 (by unfold ofF; congr 1; omega), rfl⟩
/-- d digits from place k on, the least first -/
def hN (s : ByteArray) (k : Nat) : Nat → Int
  | 0 => 0
  | d + 1 => byteAt s k + 256 * hN s (k + 1) d
theorem hN_of (s : ByteArray) : ∀ d k, ofN s k + hN s k d * 2 ^ (8 * k) = ofN s (k + d) := by
  intro d
  induction d with
  | zero => intro k; simp [hN]
  | succ d ih =>
    intro k
    rw [show k + (d + 1) = k + 1 + d by omega, ← ih (k + 1)]
    show ofN s k + (byteAt s k + 256 * hN s (k + 1) d) * 2 ^ (8 * k) = ofN s k + byteAt s k * 2 ^ (8 * k) + hN s (k + 1) d * 2 ^ (8 * (k + 1))
    rw [show (2 : Int) ^ (8 * (k + 1)) = 256 * 2 ^ (8 * k) by rw [Nat.mul_add, pow_split, Int.mul_comm]; rfl, Int.add_mul, Int.add_assoc,
      Int.mul_comm 256, Int.mul_assoc]
theorem hN0 (s : ByteArray) (n : Nat) : hN s 0 (n - 0) = ofN s n := by
  have := hN_of s n 0; simpa [ofN] using this
theorem hN_bd (s : ByteArray) : ∀ d k, 0 ≤ hN s k d ∧ hN s k d < 2 ^ (8 * d) := by
  intro d
  induction d with
  | zero => intro k; exact ⟨by simp [hN], by simp [hN]⟩
  | succ d ih =>
    intro k
    have h := ih (k + 1)
    have b := byteAt_bd s k
    show 0 ≤ byteAt s k + 256 * hN s (k + 1) d ∧ byteAt s k + 256 * hN s (k + 1) d < 2 ^ (8 * (d + 1))
    rw [show (2 : Int) ^ (8 * (d + 1)) = 256 * 2 ^ (8 * d) by rw [Nat.mul_add, pow_split, Int.mul_comm]; rfl]
    omega
theorem hN_step (s : ByteArray) (k d : Nat) (hd : d ≤ 7) : IntKind.u64.wrap (IntKind.u64.wrap (hN s (k + 1) d * 256) + byteAt s k) = hN s k (d + 1) := by
  have h := hN_bd s d (k + 1)
  have b := byteAt_bd s k
  have q : (2 : Int) ^ (8 * d) ≤ 2 ^ 56 := pow_le _ _ (by omega)
  have q' : (2 : Int) ^ 56 = 72057594037927936 := rfl
  rw [q'] at q
  show _ = byteAt s k + 256 * hN s (k + 1) d
  rw [wrap_mod, wrap_mod]; omega
end Go.Proofs.YtlpcccpagmipnaaGreat.W
namespace Go.Proofs.YtlpcccpagmipnaaGreat.W
open Go.RowKit
theorem byte_of (xs : List Int) (i : Nat) (h : 0 ≤ xs.getD i 0 ∧ xs.getD i 0 < 256) : byteAt (strOfNums xs) i = xs.getD i 0 := by
  unfold byteAt strOfNums
  have e : (xs.map fun n => UInt8.ofNat n.toNat).toArray.getD i 0 = UInt8.ofNat (xs.getD i 0).toNat := by
    by_cases hi : i < xs.length
    · simp [Array.getD_eq_getD_getElem?, List.getD_eq_getElem?_getD, hi]
    · simp [Array.getD_eq_getD_getElem?, List.getD_eq_getElem?_getD, hi]
  rw [e]
  generalize xs.getD i 0 = x at *
  have : (UInt8.ofNat x.toNat).toNat = x.toNat % 256 := by simp
  rw [this]; omega
theorem dig_bd (v : Int) (n i : Nat) : 0 ≤ ((digits v).take n).getD i 0 ∧ ((digits v).take n).getD i 0 < 256 := by
  have key : ∀ x ∈ (digits v).take n, 0 ≤ x ∧ x < 256 := by
    intro x hx
    have hx := List.mem_of_mem_take hx
    simp only [digits, List.mem_cons, List.not_mem_nil, or_false] at hx
    rcases hx with rfl | rfl | rfl | rfl | rfl | rfl | rfl | rfl <;> omega
  generalize (digits v).take n = l at *
  by_cases hi : i < l.length
  · have e : l.getD i 0 = l[i] := by simp [List.getD_eq_getElem?_getD, hi]
    rw [e]; exact key _ (List.getElem_mem hi)
  · have e : l.getD i 0 = 0 := by rw [List.getD_eq_getElem?_getD, List.getElem?_eq_none (by omega)]; rfl
    rw [e]; exact ⟨by decide, by decide⟩
theorem byte_dig (v : Int) (n i : Nat) : byteAt (strOfNums ((digits v).take n)) i = ((digits v).take n).getD i 0 := byte_of _ _ (dig_bd v n i)
theorem ofN_cut (v : Int) (n : Nat) (hn : n ≤ 8) (hv : word v) : ofN (strOfNums ((digits v).take n)) n = lowF v (8 * n) := by
  obtain ⟨v1, v2⟩ := hv
  have hs : n = 0 ∨ n = 1 ∨ n = 2 ∨ n = 3 ∨ n = 4 ∨ n = 5 ∨ n = 6 ∨ n = 7 ∨ n = 8 := by omega
  rcases hs with rfl | rfl | rfl | rfl | rfl | rfl | rfl | rfl | rfl
  all_goals
    simp only [ofN, byte_dig]
    simp [digits, lowF]
    try omega
theorem size_cut (v : Int) (n : Nat) (hn : n ≤ 8) : (strOfNums ((digits v).take n)).size = n := by
  rw [strOfNums_size, List.length_take]; simp [digits]; omega
theorem of_bytes (v size : Int) (hv : word v) : ofF (bytesF v size) = lowF v (8 * clampN size) := by
  have hn : clampN size ≤ 8 := by unfold clampN; omega
  unfold ofF bytesF
  rw [size_cut v _ hn, Nat.min_eq_left hn, ofN_cut v _ hn hv]
theorem bytes_size (v size : Int) : (bytesF v size).size = clampN size := size_cut v _ (by unfold clampN; omega)
end Go.Proofs.YtlpcccpagmipnaaGreat.W
