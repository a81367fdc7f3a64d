/-
  Texts: parts, sums; xored twice. No function of the program is named here.
-/
import Derived.Test.YtbcgipapbamgfaaDoorRefCXor
namespace Go.Proofs.YtbcgipapbamgfaaDoor
open Go.RowKit
def zS (k : Nat) : ByteArray := mkS (fun _ => 0) k
theorem zS_size (k : Nat) : (zS k).size = k := mkS_size _ _
theorem mkS_congr {T S : Nat → Nat} {n : Nat} (h : ∀ i, i < n → T i = S i) : mkS T n = mkS S n := by
  unfold mkS
  congr 2
  exact List.map_congr_left fun i hi => by rw [h i (List.mem_range.1 hi)]
theorem mkS_sb (s : ByteArray) : mkS (sb s) s.size = s := by
  apply ByteArray.ext
  apply Array.ext'
  apply List.ext_getElem?
  intro i
  show ((List.range s.size).map fun i => UInt8.ofNat (sb s i))[i]? = _
  by_cases h : i < s.size
  · have h2 : i < s.data.toList.length := h
    rw [List.getElem?_map, List.getElem?_range h, List.getElem?_eq_getElem h2]
    show some (UInt8.ofNat (sb s i)) = _
    unfold sb
    rw [List.getD_eq_getElem?_getD, List.getElem?_eq_getElem h2]
    simp
  · have h2 : s.data.toList.length ≤ i := by have : s.data.toList.length = s.size := rfl; omega
    rw [List.getElem?_eq_none (by simp; omega), List.getElem?_eq_none h2]
theorem mkS_take {T : Nat → Nat} {n k : Nat} (h : k ≤ n) : (mkS T n).extract 0 k = mkS T k := by
  apply ByteArray.ext
  apply Array.ext'
  apply List.ext_getElem?
  intro i
  rw [ByteArray.data_extract]
  show (((List.range n).map fun i => UInt8.ofNat (T i)).toArray.extract 0 k).toList[i]? = ((List.range k).map fun i => UInt8.ofNat (T i))[i]?
  by_cases hi : i < k
  · have hn : i < n := by omega
    rw [List.getElem?_map, List.getElem?_range hi]
    rw [Array.getElem?_toList, Array.getElem?_extract]
    rw [if_pos (by simp; omega), Nat.zero_add]
    rw [List.getElem?_toArray, List.getElem?_map, List.getElem?_range hn]
  · rw [List.getElem?_eq_none (by simp; omega), List.getElem?_eq_none (by simp; omega)]
theorem mkS_app (T S : Nat → Nat) (a b : Nat) : mkS T a ++ mkS S b = mkS (fun i => if i < a then T i else S (i - a)) (a + b) := by
  apply ByteArray.ext
  apply Array.ext'
  rw [ByteArray.data_append, Array.toList_append]
  show ((List.range a).map fun i => UInt8.ofNat (T i)) ++ ((List.range b).map fun i => UInt8.ofNat (S i)) = (List.range (a + b)).map fun i => UInt8.ofNat (if i < a then T i else S (i - a))
  rw [List.range_add, List.map_append]
  congr 1
  · exact List.map_congr_left fun i hi => by rw [if_pos (List.mem_range.1 hi)]
  · rw [List.map_map]
    exact List.map_congr_left fun i _ => by
      show _ = UInt8.ofNat (if a + i < a then _ else S (a + i - a))
      rw [if_neg (by omega), Nat.add_sub_cancel_left]
theorem strB_lt (key nonce : ByteArray) (n i : Nat) : strB key nonce n i < 256 := blkB_lt _ _
theorem xorS_twice (key nonce : ByteArray) (n : Nat) (s : ByteArray) : xorS key nonce n (xorS key nonce n s) = s := by
  have e : xorS key nonce n (xorS key nonce n s) = mkS (sb s) s.size := by
    show mkS _ (xorS key nonce n s).size = _
    rw [xorS_size]
    refine mkS_congr fun i hi => ?_
    have : sb (xorS key nonce n s) i = sb s i ^^^ strB key nonce n i := sb_mkS (fun j => Nat.xor_lt_two_pow (n := 8) (sb_lt s j) (strB_lt key nonce n j)) hi
    rw [this, Nat.xor_assoc, Nat.xor_self, Nat.xor_zero]
  rw [e, mkS_sb]
theorem sb_take {s : ByteArray} {k i : Nat} (h : i < k) : sb (s.extract 0 k) i = sb s i := by
  unfold sb
  congr 1
  rw [List.getD_eq_getElem?_getD, List.getD_eq_getElem?_getD, ByteArray.data_extract]
  simp [h]
theorem xorS_parts (key nonce : ByteArray) (n : Nat) (s : ByteArray) (h : 64 ≤ s.size) : xorS key nonce n s = xorS key nonce n (s.extract 0 64) ++ xorS key nonce ((n + 1) % 4294967296) (s.extract 64 s.size) := by
  have e1 : (s.extract 0 64).size = 64 := by rw [ByteArray.size_extract]; omega
  have e2 : (s.extract 64 s.size).size = s.size - 64 := by rw [ByteArray.size_extract]; omega
  show mkS _ s.size = mkS _ (s.extract 0 64).size ++ mkS _ (s.extract 64 s.size).size
  rw [e1, e2, mkS_app, show 64 + (s.size - 64) = s.size by omega]
  refine mkS_congr fun i hi => ?_
  by_cases hi6 : i < 64
  · rw [if_pos hi6, sb_take hi6]
  · rw [if_neg hi6, sb_extract, show 64 + (i - 64) = i by omega]
    have e3 : strB key nonce n i = strB key nonce ((n + 1) % 4294967296) (i - 64) := by
      unfold strB
      rw [show ((n + 1) % 4294967296 + (i - 64) / 64) % 4294967296 = (n + i / 64) % 4294967296 by omega, show (i - 64) % 64 = i % 64 by omega]
    rw [e3]
theorem zero_first : (xorS (zS 32) (zS 12) 0 (zS 65)).extract 0 64 = blkS (zS 32) (zS 12) 0 := by
  show (mkS _ (zS 65).size).extract 0 64 = _
  rw [zS_size, mkS_take (by decide)]
  refine mkS_congr fun i hi => ?_
  have : sb (zS 65) i = 0 := sb_mkS (fun _ => by decide) (by omega)
  rw [this, Nat.zero_xor]
  unfold strB
  rw [show (0 + i / 64) % 4294967296 = 0 by omega, Nat.mod_eq_of_lt hi]
end Go.Proofs.YtbcgipapbamgfaaDoor
