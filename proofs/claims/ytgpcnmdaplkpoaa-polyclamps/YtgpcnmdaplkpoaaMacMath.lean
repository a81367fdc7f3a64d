/-
  The tag, by its definition: no Go in this text but texts as bytes.
-/
import Derived.Test.YtgpcnmdaplkpoaaRefClamp
namespace Go.Proofs.Ytgpcnmdaplkpoaa
open Go.RowKit
theorem leN_congr {T S : Nat → Nat} (n : Nat) (h : ∀ j, j < n → T j = S j) : leN T n = leN S n := by
  induction n with
  | zero => rfl
  | succ n ih =>
    unfold leN
    rw [ih (fun j hj => h j (by omega)), h n (by omega)]
theorem sb_ext {s : ByteArray} {a b : Nat} (i : Nat) (h : a + i < b) (_hb : b ≤ s.size) : sb (s.extract a b) i = sb s (a + i) := by
  unfold sb
  congr 1
  rw [List.getD_eq_getElem?_getD, List.getD_eq_getElem?_getD]
  congr 1
  rw [ByteArray.data_extract]
  simp only [Array.toList_extract, List.extract_eq_take_drop]
  rw [List.getElem?_take]
  rw [if_pos (by omega)]
  simp
theorem sb_append {x y : ByteArray} (i : Nat) : sb (x ++ y) i = if i < x.size then sb x i else sb y (i - x.size) := by
  unfold sb
  have e : (x ++ y).data.toList = x.data.toList ++ y.data.toList := by simp [ByteArray.data_append]
  rw [e, List.getD_eq_getElem?_getD]
  have hx : x.data.toList.length = x.size := by simp
  split
  · rename_i h
    rw [List.getElem?_append_left (by omega), List.getD_eq_getElem?_getD]
  · rename_i h
    rw [List.getElem?_append_right (by omega), List.getD_eq_getElem?_getD, hx]
theorem size_ext {s : ByteArray} {a b : Nat} (hb : b ≤ s.size) : (s.extract a b).size = b - a := by
  simp [ByteArray.size_extract]; omega
/-- How many bytes block k has, of L. -/
def blkM (L k : Nat) : Nat := min 16 (L - 16 * k)
/-- The number of block k. -/
def blkN (T : Nat → Nat) (L k : Nat) : Nat := leN (fun j => T (16 * k + j)) (blkM L k) + 2 ^ (8 * blkM L k)
def P13n : Nat := 1361129467683753853853498429727072845819
/-- What is gathered behind k blocks. -/
def pacc (T : Nat → Nat) (L r : Nat) : Nat → Nat
  | 0 => 0
  | k + 1 => (pacc T L r k + blkN T L k) * r % P13n
theorem pacc_lt (T : Nat → Nat) (L r k : Nat) : pacc T L r k < P13n := by
  cases k with
  | zero => exact (by decide : 0 < P13n)
  | succ k => exact Nat.mod_lt _ (by decide)
theorem blkN_lt {T : Nat → Nat} (h : ∀ i, T i < 256) (L k : Nat) : blkN T L k < P13n := by
  unfold blkN
  have h1 := leN_lt (T := fun j => T (16 * k + j)) (fun j => h _) (blkM L k)
  have h2 : 2 ^ (8 * blkM L k) ≤ 2 ^ 128 := Nat.pow_le_pow_right (by decide) (by unfold blkM; omega)
  have h3 : (2 : Nat) ^ 128 = 340282366920938463463374607431768211456 := by decide
  rw [h3] at h2
  unfold P13n
  generalize 2 ^ (8 * blkM L k) = x at *
  omega
/-- The clamped number of a key. -/
def keyR (key : ByteArray) : Nat := leN (clP (sb key) 16) 16
/-- The number that is added. -/
def keyA (key : ByteArray) : Nat := leN (fun j => sb key (16 + j)) 16
/-- The number whose bytes the tag is. -/
def macV (key s : ByteArray) : Nat := pacc (sb s) s.size (keyR key) ((s.size + 15) / 16) + keyA key
def macB (key s : ByteArray) (i : Nat) : Nat := macV key s / 2 ^ (8 * i) % 256
/-- The tag. -/
def macS (key s : ByteArray) : ByteArray := mkS (macB key s) 16
theorem macB_lt (key s : ByteArray) (i : Nat) : macB key s i < 256 := Nat.mod_lt _ (by decide)
theorem clP_lt {T : Nat → Nat} (h : ∀ i, T i < 256) (t j : Nat) : clP T t j < 256 := by
  unfold clP clB
  have := h j
  split
  · split
    · omega
    · split <;> omega
  · exact this
theorem keyR_lt (key : ByteArray) : keyR key < 340282366920938463463374607431768211456 := by
  have := leN_lt (clP_lt (sb_lt key) 16) 16
  exact this
theorem keyA_lt (key : ByteArray) : keyA key < 340282366920938463463374607431768211456 := by
  have := leN_lt (T := fun j => sb key (16 + j)) (fun j => sb_lt _ _) 16
  exact this
theorem sb_mkS {T : Nat → Nat} (hT : ∀ i, T i < 256) {n j : Nat} (h : j < n) : sb (mkS T n) j = T j := by
  unfold sb mkS
  rw [List.getD_eq_getElem?_getD]
  simp only [List.getElem?_map, List.getElem?_range h, Option.map_some, Option.getD_some]
  rw [UInt8.toNat_ofNat_of_lt' (hT j)]
theorem mkS_size (T : Nat → Nat) (n : Nat) : (mkS T n).size = n := by
  show ((List.range n).map _).toArray.size = n
  simp
theorem clS_size (s : ByteArray) : (clS s).size = 16 := mkS_size _ _
/-- The clamped number of a key's first half. -/
theorem clS_num (key : ByteArray) (hk : key.size = 32) : leN (sb (clS (key.extract 0 16))) 16 = keyR key := by
  unfold keyR
  refine leN_congr 16 fun j hj => ?_
  unfold clS
  rw [sb_mkS (clP_lt (sb_lt _) 16) hj]
  unfold clP
  rw [if_pos hj, if_pos hj, sb_ext j (by omega) (by omega), Nat.zero_add]
/-- The number of block k's text with a byte 1 behind. -/
theorem blk_num (s : ByteArray) (k : Nat) (hk : 16 * k < s.size) (one : ByteArray) (h2 : sb one 0 = 1) :
    leN (sb (s.extract (16 * k) (16 * k + blkM s.size k) ++ one)) (blkM s.size k + 1) = blkN (sb s) s.size k := by
  have hm : 16 * k + blkM s.size k ≤ s.size := by unfold blkM; omega
  have hz : (s.extract (16 * k) (16 * k + blkM s.size k)).size = blkM s.size k := by rw [size_ext hm]; omega
  unfold leN blkN
  rw [sb_append, if_neg (by omega), hz, Nat.sub_self, h2, Nat.one_mul]
  congr 1
  refine leN_congr _ fun j hj => ?_
  rw [sb_append, if_pos (by omega), sb_ext j (by omega) hm]
end Go.Proofs.Ytgpcnmdaplkpoaa
