/-
  Sealed texts over bytes, by the document: what a tag is made of, the tag, sealing, opening. No function of the program is named here.
-/
import Derived.Test.YtbcgipapbamgfaaDoorCMath
import Derived.Test.YtbcgipapbamgfaaDoorPNums
namespace Go.Proofs.YtbcgipapbamgfaaDoor
open Go.RowKit
theorem toList_ne {a b : ByteArray} (h : a ≠ b) : (a.toList == b.toList) = false := by
  rw [beq_eq_false_iff_ne]
  intro e
  rw [ByteArray.toList_eq, ByteArray.toList_eq] at e
  exact h (ByteArray.ext (Array.ext' e))
theorem toList_same {a b : ByteArray} (h : a = b) : (a.toList == b.toList) = true := by rw [h]; exact beq_self_eq_true _
/-- So many bytes 0 fill up to a multiple of 16. -/
def z16 (n : Nat) : Nat := (16 - n % 16) % 16
/-- A length in 8 bytes, the lowest first. -/
def lenB (n i : Nat) : Nat := n / 2 ^ (8 * i) % 256
def lenS (n : Nat) : ByteArray := mkS (lenB n) 8
/-- What a tag is made of. -/
def toldS (more x : ByteArray) : ByteArray := more ++ zS (z16 more.size) ++ x ++ zS (z16 x.size) ++ lenS more.size ++ lenS x.size
def onceS (key nonce : ByteArray) : ByteArray := (blkS key nonce 0).extract 0 32
def tagS (key nonce x more : ByteArray) : ByteArray := macS (onceS key nonce) (toldS more x)
def sealS (key nonce s more : ByteArray) : ByteArray := xorS key nonce 1 s ++ tagS key nonce (xorS key nonce 1 s) more
def sealR (key nonce s more : ByteArray) : ByteArray × Int := if key.size = 32 ∧ nonce.size = 12 then (sealS key nonce s more, 0) else (⟨#[]⟩, 2)
/-- The sealed bytes, and the tag behind them. -/
def bodyS (s : ByteArray) : ByteArray := s.extract 0 (s.size - 16)
def tailS (s : ByteArray) : ByteArray := s.extract (s.size - 16) s.size
def openR (key nonce s more : ByteArray) : ByteArray × Int :=
  if s.size < 16 ∨ ¬ (key.size = 32 ∧ nonce.size = 12) then (⟨#[]⟩, 2)
  else if tagS key nonce (bodyS s) more = tailS s then (xorS key nonce 1 (bodyS s), 0) else (⟨#[]⟩, 4)
theorem z16_lt (n : Nat) : z16 n < 16 := Nat.mod_lt _ (by decide)
theorem lenB_lt (n i : Nat) : lenB n i < 256 := Nat.mod_lt _ (by decide)
theorem lenS_size (n : Nat) : (lenS n).size = 8 := mkS_size _ _
theorem toldS_size (more x : ByteArray) : (toldS more x).size = more.size + z16 more.size + x.size + z16 x.size + 16 := by
  unfold toldS
  simp only [ByteArray.size_append, zS_size, lenS_size]
theorem toldS_le {more x : ByteArray} (h1 : more.size ≤ 1000) (h2 : x.size ≤ 3000) : (toldS more x).size ≤ 100000 := by
  rw [toldS_size]
  have := z16_lt more.size
  have := z16_lt x.size
  omega
theorem onceS_size (key nonce : ByteArray) : (onceS key nonce).size = 32 := by
  unfold onceS
  rw [ByteArray.size_extract, blkS_size]
  rfl
theorem tagS_size (key nonce x more : ByteArray) : (tagS key nonce x more).size = 16 := mkS_size _ _
theorem sealS_size (key nonce s more : ByteArray) : (sealS key nonce s more).size = s.size + 16 := by
  unfold sealS
  rw [ByteArray.size_append, xorS_size, tagS_size]
/-- What bytes 0 are xored to is the block's beginning. -/
theorem once_xor (key nonce : ByteArray) : xorS key nonce 0 (zS 32) = onceS key nonce := by
  unfold onceS blkS
  rw [mkS_take (by decide)]
  show mkS _ (zS 32).size = _
  rw [zS_size]
  refine mkS_congr fun i hi => ?_
  have : sb (zS 32) i = 0 := sb_mkS (fun _ => by decide) hi
  rw [this, Nat.zero_xor]
  unfold strB
  rw [show (0 + i / 64) % 4294967296 = 0 by omega, Nat.mod_eq_of_lt (show i < 64 by omega)]
theorem body_seal (key nonce s more : ByteArray) : bodyS (sealS key nonce s more) = xorS key nonce 1 s := by
  unfold bodyS
  rw [sealS_size, Nat.add_sub_cancel]
  unfold sealS
  have h := xorS_size key nonce 1 s
  rw [← h]
  exact ByteArray.extract_append_eq_left rfl
theorem tail_seal (key nonce s more : ByteArray) : tailS (sealS key nonce s more) = tagS key nonce (xorS key nonce 1 s) more := by
  unfold tailS
  rw [sealS_size, Nat.add_sub_cancel]
  unfold sealS
  have h := xorS_size key nonce 1 s
  have h2 := tagS_size key nonce (xorS key nonce 1 s) more
  exact ByteArray.extract_append_eq_right h.symm (by rw [h, h2])
theorem body_tail {s : ByteArray} (h : 16 ≤ s.size) : bodyS s ++ tailS s = s := by
  unfold bodyS tailS
  rw [← ByteArray.extract_eq_extract_append_extract (s.size - 16) (Nat.zero_le _) (by omega), ByteArray.extract_zero_size]
theorem bodyS_size (s : ByteArray) : (bodyS s).size = s.size - 16 := by unfold bodyS; rw [ByteArray.size_extract]; omega
theorem tailS_size {s : ByteArray} (h : 16 ≤ s.size) : (tailS s).size = 16 := by unfold tailS; rw [ByteArray.size_extract]; omega
/-- What is sealed is opened. -/
theorem open_seal (key nonce s more : ByteArray) (hk : key.size = 32) (ho : nonce.size = 12) : openR key nonce (sealS key nonce s more) more = (s, 0) := by
  unfold openR
  rw [if_neg (by rw [sealS_size]; omega), body_seal, tail_seal, if_pos rfl, xorS_twice]
/-- What is opened was sealed. -/
theorem seal_open (key nonce s more : ByteArray) (h : (openR key nonce s more).2 = 0) : sealR key nonce (openR key nonce s more).1 more = (s, 0) := by
  unfold openR at h ⊢
  by_cases h1 : s.size < 16 ∨ ¬ (key.size = 32 ∧ nonce.size = 12)
  · rw [if_pos h1] at h
    cases h
  · rw [if_neg h1] at h ⊢
    by_cases h2 : tagS key nonce (bodyS s) more = tailS s
    · rw [if_pos h2]
      unfold sealR
      rw [if_pos (by omega)]
      show (sealS key nonce (xorS key nonce 1 (bodyS s)) more, (0 : Int)) = (s, 0)
      unfold sealS
      rw [xorS_twice, h2, body_tail (by omega)]
    · rw [if_neg h2] at h
      cases h
end Go.Proofs.YtbcgipapbamgfaaDoor
